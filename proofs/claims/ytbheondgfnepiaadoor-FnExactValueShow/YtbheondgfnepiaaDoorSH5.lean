/- How the program writes values: whole. -/
import Derived.Test.YtbheondgfnepiaaDoorSH4
namespace Go.Proofs.YtbheondgfnepiaaDoor
open Go.RowKit

/-- names and texts -/
def objB (ns : List ByteArray) (ks : List VT) : List ByteArray := List.zipWith (fun y k => y ++ ⟨#[58]⟩ ++ showB k) ns ks
theorem objB_data : ∀ (ns : List ByteArray) (ks : List VT), (objB ns ks).map (·.data.toList) = showO ns (showK ks)
  | [], _ => by simp [objB, showO]
  | _ :: _, [] => by simp [objB, showK, showO]
  | y :: ns, k :: ks => by
    rw [showK, showO, ← objB_data ns ks]
    simp [objB, showB_data]
theorem objB_get (ns : List ByteArray) (ks : List VT) (j : Nat) (h : j < ns.length) (h' : j < ks.length) : (objB ns ks)[j]? = some (ns.getD j ByteArray.empty ++ ⟨#[58]⟩ ++ showB ks[j]) := by
  simp [objB, List.getElem?_zipWith, h, h']
theorem objB_len (ns : List ByteArray) (ks : List VT) (h : ns.length = ks.length) : (objB ns ks).length = ks.length := by
  simp [objB, h]
theorem showB_map (ks : List VT) : (ks.map showB).map (·.data.toList) = showK ks := by
  rw [showK_map]
  simp [showB_data, Function.comp_def]
theorem row_empty {w : World} {base : Nat} {v : Value} (h : Row w base v []) : ∃ a c, v = .slice a 0 c := by
  rcases h with ⟨rfl, _⟩ | ⟨g, c, rfl, _⟩
  · exact ⟨_, _, rfl⟩
  · exact ⟨_, _, rfl⟩

set_option maxRecDepth 100000 in
set_option maxHeartbeats 2000000 in
theorem implShow_list (w : World) (A : Nat → Prop) (n : Int) (t : ByteArray) (ns : List ByteArray) (ks : List VT) (ao : Option Addr) (c d : Nat) (xs : Nat → Value) (hp : KidsA w A ao ks.length xs) (hd : Parts (.node 5 n t ns ks) d) (hbu : bulk (.node 5 n t ns ks) ≤ 1048576)
    (ih : ∀ (j : Nat) (k : VT), ks[j]? = some k → ∀ W : World, w.grownBy W none → Pow W → Calls Tryd.prog 34 #[xs j] W fun e w' => e = .returned (.string (showB k)) ∧ W.grownBy w' none)
    (W : World) (hW : w.grownBy W none) (hPW : Pow W) :
    Calls Tryd.prog 34 #[.iface 80 (.agg #[.slice ao ks.length c])] W fun e w' => e = .returned (.string (showB (.node 5 n t ns ks))) ∧ W.grownBy w' none := by
  have a0 := sa_80_85
  have a1 := sa_80_86
  have a2 := sa_80_88
  have a3 := sa_80_89
  have a4 := sa_80_80
  have hl5 := parts_len hd
  have hlk : lens (showK ks) ≤ 100000000 := by
    rw [Parts] at hd
    rw [bulk] at hbu
    have := lens_showK ks (d + 1) hd.2.2
    have := countK_le ks
    omega
  have HLK := Lib.hid hlk
  have HGA := Lib.hid (show W.grownBy (W.alloc (Obj.cells #[Value.slice ao ks.length c] 80)) none from grown_alloc (grown_refl _ _) _)
  have HSH := Lib.hid (shown_any w A ks ao c hl5 xs hp ih _ (grown_trans hW HGA.out) (hPW.grown HGA.out))
  have HE := Lib.hid (fun (J : ByteArray) (hJ : J.data.toList = Lib.join (showK ks) [44]) => showB_eq (.node 5 n t ns ks) (⟨#[91]⟩ ++ J ++ ⟨#[93]⟩) (by rw [showT]; simp [hJ]))
  clear hp ih hd hbu hW hPW hlk
  go_enter Tryd.func34, Tryd.ntmps34
  go_wp2_with fail
  refine HSH.out.mono ?_
  rintro e w1 ⟨v, rfl, hrow, hg1⟩
  have HG1 := Lib.hid (grown_trans HGA.out hg1)
  have HRW := Lib.hid hrow
  clear hg1 hrow HSH
  by_cases h0 : ks.length = 0
  · have hks : ks = [] := List.eq_nil_of_length_eq_zero h0
    have hr := HRW.out
    rw [hks] at hr
    obtain ⟨a, c2, rfl⟩ := row_empty hr
    have HJ := Lib.hid (join_none w1 a c2)
    have HE2 := Lib.hid (HE.out ⟨#[]⟩ (by rw [hks, showK]; rfl))
    clear hr hks h0 HRW
    go_wp2_with fail
    refine HJ.out.mono ?_
    rintro e w2 ⟨rfl, hw⟩
    have hw := hw.symm
    subst hw
    go_wp2
    go_ret
    exact ⟨by rw [HE2.out]; rfl, HG1.out⟩
  · obtain ⟨g, c2, rfl, hb, hlt, hcap, hcell, -⟩ := row_cells HRW.out (by simp; omega)
    have hln : (ks.map showB).length = ks.length := by simp
    have hjl : (Lib.join ((ks.map showB).map (·.data.toList)) [44]).length ≤ 1000000000 := by
      rw [showB_map]
      have := join_len (showK ks)
      have := HLK.out
      omega
    have HJ := Lib.hid (join_any w1 g 0 c2 (ks.map showB) hcell hlt (by rw [hln]; omega) hcap hjl)
    rw [showB_map] at HJ hjl
    obtain ⟨J, hJ⟩ : ∃ J : ByteArray, J = ⟨(Lib.join (showK ks) [44]).toArray⟩ := ⟨_, rfl⟩
    rw [← hJ] at HJ
    have hJd : J.data.toList = Lib.join (showK ks) [44] := by rw [hJ]
    have HE2 := Lib.hid (HE.out J hJd)
    have hJs : J.size ≤ 1000000000 := by rw [← size_len, hJd]; exact hjl
    have hl1 : ¬ 9223372036854775807 < 1 + J.size := by omega
    have hl2 : ¬ 9223372036854775807 < 1 + J.size + 1 := by omega
    rw [hln] at HJ ⊢
    clear hJ hJd hcell hcap hb hjl h0 HRW hlt
    go_wp2_with fail
    refine HJ.out.mono ?_
    rintro e w2 ⟨rfl, hg2⟩
    have HG2 := Lib.hid (grown_trans HG1.out hg2)
    clear hg2 HJ
    go_wp2
    go_ret
    exact ⟨by rw [HE2.out]; rfl, HG2.out⟩
end Go.Proofs.YtbheondgfnepiaaDoor

