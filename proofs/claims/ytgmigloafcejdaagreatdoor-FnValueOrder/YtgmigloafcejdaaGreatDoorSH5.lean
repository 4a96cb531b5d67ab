/- How the program writes values: whole. -/
import Derived.Test.YtgmigloafcejdaaGreatDoorSH4
namespace Go.Proofs.YtgmigloafcejdaaGreatDoor
open Go.RowKit

/-- names and texts -/
def objB (ns : List ByteArray) (ks : List VT) : List ByteArray := List.zipWith (fun y k => y ++ ⟨#[58]⟩ ++ showB k) ns ks
theorem objB_data : ∀ (ns : List ByteArray) (ks : List VT), (objB ns ks).map (·.data.toList) = showO ns (showK ks)
  | [], _ => by simp [objB, showO]
  | _ :: _, [] => by simp [objB, showK, showO]
  | y :: ns, k :: ks => by
    rw [showK, showO, ← objB_data ns ks]
    simp [objB, showB_data]
theorem objB_get (ns : List ByteArray) (ks : List VT) (j : Nat) (h : j < ns.length) (h' : j < ks.length) : (objB ns ks)[j]? = some (ns.getD j ByteArray.empty ++ ⟨#[58]⟩ ++ showB ks[j]) := by
  simp [objB, List.getElem?_zipWith, h, h']
theorem objB_len (ns : List ByteArray) (ks : List VT) (h : ns.length = ks.length) : (objB ns ks).length = ks.length := by
  simp [objB, h]
theorem showB_map (ks : List VT) : (ks.map showB).map (·.data.toList) = showK ks := by
  rw [showK_map]
  simp [showB_data, Function.comp_def]
theorem row_empty {w : World} {base : Nat} {v : Value} (h : Row w base v []) : ∃ a c, v = .slice a 0 c := by
  rcases h with ⟨rfl, _⟩ | ⟨g, c, rfl, _⟩
  · exact ⟨_, _, rfl⟩
  · exact ⟨_, _, rfl⟩

set_option maxRecDepth 100000 in
set_option maxHeartbeats 2000000 in
theorem implShow_list (w : World) (A : Nat → Prop) (n : Int) (t : ByteArray) (ns : List ByteArray) (ks : List VT) (ao : Option Addr) (c d : Nat) (xs : Nat → Value) (hp : KidsA w A ao ks.length xs) (hd : Parts (.node 5 n t ns ks) d) (hbu : bulk (.node 5 n t ns ks) ≤ 1048576)
    (ih : ∀ (j : Nat) (k : VT), ks[j]? = some k → ∀ W : World, w.grownBy W none → Pow W → Calls Tryz.prog 36 #[xs j] W fun e w' => e = .returned (.string (showB k)) ∧ W.grownBy w' none)
    (W : World) (hW : w.grownBy W none) (hPW : Pow W) :
    Calls Tryz.prog 36 #[.iface 105 (.agg #[.slice ao ks.length c])] W fun e w' => e = .returned (.string (showB (.node 5 n t ns ks))) ∧ W.grownBy w' none := by
  have a0 := sa_80_85
  have a1 := sa_80_86
  have a2 := sa_80_88
  have a3 := sa_80_89
  have a4 := sa_80_80
  have hl5 := parts_len hd
  have hlk : lens (showK ks) ≤ 100000000 := by
    rw [Parts] at hd
    rw [bulk] at hbu
    have := lens_showK ks (d + 1) hd.2.2
    have := countK_le ks
    omega
  have HLK := Lib.hid hlk
  have HGA := Lib.hid (show W.grownBy (W.alloc (Obj.cells #[Value.slice ao ks.length c] 105)) none from grown_alloc (grown_refl _ _) _)
  have HSH := Lib.hid (shown_any w A ks ao c hl5 xs hp ih _ (grown_trans hW HGA.out) (hPW.grown HGA.out))
  have HE := Lib.hid (fun (J : ByteArray) (hJ : J.data.toList = Lib.join (showK ks) [44]) => showB_eq (.node 5 n t ns ks) (⟨#[91]⟩ ++ J ++ ⟨#[93]⟩) (by rw [showT]; simp [hJ]))
  clear hp ih hd hbu hW hPW hlk
  go_enter Tryz.func36, Tryz.ntmps36
  go_wp2_with fail
  refine HSH.out.mono ?_
  rintro e w1 ⟨v, rfl, hrow, hg1⟩
  have HG1 := Lib.hid (grown_trans HGA.out hg1)
  have HRW := Lib.hid hrow
  clear hg1 hrow HSH
  by_cases h0 : ks.length = 0
  · have hks : ks = [] := List.eq_nil_of_length_eq_zero h0
    have hr := HRW.out
    rw [hks] at hr
    obtain ⟨a, c2, rfl⟩ := row_empty hr
    have HJ := Lib.hid (join_none w1 a c2)
    have HE2 := Lib.hid (HE.out ⟨#[]⟩ (by rw [hks, showK]; rfl))
    clear hr hks h0 HRW
    go_wp2_with fail
    refine HJ.out.mono ?_
    rintro e w2 ⟨rfl, hw⟩
    have hw := hw.symm
    subst hw
    go_wp2
    go_ret
    exact ⟨by rw [HE2.out]; rfl, HG1.out⟩
  · obtain ⟨g, c2, rfl, hb, hlt, hcap, hcell, -⟩ := row_cells HRW.out (by simp; omega)
    have hln : (ks.map showB).length = ks.length := by simp
    have hjl : (Lib.join ((ks.map showB).map (·.data.toList)) [44]).length ≤ 1000000000 := by
      rw [showB_map]
      have := join_len (showK ks)
      have := HLK.out
      omega
    have HJ := Lib.hid (join_any w1 g 0 c2 (ks.map showB) hcell hlt (by rw [hln]; omega) hcap hjl)
    rw [showB_map] at HJ hjl
    obtain ⟨J, hJ⟩ : ∃ J : ByteArray, J = ⟨(Lib.join (showK ks) [44]).toArray⟩ := ⟨_, rfl⟩
    rw [← hJ] at HJ
    have hJd : J.data.toList = Lib.join (showK ks) [44] := by rw [hJ]
    have HE2 := Lib.hid (HE.out J hJd)
    have hJs : J.size ≤ 1000000000 := by rw [← size_len, hJd]; exact hjl
    have hl1 : ¬ 9223372036854775807 < 1 + J.size := by omega
    have hl2 : ¬ 9223372036854775807 < 1 + J.size + 1 := by omega
    rw [hln] at HJ ⊢
    clear hJ hJd hcell hcap hb hjl h0 HRW hlt
    go_wp2_with fail
    refine HJ.out.mono ?_
    rintro e w2 ⟨rfl, hg2⟩
    have HG2 := Lib.hid (grown_trans HG1.out hg2)
    clear hg2 HJ
    go_wp2
    go_ret
    exact ⟨by rw [HE2.out]; rfl, HG2.out⟩
end Go.Proofs.YtgmigloafcejdaaGreatDoor

namespace Go.Proofs.YtgmigloafcejdaaGreatDoor
open Go.RowKit

theorem names_len {n : Int} {t : ByteArray} {ns : List ByteArray} {ks : List VT} {d : Nat} (h : Parts (.node 6 n t ns ks) d) : ns.length = ks.length := by
  rw [Parts] at h
  rcases h.1.2.2 with h | h | h | h | h | h <;> first | (exact absurd h.1 (by decide)) | exact h.2.2.1.symm
/-- the texts, names ahead of the first k -/
def mixB (ns : List ByteArray) (ks : List VT) (k j : Nat) (hj : j < ks.length) : ByteArray := if j < k then ns.getD j ByteArray.empty ++ ⟨#[58]⟩ ++ showB ks[j] else showB ks[j]

set_option maxRecDepth 100000 in
set_option maxHeartbeats 2000000 in
theorem implShow_obj (w : World) (A : Nat → Prop) (n : Int) (t : ByteArray) (ns : List ByteArray) (ks : List VT) (ao an : Option Addr) (c cn d : Nat) (xs : Nat → Value) (hp : KidsA w A ao ks.length xs) (hn : LiesA w A an ns) (hd : Parts (.node 6 n t ns ks) d) (hbu : bulk (.node 6 n t ns ks) ≤ 1048576)
    (ih : ∀ (j : Nat) (k : VT), ks[j]? = some k → ∀ W : World, w.grownBy W none → Pow W → Calls Tryz.prog 36 #[xs j] W fun e w' => e = .returned (.string (showB k)) ∧ W.grownBy w' none)
    (W : World) (hW : w.grownBy W none) (hPW : Pow W) :
    Calls Tryz.prog 36 #[.iface 108 (.agg #[.slice ao ks.length c, .slice an ns.length cn])] W fun e w' => e = .returned (.string (showB (.node 6 n t ns ks))) ∧ W.grownBy w' none := by
  have a0 := sa_83_85
  have a1 := sa_83_86
  have a2 := sa_83_88
  have a3 := sa_83_89
  have a4 := sa_83_80
  have a5 := sa_83_83
  have hl5 := parts_len hd
  have HNL := Lib.hid (names_len hd)
  have HBS := Lib.hid (show bulkS ns ≤ 1048576 from by rw [bulk] at hbu; omega)
  have hlk : lens (showK ks) ≤ 50000000 := by
    rw [Parts] at hd
    rw [bulk] at hbu
    have := lens_showK ks (d + 1) hd.2.2
    have := countK_le ks
    omega
  have HLK := Lib.hid hlk
  have HL := Lib.hid hn
  have HW := Lib.hid hW
  have HGA := Lib.hid (show W.grownBy (W.alloc (Obj.cells #[Value.slice ao ks.length c, .slice an ns.length cn] 108)) none from grown_alloc (grown_refl _ _) _)
  have HBA := Lib.hid (Blk.new W 108 [.slice ao ks.length c, .slice an ns.length cn])
  have HSH := Lib.hid (shown_any w A ks ao c hl5 xs hp ih _ (grown_trans hW HGA.out) (hPW.grown HGA.out))
  have HE := Lib.hid (fun (J : ByteArray) (hJ : J.data.toList = Lib.join (showO ns (showK ks)) [44]) => showB_eq (.node 6 n t ns ks) (⟨#[123]⟩ ++ J ++ ⟨#[125]⟩) (by rw [showT]; simp [hJ]))
  clear hp ih hd hbu hW hPW hlk hn
  go_enter Tryz.func36, Tryz.ntmps36
  go_wp2_with fail
  refine HSH.out.mono ?_
  rintro e w1 ⟨v, rfl, hrow, hg1⟩
  have HG1 := Lib.hid (grown_trans HGA.out hg1)
  have HB1 := Lib.hid (HBA.out.kept hg1 (by simp))
  have HRW := Lib.hid hrow
  have d1 : w1.cell? ⟨W.heap.size, 1, none⟩ = some (.slice an ns.length cn) := HB1.out.cell rfl
  clear hg1 hrow HSH
  by_cases h0 : ks.length = 0
  · have hks : ks = [] := List.eq_nil_of_length_eq_zero h0
    have hns : ns.length = 0 := by have := HNL.out; omega
    have hnI : ¬ (0 : Int) < ns.length := by omega
    have hr := HRW.out
    rw [hks] at hr
    obtain ⟨a, c2, rfl⟩ := row_empty hr
    have HJ := Lib.hid (join_none w1 a c2)
    have HE2 := Lib.hid (HE.out ⟨#[]⟩ (by rw [hks, showK]; cases ns <;> rfl))
    clear hr hks h0 HRW hns
    go_wp2
    go_loopw [50] (fun i wr => i = .int .i64 0 ∧ wr = w1) (fun _ _ => 0)
    case atStart => exact ⟨rfl, rfl⟩
    case round =>
      obtain ⟨rfl, rfl⟩ := hrel
      go_wp2_with fail
      refine HJ.out.mono ?_
      rintro e w2 ⟨rfl, hw⟩
      have HWE := Lib.hid hw
      clear hw
      go_wp2
      go_ret
      rw [HWE.out]
      exact ⟨by rw [HE2.out]; rfl, HG1.out⟩
  · obtain ⟨g, c2, rfl, hb, hlt, hcap, hcell, hfz⟩ := row_cells HRW.out (by simp; omega)
    have hln : (ks.map showB).length = ks.length := by simp
    rw [hln] at hcap hfz ⊢
    have HCAP := Lib.hid hcap
    have hgW : W.heap.size + 1 ≤ g := by simpa using hb
    have HCE := Lib.hid (show ∀ j (hj : j < ks.length), w1.cell? ⟨g, j, none⟩ = some (.string (mixB ns ks 0 j hj)) ∧ w1.frozen? ⟨g, j, none⟩ = false from fun j hj => ⟨by
      have := hcell j (showB ks[j]) (by simp [hj])
      rw [Nat.zero_add] at this
      rw [this]
      simp [mixB], hfz j hj⟩)
    clear hcell hfz hcap h0 HRW hb
    go_wp2
    clear d1
    go_loopw [50] (fun i wr => ∃ k : Nat, k ≤ ks.length ∧ i = .int .i64 k ∧ Hid (∀ j (hj : j < ks.length), wr.cell? ⟨g, j, none⟩ = some (.string (mixB ns ks k j hj)) ∧ wr.frozen? ⟨g, j, none⟩ = false) ∧ W.grownBy wr none ∧ g < wr.heap.size) (fun i _ => ks.length - (intOf i).toNat)
    case atStart => exact ⟨0, Nat.zero_le _, rfl, HCE, HG1.out, hlt⟩
    case round =>
      obtain ⟨k, hk, rfl, HC, hg, hgl⟩ := hrel
      have HG := Lib.hid hg
      clear hg HCE
      have hnk : (ns.length : Int) = ks.length := by have := HNL.out; omega
      have HNK := Lib.hid hnk
      clear hnk
      by_cases hlk : k < ks.length
      · rcases HL.out with h0 | ⟨ab, q, rfl, -, hm⟩
        · have := HNL.out; omega
        have hkn : k < ns.length := by have := HNL.out; omega
        have hkN : (k : Int) < ns.length := by omega
        have hkI : (k : Int) < ks.length := by omega
        have dn := (grown_trans HW.out HG.out).cell (hm k hkn) (by simp)
        obtain ⟨y, hy⟩ : ∃ y, y = ns.getD k ByteArray.empty := ⟨_, rfl⟩
        rw [← hy] at dn
        have hys : y.size ≤ 1048576 := by
          have h1 : y ∈ ns := by rw [hy]; simp [hkn]
          have := bulkS_mem h1
          have := HBS.out
          omega
        obtain ⟨dc, df⟩ := HC.out k hlk
        rw [show mixB ns ks k k hlk = showB ks[k] from by simp [mixB]] at dc
        obtain ⟨X, hX⟩ : ∃ X, X = showB ks[k] := ⟨_, rfl⟩
        rw [← hX] at dc
        have hXs : X.size ≤ 50000000 := by
          have h1 : showT ks[k] ∈ showK ks := by rw [showK_map]; exact List.mem_map.2 ⟨_, List.getElem_mem hlk, rfl⟩
          have := lens_mem h1
          have := HLK.out
          rw [hX, showB_size]
          omega
        have HSTEP := Lib.hid (show ∀ j (hj : j < ks.length), (wr.setCell ⟨g, k, none⟩ (.string (y ++ ⟨#[58]⟩ ++ X))).cell? ⟨g, j, none⟩ = some (.string (mixB ns ks (k + 1) j hj)) ∧ (wr.setCell ⟨g, k, none⟩ (.string (y ++ ⟨#[58]⟩ ++ X))).frozen? ⟨g, j, none⟩ = false from fun j hj => by
          obtain ⟨e1, e2⟩ := HC.out j hj
          refine ⟨?_, by simpa using e2⟩
          by_cases e : j = k
          · subst e
            rw [World.cell?_setCell_same wr ⟨g, j, none⟩ _ e1]
            simp [mixB, hy, hX]
          · rw [World.cell?_setCell_other wr ⟨g, k, none⟩ ⟨g, j, none⟩ _ (by intro h; cases h; exact e rfl), e1]
            have : (j < k + 1) = (j < k) := by rw [eq_iff_iff]; omega
            simp [mixB, this])
        have hl1 : ¬ 9223372036854775807 < y.size + 1 := by omega
        have hl2 : ¬ 9223372036854775807 < y.size + 1 + X.size := by omega
        clear hm hy hX
        go_wp2
        go_roundw
        case rel => exact ⟨k + 1, by omega, by go_num, HSTEP, grown_into HG.out (grown_set (grown_refl wr _) k _) (by omega), by simpa [World.setCell] using hgl⟩
        case measure => simp [intOf]; omega
      · obtain rfl : k = ks.length := by omega
        have hkN : ¬ (ks.length : Int) < ns.length := by have := HNK.out; omega
        have hnl := HNL.out
        have hol := objB_len ns ks hnl
        have hjl : (Lib.join ((objB ns ks).map (·.data.toList)) [44]).length ≤ 1000000000 := by
          rw [objB_data]
          have := join_len (showO ns (showK ks))
          have := lens_showO ns (showK ks)
          have := HLK.out
          have := HBS.out
          omega
        have HJ := Lib.hid (join_any wr g 0 c2 (objB ns ks) (fun j x hj => by
          have hj2 := (List.getElem?_eq_some_iff.1 hj).1
          rw [hol] at hj2
          rw [Nat.zero_add, (HC.out j hj2).1]
          rw [objB_get ns ks j (by omega) hj2] at hj
          cases hj
          simp [mixB, hj2]) hgl (by rw [hol]; omega) (by rw [hol]; exact HCAP.out) hjl)
        rw [objB_data, hol] at HJ
        rw [objB_data] at hjl
        obtain ⟨J, hJ⟩ : ∃ J : ByteArray, J = ⟨(Lib.join (showO ns (showK ks)) [44]).toArray⟩ := ⟨_, rfl⟩
        rw [← hJ] at HJ
        have hJd : J.data.toList = Lib.join (showO ns (showK ks)) [44] := by rw [hJ]
        have HE2 := Lib.hid (HE.out J hJd)
        have hJs : J.size ≤ 1000000000 := by rw [← size_len, hJd]; exact hjl
        have hl1 : ¬ 9223372036854775807 < 1 + J.size := by omega
        have hl2 : ¬ 9223372036854775807 < 1 + J.size + 1 := by omega
        clear hJ hJd hjl hol hnl
        go_wp2_with fail
        refine HJ.out.mono ?_
        rintro e w2 ⟨rfl, hg2⟩
        have HG2 := Lib.hid (grown_trans HG.out hg2)
        clear hg2 HJ
        go_wp2
        go_ret
        exact ⟨by rw [HE2.out]; rfl, HG2.out⟩
end Go.Proofs.YtgmigloafcejdaaGreatDoor

