/- ValueShow: the program's and the document's. -/
import Derived.Test.YtgmigloafcejdaaGreatDoorSH5
namespace Go.Proofs.YtgmigloafcejdaaGreatDoor
open Go.RowKit

set_option maxRecDepth 100000 in
set_option maxHeartbeats 2000000 in
theorem implShow_any (w : World) (A : Nat → Prop) (T : VT) (nv : Value) (h : NIn w A T nv) : ∀ d : Nat, Parts T d → bulk T ≤ 1048576 → ∀ W : World, w.grownBy W none → Pow W → Calls Tryz.prog 36 #[nv] W fun e w' => e = .returned (.string (showB T)) ∧ W.grownBy w' none := by
  induction h with
  | @null n t ns ks =>
    intro d hd hbu W hW hPW
    have a0 := sa_85_85
    have HE := Lib.hid (showB_eq (.node 1 n t ns ks) ⟨#[110, 117, 108, 108]⟩ (by rw [showT]; simp))
    clear hd hbu hW hPW
    go_enter Tryz.func36, Tryz.ntmps36
    go_wp2
    go_ret
    exact ⟨by rw [HE.out]; rfl, grown_alloc (grown_refl _ _) _⟩
  | @bool n t ns ks =>
    intro d hd hbu W hW hPW
    have a0 := sa_86_85
    have a1 := sa_86_86
    have HB := Lib.hid (bool_any W (n == 1))
    have HE := Lib.hid (showB_eq (.node 2 n t ns ks) (if (n == 1) = true then ⟨#[116, 114, 117, 101]⟩ else ⟨#[102, 97, 108, 115, 101]⟩) (by rw [showT]; by_cases h : n = 1 <;> simp [h]))
    obtain ⟨b, hb⟩ : ∃ b, b = (n == 1) := ⟨_, rfl⟩
    obtain ⟨S, hS⟩ : ∃ S : ByteArray, S = (if (n == 1) = true then ⟨#[116, 114, 117, 101]⟩ else ⟨#[102, 97, 108, 115, 101]⟩) := ⟨_, rfl⟩
    rw [← hS] at HB HE
    rw [← hb] at HB ⊢
    clear hd hbu hW hPW hb hS
    go_enter Tryz.func36, Tryz.ntmps36
    go_wp2_with fail
    refine HB.out.mono ?_
    rintro e w1 ⟨rfl, hw⟩
    have hw := hw.symm
    subst hw
    go_wp2
    go_ret
    exact ⟨by rw [HE.out]; rfl, grown_refl _ _⟩
  | @int n t ns ks =>
    intro d hd hbu W hW hPW
    have a0 := sa_88_85
    have a1 := sa_88_86
    have a2 := sa_88_88
    have hr : -999999 ≤ n ∧ n ≤ 999999 := by
      rw [Parts] at hd
      rcases hd.1.2.2 with h | h | h | h | h | h <;> first | (exact absurd h.1 (by decide)) | exact h.2.1
    have HB := Lib.hid (itoa_any W n hr.1 hr.2 hPW)
    have HE := Lib.hid (showB_eq (.node 3 n t ns ks) (decI n) (by rw [showT]; simp [decI]))
    obtain ⟨S, hS⟩ : ∃ S : ByteArray, S = decI n := ⟨_, rfl⟩
    rw [← hS] at HB HE
    clear hd hbu hW hPW hS
    go_enter Tryz.func36, Tryz.ntmps36
    go_wp2_with fail
    refine HB.out.mono ?_
    rintro e w1 ⟨rfl, hg1⟩
    have HG1 := Lib.hid hg1
    clear hg1
    go_wp2
    go_ret
    exact ⟨by rw [HE.out]; rfl, HG1.out⟩
  | @text n t ns ks =>
    intro d hd hbu W hW hPW
    have a0 := sa_89_85
    have a1 := sa_89_86
    have a2 := sa_89_88
    have a3 := sa_89_89
    have HE := Lib.hid (showB_eq (.node 4 n t ns ks) (⟨#[34]⟩ ++ t ++ ⟨#[34]⟩) (by rw [showT]; simp))
    have ht : t.size ≤ 1048576 := by rw [bulk] at hbu; omega
    have hl1 : ¬ 9223372036854775807 < 1 + t.size := by omega
    have hl2 : ¬ 9223372036854775807 < 1 + t.size + 1 := by omega
    clear hd hbu hW hPW
    go_enter Tryz.func36, Tryz.ntmps36
    go_wp2
    go_ret
    exact ⟨by rw [HE.out]; rfl, grown_refl _ _⟩
  | @unknown n t ns ks =>
    intro d hd hbu W hW hPW
    have a0 := sa_75_85
    have a1 := sa_75_86
    have a2 := sa_75_88
    have a3 := sa_75_89
    have a4 := sa_75_80
    have a5 := sa_75_83
    have HE := Lib.hid (showB_eq (.node 7 n t ns ks) ⟨#[63]⟩ (by rw [showT]; simp))
    clear hd hbu hW hPW
    go_enter Tryz.func36, Tryz.ntmps36
    go_wp2
    go_ret
    exact ⟨by rw [HE.out]; rfl, grown_refl _ _⟩
  | @list n t ns ks ao c xs hp hk hc ih =>
    intro d hd hbu W hW hPW
    exact implShow_list w A n t ns ks ao c d xs hp hd hbu (fun j k hj X hX hPX => ih j k hj (d + 1) (parts_kids hd j k hj) (by rw [bulk] at hbu; have := bulk_kid hj; omega) X hX hPX) W hW hPW
  | @obj n t ns ks ao an c cn xs hp hk hc hn hcn ih =>
    intro d hd hbu W hW hPW
    exact implShow_obj w A n t ns ks ao an c cn d xs hp hn hd hbu (fun j k hj X hX hPX => ih j k hj (d + 1) (parts_kids hd j k hj) (by rw [bulk] at hbu; have := bulk_kid hj; omega) X hX hPX) W hW hPW

/-- what is written of a value -/
def ShowR (T : VT) (S : ByteArray) : Prop := (OkT T ∧ S = showB T) ∨ (¬ OkT T ∧ S = ⟨#[]⟩)
theorem ShowR.one {T : VT} {S S' : ByteArray} (h : ShowR T S) (h' : ShowR T S') : S = S' := by
  rcases h with ⟨a, b⟩ | ⟨a, b⟩ <;> rcases h' with ⟨a', b'⟩ | ⟨a', b'⟩
  · rw [b, b']
  · exact absurd a a'
  · exact absurd a' a
  · rw [b, b']

set_option maxRecDepth 100000 in
set_option maxHeartbeats 1000000 in
theorem implShow (w : World) (base : Nat) (T : VT) (cs : List Value) (h : VIn w base T cs) (hbu : bulk T ≤ 1048576) (hT : Tab w) (hPw : Pow w) (W : World) (hW : w.grownBy W none) :
    Calls Tryz.prog 11 #[.agg cs.toArray] W fun e w' => ∃ S, e = .returned (.string S) ∧ ShowR T S ∧ W.grownBy w' none := by
  have HNO := Lib.hid (nodeOf_any w base T cs h hbu hT)
  have HBU := Lib.hid hbu
  obtain ⟨s, n, t, an, ln, cn, ak, lk, ck, hcs⟩ := h.shape
  subst hcs
  clear h hbu
  have HGA := Lib.hid (show W.grownBy (W.alloc (Obj.cells #[Value.int .i64 s, .int .i64 n, .string t, .slice an ln cn, .slice ak lk ck] 27)) none from grown_alloc (grown_refl _ _) _)
  have HCA := Lib.hid (HNO.out _ (grown_trans hW HGA.out))
  have HT := Lib.hid (hT.grown hW)
  have HPW := Lib.hid (hPw.grown hW)
  clear HNO hT hW hPw
  go_enter Tryz.func11, Tryz.ntmps11
  go_wp2_with fail
  refine HCA.out.mono ?_
  rintro e w1 ⟨nv, ev, rfl, hg1, hr⟩
  have HG1 := Lib.hid (grown_trans HGA.out hg1)
  have HR := Lib.hid hr
  clear hr hg1 HCA
  rcases HR.out with ⟨rfl, hok, hnin⟩ | ⟨⟨q, rfl⟩, hno⟩
  · have HUN := Lib.hid (implShow_any w1 _ T nv hnin 1 hok.1 HBU.out)
    have HSR := Lib.hid (show ShowR T (showB T) from .inl ⟨hok, rfl⟩)
    have HF := Lib.hid (faulty_nil w1)
    obtain ⟨S, hS⟩ : ∃ S, S = showB T := ⟨_, rfl⟩
    rw [← hS] at HUN HSR
    clear HR hok hnin hS
    go_wp2_with fail
    refine HF.out.mono ?_
    rintro e w2 ⟨rfl, hg2⟩
    have HG2 := Lib.hid (grown_trans HG1.out hg2)
    have HU2 := Lib.hid (HUN.out w2 hg2 (HPW.out.grown HG2.out))
    clear hg2 HF HUN
    go_wp2_with fail
    refine HU2.out.mono ?_
    rintro e w3 ⟨rfl, hg3⟩
    have HG3 := Lib.hid (grown_trans HG2.out hg3)
    clear hg3 HU2
    go_wp2
    go_ret
    exact ⟨S, rfl, HSR.out, HG3.out⟩
  · have HSR := Lib.hid (show ShowR T ⟨#[]⟩ from .inr ⟨hno, rfl⟩)
    have HF := Lib.hid (faulty_hit w1 (HT.out.grown HG1.out) q)
    clear HR hno
    go_wp2_with fail
    refine HF.out.mono ?_
    rintro e w2 ⟨rfl, hg2⟩
    have HG2 := Lib.hid (grown_trans HG1.out hg2)
    clear hg2 HF
    go_wp2
    go_ret
    exact ⟨_, rfl, HSR.out, HG2.out⟩

set_option maxRecDepth 100000 in
set_option maxHeartbeats 1000000 in
theorem specShow (w : World) (base : Nat) (T : VT) (cs : List Value) (h : VIn w base T cs) (hbu : bulk T ≤ 1048576) : Calls Tryz.prog 13 #[.agg cs.toArray] w fun e w' => ∃ S, e = .returned (.string S) ∧ ShowR T S ∧ w.grownBy w' none := by
  have HV := Lib.hid h
  have HBU := Lib.hid hbu
  obtain ⟨s, n, t, an, ln, cn, ak, lk, ck, hcs⟩ := h.shape
  subst hcs
  clear h
  have HGA := Lib.hid (show w.grownBy (w.alloc (Obj.cells #[Value.int .i64 s, .int .i64 n, .string t, .slice an ln cn, .slice ak lk ck] 27)) none from grown_alloc (grown_refl _ _) _)
  have HBA := Lib.hid (Blk.new w 27 [.int .i64 s, .int .i64 n, .string t, .slice an ln cn, .slice ak lk ck])
  have HOK := Lib.hid (specOk_any _ base T _ (HV.out.grown HGA.out) hbu)
  clear hbu
  go_enter Tryz.func13, Tryz.ntmps13
  go_wp2_with fail
  refine HOK.out.mono ?_
  rintro e w1 ⟨⟨b, rfl, hb⟩, hg1⟩
  have HG1 := Lib.hid (grown_trans HGA.out hg1)
  have HB1 := Lib.hid (HBA.out.kept hg1 (by simp))
  have d0 : w1.cell? ⟨w.heap.size, 0, none⟩ = some (.int .i64 s) := HB1.out.cell rfl
  have d1 : w1.cell? ⟨w.heap.size, 1, none⟩ = some (.int .i64 n) := HB1.out.cell rfl
  have d2 : w1.cell? ⟨w.heap.size, 2, none⟩ = some (.string t) := HB1.out.cell rfl
  have d3 : w1.cell? ⟨w.heap.size, 3, none⟩ = some (.slice an ln cn) := HB1.out.cell rfl
  have d4 : w1.cell? ⟨w.heap.size, 4, none⟩ = some (.slice ak lk ck) := HB1.out.cell rfl
  have HB := Lib.hid hb
  clear hb hg1 HOK
  cases b
  · have HSR := Lib.hid (show ShowR T ⟨#[]⟩ from .inr ⟨(fun h => by have := HB.out.2 h; cases this), rfl⟩)
    go_wp2
    go_ret
    exact ⟨_, rfl, HSR.out, HG1.out⟩
  have hok := HB.out.1 rfl
  have HSR := Lib.hid (show ShowR T (showB T) from .inl ⟨hok, rfl⟩)
  have HSP := Lib.hid (specShow_any w base T _ HV.out 1 hok.1 HBU.out w1 HG1.out)
  obtain ⟨S, hS⟩ : ∃ S, S = showB T := ⟨_, rfl⟩
  rw [← hS] at HSP HSR
  clear hok hS
  go_wp2_with fail
  refine HSP.out.mono ?_
  rintro e w2 ⟨rfl, hg2⟩
  have HG2 := Lib.hid (grown_trans HG1.out hg2)
  clear hg2 HSP d0 d1 d2 d3 d4
  go_wp2
  go_ret
  exact ⟨S, rfl, HSR.out, HG2.out⟩
end Go.Proofs.YtgmigloafcejdaaGreatDoor

