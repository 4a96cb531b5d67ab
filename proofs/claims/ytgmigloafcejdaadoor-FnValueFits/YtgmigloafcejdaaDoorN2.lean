/- ValueKnown: the program's and the document's. -/
import Derived.Test.YtgmigloafcejdaaDoorN1
namespace Go.Proofs.YtgmigloafcejdaaDoor
open Go.RowKit

theorem leaf_none {s n : Int} {t : ByteArray} {ns : List ByteArray} {ks : List VT} {d : Nat} (h : Parts (.node s n t ns ks) d) (h5 : s ≠ 5) (h6 : s ≠ 6) : ks = [] := by
  rw [Parts] at h
  rcases h.1.2.2 with ⟨e, a, b⟩ | ⟨e, a, b⟩ | ⟨e, a, b⟩ | ⟨e, a, b, c⟩ | ⟨e, a, b⟩ | ⟨e, a, b, c, d⟩
  · exact List.eq_nil_of_length_eq_zero b
  · exact List.eq_nil_of_length_eq_zero b
  · exact List.eq_nil_of_length_eq_zero b
  · exact List.eq_nil_of_length_eq_zero b
  · exact absurd e h5
  · exact absurd e h6
theorem leaf_known {s n : Int} {t : ByteArray} {ns : List ByteArray} {ks : List VT} {d : Nat} (h : Parts (.node s n t ns ks) d) (h5 : s ≠ 5) (h6 : s ≠ 6) (h7 : s ≠ 7) : Known (.node s n t ns ks) := by
  rw [leaf_none h h5 h6, Known, KnownK]
  exact ⟨h7, trivial⟩
theorem parts_kids {s n : Int} {t : ByteArray} {ns : List ByteArray} {ks : List VT} {d : Nat} (h : Parts (.node s n t ns ks) d) : ∀ (j : Nat) (k : VT), ks[j]? = some k → Parts k (d + 1) := by
  rw [Parts, partsK_iff] at h
  exact h.2.2
theorem parts_len {s n : Int} {t : ByteArray} {ns : List ByteArray} {ks : List VT} {d : Nat} (h : Parts (.node s n t ns ks) d) : ks.length ≤ 5 := by
  rw [Parts] at h
  rcases h.1.2.2 with ⟨e, a, b⟩ | ⟨e, a, b⟩ | ⟨e, a, b⟩ | ⟨e, a, b, c⟩ | ⟨e, a, b⟩ | ⟨e, a, b, c, d⟩ <;> omega

theorem ta_79_65 (v : Value) (W : World) : (Instr.typeAssert (.iface 95 v) 43 75 true).run Tryd.prog W = .ok (.tuple #[.agg #[], .bool false]) W := by kernel_rfl
theorem ta_79_70 (v : Value) (W : World) : (Instr.typeAssert (.iface 95 v) 43 80 true).run Tryd.prog W = .ok (.tuple #[.agg #[.slice none 0 0], .bool false]) W := by kernel_rfl
theorem ta_79_73 (v : Value) (W : World) : (Instr.typeAssert (.iface 95 v) 43 83 true).run Tryd.prog W = .ok (.tuple #[.agg #[.slice none 0 0, .slice none 0 0], .bool false]) W := by kernel_rfl
theorem ta_80_65 (v : Value) (W : World) : (Instr.typeAssert (.iface 96 v) 43 75 true).run Tryd.prog W = .ok (.tuple #[.agg #[], .bool false]) W := by kernel_rfl
theorem ta_80_70 (v : Value) (W : World) : (Instr.typeAssert (.iface 96 v) 43 80 true).run Tryd.prog W = .ok (.tuple #[.agg #[.slice none 0 0], .bool false]) W := by kernel_rfl
theorem ta_80_73 (v : Value) (W : World) : (Instr.typeAssert (.iface 96 v) 43 83 true).run Tryd.prog W = .ok (.tuple #[.agg #[.slice none 0 0, .slice none 0 0], .bool false]) W := by kernel_rfl
theorem ta_82_65 (v : Value) (W : World) : (Instr.typeAssert (.iface 98 v) 43 75 true).run Tryd.prog W = .ok (.tuple #[.agg #[], .bool false]) W := by kernel_rfl
theorem ta_82_70 (v : Value) (W : World) : (Instr.typeAssert (.iface 98 v) 43 80 true).run Tryd.prog W = .ok (.tuple #[.agg #[.slice none 0 0], .bool false]) W := by kernel_rfl
theorem ta_82_73 (v : Value) (W : World) : (Instr.typeAssert (.iface 98 v) 43 83 true).run Tryd.prog W = .ok (.tuple #[.agg #[.slice none 0 0, .slice none 0 0], .bool false]) W := by kernel_rfl
theorem ta_84_65 (v : Value) (W : World) : (Instr.typeAssert (.iface 100 v) 43 75 true).run Tryd.prog W = .ok (.tuple #[.agg #[], .bool false]) W := by kernel_rfl
theorem ta_84_70 (v : Value) (W : World) : (Instr.typeAssert (.iface 100 v) 43 80 true).run Tryd.prog W = .ok (.tuple #[.agg #[.slice none 0 0], .bool false]) W := by kernel_rfl
theorem ta_84_73 (v : Value) (W : World) : (Instr.typeAssert (.iface 100 v) 43 83 true).run Tryd.prog W = .ok (.tuple #[.agg #[.slice none 0 0, .slice none 0 0], .bool false]) W := by kernel_rfl
theorem ta_65_65 (v : Value) (W : World) : (Instr.typeAssert (.iface 75 v) 43 75 true).run Tryd.prog W = .ok (.tuple #[v, .bool true]) W := by kernel_rfl
theorem ta_70_65 (v : Value) (W : World) : (Instr.typeAssert (.iface 80 v) 43 75 true).run Tryd.prog W = .ok (.tuple #[.agg #[], .bool false]) W := by kernel_rfl
theorem ta_70_70 (v : Value) (W : World) : (Instr.typeAssert (.iface 80 v) 43 80 true).run Tryd.prog W = .ok (.tuple #[v, .bool true]) W := by kernel_rfl
theorem ta_73_65 (v : Value) (W : World) : (Instr.typeAssert (.iface 83 v) 43 75 true).run Tryd.prog W = .ok (.tuple #[.agg #[], .bool false]) W := by kernel_rfl
theorem ta_73_70 (v : Value) (W : World) : (Instr.typeAssert (.iface 83 v) 43 80 true).run Tryd.prog W = .ok (.tuple #[.agg #[.slice none 0 0], .bool false]) W := by kernel_rfl
theorem ta_73_73 (v : Value) (W : World) : (Instr.typeAssert (.iface 83 v) 43 83 true).run Tryd.prog W = .ok (.tuple #[v, .bool true]) W := by kernel_rfl

set_option maxRecDepth 100000 in
set_option maxHeartbeats 1000000 in
theorem hasUnk_any (w : World) (A : Nat → Prop) (T : VT) (nv : Value) (h : NIn w A T nv) : ∀ d : Nat, Parts T d → ∀ W : World, w.grownBy W none → Calls Tryd.prog 26 #[nv] W fun e w' => Says e (¬ Known T) ∧ W.grownBy w' none := by
  induction h with
  | null =>
    intro d hd W hW
    have a0 := ta_79_65
    have a1 := ta_79_70
    have a2 := ta_79_73
    have HD := Lib.hid (Says.no (p := ¬ Known _) (fun h => h (leaf_known hd (by decide) (by decide) (by decide))))
    clear hd hW
    go_enter Tryd.func26, Tryd.ntmps26
    go_wp2
    go_ret
    exact ⟨HD.out, grown_refl _ _⟩
  | bool =>
    intro d hd W hW
    have a0 := ta_80_65
    have a1 := ta_80_70
    have a2 := ta_80_73
    have HD := Lib.hid (Says.no (p := ¬ Known _) (fun h => h (leaf_known hd (by decide) (by decide) (by decide))))
    clear hd hW
    go_enter Tryd.func26, Tryd.ntmps26
    go_wp2
    go_ret
    exact ⟨HD.out, grown_refl _ _⟩
  | int =>
    intro d hd W hW
    have a0 := ta_82_65
    have a1 := ta_82_70
    have a2 := ta_82_73
    have HD := Lib.hid (Says.no (p := ¬ Known _) (fun h => h (leaf_known hd (by decide) (by decide) (by decide))))
    clear hd hW
    go_enter Tryd.func26, Tryd.ntmps26
    go_wp2
    go_ret
    exact ⟨HD.out, grown_refl _ _⟩
  | text =>
    intro d hd W hW
    have a0 := ta_84_65
    have a1 := ta_84_70
    have a2 := ta_84_73
    have HD := Lib.hid (Says.no (p := ¬ Known _) (fun h => h (leaf_known hd (by decide) (by decide) (by decide))))
    clear hd hW
    go_enter Tryd.func26, Tryd.ntmps26
    go_wp2
    go_ret
    exact ⟨HD.out, grown_refl _ _⟩
  | @unknown n t ns ks =>
    intro d hd W hW
    have a0 := ta_65_65
    have HD := Lib.hid (Says.yes (p := ¬ Known (.node 7 n t ns ks)) (fun h => by rw [Known] at h; exact h.1 rfl))
    clear hd hW
    go_enter Tryd.func26, Tryd.ntmps26
    go_wp2
    go_ret
    exact ⟨HD.out, grown_alloc (grown_refl _ _) _⟩
  | @list n t ns ks ao c xs hp hk hc ih =>
    intro d hd W hW
    have a0 := ta_70_65
    have a1 := ta_70_70
    have hl := parts_len hd
    have HGA := Lib.hid (show W.grownBy (W.alloc (Obj.cells #[Value.slice ao ks.length c] 80)) none from grown_alloc (grown_refl _ _) _)
    have HCF := Lib.hid (containsF_any w A ks ao c (by omega) xs hp (fun j k hj => ih j k hj (d + 1) (parts_kids hd j k hj)) _ (grown_trans hW HGA.out))
    have HKN := Lib.hid (show Known (.node 5 n t ns ks) ↔ KnownK ks from by rw [Known]; exact ⟨fun h => h.2, fun h => ⟨by decide, h⟩⟩)
    clear hp hk ih hd hW hc
    go_enter Tryd.func26, Tryd.ntmps26
    go_wp2_with fail
    refine HCF.out.mono ?_
    rintro e w1 ⟨⟨b, rfl, hb⟩, hg1⟩
    have HD := Lib.hid (show Says (.returned (.bool b)) (¬ Known (.node 5 n t ns ks)) from ⟨b, rfl, by rw [hb, HKN.out]⟩)
    have HG1 := Lib.hid (grown_trans HGA.out hg1)
    clear hb hg1 HCF
    go_wp2
    go_ret
    exact ⟨HD.out, HG1.out⟩
  | @obj n t ns ks ao an c cn xs hp hk hc hn hcn ih =>
    intro d hd W hW
    have a0 := ta_73_65
    have a1 := ta_73_70
    have a2 := ta_73_73
    have hl := parts_len hd
    have HGA := Lib.hid (show W.grownBy (W.alloc (Obj.cells #[Value.slice ao ks.length c, .slice an ns.length cn] 83)) none from grown_alloc (grown_refl _ _) _)
    have HCF := Lib.hid (containsF_any w A ks ao c (by omega) xs hp (fun j k hj => ih j k hj (d + 1) (parts_kids hd j k hj)) _ (grown_trans hW HGA.out))
    have HKN := Lib.hid (show Known (.node 6 n t ns ks) ↔ KnownK ks from by rw [Known]; exact ⟨fun h => h.2, fun h => ⟨by decide, h⟩⟩)
    clear hp hk ih hd hW hc hn hcn
    go_enter Tryd.func26, Tryd.ntmps26
    go_wp2_with fail
    refine HCF.out.mono ?_
    rintro e w1 ⟨⟨b, rfl, hb⟩, hg1⟩
    have HD := Lib.hid (show Says (.returned (.bool b)) (¬ Known (.node 6 n t ns ks)) from ⟨b, rfl, by rw [hb, HKN.out]⟩)
    have HG1 := Lib.hid (grown_trans HGA.out hg1)
    clear hb hg1 HCF
    go_wp2
    go_ret
    exact ⟨HD.out, HG1.out⟩

/-- a value that is ok and known whole -/
def KnownT (T : VT) : Prop := OkT T ∧ Known T

set_option maxRecDepth 100000 in
set_option maxHeartbeats 1000000 in
theorem implKnown_any (w : World) (base : Nat) (T : VT) (cs : List Value) (h : VIn w base T cs) (hbu : bulk T ≤ 1048576) (hT : Tab w) (W : World) (hW : w.grownBy W none) :
    Calls Tryd.prog 10 #[.agg cs.toArray] W fun e w' => Says e (KnownT T) ∧ W.grownBy w' none := by
  have HNO := Lib.hid (nodeOf_any w base T cs h hbu hT)
  obtain ⟨s, n, t, an, ln, cn, ak, lk, ck, hcs⟩ := h.shape
  subst hcs
  clear h
  have HGA := Lib.hid (show W.grownBy (W.alloc (Obj.cells #[Value.int .i64 s, .int .i64 n, .string t, .slice an ln cn, .slice ak lk ck] 26)) none from grown_alloc (grown_refl _ _) _)
  have HCA := Lib.hid (HNO.out _ (grown_trans hW HGA.out))
  have HT := Lib.hid (hT.grown hW)
  clear HNO hT hW
  go_enter Tryd.func10, Tryd.ntmps10
  go_wp2_with fail
  refine HCA.out.mono ?_
  rintro e w1 ⟨nv, ev, rfl, hg1, hr⟩
  have HG1 := Lib.hid (grown_trans HGA.out hg1)
  have HR := Lib.hid hr
  clear hr hg1 HCA
  rcases HR.out with ⟨rfl, hok, hnin⟩ | ⟨⟨q, rfl⟩, hno⟩
  · have HOK := Lib.hid hok
    have HUN := Lib.hid (hasUnk_any w1 _ T nv hnin 1 hok.1)
    have HF := Lib.hid (faulty_nil w1)
    clear HR hok hnin
    go_wp2_with fail
    refine HF.out.mono ?_
    rintro e w2 ⟨rfl, hg2⟩
    have HG2 := Lib.hid (grown_trans HG1.out hg2)
    have HU2 := Lib.hid (HUN.out w2 hg2)
    clear hg2 HF HUN
    go_wp2_with fail
    refine HU2.out.mono ?_
    rintro e w3 ⟨⟨b, rfl, hb⟩, hg3⟩
    have HG3 := Lib.hid (grown_trans HG2.out hg3)
    have HB := Lib.hid hb
    clear hb hg3 HU2
    cases b
    · have HD := Lib.hid (show Says (.returned (.bool true)) (KnownT T) from .yes ⟨HOK.out, Classical.byContradiction fun hh => by have := HB.out.2 hh; cases this⟩)
      go_wp2
      go_ret
      exact ⟨HD.out, HG3.out⟩
    · have HD := Lib.hid (show Says (.returned (.bool false)) (KnownT T) from .no (fun h => HB.out.1 rfl h.2))
      go_wp2
      go_ret
      exact ⟨HD.out, HG3.out⟩
  · have HD := Lib.hid (show Says (.returned (.bool false)) (KnownT T) from .no (fun h => hno h.1))
    have HF := Lib.hid (faulty_hit w1 (HT.out.grown HG1.out) q)
    clear HR hno
    go_wp2_with fail
    refine HF.out.mono ?_
    rintro e w2 ⟨rfl, hg2⟩
    have HG2 := Lib.hid (grown_trans HG1.out hg2)
    clear hg2 HF
    go_wp2
    go_ret
    exact ⟨HD.out, HG2.out⟩

set_option maxRecDepth 100000 in
set_option maxHeartbeats 1000000 in
theorem specKnown_any (w : World) (base : Nat) (T : VT) (cs : List Value) (h : VIn w base T cs) (hbu : bulk T ≤ 1048576) : Calls Tryd.prog 12 #[.agg cs.toArray] w fun e w' => Says e (KnownT T) ∧ w.grownBy w' none := by
  have HV := Lib.hid h
  obtain ⟨s, n, t, an, ln, cn, ak, lk, ck, hcs⟩ := h.shape
  subst hcs
  clear h
  have HGA := Lib.hid (show w.grownBy (w.alloc (Obj.cells #[Value.int .i64 s, .int .i64 n, .string t, .slice an ln cn, .slice ak lk ck] 26)) none from grown_alloc (grown_refl _ _) _)
  have HBA := Lib.hid (Blk.new w 26 [.int .i64 s, .int .i64 n, .string t, .slice an ln cn, .slice ak lk ck])
  have HOK := Lib.hid (specOk_any _ base T _ (HV.out.grown HGA.out) hbu)
  have HKN := Lib.hid (knownS_any w base T _ HV.out hbu)
  clear hbu
  go_enter Tryd.func12, Tryd.ntmps12
  go_wp2_with fail
  refine HOK.out.mono ?_
  rintro e w1 ⟨⟨b, rfl, hb⟩, hg1⟩
  have HG1 := Lib.hid (grown_trans HGA.out hg1)
  have HB1 := Lib.hid (HBA.out.kept hg1 (by simp))
  have d0 : w1.cell? ⟨w.heap.size, 0, none⟩ = some (.int .i64 s) := HB1.out.cell rfl
  have d1 : w1.cell? ⟨w.heap.size, 1, none⟩ = some (.int .i64 n) := HB1.out.cell rfl
  have d2 : w1.cell? ⟨w.heap.size, 2, none⟩ = some (.string t) := HB1.out.cell rfl
  have d3 : w1.cell? ⟨w.heap.size, 3, none⟩ = some (.slice an ln cn) := HB1.out.cell rfl
  have d4 : w1.cell? ⟨w.heap.size, 4, none⟩ = some (.slice ak lk ck) := HB1.out.cell rfl
  have HB := Lib.hid hb
  clear hb hg1 HOK
  cases b
  · have HD := Lib.hid (show Says (.returned (.bool false)) (KnownT T) from .no (fun h => by have := HB.out.2 h.1; cases this))
    go_wp2
    go_ret
    exact ⟨HD.out, HG1.out⟩
  go_wp2_with fail
  refine (HKN.out w1 HG1.out).mono ?_
  rintro e w2 ⟨⟨b2, rfl, hb2⟩, hg2⟩
  have HG2 := Lib.hid (grown_trans HG1.out hg2)
  have HD := Lib.hid (show Says (.returned (.bool b2)) (KnownT T) from ⟨b2, rfl, by rw [hb2]; exact ⟨fun h => ⟨HB.out.1 (by simp), h⟩, fun h => h.2⟩⟩)
  clear hb2 hg2 HKN d0 d1 d2 d3 d4
  go_wp2
  go_ret
  exact ⟨HD.out, HG2.out⟩
end Go.Proofs.YtgmigloafcejdaaDoor
