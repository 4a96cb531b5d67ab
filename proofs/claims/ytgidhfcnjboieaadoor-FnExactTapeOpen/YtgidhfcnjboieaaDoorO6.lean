/- Tapes marked, and asked for their marks, from whatever number on. -/
import Derived.Test.YtgidhfcnjboieaaDoorP9
namespace Go.Proofs.YtgidhfcnjboieaaDoor
open Go.RowKit

set_option maxRecDepth 100000 in
set_option maxHeartbeats 1000000 in
theorem markTape_k {k : Nat} (w : World) (base : Nat) (a1 a2 : Option Addr) (c1 c2 : Nat) (s1 s2 : List ByteArray) (h1 : Row w base (.slice a1 s1.length c1) (strs s1)) (h2 : Row w base (.slice a2 s2.length c2) (strs s2)) (hne : ∀ q, (Value.slice a1 s1.length c1).ownBlock = some q → (Value.slice a2 s2.length c2).ownBlock ≠ some q) (n1 : s1.length ≤ 1048576) (n2 : s2.length ≤ 1048576) (hk : 0 < k) (hkb : k ≤ 2097152) :
    Calls Tryd.prog 15 #[.agg #[.slice a1 s1.length c1, .slice a2 s2.length c2], .int .i64 (k : Int)] w fun e w' => e = .returned (.int .i64 ((k + s1.length + s2.length : Nat) : Int)) ∧ Row w' base (.slice a1 s1.length c1) (strs (marks k s1.length)) ∧ Row w' base (.slice a2 s2.length c2) (strs (marks (k + s1.length) s2.length)) ∧ Fr w w' (Own2 (.slice a1 s1.length c1) (.slice a2 s2.length c2)) := by
  have HGA := Lib.hid (show w.grownBy (w.alloc (Obj.cells #[Value.slice a1 s1.length c1, .slice a2 s2.length c2] 25)) none from grown_alloc (grown_refl _ _) _)
  have HBA := Lib.hid (Blk.new w 25 [Value.slice a1 s1.length c1, .slice a2 s2.length c2])
  have HL1 := Lib.hid h1.lt
  have HL2 := Lib.hid h2.lt
  have HM1 := Lib.hid (markS_any (w.alloc (Obj.cells #[Value.slice a1 s1.length c1, .slice a2 s2.length c2] 25)) base (.slice a1 s1.length c1) s1 (h1.alloc _) n1 k hk (by omega))
  have H2 := Lib.hid h2
  have HNE := Lib.hid hne
  clear h1 h2 hne
  go_enter Tryd.func15, Tryd.ntmps15
  go_wp2_with fail
  refine HM1.out.mono ?_
  rintro e w1 ⟨rfl, hr1, hg1⟩
  have HR1 := Lib.hid hr1
  have HG1 := Lib.hid hg1
  have d1 : w1.cell? ⟨w.heap.size, 1, none⟩ = some (.slice a2 s2.length c2) := (HBA.out.kept hg1 (fun e => by have := (HL1.out _ e.symm).2; omega)).cell rfl
  have HM2 := Lib.hid (markS_any w1 base (.slice a2 s2.length c2) s2 (((H2.out.alloc _).kept hg1 (fun q hq e => HNE.out q e.symm hq))) n2 (k + s1.length) (by omega) (by omega))
  clear hr1 hg1 HM1
  go_wp2_with fail
  refine HM2.out.mono ?_
  rintro e w2 ⟨rfl, hr2, hg2⟩
  have HRF := Lib.hid (show Row w2 base (.slice a1 s1.length c1) (strs (marks k s1.length)) ∧ Row w2 base (.slice a2 s2.length c2) (strs (marks (k + s1.length) s2.length)) ∧ Fr w w2 (Own2 (.slice a1 s1.length c1) (.slice a2 s2.length c2)) from
    ⟨HR1.out.kept hg2 (fun q hq e => HNE.out q hq e.symm), hr2, (Fr.of_grown HGA.out (fun q e => by cases e)).trans ((Fr.of_grown HG1.out (fun q hq => .inl hq)).trans (Fr.of_grown hg2 (fun q hq => .inr hq)))⟩)
  clear hr2 hg2 HM2 d1
  go_wp2
  go_ret
  exact ⟨rfl, HRF.out⟩

set_option maxRecDepth 100000 in
set_option maxHeartbeats 1000000 in
theorem heldTape_k {k : Nat} (w : World) (base : Nat) (a1 a2 : Option Addr) (l1 l2 c1 c2 n1 n2 : Nat) (h1 : Row w base (.slice a1 l1 c1) (strs (marks k n1))) (h2 : Row w base (.slice a2 l2 c2) (strs (marks (k + n1) n2))) (hn1 : n1 ≤ 1048576) (hn2 : n2 ≤ 1048576) (hk : 0 < k) (hkb : k ≤ 2097152) :
    Calls Tryd.prog 18 #[.agg #[.slice a1 l1 c1, .slice a2 l2 c2], .int .i64 (k : Int)] w fun e w' => e = .returned (.int .i64 ((k + n1 + n2 : Nat) : Int)) ∧ w.grownBy w' none := by
  have HGA := Lib.hid (show w.grownBy (w.alloc (Obj.cells #[Value.slice a1 l1 c1, .slice a2 l2 c2] 25)) none from grown_alloc (grown_refl _ _) _)
  have HBA := Lib.hid (Blk.new w 25 [Value.slice a1 l1 c1, .slice a2 l2 c2])
  have HM1 := Lib.hid (heldS_any (w.alloc (Obj.cells #[Value.slice a1 l1 c1, .slice a2 l2 c2] 25)) base (.slice a1 l1 c1) n1 k (h1.alloc _) hn1 hk (by omega))
  have H2 := Lib.hid h2
  clear h1 h2
  go_enter Tryd.func18, Tryd.ntmps18
  go_wp2_with fail
  refine HM1.out.mono ?_
  rintro e w1 ⟨rfl, hg1⟩
  have HG1 := Lib.hid (grown_trans HGA.out hg1)
  have d1 : w1.cell? ⟨w.heap.size, 1, none⟩ = some (.slice a2 l2 c2) := (HBA.out.kept hg1 (by simp)).cell rfl
  have HM2 := Lib.hid (heldS_any w1 base (.slice a2 l2 c2) n2 (k + n1) (H2.out.kept HG1.out (by simp)) hn2 (by omega) (by omega))
  have q1 : ¬ ((k + n1 : Nat) : Int) < 0 := by omega
  have q2 : ¬ ((k + n1 + n2 : Nat) : Int) < 0 := by omega
  obtain ⟨K1, hK1⟩ : ∃ K, K = k + n1 := ⟨_, rfl⟩
  have HK1 := Lib.hid hK1
  rw [← hK1] at HM2 q1 q2 ⊢
  clear hK1
  clear hg1 HM1
  go_wp2_with fail
  refine HM2.out.mono ?_
  rintro e w2 ⟨rfl, hg2⟩
  have HG2 := Lib.hid (grown_trans HG1.out hg2)
  obtain ⟨K2, hK2⟩ : ∃ K, K = K1 + n2 := ⟨_, rfl⟩
  have HK2 := Lib.hid hK2
  rw [← hK2] at q2 ⊢
  clear hK2
  clear hg2 HM2 d1
  go_wp2
  go_ret
  exact ⟨by rw [show k + n1 + n2 = K2 from by rw [HK2.out, HK1.out]]; rfl, HG2.out⟩
theorem markS_fr (w : World) (base : Nat) (v : Value) (ss : List ByteArray) (h : Row w base v (strs ss)) (hn : ss.length ≤ 1048576) (k : Nat) (hk : 0 < k) (hkb : k ≤ 549755813888) :
    Calls Tryd.prog 16 #[v, .int .i64 (k : Int)] w fun e w' => e = .returned (.int .i64 ((k + ss.length : Nat) : Int)) ∧ Row w' base v (strs (marks k ss.length)) ∧ Fr w w' (fun q => v.ownBlock = some q) :=
  (markS_any w base v ss h hn k hk hkb).mono fun _ _ q => ⟨q.1, q.2.1, Fr.of_grown q.2.2 (fun _ hq => hq)⟩
end Go.Proofs.YtgidhfcnjboieaaDoor
