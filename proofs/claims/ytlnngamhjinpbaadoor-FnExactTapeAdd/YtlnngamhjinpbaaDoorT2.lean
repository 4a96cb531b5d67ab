/- A record more on a tape, by the program. -/
import Derived.Test.YtlnngamhjinpbaaDoorT1
import Derived.Test.YtlnngamhjinpbaaDoorP4
namespace Go.Proofs.YtlnngamhjinpbaaDoor
open Go.RowKit

/-- what may be added -/
def AddB (ss ls : List ByteArray) (r : ByteArray) : Bool := decide (r.size ≤ 2000) && decide (ss.length + ls.length < 220)

set_option maxRecDepth 100000 in
set_option maxHeartbeats 2000000 in
theorem iadd_no (w : World) (a1 a2 : Option Addr) (c1 c2 : Nat) (ss ls : List ByteArray) (r : ByteArray) (n1 : ss.length ≤ 1048576) (n2 : ls.length ≤ 1048576) (hb : AddB ss ls r = false) :
    Calls Tryd.prog 11 #[.agg #[.slice a1 ss.length c1, .slice a2 ls.length c2], .string r] w fun e w' => e = .returned (.tuple #[.agg #[.slice none 0 0, .slice none 0 0], .bool false]) ∧ w.grownBy w' none := by
  obtain ⟨W, hWe⟩ : ∃ W, ((w.alloc (Obj.cells #[Value.slice a1 ss.length c1, .slice a2 ls.length c2] 26)).alloc (Obj.cells #[Value.slice none 0 0, .slice none 0 0] 26)) = W := ⟨_, rfl⟩
  have HG := Lib.hid (show w.grownBy W none from by rw [← hWe]; exact grown_alloc (grown_alloc (grown_refl _ _) _) _)
  have HBR := Lib.hid (show Blk W (w.heap.size + 1) 26 [Value.slice none 0 0, .slice none 0 0] from by
    rw [← hWe]
    have := Blk.new (w.alloc (Obj.cells #[Value.slice a1 ss.length c1, .slice a2 ls.length c2] 26)) 26 [Value.slice none 0 0, .slice none 0 0]
    simpa using this)
  have HW := Lib.hid hWe
  have hcase : ¬ r.size ≤ 2000 ∨ (r.size ≤ 2000 ∧ ¬ ss.length + ls.length < 220) := by
    unfold AddB at hb
    by_cases h : r.size ≤ 2000
    · right; refine ⟨h, ?_⟩; simpa [h] using hb
    · exact .inl h
  clear hb hWe
  rcases hcase with h | ⟨h, h2⟩
  · have hI : (2000 : Int) < r.size := by omega
    go_enter Tryd.func11, Tryd.ntmps11
    go_wp2
    rw [HW.out]
    exact ⟨rfl, _, results_blk Tryd.results11 _ _ (w.heap.size + 1) 26 _ _ _ HBR.out Tryd.underlying26 rfl info26 rfl rfl, rfl, HG.out⟩
  · have hI : ¬ (2000 : Int) < r.size := by omega
    have h2I : (220 : Int) ≤ (ss.length : Int) + (ls.length : Int) := by omega
    go_enter Tryd.func11, Tryd.ntmps11
    go_wp2
    rw [HW.out]
    exact ⟨rfl, _, results_blk Tryd.results11 _ _ (w.heap.size + 1) 26 _ _ _ HBR.out Tryd.underlying26 rfl info26 rfl rfl, rfl, HG.out⟩

set_option maxRecDepth 100000 in
set_option maxHeartbeats 4000000 in
theorem iadd_yes (w : World) (hw : Tabs w) (hp : Pow w) (b1 b2 : Nat) (a1 a2 : Option Addr) (c1 c2 : Nat) (ss ls : List ByteArray) (r : ByteArray) (h1 : Lies w b1 a1 ss) (h2 : Lies w b2 a2 ls) (n1 : ss.length ≤ 1048576) (n2 : ls.length ≤ 1048576) (z1 : ∀ s ∈ ss, s.size ≤ 1048576) (z2 : ∀ s ∈ ls, s.size ≤ 1048576) (hb : AddB ss ls r = true) :
    Calls Tryd.prog 11 #[.agg #[.slice a1 ss.length c1, .slice a2 ls.length c2], .string r] w fun e w' => ∃ v1 v2, e = .returned (.tuple #[.agg #[v1, v2], .bool true]) ∧ Row w' w.heap.size v1 (strs ss) ∧ Row w' w.heap.size v2 (strs (ls ++ [pieceT r])) ∧ (∀ q, v1.ownBlock = some q → v2.ownBlock ≠ some q) ∧ w.grownBy w' none := by
  obtain ⟨hr, hlen⟩ : r.size ≤ 2000 ∧ ss.length + ls.length < 220 := by unfold AddB at hb; simpa using hb
  obtain ⟨W, hWe⟩ : ∃ W, ((w.alloc (Obj.cells #[Value.slice a1 ss.length c1, .slice a2 ls.length c2] 26)).alloc (Obj.cells #[Value.slice none 0 0, .slice none 0 0] 26)) = W := ⟨_, rfl⟩
  have HG := Lib.hid (show w.grownBy W none from by rw [← hWe]; exact grown_alloc (grown_alloc (grown_refl _ _) _) _)
  have HX := Lib.hid (show Blk W w.heap.size 26 [Value.slice a1 ss.length c1, .slice a2 ls.length c2] from by rw [← hWe]; exact (Blk.new w 26 _).alloc _)
  have HBR := Lib.hid (show Blk W (w.heap.size + 1) 26 [Value.slice none 0 0, .slice none 0 0] from by
    rw [← hWe]
    have := Blk.new (w.alloc (Obj.cells #[Value.slice a1 ss.length c1, .slice a2 ls.length c2] 26)) 26 [Value.slice none 0 0, .slice none 0 0]
    simpa using this)
  have HW := Lib.hid hWe
  have HT := Lib.hid hw
  have HP := Lib.hid hp
  have HL1 := Lib.hid h1
  have HL2 := Lib.hid h2
  have HZ1 := Lib.hid z1
  have HZ2 := Lib.hid z2
  have HSW := Lib.hid (show w.heap.size + 1 < W.heap.size from HBR.out.lt)
  obtain ⟨i9, hi9, hz0, hz1, hz2⟩ := info_parts info9g
  have hrI : ¬ (2000 : Int) < r.size := by omega
  have hlI : ¬ (220 : Int) ≤ (ss.length : Int) + (ls.length : Int) := by omega
  clear hb hWe hw hp h1 h2 z1 z2
  go_enter Tryd.func11, Tryd.ntmps11
  go_wp2
  rw [HW.out]
  clear HW
  obtain ⟨B, hB⟩ : ∃ B, w.heap.size = B := ⟨_, rfl⟩
  rw [hB] at HX HBR HSW ⊢
  obtain ⟨p, hpe⟩ : ∃ p, pieceT r = p := ⟨_, rfl⟩
  have HPE := Lib.hid hpe
  have HPR := Lib.hid (fun (V : World) (hV : w.grownBy V none) => show Calls Tryd.prog 34 #[.string r] V fun e w' => e = .returned (.string p) ∧ V.grownBy w' none from by rw [← hpe]; exact ipiece_any V (HT.out.grown hV) (HP.out.grown hV) r (by omega))
  have HPS := Lib.hid (show p.size ≤ 1048576 from by rw [← hpe]; have := pieceT_size r (by omega); omega)
  clear hpe
  have HBE := Lib.hid (show w.heap.size ≤ B ∧ B = w.heap.size from ⟨by omega, by omega⟩)
  clear hB
  have HNE := Lib.hid (show some B ≠ some (B + 1) from by simp)
  have HCO := Lib.hid (fun (b : Nat) (a : Option Addr) (c : Nat) (xs : List ByteArray) (hx : Lies w b a xs) (hn : xs.length ≤ 2097152) (hz : ∀ s ∈ xs, s.size ≤ 1048576) (V : World) (hV : V.cell? ⟨B, 0, none⟩ = some (.slice a1 ss.length c1) ∧ V.cell? ⟨B, 1, none⟩ = some (.slice a2 ls.length c2) ∧ w.grownBy V none) => (copied_any V b a c xs (hx.kept hV.2.2 (fun q e => by cases e)) hn hz).mono (R' := fun e w' => ∃ v, e = .returned v ∧ (w'.cell? ⟨B, 0, none⟩ = some (.slice a1 ss.length c1) ∧ w'.cell? ⟨B, 1, none⟩ = some (.slice a2 ls.length c2) ∧ w.grownBy w' none) ∧ Row w' V.heap.size v (strs xs) ∧ V.grownBy w' none) (fun e w' q => by
    obtain ⟨v, e1, e2, e3⟩ := q
    exact ⟨v, e1, ⟨e3.cell hV.1 (by simp), e3.cell hV.2.1 (by simp), grown_trans hV.2.2 e3⟩, e2, e3⟩))
  have HPI := Lib.hid (fun (V : World) (hV : V.cell? ⟨B, 0, none⟩ = some (.slice a1 ss.length c1) ∧ V.cell? ⟨B, 1, none⟩ = some (.slice a2 ls.length c2) ∧ w.grownBy V none) => (HPR.out V hV.2.2).mono (R' := fun e w' => e = .returned (.string p) ∧ (w'.cell? ⟨B, 0, none⟩ = some (.slice a1 ss.length c1) ∧ w'.cell? ⟨B, 1, none⟩ = some (.slice a2 ls.length c2) ∧ w.grownBy w' none) ∧ V.grownBy w' none) (fun e w' q => ⟨q.1, ⟨q.2.cell hV.1 (by simp), q.2.cell hV.2.1 (by simp), grown_trans hV.2.2 q.2⟩, q.2⟩))
  clear HPR
  go_region_held3 (fun w' => w'.cell? ⟨B, 0, none⟩ = some (.slice a1 ss.length c1) ∧ w'.cell? ⟨B, 1, none⟩ = some (.slice a2 ls.length c2) ∧ w.grownBy w' none)
    (first | assumption | exact ⟨HX.out.cell rfl, HX.out.cell rfl, grown_drew HG.out⟩ | exact ⟨(World.grownBy_alloc _ _ none).cell hS3.1 (by simp), (World.grownBy_alloc _ _ none).cell hS3.2.1 (by simp), grown_alloc hS3.2.2 _⟩ | exact hS5 | exact hS6)
    (first
      | (go_at_call 33; (with_reducible refine (HCO.out b1 a1 c1 ss HL1.out (by omega) HZ1.out _ (by assumption)).mono ?_); rintro e w1 ⟨v1, rfl, hS1, hr1, hg1⟩; have HG1 := Lib.hid hg1; have HR1 := Lib.hid hr1; have HB1 := Lib.hid ((show Blk W.drew (B + 1) 26 [Value.slice none 0 0, .slice none 0 0] from HBR.out).kept hg1 (by simp)); obtain ⟨an1, cn1, rfl, -⟩ := hr1.lies; clear hr1 hg1)
      | (go_at_call 33; (with_reducible refine (HCO.out b2 a2 c2 ls HL2.out (by omega) HZ2.out _ (by assumption)).mono ?_); rintro e w2 ⟨v2, rfl, hS2, hr2, hg2⟩; have HG2 := Lib.hid hg2; have HR2 := Lib.hid hr2; have HR12 := Lib.hid (HR1.out.kept hg2 (by simp)); have HB2 := Lib.hid (HB1.out.kept hg2 (by simp)); have HD2 := Lib.hid (show ∀ q, (Value.slice an1 ss.length cn1).ownBlock = some q → q < w1.heap.size from fun q hq => (HR1.out.lt q hq).2); obtain ⟨an2, cn2, rfl, -⟩ := hr2.lies; clear hr2 hg2)
      | (go_at_call 34; (with_reducible refine (HPI.out _ (by assumption)).mono ?_); rintro e w3 ⟨rfl, hS3, hg3⟩; have HG3 := Lib.hid hg3; have HR13 := Lib.hid (HR12.out.kept hg3 (by simp)); have HR23 := Lib.hid (HR2.out.kept hg3 (by simp)); have HB3 := Lib.hid (HB2.out.kept hg3 (by simp)); clear hg3)
      | (refine step_append_row2 rfl _ _ 22 rfl 9 i9 (.string ⟨#[]⟩) 16 Tryd.underlying22 hi9 hz0 hz1 hz2 rfl w1.heap.size (.slice an2 ls.length cn2) (strs ls) rfl (HR23.out.kept (World.grownBy_alloc _ _ none) (by simp)) ⟨_, 0, none⟩ 1 1 (strs [p]) rfl rfl (news_new _ 9 (strs [p])) (strs_one _) (by rw [strs_len]; unfold maxLen; omega) (by rw [strs_len]; omega) (by have h1 := HG2.out.size; have h2 := HG3.out.size; simp; omega) ?_; intro v5 w5 HR5 HG5 HO5; have hr5 := HR5.out; rw [show strs ls ++ strs [p] = strs (ls ++ [p]) from by simp [strs]] at hr5; have HR5' := Lib.hid hr5; have HQ5 := Lib.hid (show ∀ q, (Value.slice an2 ls.length cn2).ownBlock = some q → w1.heap.size ≤ q from fun q hq => (HR2.out.lt q hq).1); have HS5 := Lib.hid (show w5.cell? ⟨B, 0, none⟩ = some (.slice a1 ss.length c1) ∧ w5.cell? ⟨B, 1, none⟩ = some (.slice a2 ls.length c2) ∧ w.grownBy w5 none from ⟨HG5.out.cell ((World.grownBy_alloc w3 _ none).cell hS3.1 (by simp)) (fun e => by have h1 := HQ5.out B e.symm; have h2 := HG1.out.size; have h3 : W.drew.heap.size = W.heap.size := rfl; have h4 := HSW.out; omega), HG5.out.cell ((World.grownBy_alloc w3 _ none).cell hS3.2.1 (by simp)) (fun e => by have h1 := HQ5.out B e.symm; have h2 := HG1.out.size; have h3 : W.drew.heap.size = W.heap.size := rfl; have h4 := HSW.out; omega), grown_own (grown_alloc hS3.2.2 _) HG5.out (fun q hq => by have h1 := HQ5.out q hq; have h2 := HG1.out.size; have h3 : W.drew.heap.size = W.heap.size := rfl; have h4 := HSW.out; have h5 := HBE.out; omega)⟩); have hS5 := HS5.out; have HR15 := Lib.hid ((HR13.out.kept (World.grownBy_alloc w3 _ none) (by simp)).kept HG5.out (fun q hq e => by have h1 := HQ5.out q e.symm; have h2 := HD2.out q hq; omega)); have HB5 := Lib.hid ((HB3.out.kept (World.grownBy_alloc w3 _ none) (by simp)).kept HG5.out (fun e => by have h1 := HQ5.out _ e.symm; have h2 := HG1.out.size; have h3 : W.drew.heap.size = W.heap.size := rfl; have h4 := HSW.out; omega)); obtain ⟨an5, cn5, hv5, -⟩ := hr5.lies; rw [show (ls ++ [p]).length = ls.length + 1 from by simp] at hv5; subst hv5; have e0 : w5.cell? ⟨B + 1, 0, none⟩ = some (.slice none 0 0) := HB5.out.cell rfl; have e1 : w5.cell? ⟨B + 1, 1, none⟩ = some (.slice none 0 0) := HB5.out.cell rfl; have f0 := HB5.out.frozen 0; have f1 := HB5.out.frozen 1; have HGS := Lib.hid (grown_set (grown_set (grown_refl w5 (some (B + 1))) 0 (.slice an1 ss.length cn1)) 1 (.slice an5 (ls.length + 1) cn5)); have hS6 := And.intro (HGS.out.cell HS5.out.1 HNE.out) (And.intro (HGS.out.cell HS5.out.2.1 HNE.out) (grown_into (row := none) HS5.out.2.2 HGS.out (by have h5 := HBE.out; omega))); clear hr5))
  all_goals
    go_wp2
    have hbf := (HB5.out.set 0 (.slice an1 ss.length cn1)).set 1 (.slice an5 (ls.length + 1) cn5)
    have hr1f := HR15.out.kept HGS.out (fun q hq e => by have h1 := (HR1.out.lt q hq).1; have h3 : W.drew.heap.size = W.heap.size := rfl; have h4 := HSW.out; have h6 := Option.some.inj e; omega)
    have hr2f := HR5'.out.kept HGS.out (fun q hq e => by have h1 := (HR5'.out.lt q hq).1; have h2 := HG1.out.size; have h3 : W.drew.heap.size = W.heap.size := rfl; have h4 := HSW.out; have h6 := Option.some.inj e; omega)
    refine ⟨rfl, _, results_blk Tryd.results11 _ _ (B + 1) 26 _ _ _ hbf Tryd.underlying26 rfl info26 rfl rfl, _, _, rfl, hr1f.base (by have h3 : W.drew.heap.size = W.heap.size := rfl; have h4 := HSW.out; have h5 := HBE.out; omega), ?_, ?_, hS6.2.2⟩
    · rw [HPE.out]
      exact hr2f.base (by have h2 := HG1.out.size; have h3 : W.drew.heap.size = W.heap.size := rfl; have h4 := HSW.out; have h5 := HBE.out; omega)
    · intro q hq hq2
      have h1 := HD2.out q hq
      have h2 := (HR5'.out.lt q hq2).1
      omega
end Go.Proofs.YtlnngamhjinpbaaDoor
