/- A tape copied by the document. -/
import Derived.Test.YtlnngamhjinpbaaDoorT2
namespace Go.Proofs.YtlnngamhjinpbaaDoor
open Go.RowKit

theorem Row.empty {w : World} {base g : Nat} (h1 : base ≤ g) (h2 : g < w.heap.size) : Row w base (.slice (some ⟨g, 0, none⟩) 0 0) (strs []) :=
  .inr ⟨g, 0, rfl, h1, h2, Nat.le_refl _, fun _ hj => absurd hj (Nat.not_lt_zero _), fun _ hj => absurd hj (Nat.not_lt_zero _)⟩

/-- two cells of a block, nothing of the beginning changed, and a result that is nothing yet -/
def TwoIn (w : World) (B : Nat) (x y : Value) (V : World) : Prop := (V.cell? ⟨B, 0, none⟩ = some x ∧ V.cell? ⟨B, 1, none⟩ = some y ∧ w.grownBy V none) ∧ Blk V (B + 1) 26 [Value.slice none 0 0, .slice none 0 0]
theorem TwoIn.alloc {w V : World} {B : Nat} {x y : Value} (h : TwoIn w B x y V) (o : Obj) : TwoIn w B x y (V.alloc o) :=
  ⟨⟨(World.grownBy_alloc V o none).cell h.1.1 (by simp), (World.grownBy_alloc V o none).cell h.1.2.1 (by simp), grown_alloc h.1.2.2 o⟩, h.2.alloc o⟩
theorem TwoIn.own {w V V' : World} {B : Nat} {x y : Value} (h : TwoIn w B x y V) {r : Option Nat} (hg : V.grownBy V' r) (hr : ∀ q, r = some q → B + 1 < q ∧ w.heap.size ≤ q) : TwoIn w B x y V' :=
  ⟨⟨hg.cell h.1.1 (fun e => by have := (hr B e.symm).1; omega), hg.cell h.1.2.1 (fun e => by have := (hr B e.symm).1; omega), grown_own h.1.2.2 hg (fun q hq => (hr q hq).2)⟩, h.2.kept hg (fun e => by have := (hr (B + 1) e.symm).1; omega)⟩

set_option maxRecDepth 100000 in
set_option maxHeartbeats 4000000 in
theorem scopy_any (w : World) (gs cs gl cl : Nat) (ss ls : List ByteArray) (hs : At w ⟨gs, 0, none⟩ ss) (hl : At w ⟨gl, 0, none⟩ ls) (n1 : ss.length ≤ 1048576) (n2 : ls.length ≤ 1048576) :
    Calls Tryd.prog 30 #[.agg #[.slice (some ⟨gs, 0, none⟩) ss.length cs, .slice (some ⟨gl, 0, none⟩) ls.length cl]] w fun e w' => ∃ v1 v2, e = .returned (.agg #[v1, v2]) ∧ Row w' w.heap.size v1 (strs ss) ∧ Row w' w.heap.size v2 (strs ls) ∧ (∀ q, v1.ownBlock = some q → v2.ownBlock ≠ some q) ∧ w.grownBy w' none := by
  obtain ⟨W, hWe⟩ : ∃ W, ((w.alloc (Obj.cells #[Value.slice (some ⟨gs, 0, none⟩) ss.length cs, .slice (some ⟨gl, 0, none⟩) ls.length cl] 26)).alloc (Obj.cells #[Value.slice none 0 0, .slice none 0 0] 26)) = W := ⟨_, rfl⟩
  have HG := Lib.hid (show w.grownBy W none from by rw [← hWe]; exact grown_alloc (grown_alloc (grown_refl _ _) _) _)
  have HX := Lib.hid (show Blk W w.heap.size 26 [Value.slice (some ⟨gs, 0, none⟩) ss.length cs, .slice (some ⟨gl, 0, none⟩) ls.length cl] from by rw [← hWe]; exact (Blk.new w 26 _).alloc _)
  have HBR := Lib.hid (show Blk W (w.heap.size + 1) 26 [Value.slice none 0 0, .slice none 0 0] from by
    rw [← hWe]
    have := Blk.new (w.alloc (Obj.cells #[Value.slice (some ⟨gs, 0, none⟩) ss.length cs, .slice (some ⟨gl, 0, none⟩) ls.length cl] 26)) 26 [Value.slice none 0 0, .slice none 0 0]
    simpa using this)
  have HW := Lib.hid hWe
  have hsw : W.heap.size = w.heap.size + 2 := by rw [← hWe]; simp
  have HL1 := Lib.hid hs
  have HL2 := Lib.hid hl
  obtain ⟨i9, hi9, hz0, hz1, hz2⟩ := info_parts info9g
  clear hWe hs hl
  go_enter Tryd.func30, Tryd.ntmps30
  go_wp2
  rw [HW.out]
  clear HW
  obtain ⟨B, hB⟩ : ∃ B, w.heap.size = B := ⟨_, rfl⟩
  rw [hB] at HX HBR hsw ⊢
  have HBE := Lib.hid hB
  have HSD := Lib.hid hsw
  have HS0 := Lib.hid (show TwoIn w B (.slice (some ⟨gs, 0, none⟩) ss.length cs) (.slice (some ⟨gl, 0, none⟩) ls.length cl) W.drew from ⟨⟨HX.out.cell rfl, HX.out.cell rfl, grown_drew HG.out⟩, HBR.out⟩)
  clear hB hsw HBR HX HG
  go_region_held3 (fun w' => w'.cell? ⟨B, 0, none⟩ = some (.slice (some ⟨gs, 0, none⟩) ss.length cs) ∧ w'.cell? ⟨B, 1, none⟩ = some (.slice (some ⟨gl, 0, none⟩) ls.length cl) ∧ w.grownBy w' none)
    (first | assumption | exact HS0.out.1 | exact (HS0.out.alloc _).1 | exact ((HS0.out.alloc _).alloc _).1 | exact HS6.out.1 | exact (HS6.out.alloc _).1 | exact HS10.out.1 | exact HS11.out)
    (first
      | (refine step_append_row2 rfl _ _ 22 rfl 9 i9 (.string ⟨#[]⟩) 16 Tryd.underlying22 hi9 hz0 hz1 hz2 rfl (B + 2) _ (strs []) rfl (Row.empty (by have := HSD.out; simp <;> omega) (by have := HSD.out; simp <;> omega)) ⟨gs, 0, none⟩ ss.length cs (strs ss) rfl (strs_len _) (by first | exact HL1.out.kept HS0.out.1.2.2 (by simp) | exact HL1.out.kept (HS0.out.alloc _).1.2.2 (by simp) | exact HL1.out.kept ((HS0.out.alloc _).alloc _).1.2.2 (by simp)) (strs_one _) (by rw [strs_len]; show 0 + ss.length ≤ maxLen; unfold maxLen; omega) (by rw [strs_len]; show (0 + ss.length) * 16 ≤ _; omega) (by have := HSD.out; simp <;> omega) ?_; intro v6 w6 HR6 HG6 HO6; have hr6 := HR6.out; rw [show strs [] ++ strs ss = strs ss from rfl] at hr6; have HR6' := Lib.hid hr6; have HS6 := Lib.hid (show TwoIn w B (.slice (some ⟨gs, 0, none⟩) ss.length cs) (.slice (some ⟨gl, 0, none⟩) ls.length cl) w6 from (by first | exact (HS0.out.alloc _).own HG6.out (fun q hq => by have e := Option.some.inj hq; have h1 := HSD.out; have h2 := HBE.out; simp at e; omega) | exact ((HS0.out.alloc _).alloc _).own HG6.out (fun q hq => by have e := Option.some.inj hq; have h1 := HSD.out; have h2 := HBE.out; simp at e; omega))); obtain ⟨an1, cn1, rfl, -⟩ := hr6.lies; clear hr6)
      | (refine step_append_row2 rfl _ _ 22 rfl 9 i9 (.string ⟨#[]⟩) 16 Tryd.underlying22 hi9 hz0 hz1 hz2 rfl (B + 2) _ (strs []) rfl (Row.empty (by have := HSD.out; have h2 := HG6.out.size; simp at h2 ⊢; try omega) (by have := HSD.out; have h2 := HG6.out.size; simp at h2 ⊢; try omega)) ⟨gl, 0, none⟩ ls.length cl (strs ls) rfl (strs_len _) (by first | exact HL2.out.kept HS6.out.1.2.2 (by simp) | exact HL2.out.kept (HS6.out.alloc _).1.2.2 (by simp)) (strs_one _) (by rw [strs_len]; show 0 + ls.length ≤ maxLen; unfold maxLen; omega) (by rw [strs_len]; show (0 + ls.length) * 16 ≤ _; omega) (by have := HSD.out; have h2 := HG6.out.size; simp at h2 ⊢; try omega) ?_; intro v10 w10 HR10 HG10 HO10; have hr10 := HR10.out; rw [show strs [] ++ strs ls = strs ls from rfl] at hr10; have HR10' := Lib.hid hr10; have HS10 := Lib.hid (show TwoIn w B (.slice (some ⟨gs, 0, none⟩) ss.length cs) (.slice (some ⟨gl, 0, none⟩) ls.length cl) w10 from (by first | exact HS6.out.own HG10.out (fun q hq => by have e := Option.some.inj hq; have h1 := HSD.out; have h2 := HBE.out; have h3 := HG6.out.size; simp at e h3; omega) | exact (HS6.out.alloc _).own HG10.out (fun q hq => by have e := Option.some.inj hq; have h1 := HSD.out; have h2 := HBE.out; have h3 := HG6.out.size; simp at e h3; omega))); have HRA := Lib.hid (show Row w10 (B + 2) (.slice an1 ss.length cn1) (strs ss) from (by first | exact HR6'.out.kept HG10.out (fun q hq e => by have e' := Option.some.inj e; have h1 := HO6.out q hq; have h2 := (HR6'.out.lt q hq).2; have h3 := HSD.out; have h4 := HG6.out.size; simp at e' h4; rcases h1 with h1 | h1 <;> (try have h5 := Option.some.inj h1) <;> simp at * <;> omega) | exact (HR6'.out.kept (World.grownBy_alloc _ _ none) (by simp)).kept HG10.out (fun q hq e => by have e' := Option.some.inj e; have h1 := HO6.out q hq; have h2 := (HR6'.out.lt q hq).2; have h3 := HSD.out; have h4 := HG6.out.size; simp at e' h4; omega))); obtain ⟨an2, cn2, rfl, -⟩ := hr10.lies; clear hr10; have e0 : w10.cell? ⟨B + 1, 0, none⟩ = some (.slice none 0 0) := HS10.out.2.cell rfl; have e1 : w10.cell? ⟨B + 1, 1, none⟩ = some (.slice none 0 0) := HS10.out.2.cell rfl; have f0 := HS10.out.2.frozen 0; have f1 := HS10.out.2.frozen 1; have HGS := Lib.hid (grown_set (grown_set (grown_refl w10 (some (B + 1))) 0 (.slice an1 ss.length cn1)) 1 (.slice an2 ls.length cn2)); have HS11 := Lib.hid (And.intro (HGS.out.cell HS10.out.1.1 (by simp)) (And.intro (HGS.out.cell HS10.out.1.2.1 (by simp)) (grown_into (row := none) HS10.out.1.2.2 HGS.out (by have := HBE.out; omega))))))
  all_goals
    go_wp2
    have hbf := (HS10.out.2.set 0 (.slice an1 ss.length cn1)).set 1 (.slice an2 ls.length cn2)
    have hr1f := HRA.out.kept HGS.out (fun q hq e => by have h1 := (HRA.out.lt q hq).1; have h6 := Option.some.inj e; omega)
    have hr2f := HR10'.out.kept HGS.out (fun q hq e => by have h1 := (HR10'.out.lt q hq).1; have h6 := Option.some.inj e; omega)
    refine ⟨rfl, _, results_blk1 Tryd.results30 _ _ (B + 1) 26 _ _ hbf Tryd.underlying26 rfl info26 rfl, _, _, rfl, hr1f.base (by have := HBE.out; omega), hr2f.base (by have := HBE.out; omega), ?_, HS11.out.2.2⟩
    intro q hq hq2
    have h1 := HO6.out q hq
    have h2 := (HR6'.out.lt q hq).2
    have h3 := HO10.out q hq2
    have h4 := HG6.out.size
    have h5 := HSD.out
    have h6 := HG10.out.size
    rcases h1 with h1 | h1 <;> rcases h3 with h3 | h3 <;> (try have g1 := Option.some.inj h1) <;> (try have g3 := Option.some.inj h3) <;> simp at * <;> omega
end Go.Proofs.YtlnngamhjinpbaaDoor
