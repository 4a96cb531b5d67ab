/- Two values. -/
import Derived.Test.YtgmigloafcejdaaGreatDoorZA
namespace Go.Proofs.YtgmigloafcejdaaGreatDoor
open Go.RowKit

theorem getD_set {css : List (List Value)} {j a : Nat} {c : List Value} (hj : j < css.length) : (css.set j c).getD a [] = if a = j then c else css.getD a [] := by
  rw [List.getD_eq_getElem?_getD, List.getElem?_set]
  by_cases h : j = a
  · subst h
    simp [hj]
  · rw [if_neg h, if_neg (fun e => h e.symm), List.getD_eq_getElem?_getD]
/-- another one is put in its place -/
theorem KidsIn.put {w : World} {X Z : Nat → Prop} {g cap j : Nat} {ks : List VT} {T : VT} {c : List Value} (h : KidsIn w X (.slice (some ⟨g, 0, none⟩) ks.length cap) ks) (hj : j < ks.length) (hv : VX w Z T c) (hz : ∀ b, b < w.heap.size → Z b → X b ∧ b ≠ g) : KidsIn (w.setCells g (j * 5) c) X (.slice (some ⟨g, 0, none⟩) ks.length cap) (ks.set j T) := by
  obtain ⟨css, h1, h2, hx, h3⟩ := h
  have h5 := kids_len h1 h3
  have hc5 := hv.len
  have hg := grown_setCells0 w g (j * 5) c
  have hK : Kept w (w.setCells g (j * 5) c) (fun b => X b ∧ (Value.slice (some ⟨g, 0, none⟩) ks.length cap).ownBlock ≠ some b) := Kept.of_grown hg (fun q hq hX => hX.2 (by cases hq; rfl))
  have hXg : X g := hx g rfl
  obtain ⟨hl, h0 | ⟨g', cap', he, _, hlt, hn, hcell, hfree⟩⟩ := h2
  · have := h0.2; omega
  have hgg : g' = g ∧ cap' = cap := by cases he; exact ⟨rfl, rfl⟩
  obtain ⟨rfl, rfl⟩ := hgg
  have h5' : ∀ d ∈ css.set j c, d.length = 5 := fun d hd => by
    rcases List.mem_or_eq_of_mem_set hd with h | h
    · exact h5 d h
    · rw [h]; exact hc5
  refine ⟨css.set j c, by simp [h1], ⟨?_, .inr ⟨g', cap', by simp, Nat.zero_le _, by have := hg.size; omega, by simpa using hn, fun i hi => ?_, fun i hi => ?_⟩⟩, fun q hq => by cases hq; exact hXg, fun a k hk => ?_⟩
  · rw [flat_len _ h5']; simp [h1]
  · rw [List.length_set] at hi
    obtain ⟨a, b, hb, rfl⟩ : ∃ a b, b < 5 ∧ i = a * 5 + b := ⟨i / 5, i % 5, Nat.mod_lt _ (by omega), by omega⟩
    rw [flat_at _ h5' a b (by simp; omega) hb, getD_set (by omega)]
    by_cases haj : a = j
    · subst haj
      have := World.cell?_setCells_in g' c (a * 5) w (fun q hq => (hfree (a * 5 + q) (by omega)).1) b (by omega)
      rw [this, if_pos rfl, List.getElem?_eq_getElem (by omega)]
    · rw [if_neg haj, World.cell?_setCells_out g' c (j * 5) w ⟨g', a * 5 + b, none⟩ (fun _ _ => by simp only; omega), hcell (a * 5 + b) (by omega), flat_at css h5 a b (by omega) hb]
  · rw [World.frozen?_setCells]
    exact ⟨World.isSome_setCells g' c (j * 5) w _ (hfree i hi).1, (hfree i hi).2⟩
  · rw [List.getElem?_set] at hk
    have hlift : ∀ {T : VT} {d : List Value}, VX w (fun b => X b ∧ (Value.slice (some ⟨g', 0, none⟩) ks.length cap').ownBlock ≠ some b) T d → VX (w.setCells g' (j * 5) c) (fun b => X b ∧ (Value.slice (some ⟨g', 0, none⟩) ks.length cap').ownBlock ≠ some b) T d := fun {T d} h => h.kept hK
    rw [getD_set (by omega)]
    by_cases haj : j = a
    · subst haj
      rw [if_pos rfl, if_pos hj] at hk
      obtain rfl : T = k := by simpa using hk
      rw [if_pos rfl]
      exact hlift (hv.mono (fun b hb hZ => ⟨(hz b hb hZ).1, fun e => (hz b hb hZ).2 (by cases e; rfl)⟩))
    · rw [if_neg haj] at hk
      rw [if_neg (fun e => haj e.symm)]
      exact hlift (h3 a k hk)

theorem bulkK_set (ks : List VT) (j : Nat) (T : VT) : bulkK (ks.set j T) ≤ bulkK ks + bulk T := by
  induction ks generalizing j with
  | nil => simp [bulkK]
  | cons k ks ih =>
    cases j with
    | zero => simp [bulkK]; omega
    | succ j =>
      have := ih j
      simp [bulkK]; omega
theorem kid_cells {w : World} {X : Nat → Prop} {g cap j : Nat} {ks : List VT} (h : KidsIn w X (.slice (some ⟨g, 0, none⟩) ks.length cap) ks) (hj : j < ks.length) :
    (∃ d, w.cell? ⟨g, j * 5, none⟩ = some d) ∧ (∃ d, w.cell? ⟨g, j * 5 + 1, none⟩ = some d) ∧ (∃ d, w.cell? ⟨g, j * 5 + 2, none⟩ = some d) ∧ (∃ d, w.cell? ⟨g, j * 5 + 3, none⟩ = some d) ∧ (∃ d, w.cell? ⟨g, j * 5 + 4, none⟩ = some d) ∧
      w.frozen? ⟨g, j * 5, none⟩ = false ∧ w.frozen? ⟨g, j * 5 + 1, none⟩ = false ∧ w.frozen? ⟨g, j * 5 + 2, none⟩ = false ∧ w.frozen? ⟨g, j * 5 + 3, none⟩ = false ∧ w.frozen? ⟨g, j * 5 + 4, none⟩ = false := by
  obtain ⟨css, _, h2, _⟩ := h
  rcases h2.2 with ⟨_, h0⟩ | ⟨g', cap', he, _, _, hn, _, hf⟩
  · omega
  cases he
  have k : ∀ i, i < 5 → (∃ d, w.cell? ⟨g, j * 5 + i, none⟩ = some d) ∧ w.frozen? ⟨g, j * 5 + i, none⟩ = false := fun i hi => by
    obtain ⟨h1, h2⟩ := hf (j * 5 + i) (by omega)
    exact ⟨Option.isSome_iff_exists.1 h1, h2⟩
  exact ⟨(k 0 (by omega)).1, (k 1 (by omega)).1, (k 2 (by omega)).1, (k 3 (by omega)).1, (k 4 (by omega)).1, (k 0 (by omega)).2, (k 1 (by omega)).2, (k 2 (by omega)).2, (k 3 (by omega)).2, (k 4 (by omega)).2⟩

theorem results_two {P : Program} {fn : Func} {p q : Tmp} {ty : TypeId} (h : fn.results = #[.cell p ty, .cell q ty]) (tmps : Array Value) (w : World) (g g' : Nat) (t : TypeId) (L L' : List Value) (d : TypeDesc)
    (hg : Blk w g t L) (hg' : Blk w g' t L') (hu : P.underlying ty = some d) (hd : (match d with | .struct _ | .array _ _ => true | _ => false) = true) (hi : (P.info? ty).map (·.size) = some L.length) (hi' : (P.info? ty).map (·.size) = some L'.length)
    (hp : tmps[p]?.getD undef = .pointer (some ⟨g, 0, none⟩)) (hq : tmps[q]?.getD undef = .pointer (some ⟨g', 0, none⟩)) :
    (results fn tmps).run P w = .ok (.tuple #[.agg L.toArray, .agg L'.toArray]) w := by
  simp [results, h, hp, hq, asAddr, run_loadVar_row w g t ty L.toArray (0, 0) d hg hu hd (by simpa using hi), run_loadVar_row w g' t ty L'.toArray (0, 0) d hg' hu hd (by simpa using hi')]

/-- two values that lie there, not too much of them -/
def TwoR (w w' : World) (rb : Nat) (e : Ending) : Prop :=
  ∃ (T T' : VT) (cs cs' : List Value), e = .returned (.tuple #[.agg cs.toArray, .agg cs'.toArray]) ∧ VIn w' w.heap.size T cs ∧ VIn w' w.heap.size T' cs' ∧ bulk T ≤ 9000 ∧ bulk T' ≤ 9000 ∧ w.grownBy w' (some rb)
def set10 (w : World) (r1 r2 : Nat) (a0 a1 a2 a3 a4 b0 b1 b2 b3 b4 : Value) : World := set5 (set5 w r1 a0 a1 a2 a3 a4) r2 b0 b1 b2 b3 b4
theorem two_end {w w1 wf : World} {rb r1 r2 : Nat} (T T' : VT) (a0 a1 a2 a3 a4 b0 b1 b2 b3 b4 : Value) (h1 : VX w1 (fun b => w.heap.size ≤ b ∧ b ≠ r1 ∧ b ≠ r2) T [a0, a1, a2, a3, a4]) (h2 : VX w1 (fun b => w.heap.size ≤ b ∧ b ≠ r1 ∧ b ≠ r2) T' [b0, b1, b2, b3, b4]) (hb1 : bulk T ≤ 9000) (hb2 : bulk T' ≤ 9000) (hr1 : w.heap.size ≤ r1) (hr2 : w.heap.size ≤ r2) (hg : w.grownBy w1 (some rb))
    (hf : (set10 w1 r1 r2 a0 a1 a2 a3 a4 b0 b1 b2 b3 b4).grownBy wf none) : TwoR w wf rb (.returned (.tuple #[.agg #[a0, a1, a2, a3, a4], .agg #[b0, b1, b2, b3, b4]])) := by
  have k : ∀ {T : VT} {cs : List Value}, VX w1 (fun b => w.heap.size ≤ b ∧ b ≠ r1 ∧ b ≠ r2) T cs → VIn wf w.heap.size T cs := fun {T cs} h => by
    have h' := (h.kept (Kept.of_grown (set5_grown w1 r1 a0 a1 a2 a3 a4) (fun q hq hx => by cases hq; exact hx.2.1 rfl))).kept (Kept.of_grown (set5_grown _ r2 b0 b1 b2 b3 b4) (fun q hq hx => by cases hq; exact hx.2.2 rfl))
    exact (h'.vin (base := w.heap.size) (fun b hb => hb.1)).grown hf
  exact ⟨T, T', _, _, rfl, k h1, k h2, hb1, hb2, grown_trans (grown_into (grown_into hg (set5_grown w1 r1 a0 a1 a2 a3 a4) hr1) (set5_grown _ r2 b0 b1 b2 b3 b4) hr2) (grown_widen hf)⟩
theorem two_blk {w1 : World} {r1 r2 : Nat} (a0 a1 a2 a3 a4 b0 b1 b2 b3 b4 : Value) (x0 x1 x2 x3 x4 y0 y1 y2 y3 y4 : Value) (hA : Blk w1 r1 27 [x0, x1, x2, x3, x4]) (hB : Blk w1 r2 27 [y0, y1, y2, y3, y4]) (hne : r1 ≠ r2) :
    Blk (set10 w1 r1 r2 a0 a1 a2 a3 a4 b0 b1 b2 b3 b4) r1 27 [a0, a1, a2, a3, a4] ∧ Blk (set10 w1 r1 r2 a0 a1 a2 a3 a4 b0 b1 b2 b3 b4) r2 27 [b0, b1, b2, b3, b4] :=
  ⟨(set5_blk hA a0 a1 a2 a3 a4).kept (set5_grown _ r2 b0 b1 b2 b3 b4) (by simpa using hne), set5_blk (hB.kept (set5_grown w1 r1 a0 a1 a2 a3 a4) (by simpa using fun e => hne e.symm)) b0 b1 b2 b3 b4⟩

set_option maxRecDepth 100000 in
set_option maxHeartbeats 8000000 in
theorem two_any (rb : Nat) (ao : Option Addr) (n cap : Nat) (w : World) (p : Nat) (hr : Rd w rb ao n cap p) (hp : p + 2000 ≤ 900000) :
    Calls Tryz.prog 40 #[.pointer (some ⟨rb, 0, none⟩)] w fun e w' => TwoR w w' rb e := by
  have hrb := hr.lt
  have HR := Lib.hid (show Rd ((w.alloc (Obj.cells #[Value.int .i64 0, .int .i64 0, .string ⟨#[]⟩, .slice none 0 0, .slice none 0 0] 27)).alloc (Obj.cells #[Value.int .i64 0, .int .i64 0, .string ⟨#[]⟩, .slice none 0 0, .slice none 0 0] 27)) rb ao n cap p from (hr.kept (World.grownBy_alloc w _ none) (fun k hk => by cases hk)).kept (World.grownBy_alloc _ _ none) (fun k hk => by cases hk))
  have HB := Lib.hid (show Blk ((w.alloc (Obj.cells #[Value.int .i64 0, .int .i64 0, .string ⟨#[]⟩, .slice none 0 0, .slice none 0 0] 27)).alloc (Obj.cells #[Value.int .i64 0, .int .i64 0, .string ⟨#[]⟩, .slice none 0 0, .slice none 0 0] 27)) w.heap.size 27 [.int .i64 0, .int .i64 0, .string ⟨#[]⟩, .slice none 0 0, .slice none 0 0] from (Blk.new w 27 [.int .i64 0, .int .i64 0, .string ⟨#[]⟩, .slice none 0 0, .slice none 0 0]).alloc _)
  have HC := Lib.hid (show Blk ((w.alloc (Obj.cells #[Value.int .i64 0, .int .i64 0, .string ⟨#[]⟩, .slice none 0 0, .slice none 0 0] 27)).alloc (Obj.cells #[Value.int .i64 0, .int .i64 0, .string ⟨#[]⟩, .slice none 0 0, .slice none 0 0] 27)) (w.heap.size + 1) 27 [.int .i64 0, .int .i64 0, .string ⟨#[]⟩, .slice none 0 0, .slice none 0 0] from by
    have := Blk.new (w.alloc (Obj.cells #[Value.int .i64 0, .int .i64 0, .string ⟨#[]⟩, .slice none 0 0, .slice none 0 0] 27)) 27 [.int .i64 0, .int .i64 0, .string ⟨#[]⟩, .slice none 0 0, .slice none 0 0]
    simpa using this)
  have HG := Lib.hid (show w.grownBy ((w.alloc (Obj.cells #[Value.int .i64 0, .int .i64 0, .string ⟨#[]⟩, .slice none 0 0, .slice none 0 0] 27)).alloc (Obj.cells #[Value.int .i64 0, .int .i64 0, .string ⟨#[]⟩, .slice none 0 0, .slice none 0 0] 27)) (some rb) from grown_alloc (grown_alloc (grown_refl _ _) _) _)
  have HZ := Lib.hid (show ((w.alloc (Obj.cells #[Value.int .i64 0, .int .i64 0, .string ⟨#[]⟩, .slice none 0 0, .slice none 0 0] 27)).alloc (Obj.cells #[Value.int .i64 0, .int .i64 0, .string ⟨#[]⟩, .slice none 0 0, .slice none 0 0] 27)).heap.size = w.heap.size + 2 from by simp)
  clear hr
  go_enter Tryz.func40, Tryz.ntmps40
  go_wp2_with fail
  generalize (w.alloc (Obj.cells #[Value.int .i64 0, .int .i64 0, .string ⟨#[]⟩, .slice none 0 0, .slice none 0 0] 27)).alloc (Obj.cells #[Value.int .i64 0, .int .i64 0, .string ⟨#[]⟩, .slice none 0 0, .slice none 0 0] 27) = W1 at HR HB HC HG HZ ⊢
  refine (any_any rb ao n cap W1 p HR.out (by omega)).mono ?_
  rintro e w2 ⟨T, cs, q, rfl, hvx, hbT, hrd2, hq1, hq2, hg2⟩
  obtain ⟨s, m, t, ns, ks, an, ak, cn, ck, rfl, rfl, -, -⟩ := (hvx.vin (base := 0) (fun b _ => Nat.zero_le _)).shp
  have HB2 := Lib.hid (HB.out.kept hg2 (by simp; omega))
  have HC2 := Lib.hid (HC.out.kept hg2 (by simp; omega))
  have HG2 := Lib.hid (grown_trans HG.out hg2)
  have hwz := HZ.out
  have hal := World.grownBy_alloc w2 (Obj.cells #[Value.int .i64 s, .int .i64 m, .string t, .slice an ns.length cn, .slice ak ks.length ck] 27) none
  have HV3 := Lib.hid (show Blk (w2.alloc (Obj.cells #[Value.int .i64 s, .int .i64 m, .string t, .slice an ns.length cn, .slice ak ks.length ck] 27)) w2.heap.size 27 [.int .i64 s, .int .i64 m, .string t, .slice an ns.length cn, .slice ak ks.length ck] from Blk.new w2 27 _)
  have HB3 := Lib.hid (HB2.out.alloc (Obj.cells #[Value.int .i64 s, .int .i64 m, .string t, .slice an ns.length cn, .slice ak ks.length ck] 27))
  have HC3 := Lib.hid (HC2.out.alloc (Obj.cells #[Value.int .i64 s, .int .i64 m, .string t, .slice an ns.length cn, .slice ak ks.length ck] 27))
  have HG3 := Lib.hid (grown_alloc HG2.out (Obj.cells #[Value.int .i64 s, .int .i64 m, .string t, .slice an ns.length cn, .slice ak ks.length ck] 27))
  have HR3 := Lib.hid (hrd2.kept hal (fun k hk => by cases hk))
  have HVX3 := Lib.hid (hvx.kept (Kept.of_grown hal (fun q hq => by cases hq)))
  have HBT := Lib.hid hbT
  have hsz : W1.heap.size ≤ w2.heap.size := hg2.size
  clear HR HB HC HG HZ hvx hrd2 hg2 HB2 HC2 HG2 hal hbT
  go_wp2_with fail
  generalize w2.alloc (Obj.cells #[Value.int .i64 s, .int .i64 m, .string t, .slice an ns.length cn, .slice ak ks.length ck] 27) = w3 at HV3 HB3 HC3 HG3 HR3 HVX3 ⊢
  obtain ⟨vb, hvb⟩ : ∃ vb, vb = w2.heap.size := ⟨_, rfl⟩
  rw [← hvb] at HV3 hsz ⊢
  clear hvb
  refine (pick_any w3 rb ao n cap q HR3.out (by omega) 3 (by omega) (by omega)).mono ?_
  rintro e w4 ⟨z, rfl, hz0, hz1, hr4, hg4⟩
  have HV4 := Lib.hid (HV3.out.kept hg4 (by simp; omega))
  have HB4 := Lib.hid (HB3.out.kept hg4 (by simp; omega))
  have HC4 := Lib.hid (HC3.out.kept hg4 (by simp; omega))
  have HG4 := Lib.hid (grown_trans HG3.out hg4)
  have HVX4 := Lib.hid (HVX3.out.kept (Kept.of_grown hg4 (fun k hk hx => by cases hk; omega)))
  have HR4 := Lib.hid hr4
  have hw4 : vb < w4.heap.size := HV4.out.lt
  have hn1 : ¬ vb = w.heap.size := by omega
  have hn2 : ¬ vb = w.heap.size + 1 := by omega
  clear HV3 HB3 HC3 HG3 HR3 HVX3 hr4 hg4
  have x0 : w4.cell? ⟨vb, 0, none⟩ = some (.int .i64 s) := HV4.out.cell rfl
  have x1 : w4.cell? ⟨vb, 1, none⟩ = some (.int .i64 m) := HV4.out.cell rfl
  have x2 : w4.cell? ⟨vb, 2, none⟩ = some (.string t) := HV4.out.cell rfl
  have x3 : w4.cell? ⟨vb, 3, none⟩ = some (.slice an ns.length cn) := HV4.out.cell rfl
  have x4 : w4.cell? ⟨vb, 4, none⟩ = some (.slice ak ks.length ck) := HV4.out.cell rfl
  have hzs : z = 0 ∨ z = 1 ∨ z = 2 := by omega
  rcases hzs with rfl | rfl | rfl
  · have r0 : w4.cell? ⟨w.heap.size, 0, none⟩ = some (.int .i64 0) := HB4.out.cell rfl
    have g0 := HB4.out.frozen 0
    have r1 : w4.cell? ⟨w.heap.size, 1, none⟩ = some (.int .i64 0) := HB4.out.cell rfl
    have g1 := HB4.out.frozen 1
    have r2 : w4.cell? ⟨w.heap.size, 2, none⟩ = some (.string ⟨#[]⟩) := HB4.out.cell rfl
    have g2 := HB4.out.frozen 2
    have r3 : w4.cell? ⟨w.heap.size, 3, none⟩ = some (.slice none 0 0) := HB4.out.cell rfl
    have g3 := HB4.out.frozen 3
    have r4 : w4.cell? ⟨w.heap.size, 4, none⟩ = some (.slice none 0 0) := HB4.out.cell rfl
    have g4 := HB4.out.frozen 4
    have u0 : w4.cell? ⟨w.heap.size + 1, 0, none⟩ = some (.int .i64 0) := HC4.out.cell rfl
    have v0 := HC4.out.frozen 0
    have u1 : w4.cell? ⟨w.heap.size + 1, 1, none⟩ = some (.int .i64 0) := HC4.out.cell rfl
    have v1 := HC4.out.frozen 1
    have u2 : w4.cell? ⟨w.heap.size + 1, 2, none⟩ = some (.string ⟨#[]⟩) := HC4.out.cell rfl
    have v2 := HC4.out.frozen 2
    have u3 : w4.cell? ⟨w.heap.size + 1, 3, none⟩ = some (.slice none 0 0) := HC4.out.cell rfl
    have v3 := HC4.out.frozen 3
    have u4 : w4.cell? ⟨w.heap.size + 1, 4, none⟩ = some (.slice none 0 0) := HC4.out.cell rfl
    have v4 := HC4.out.frozen 4
    have HEND := Lib.hid (show TwoR w ((((((((((w4.setCell ⟨w.heap.size, 0, none⟩ (.int .i64 s)).setCell ⟨w.heap.size, 1, none⟩ (.int .i64 m)).setCell ⟨w.heap.size, 2, none⟩ (.string t)).setCell ⟨w.heap.size, 3, none⟩ (.slice an ns.length cn)).setCell ⟨w.heap.size, 4, none⟩ (.slice ak ks.length ck)).setCell ⟨w.heap.size + 1, 0, none⟩ (.int .i64 s)).setCell ⟨w.heap.size + 1, 1, none⟩ (.int .i64 m)).setCell ⟨w.heap.size + 1, 2, none⟩ (.string t)).setCell ⟨w.heap.size + 1, 3, none⟩ (.slice an ns.length cn)).setCell ⟨w.heap.size + 1, 4, none⟩ (.slice ak ks.length ck)).drew rb (.returned (.tuple #[.agg #[.int .i64 s, .int .i64 m, .string t, .slice an ns.length cn, .slice ak ks.length ck], .agg #[.int .i64 s, .int .i64 m, .string t, .slice an ns.length cn, .slice ak ks.length ck]])) from two_end (w := w) (w1 := w4) (rb := rb) (r1 := w.heap.size) (r2 := w.heap.size + 1) _ _ (.int .i64 s) (.int .i64 m) (.string t) (.slice an ns.length cn) (.slice ak ks.length ck) (.int .i64 s) (.int .i64 m) (.string t) (.slice an ns.length cn) (.slice ak ks.length ck) (HVX4.out.mono (fun b _ hb => ⟨by omega, by omega, by omega⟩)) (HVX4.out.mono (fun b _ hb => ⟨by omega, by omega, by omega⟩)) (by have := HBT.out; omega) (by have := HBT.out; omega) (Nat.le_refl _) (by omega) HG4.out (by unfold set10 set5; exact grown_drew (grown_refl _ _)))
    have HBE := Lib.hid (show Blk ((((((((((w4.setCell ⟨w.heap.size, 0, none⟩ (.int .i64 s)).setCell ⟨w.heap.size, 1, none⟩ (.int .i64 m)).setCell ⟨w.heap.size, 2, none⟩ (.string t)).setCell ⟨w.heap.size, 3, none⟩ (.slice an ns.length cn)).setCell ⟨w.heap.size, 4, none⟩ (.slice ak ks.length ck)).setCell ⟨w.heap.size + 1, 0, none⟩ (.int .i64 s)).setCell ⟨w.heap.size + 1, 1, none⟩ (.int .i64 m)).setCell ⟨w.heap.size + 1, 2, none⟩ (.string t)).setCell ⟨w.heap.size + 1, 3, none⟩ (.slice an ns.length cn)).setCell ⟨w.heap.size + 1, 4, none⟩ (.slice ak ks.length ck)).drew w.heap.size 27 [.int .i64 s, .int .i64 m, .string t, .slice an ns.length cn, .slice ak ks.length ck] ∧ Blk ((((((((((w4.setCell ⟨w.heap.size, 0, none⟩ (.int .i64 s)).setCell ⟨w.heap.size, 1, none⟩ (.int .i64 m)).setCell ⟨w.heap.size, 2, none⟩ (.string t)).setCell ⟨w.heap.size, 3, none⟩ (.slice an ns.length cn)).setCell ⟨w.heap.size, 4, none⟩ (.slice ak ks.length ck)).setCell ⟨w.heap.size + 1, 0, none⟩ (.int .i64 s)).setCell ⟨w.heap.size + 1, 1, none⟩ (.int .i64 m)).setCell ⟨w.heap.size + 1, 2, none⟩ (.string t)).setCell ⟨w.heap.size + 1, 3, none⟩ (.slice an ns.length cn)).setCell ⟨w.heap.size + 1, 4, none⟩ (.slice ak ks.length ck)).drew (w.heap.size + 1) 27 [.int .i64 s, .int .i64 m, .string t, .slice an ns.length cn, .slice ak ks.length ck] from by
      have h := two_blk (.int .i64 s) (.int .i64 m) (.string t) (.slice an ns.length cn) (.slice ak ks.length ck) (.int .i64 s) (.int .i64 m) (.string t) (.slice an ns.length cn) (.slice ak ks.length ck) (.int .i64 0) (.int .i64 0) (.string ⟨#[]⟩) (.slice none 0 0) (.slice none 0 0) (.int .i64 0) (.int .i64 0) (.string ⟨#[]⟩) (.slice none 0 0) (.slice none 0 0) HB4.out HC4.out (by omega)
      unfold set10 set5 at h
      exact ⟨h.1.drew, h.2.drew⟩)
    clear HV4 HB4 HC4 HG4 HVX4 HR4
    go_wp2
    go_region_law fail
    all_goals
      generalize ((((((((((w4.setCell ⟨w.heap.size, 0, none⟩ (.int .i64 s)).setCell ⟨w.heap.size, 1, none⟩ (.int .i64 m)).setCell ⟨w.heap.size, 2, none⟩ (.string t)).setCell ⟨w.heap.size, 3, none⟩ (.slice an ns.length cn)).setCell ⟨w.heap.size, 4, none⟩ (.slice ak ks.length ck)).setCell ⟨w.heap.size + 1, 0, none⟩ (.int .i64 s)).setCell ⟨w.heap.size + 1, 1, none⟩ (.int .i64 m)).setCell ⟨w.heap.size + 1, 2, none⟩ (.string t)).setCell ⟨w.heap.size + 1, 3, none⟩ (.slice an ns.length cn)).setCell ⟨w.heap.size + 1, 4, none⟩ (.slice ak ks.length ck)).drew = wf at HEND HBE ⊢
      clear x0 x1 x2 x3 x4 r0 r1 r2 r3 r4 g0 g1 g2 g3 g4 u0 u1 u2 u3 u4 v0 v1 v2 v3 v4
      go_wp2
      exact ⟨rfl, _, results_two Tryz.results40 _ wf w.heap.size (w.heap.size + 1) 27 _ _ _ HBE.out.1 HBE.out.2 Tryz.underlying27 rfl info26s info26s rfl rfl, HEND.out⟩
  · go_wp2_with fail
    refine (copy_any w4 0 _ _ (HVX4.out.vin (fun b _ => Nat.zero_le _)) (by have := HBT.out; omega) w4 (grown_refl _ _)).mono ?_
    rintro e w5 ⟨s5, m5, t5, ns5, ks5, an5, ak5, cn5, ck5, hT, rfl, hrow, hkid, hvx5, hg5⟩
    cases hT
    obtain ⟨s9, m9, t9, ns9, ks9, an9, ak9, cn9, ck9, hT9, hcs9, hs, hm⟩ := (hvx5.vin (base := 0) (fun b _ => Nat.zero_le _)).shp
    cases hT9
    clear hcs9 hvx5
    obtain ⟨bb, hbb⟩ : ∃ bb, bb = w5.heap.size := ⟨_, rfl⟩
    have hal := World.grownBy_alloc w5 (Obj.cells #[Value.int .i64 s, .int .i64 m, .string t, .slice an5 ns.length cn5, .slice ak5 ks.length ck5] 27) none
    have HV6 := Lib.hid ((HV4.out.kept hg5 (by simp)).alloc (Obj.cells #[Value.int .i64 s, .int .i64 m, .string t, .slice an5 ns.length cn5, .slice ak5 ks.length ck5] 27))
    have HB6 := Lib.hid ((HB4.out.kept hg5 (by simp)).alloc (Obj.cells #[Value.int .i64 s, .int .i64 m, .string t, .slice an5 ns.length cn5, .slice ak5 ks.length ck5] 27))
    have HC6 := Lib.hid ((HC4.out.kept hg5 (by simp)).alloc (Obj.cells #[Value.int .i64 s, .int .i64 m, .string t, .slice an5 ns.length cn5, .slice ak5 ks.length ck5] 27))
    have HR6 := Lib.hid ((HR4.out.kept hg5 (fun k hk => by cases hk)).kept hal (fun k hk => by cases hk))
    have HVX6 := Lib.hid (((HVX4.out.mono (Y := fun b => W1.heap.size ≤ b ∧ b < w4.heap.size) (fun b hb hx => ⟨hx, hb⟩)).kept (Kept.of_grown hg5 (fun k hk => by cases hk))).kept (Kept.of_grown hal (fun k hk => by cases hk)))
    have HY6 := Lib.hid (show Blk (w5.alloc (Obj.cells #[Value.int .i64 s, .int .i64 m, .string t, .slice an5 ns.length cn5, .slice ak5 ks.length ck5] 27)) w5.heap.size 27 [.int .i64 s, .int .i64 m, .string t, .slice an5 ns.length cn5, .slice ak5 ks.length ck5] from Blk.new w5 27 _)
    have HRW6 := Lib.hid (hrow.alloc (Obj.cells #[Value.int .i64 s, .int .i64 m, .string t, .slice an5 ns.length cn5, .slice ak5 ks.length ck5] 27))
    have HK6 := Lib.hid (show KidsIn (w5.alloc (Obj.cells #[Value.int .i64 s, .int .i64 m, .string t, .slice an5 ns.length cn5, .slice ak5 ks.length ck5] 27)) (fun b => w4.heap.size ≤ b ∧ (Value.slice an5 ns.length cn5).ownBlock ≠ some b ∧ b ≠ bb) (.slice ak5 ks.length ck5) ks from (hkid.mono (fun b hb hx => ⟨hx.1, hx.2, by omega⟩)).kept hal (fun q hq => by cases hq))
    have HG6 := Lib.hid (grown_alloc (grown_trans HG4.out (grown_widen hg5)) (Obj.cells #[Value.int .i64 s, .int .i64 m, .string t, .slice an5 ns.length cn5, .slice ak5 ks.length ck5] 27))
    have HOW := Lib.hid (show ∀ q, (Value.slice an5 ns.length cn5).ownBlock = some q → w4.heap.size ≤ q ∧ q < bb from fun q hq => by have := hrow.lt q hq; omega)
    have hbl : w4.heap.size ≤ bb := by have := hg5.size; omega
    clear HV4 HB4 HC4 HR4 HVX4 HG4 hrow hkid hg5 hal x0 x1 x2 x3 x4
    have hbu := HBT.out
    rw [bulk] at hbu
    have hn3 : ¬ bb = w.heap.size := by omega
    have hn4 : ¬ bb = w.heap.size + 1 := by omega
    by_cases hk0 : ks.length = 0
    · have hks : ks = [] := List.eq_nil_of_length_eq_zero hk0
      have HVXB := Lib.hid (show VX (w5.alloc (Obj.cells #[Value.int .i64 s, .int .i64 m, .string t, .slice an5 ns.length cn5, .slice ak5 ks.length ck5] 27)) (fun b => w4.heap.size ≤ b ∧ b ≠ bb) (.node s m t ns ks) [.int .i64 s, .int .i64 m, .string t, .slice an5 ns.length cn5, .slice ak5 ks.length ck5] from KidsIn.made HK6.out rfl (fun b hb => ⟨hb.1, hb.2.2⟩) ((row_lx HRW6.out).mono (fun b _ hb => ⟨hb.1, by have := (HOW.out b hb.2).2; omega⟩)) (by obtain ⟨a, b, he, h, -⟩ := row_txs HRW6.out; cases he; exact h) (by omega) (by omega) (by omega) (fun s hs => by have := mem_bulkS hs; omega) hs.1 hs.2 hm.1 hm.2)
      subst hks
      clear hk0 HRW6 HK6 HR6 hbu
      have HV7 : Hid (Blk (w5.alloc (Obj.cells #[Value.int .i64 s, .int .i64 m, .string t, .slice an5 ns.length cn5, .slice ak5 0 ck5] 27)) vb 27 [.int .i64 s, .int .i64 m, .string t, .slice an ns.length cn, .slice ak 0 ck]) := HV6
      have HY7 : Hid (Blk (w5.alloc (Obj.cells #[Value.int .i64 s, .int .i64 m, .string t, .slice an5 ns.length cn5, .slice ak5 0 ck5] 27)) bb 27 [.int .i64 s, .int .i64 m, .string t, .slice an5 ns.length cn5, .slice ak5 0 ck5]) := by rw [hbb]; exact HY6
      have HB7 : Hid (Blk (w5.alloc (Obj.cells #[Value.int .i64 s, .int .i64 m, .string t, .slice an5 ns.length cn5, .slice ak5 0 ck5] 27)) w.heap.size 27 [.int .i64 0, .int .i64 0, .string ⟨#[]⟩, .slice none 0 0, .slice none 0 0]) := HB6
      have HC7 : Hid (Blk (w5.alloc (Obj.cells #[Value.int .i64 s, .int .i64 m, .string t, .slice an5 ns.length cn5, .slice ak5 0 ck5] 27)) (w.heap.size + 1) 27 [.int .i64 0, .int .i64 0, .string ⟨#[]⟩, .slice none 0 0, .slice none 0 0]) := HC6
      have HG7 : Hid (w.grownBy (w5.alloc (Obj.cells #[Value.int .i64 s, .int .i64 m, .string t, .slice an5 ns.length cn5, .slice ak5 0 ck5] 27)) (some rb)) := HG6
      have HVX7 : Hid (VX (w5.alloc (Obj.cells #[Value.int .i64 s, .int .i64 m, .string t, .slice an5 ns.length cn5, .slice ak5 0 ck5] 27)) (fun b => W1.heap.size ≤ b ∧ b < w4.heap.size) (.node s m t ns []) [.int .i64 s, .int .i64 m, .string t, .slice an ns.length cn, .slice ak 0 ck]) := HVX6
      have HVY7 : Hid (VX (w5.alloc (Obj.cells #[Value.int .i64 s, .int .i64 m, .string t, .slice an5 ns.length cn5, .slice ak5 0 ck5] 27)) (fun b => w4.heap.size ≤ b ∧ b ≠ bb) (.node s m t ns []) [.int .i64 s, .int .i64 m, .string t, .slice an5 ns.length cn5, .slice ak5 0 ck5]) := HVXB
      clear HV6 HY6 HB6 HC6 HG6 HVX6 HVXB
      go_wp2
      generalize w5.alloc (Obj.cells #[Value.int .i64 s, .int .i64 m, .string t, .slice an5 ns.length cn5, .slice ak5 0 ck5] 27) = w6 at HV7 HY7 HB7 HC7 HG7 HVX7 HVY7 ⊢
      rw [← hbb]
      clear hbb
      have x0 : w6.cell? ⟨vb, 0, none⟩ = some (.int .i64 s) := HV7.out.cell rfl
      have x1 : w6.cell? ⟨vb, 1, none⟩ = some (.int .i64 m) := HV7.out.cell rfl
      have x2 : w6.cell? ⟨vb, 2, none⟩ = some (.string t) := HV7.out.cell rfl
      have x3 : w6.cell? ⟨vb, 3, none⟩ = some (.slice an ns.length cn) := HV7.out.cell rfl
      have x4 : w6.cell? ⟨vb, 4, none⟩ = some (.slice ak 0 ck) := HV7.out.cell rfl
      have y0 : w6.cell? ⟨bb, 0, none⟩ = some (.int .i64 s) := HY7.out.cell rfl
      have y1 : w6.cell? ⟨bb, 1, none⟩ = some (.int .i64 m) := HY7.out.cell rfl
      have y2 : w6.cell? ⟨bb, 2, none⟩ = some (.string t) := HY7.out.cell rfl
      have y3 : w6.cell? ⟨bb, 3, none⟩ = some (.slice an5 ns.length cn5) := HY7.out.cell rfl
      have y4 : w6.cell? ⟨bb, 4, none⟩ = some (.slice ak5 0 ck5) := HY7.out.cell rfl
      have r0 : w6.cell? ⟨w.heap.size, 0, none⟩ = some (.int .i64 0) := HB7.out.cell rfl
      have g0 := HB7.out.frozen 0
      have r1 : w6.cell? ⟨w.heap.size, 1, none⟩ = some (.int .i64 0) := HB7.out.cell rfl
      have g1 := HB7.out.frozen 1
      have r2 : w6.cell? ⟨w.heap.size, 2, none⟩ = some (.string ⟨#[]⟩) := HB7.out.cell rfl
      have g2 := HB7.out.frozen 2
      have r3 : w6.cell? ⟨w.heap.size, 3, none⟩ = some (.slice none 0 0) := HB7.out.cell rfl
      have g3 := HB7.out.frozen 3
      have r4 : w6.cell? ⟨w.heap.size, 4, none⟩ = some (.slice none 0 0) := HB7.out.cell rfl
      have g4 := HB7.out.frozen 4
      have u0 : w6.cell? ⟨w.heap.size + 1, 0, none⟩ = some (.int .i64 0) := HC7.out.cell rfl
      have v0 := HC7.out.frozen 0
      have u1 : w6.cell? ⟨w.heap.size + 1, 1, none⟩ = some (.int .i64 0) := HC7.out.cell rfl
      have v1 := HC7.out.frozen 1
      have u2 : w6.cell? ⟨w.heap.size + 1, 2, none⟩ = some (.string ⟨#[]⟩) := HC7.out.cell rfl
      have v2 := HC7.out.frozen 2
      have u3 : w6.cell? ⟨w.heap.size + 1, 3, none⟩ = some (.slice none 0 0) := HC7.out.cell rfl
      have v3 := HC7.out.frozen 3
      have u4 : w6.cell? ⟨w.heap.size + 1, 4, none⟩ = some (.slice none 0 0) := HC7.out.cell rfl
      have v4 := HC7.out.frozen 4
      have HEND := Lib.hid (show TwoR w ((((((((((w6.setCell ⟨w.heap.size, 0, none⟩ (.int .i64 s)).setCell ⟨w.heap.size, 1, none⟩ (.int .i64 m)).setCell ⟨w.heap.size, 2, none⟩ (.string t)).setCell ⟨w.heap.size, 3, none⟩ (.slice an ns.length cn)).setCell ⟨w.heap.size, 4, none⟩ (.slice ak 0 ck)).setCell ⟨w.heap.size + 1, 0, none⟩ (.int .i64 s)).setCell ⟨w.heap.size + 1, 1, none⟩ (.int .i64 m)).setCell ⟨w.heap.size + 1, 2, none⟩ (.string t)).setCell ⟨w.heap.size + 1, 3, none⟩ (.slice an5 ns.length cn5)).setCell ⟨w.heap.size + 1, 4, none⟩ (.slice ak5 0 ck5)).drew rb (.returned (.tuple #[.agg #[.int .i64 s, .int .i64 m, .string t, .slice an ns.length cn, .slice ak 0 ck], .agg #[.int .i64 s, .int .i64 m, .string t, .slice an5 ns.length cn5, .slice ak5 0 ck5]])) from two_end (w := w) (w1 := w6) (rb := rb) (r1 := w.heap.size) (r2 := w.heap.size + 1) _ _ (.int .i64 s) (.int .i64 m) (.string t) (.slice an ns.length cn) (.slice ak 0 ck) (.int .i64 s) (.int .i64 m) (.string t) (.slice an5 ns.length cn5) (.slice ak5 0 ck5) (HVX7.out.mono (fun b _ hb => ⟨by have := hb.1; omega, by have := hb.1; omega, by have := hb.1; omega⟩)) (HVY7.out.mono (fun b _ hb => ⟨by have := hb.1; omega, by have := hb.1; omega, by have := hb.1; omega⟩)) (by have := HBT.out; omega) (by have := HBT.out; omega) (Nat.le_refl _) (by omega) HG7.out (by unfold set10 set5; exact grown_drew (grown_refl _ _)))
      have HBE := Lib.hid (show Blk ((((((((((w6.setCell ⟨w.heap.size, 0, none⟩ (.int .i64 s)).setCell ⟨w.heap.size, 1, none⟩ (.int .i64 m)).setCell ⟨w.heap.size, 2, none⟩ (.string t)).setCell ⟨w.heap.size, 3, none⟩ (.slice an ns.length cn)).setCell ⟨w.heap.size, 4, none⟩ (.slice ak 0 ck)).setCell ⟨w.heap.size + 1, 0, none⟩ (.int .i64 s)).setCell ⟨w.heap.size + 1, 1, none⟩ (.int .i64 m)).setCell ⟨w.heap.size + 1, 2, none⟩ (.string t)).setCell ⟨w.heap.size + 1, 3, none⟩ (.slice an5 ns.length cn5)).setCell ⟨w.heap.size + 1, 4, none⟩ (.slice ak5 0 ck5)).drew w.heap.size 27 [.int .i64 s, .int .i64 m, .string t, .slice an ns.length cn, .slice ak 0 ck] ∧ Blk ((((((((((w6.setCell ⟨w.heap.size, 0, none⟩ (.int .i64 s)).setCell ⟨w.heap.size, 1, none⟩ (.int .i64 m)).setCell ⟨w.heap.size, 2, none⟩ (.string t)).setCell ⟨w.heap.size, 3, none⟩ (.slice an ns.length cn)).setCell ⟨w.heap.size, 4, none⟩ (.slice ak 0 ck)).setCell ⟨w.heap.size + 1, 0, none⟩ (.int .i64 s)).setCell ⟨w.heap.size + 1, 1, none⟩ (.int .i64 m)).setCell ⟨w.heap.size + 1, 2, none⟩ (.string t)).setCell ⟨w.heap.size + 1, 3, none⟩ (.slice an5 ns.length cn5)).setCell ⟨w.heap.size + 1, 4, none⟩ (.slice ak5 0 ck5)).drew (w.heap.size + 1) 27 [.int .i64 s, .int .i64 m, .string t, .slice an5 ns.length cn5, .slice ak5 0 ck5] from by
        have h := two_blk (.int .i64 s) (.int .i64 m) (.string t) (.slice an ns.length cn) (.slice ak 0 ck) (.int .i64 s) (.int .i64 m) (.string t) (.slice an5 ns.length cn5) (.slice ak5 0 ck5) (.int .i64 0) (.int .i64 0) (.string ⟨#[]⟩) (.slice none 0 0) (.slice none 0 0) (.int .i64 0) (.int .i64 0) (.string ⟨#[]⟩) (.slice none 0 0) (.slice none 0 0) HB7.out HC7.out (by omega)
        unfold set10 set5 at h
        exact ⟨h.1.drew, h.2.drew⟩)
      clear HV7 HB7 HC7 HVX7 HG7 HY7 HVY7 HBT
      go_region_law fail
      all_goals
        generalize ((((((((((w6.setCell ⟨w.heap.size, 0, none⟩ (.int .i64 s)).setCell ⟨w.heap.size, 1, none⟩ (.int .i64 m)).setCell ⟨w.heap.size, 2, none⟩ (.string t)).setCell ⟨w.heap.size, 3, none⟩ (.slice an ns.length cn)).setCell ⟨w.heap.size, 4, none⟩ (.slice ak 0 ck)).setCell ⟨w.heap.size + 1, 0, none⟩ (.int .i64 s)).setCell ⟨w.heap.size + 1, 1, none⟩ (.int .i64 m)).setCell ⟨w.heap.size + 1, 2, none⟩ (.string t)).setCell ⟨w.heap.size + 1, 3, none⟩ (.slice an5 ns.length cn5)).setCell ⟨w.heap.size + 1, 4, none⟩ (.slice ak5 0 ck5)).drew = wf at HEND HBE ⊢
        clear x0 x1 x2 x3 x4 y0 y1 y2 y3 y4 r0 r1 r2 r3 r4 g0 g1 g2 g3 g4 u0 u1 u2 u3 u4 v0 v1 v2 v3 v4
        go_wp2
        exact ⟨rfl, _, results_two Tryz.results40 _ wf w.heap.size (w.heap.size + 1) 27 _ _ _ HBE.out.1 HBE.out.2 Tryz.underlying27 rfl info26s info26s rfl rfl, HEND.out⟩
    have hpos : (0 : Int) < (ks.length : Int) := by omega
    obtain ⟨g, rfl⟩ : ∃ g, ak5 = some ⟨g, 0, none⟩ := by
      obtain ⟨css, -, hr, -⟩ := HK6.out
      rcases hr.2 with ⟨_, h0⟩ | ⟨g, cap, he, _⟩
      · omega
      · cases he; exact ⟨g, rfl⟩
    go_wp2
    generalize w5.alloc (Obj.cells #[Value.int .i64 s, .int .i64 m, .string t, .slice an5 ns.length cn5, .slice (some ⟨g, 0, none⟩) ks.length ck5] 27) = w6 at HV6 HB6 HC6 HR6 HVX6 HY6 HRW6 HK6 HG6 ⊢
    rw [← hbb] at HY6 ⊢
    clear hbb
    have y4 : w6.cell? ⟨bb, 4, none⟩ = some (.slice (some ⟨g, 0, none⟩) ks.length ck5) := HY6.out.cell rfl
    have HCA := Lib.hid (pick_any w6.drew rb ao n cap (q + 1) (HR6.out.kept (grown_drew (grown_refl w6 none)) (fun k hk => by cases hk)) (by omega) (ks.length : Int) (by omega) (by omega))
    have hgX := HK6.out.lt g rfl
    have hkc : ks.length ≤ ck5 := by obtain ⟨ta, cp, he, h⟩ := HK6.out.shape; cases he; exact h
    go_region_law (first | (go_simp; go_at_call 28; (with_reducible refine HCB.out.mono ?_); rintro e w8 ⟨T8, cs8, q8, rfl, hvx8, hbT8, hrd8, hq5, hq6, hg8⟩; obtain ⟨s8, m8, t8, ns8, ks8, an8, ak8, cn8, ck8, rfl, rfl, -, -⟩ := (hvx8.vin (base := 0) (fun b _ => Nat.zero_le _)).shp; have HK8 := Lib.hid (HK7.out.kept hg8 (fun q hq hx => by cases hq; have := hx.1; omega)); have HV8 := Lib.hid (HV7.out.kept hg8 (by simp; omega)); have HY8 := Lib.hid (HY7.out.kept hg8 (by simp; omega)); have HB8 := Lib.hid (HB7.out.kept hg8 (by simp; omega)); have HC8 := Lib.hid (HC7.out.kept hg8 (by simp; omega)); have HRW8 := Lib.hid (HRW7.out.kept hg8 (fun q hq e => by have h1 := (HOW.out q hq).1; cases e; omega)); have HVX8a := Lib.hid (HVX7.out.kept (Kept.of_grown hg8 (fun k hk hx => by cases hk; have := hx.1; omega))); have HVX8 := Lib.hid hvx8; have HG8 := Lib.hid (grown_trans HG7.out hg8); have HBT8 := Lib.hid hbT8; have y4b : w8.cell? ⟨bb, 4, none⟩ = some (.slice (some ⟨g, 0, none⟩) ks.length ck5) := HY8.out.cell rfl; obtain ⟨⟨d0, hd0⟩, ⟨d1, hd1⟩, ⟨d2, hd2⟩, ⟨d3, hd3⟩, ⟨d4, hd4⟩, e0, e1, e2, e3, e4⟩ := kid_cells HK8.out hjl; have HS7 := Lib.hid hg8.size; clear hvx8 hbT8 hrd8 hg8) | (go_simp; go_at_call 25; (with_reducible refine HCA.out.mono ?_); rintro e w7 ⟨z, rfl, hz0, hz1, hr7, hg7⟩; obtain ⟨j, rfl⟩ := Int.eq_ofNat_of_zero_le hz0; have hjl : j < ks.length := (by omega); have hjI : (j : Int) < (ks.length : Int) := (by omega); have HGR := Lib.hid (show w6.grownBy w7 (some rb) from grown_undrew hg7); have HK7 := Lib.hid (HK6.out.kept HGR.out (fun q hq hx => by cases hq; have := hx.1; omega)); have HV7 := Lib.hid (HV6.out.kept HGR.out (by simp; omega)); have HY7 := Lib.hid (HY6.out.kept HGR.out (by simp; omega)); have HB7 := Lib.hid (HB6.out.kept HGR.out (by simp; omega)); have HC7 := Lib.hid (HC6.out.kept HGR.out (by simp; omega)); have HRW7 := Lib.hid (HRW6.out.kept HGR.out (fun q hq e => by have h1 := (HOW.out q hq).1; cases e; omega)); have HVX7 := Lib.hid (HVX6.out.kept (Kept.of_grown HGR.out (fun k hk hx => by cases hk; have := hx.1; omega))); have HG7 := Lib.hid (grown_trans HG6.out HGR.out); have y4a : w7.cell? ⟨bb, 4, none⟩ = some (.slice (some ⟨g, 0, none⟩) ks.length ck5) := HY7.out.cell rfl; have HCB := Lib.hid (val2_any rb ao n cap w7 (q + 1 + 1) hr7 (by omega)); have HW7 := Lib.hid (show bb < w7.heap.size ∧ g < w7.heap.size from ⟨HY7.out.lt, (HK7.out.lt g rfl).2⟩); clear hr7 hg7))
    all_goals
      have hgX8 := (HK8.out.lt g rfl).1
      have hE : w8.setCells g (j * 5) [.int .i64 s8, .int .i64 m8, .string t8, .slice an8 ns8.length cn8, .slice ak8 ks8.length ck8] = (((((w8.setCell ⟨g, j * 5, none⟩ (.int .i64 s8)).setCell ⟨g, j * 5 + 1, none⟩ (.int .i64 m8)).setCell ⟨g, j * 5 + 2, none⟩ (.string t8)).setCell ⟨g, j * 5 + 3, none⟩ (.slice an8 ns8.length cn8)).setCell ⟨g, j * 5 + 4, none⟩ (.slice ak8 ks8.length ck8)) := rfl
      have hg9 := grown_setCells0 w8 g (j * 5) [.int .i64 s8, .int .i64 m8, .string t8, .slice an8 ns8.length cn8, .slice ak8 ks8.length ck8]
      have hk9 := KidsIn.put (c := [.int .i64 s8, .int .i64 m8, .string t8, .slice an8 ns8.length cn8, .slice ak8 ks8.length ck8]) (Z := fun b => w7.heap.size ≤ b) HK8.out hjl HVX8.out (fun b _ hb => by have h1 := HW7.out; exact ⟨⟨by omega, fun e => by have := (HOW.out b e).2; omega, by omega⟩, by omega⟩)
      rw [hE] at hg9 hk9
      have HK9 := Lib.hid hk9
      clear hk9 hE
      have HV9 := Lib.hid (HV8.out.kept hg9 (by have := hgX8.1; simp; omega))
      have HY9 := Lib.hid (HY8.out.kept hg9 (by have := hgX8.2.2; simp; omega))
      have HB9 := Lib.hid (HB8.out.kept hg9 (by have := hgX8.1; simp; omega))
      have HC9 := Lib.hid (HC8.out.kept hg9 (by have := hgX8.1; simp; omega))
      have HRW9 := Lib.hid (HRW8.out.kept hg9 (fun q hq e => hgX8.2.1 (by cases e; exact hq)))
      have HVX9 := Lib.hid (HVX8a.out.kept (Kept.of_grown hg9 (fun q hq hx => by cases hq; have h1 := hgX8.1; have h2 := hx.2; omega)))
      have HG9 := Lib.hid (grown_into HG8.out hg9 (by have := hgX8.1; omega))
      have HBS := Lib.hid (show bulk (.node s m t ns (ks.set j (.node s8 m8 t8 ns8 ks8))) ≤ 9000 from by
        have h1 := HBT8.out
        have h2 := bulkK_set ks j (.node s8 m8 t8 ns8 ks8)
        rw [bulk, List.length_set]
        omega)
      clear hd0 hd1 hd2 hd3 hd4 e0 e1 e2 e3 e4 hg9 HK8 HV8 HY8 HB8 HC8 HRW8 HVX8a HVX8 HG8 HK7 HV7 HY7 HB7 HC7 HRW7 HVX7 HG7 HK6 HV6 HY6 HB6 HC6 HRW6 HVX6 HG6 HR6 y4 y4a y4b
      generalize (((((w8.setCell ⟨g, j * 5, none⟩ (.int .i64 s8)).setCell ⟨g, j * 5 + 1, none⟩ (.int .i64 m8)).setCell ⟨g, j * 5 + 2, none⟩ (.string t8)).setCell ⟨g, j * 5 + 3, none⟩ (.slice an8 ns8.length cn8)).setCell ⟨g, j * 5 + 4, none⟩ (.slice ak8 ks8.length ck8)) = w9 at HK9 HV9 HY9 HB9 HC9 HRW9 HVX9 HG9 ⊢
      have HVY9 := Lib.hid (show VX w9 (fun b => w4.heap.size ≤ b ∧ b ≠ bb) (.node s m t ns (ks.set j (.node s8 m8 t8 ns8 ks8))) [.int .i64 s, .int .i64 m, .string t, .slice an5 ns.length cn5, .slice (some ⟨g, 0, none⟩) ks.length ck5] from by
        have h := KidsIn.made (s := s) (n := m) (t := t) (ns := ns) (an := an5) (cn := cn5) (ak := some ⟨g, 0, none⟩) (ck := ck5) (Y := fun b => w4.heap.size ≤ b ∧ b ≠ bb) HK9.out (by rw [List.length_set]) (fun b hb => ⟨hb.1, hb.2.2⟩) ((row_lx HRW9.out).mono (fun b _ hb => ⟨hb.1, by have := (HOW.out b hb.2).2; omega⟩)) (by obtain ⟨a, b, he, h, -⟩ := row_txs HRW9.out; cases he; exact h) (by omega) (by omega) (by rw [List.length_set]; omega) (fun s hs => by have := mem_bulkS hs; omega) hs.1 hs.2 hm.1 hm.2
        rw [List.length_set] at h
        exact h)
      have x0 : w9.cell? ⟨vb, 0, none⟩ = some (.int .i64 s) := HV9.out.cell rfl
      have x1 : w9.cell? ⟨vb, 1, none⟩ = some (.int .i64 m) := HV9.out.cell rfl
      have x2 : w9.cell? ⟨vb, 2, none⟩ = some (.string t) := HV9.out.cell rfl
      have x3 : w9.cell? ⟨vb, 3, none⟩ = some (.slice an ns.length cn) := HV9.out.cell rfl
      have x4 : w9.cell? ⟨vb, 4, none⟩ = some (.slice ak ks.length ck) := HV9.out.cell rfl
      have y0 : w9.cell? ⟨bb, 0, none⟩ = some (.int .i64 s) := HY9.out.cell rfl
      have y1 : w9.cell? ⟨bb, 1, none⟩ = some (.int .i64 m) := HY9.out.cell rfl
      have y2 : w9.cell? ⟨bb, 2, none⟩ = some (.string t) := HY9.out.cell rfl
      have y3 : w9.cell? ⟨bb, 3, none⟩ = some (.slice an5 ns.length cn5) := HY9.out.cell rfl
      have y4 : w9.cell? ⟨bb, 4, none⟩ = some (.slice (some ⟨g, 0, none⟩) ks.length ck5) := HY9.out.cell rfl
      have r0 : w9.cell? ⟨w.heap.size, 0, none⟩ = some (.int .i64 0) := HB9.out.cell rfl
      have g0 := HB9.out.frozen 0
      have r1 : w9.cell? ⟨w.heap.size, 1, none⟩ = some (.int .i64 0) := HB9.out.cell rfl
      have g1 := HB9.out.frozen 1
      have r2 : w9.cell? ⟨w.heap.size, 2, none⟩ = some (.string ⟨#[]⟩) := HB9.out.cell rfl
      have g2 := HB9.out.frozen 2
      have r3 : w9.cell? ⟨w.heap.size, 3, none⟩ = some (.slice none 0 0) := HB9.out.cell rfl
      have g3 := HB9.out.frozen 3
      have r4 : w9.cell? ⟨w.heap.size, 4, none⟩ = some (.slice none 0 0) := HB9.out.cell rfl
      have g4 := HB9.out.frozen 4
      have u0 : w9.cell? ⟨w.heap.size + 1, 0, none⟩ = some (.int .i64 0) := HC9.out.cell rfl
      have v0 := HC9.out.frozen 0
      have u1 : w9.cell? ⟨w.heap.size + 1, 1, none⟩ = some (.int .i64 0) := HC9.out.cell rfl
      have v1 := HC9.out.frozen 1
      have u2 : w9.cell? ⟨w.heap.size + 1, 2, none⟩ = some (.string ⟨#[]⟩) := HC9.out.cell rfl
      have v2 := HC9.out.frozen 2
      have u3 : w9.cell? ⟨w.heap.size + 1, 3, none⟩ = some (.slice none 0 0) := HC9.out.cell rfl
      have v3 := HC9.out.frozen 3
      have u4 : w9.cell? ⟨w.heap.size + 1, 4, none⟩ = some (.slice none 0 0) := HC9.out.cell rfl
      have v4 := HC9.out.frozen 4
      have HEND := Lib.hid (show TwoR w ((((((((((w9.setCell ⟨w.heap.size, 0, none⟩ (.int .i64 s)).setCell ⟨w.heap.size, 1, none⟩ (.int .i64 m)).setCell ⟨w.heap.size, 2, none⟩ (.string t)).setCell ⟨w.heap.size, 3, none⟩ (.slice an ns.length cn)).setCell ⟨w.heap.size, 4, none⟩ (.slice ak ks.length ck)).setCell ⟨w.heap.size + 1, 0, none⟩ (.int .i64 s)).setCell ⟨w.heap.size + 1, 1, none⟩ (.int .i64 m)).setCell ⟨w.heap.size + 1, 2, none⟩ (.string t)).setCell ⟨w.heap.size + 1, 3, none⟩ (.slice an5 ns.length cn5)).setCell ⟨w.heap.size + 1, 4, none⟩ (.slice (some ⟨g, 0, none⟩) ks.length ck5)).drew rb (.returned (.tuple #[.agg #[.int .i64 s, .int .i64 m, .string t, .slice an ns.length cn, .slice ak ks.length ck], .agg #[.int .i64 s, .int .i64 m, .string t, .slice an5 ns.length cn5, .slice (some ⟨g, 0, none⟩) ks.length ck5]])) from two_end (w := w) (w1 := w9) (rb := rb) (r1 := w.heap.size) (r2 := w.heap.size + 1) _ _ (.int .i64 s) (.int .i64 m) (.string t) (.slice an ns.length cn) (.slice ak ks.length ck) (.int .i64 s) (.int .i64 m) (.string t) (.slice an5 ns.length cn5) (.slice (some ⟨g, 0, none⟩) ks.length ck5) (HVX9.out.mono (fun b _ hb => ⟨by have := hb.1; omega, by have := hb.1; omega, by have := hb.1; omega⟩)) (HVY9.out.mono (fun b _ hb => ⟨by have := hb.1; omega, by have := hb.1; omega, by have := hb.1; omega⟩)) (by have := HBT.out; omega) (HBS.out) (Nat.le_refl _) (by omega) HG9.out (by unfold set10 set5; exact grown_drew (grown_refl _ _)))
      have HBE := Lib.hid (show Blk ((((((((((w9.setCell ⟨w.heap.size, 0, none⟩ (.int .i64 s)).setCell ⟨w.heap.size, 1, none⟩ (.int .i64 m)).setCell ⟨w.heap.size, 2, none⟩ (.string t)).setCell ⟨w.heap.size, 3, none⟩ (.slice an ns.length cn)).setCell ⟨w.heap.size, 4, none⟩ (.slice ak ks.length ck)).setCell ⟨w.heap.size + 1, 0, none⟩ (.int .i64 s)).setCell ⟨w.heap.size + 1, 1, none⟩ (.int .i64 m)).setCell ⟨w.heap.size + 1, 2, none⟩ (.string t)).setCell ⟨w.heap.size + 1, 3, none⟩ (.slice an5 ns.length cn5)).setCell ⟨w.heap.size + 1, 4, none⟩ (.slice (some ⟨g, 0, none⟩) ks.length ck5)).drew w.heap.size 27 [.int .i64 s, .int .i64 m, .string t, .slice an ns.length cn, .slice ak ks.length ck] ∧ Blk ((((((((((w9.setCell ⟨w.heap.size, 0, none⟩ (.int .i64 s)).setCell ⟨w.heap.size, 1, none⟩ (.int .i64 m)).setCell ⟨w.heap.size, 2, none⟩ (.string t)).setCell ⟨w.heap.size, 3, none⟩ (.slice an ns.length cn)).setCell ⟨w.heap.size, 4, none⟩ (.slice ak ks.length ck)).setCell ⟨w.heap.size + 1, 0, none⟩ (.int .i64 s)).setCell ⟨w.heap.size + 1, 1, none⟩ (.int .i64 m)).setCell ⟨w.heap.size + 1, 2, none⟩ (.string t)).setCell ⟨w.heap.size + 1, 3, none⟩ (.slice an5 ns.length cn5)).setCell ⟨w.heap.size + 1, 4, none⟩ (.slice (some ⟨g, 0, none⟩) ks.length ck5)).drew (w.heap.size + 1) 27 [.int .i64 s, .int .i64 m, .string t, .slice an5 ns.length cn5, .slice (some ⟨g, 0, none⟩) ks.length ck5] from by
        have h := two_blk (.int .i64 s) (.int .i64 m) (.string t) (.slice an ns.length cn) (.slice ak ks.length ck) (.int .i64 s) (.int .i64 m) (.string t) (.slice an5 ns.length cn5) (.slice (some ⟨g, 0, none⟩) ks.length ck5) (.int .i64 0) (.int .i64 0) (.string ⟨#[]⟩) (.slice none 0 0) (.slice none 0 0) (.int .i64 0) (.int .i64 0) (.string ⟨#[]⟩) (.slice none 0 0) (.slice none 0 0) HB9.out HC9.out (by omega)
        unfold set10 set5 at h
        exact ⟨h.1.drew, h.2.drew⟩)
      clear HK9 HV9 HY9 HB9 HC9 HRW9 HVX9 HG9 HVY9 HBS
      go_wp2
      go_region_law fail
      all_goals
        generalize ((((((((((w9.setCell ⟨w.heap.size, 0, none⟩ (.int .i64 s)).setCell ⟨w.heap.size, 1, none⟩ (.int .i64 m)).setCell ⟨w.heap.size, 2, none⟩ (.string t)).setCell ⟨w.heap.size, 3, none⟩ (.slice an ns.length cn)).setCell ⟨w.heap.size, 4, none⟩ (.slice ak ks.length ck)).setCell ⟨w.heap.size + 1, 0, none⟩ (.int .i64 s)).setCell ⟨w.heap.size + 1, 1, none⟩ (.int .i64 m)).setCell ⟨w.heap.size + 1, 2, none⟩ (.string t)).setCell ⟨w.heap.size + 1, 3, none⟩ (.slice an5 ns.length cn5)).setCell ⟨w.heap.size + 1, 4, none⟩ (.slice (some ⟨g, 0, none⟩) ks.length ck5)).drew = wf at HEND HBE ⊢
        clear x0 x1 x2 x3 x4 y0 y1 y2 y3 y4 r0 r1 r2 r3 r4 g0 g1 g2 g3 g4 u0 u1 u2 u3 u4 v0 v1 v2 v3 v4
        go_wp2
        exact ⟨rfl, _, results_two Tryz.results40 _ wf w.heap.size (w.heap.size + 1) 27 _ _ _ HBE.out.1 HBE.out.2 Tryz.underlying27 rfl info26s info26s rfl rfl, HEND.out⟩
  · have HCA := Lib.hid (any_any rb ao n cap w4.drew (q + 1) (HR4.out.kept (grown_drew (grown_refl w4 none)) (fun k hk => by cases hk)) (by omega))
    go_wp2
    go_region_law (go_simp; go_at_call 37; (with_reducible refine HCA.out.mono ?_); rintro e w5 ⟨T5, cs5, q5, rfl, hvx5, hbT5, hrd5, hq3, hq4, hg5⟩; obtain ⟨s5, m5, t5, ns5, ks5, an5, ak5, cn5, ck5, rfl, rfl, -, -⟩ := (hvx5.vin (base := 0) (fun b _ => Nat.zero_le _)).shp; have HGR := Lib.hid (show w4.grownBy w5 (some rb) from grown_undrew hg5); have HV5 := Lib.hid (HV4.out.kept HGR.out (by simp; omega)); have HB5 := Lib.hid (HB4.out.kept HGR.out (by simp; omega)); have HC5 := Lib.hid (HC4.out.kept HGR.out (by simp; omega)); have HVX5a := Lib.hid (HVX4.out.kept (Kept.of_grown HGR.out (fun k hk hx => by cases hk; omega))); have HVX5 := Lib.hid (show VX w5 (fun b => w4.heap.size ≤ b) _ _ from hvx5); have HG5 := Lib.hid (grown_trans HG4.out HGR.out); have HBT5 := Lib.hid hbT5; have y0 : w5.cell? ⟨vb, 0, none⟩ = some (.int .i64 s) := HV5.out.cell rfl; have y1 : w5.cell? ⟨vb, 1, none⟩ = some (.int .i64 m) := HV5.out.cell rfl; have y2 : w5.cell? ⟨vb, 2, none⟩ = some (.string t) := HV5.out.cell rfl; have y3 : w5.cell? ⟨vb, 3, none⟩ = some (.slice an ns.length cn) := HV5.out.cell rfl; have y4 : w5.cell? ⟨vb, 4, none⟩ = some (.slice ak ks.length ck) := HV5.out.cell rfl; have r0 : w5.cell? ⟨w.heap.size, 0, none⟩ = some (.int .i64 0) := HB5.out.cell rfl; have g0 := HB5.out.frozen 0; have r1 : w5.cell? ⟨w.heap.size, 1, none⟩ = some (.int .i64 0) := HB5.out.cell rfl; have g1 := HB5.out.frozen 1; have r2 : w5.cell? ⟨w.heap.size, 2, none⟩ = some (.string ⟨#[]⟩) := HB5.out.cell rfl; have g2 := HB5.out.frozen 2; have r3 : w5.cell? ⟨w.heap.size, 3, none⟩ = some (.slice none 0 0) := HB5.out.cell rfl; have g3 := HB5.out.frozen 3; have r4 : w5.cell? ⟨w.heap.size, 4, none⟩ = some (.slice none 0 0) := HB5.out.cell rfl; have g4 := HB5.out.frozen 4; have u0 : w5.cell? ⟨w.heap.size + 1, 0, none⟩ = some (.int .i64 0) := HC5.out.cell rfl; have v0 := HC5.out.frozen 0; have u1 : w5.cell? ⟨w.heap.size + 1, 1, none⟩ = some (.int .i64 0) := HC5.out.cell rfl; have v1 := HC5.out.frozen 1; have u2 : w5.cell? ⟨w.heap.size + 1, 2, none⟩ = some (.string ⟨#[]⟩) := HC5.out.cell rfl; have v2 := HC5.out.frozen 2; have u3 : w5.cell? ⟨w.heap.size + 1, 3, none⟩ = some (.slice none 0 0) := HC5.out.cell rfl; have v3 := HC5.out.frozen 3; have u4 : w5.cell? ⟨w.heap.size + 1, 4, none⟩ = some (.slice none 0 0) := HC5.out.cell rfl; have v4 := HC5.out.frozen 4; clear hvx5 hrd5 hg5 hbT5)
    all_goals
      have HEND := Lib.hid (show TwoR w ((((((((((w5.setCell ⟨w.heap.size, 0, none⟩ (.int .i64 s)).setCell ⟨w.heap.size, 1, none⟩ (.int .i64 m)).setCell ⟨w.heap.size, 2, none⟩ (.string t)).setCell ⟨w.heap.size, 3, none⟩ (.slice an ns.length cn)).setCell ⟨w.heap.size, 4, none⟩ (.slice ak ks.length ck)).setCell ⟨w.heap.size + 1, 0, none⟩ (.int .i64 s5)).setCell ⟨w.heap.size + 1, 1, none⟩ (.int .i64 m5)).setCell ⟨w.heap.size + 1, 2, none⟩ (.string t5)).setCell ⟨w.heap.size + 1, 3, none⟩ (.slice an5 ns5.length cn5)).setCell ⟨w.heap.size + 1, 4, none⟩ (.slice ak5 ks5.length ck5)) rb (.returned (.tuple #[.agg #[.int .i64 s, .int .i64 m, .string t, .slice an ns.length cn, .slice ak ks.length ck], .agg #[.int .i64 s5, .int .i64 m5, .string t5, .slice an5 ns5.length cn5, .slice ak5 ks5.length ck5]])) from two_end (w := w) (w1 := w5) (rb := rb) (r1 := w.heap.size) (r2 := w.heap.size + 1) _ _ (.int .i64 s) (.int .i64 m) (.string t) (.slice an ns.length cn) (.slice ak ks.length ck) (.int .i64 s5) (.int .i64 m5) (.string t5) (.slice an5 ns5.length cn5) (.slice ak5 ks5.length ck5) (HVX5a.out.mono (fun b _ hb => ⟨by omega, by omega, by omega⟩)) (HVX5.out.mono (fun b _ hb => ⟨by omega, by omega, by omega⟩)) (by have := HBT.out; omega) (by have := HBT5.out; omega) (Nat.le_refl _) (by omega) HG5.out (by unfold set10 set5; exact grown_refl _ _))
      have HBE := Lib.hid (show Blk ((((((((((w5.setCell ⟨w.heap.size, 0, none⟩ (.int .i64 s)).setCell ⟨w.heap.size, 1, none⟩ (.int .i64 m)).setCell ⟨w.heap.size, 2, none⟩ (.string t)).setCell ⟨w.heap.size, 3, none⟩ (.slice an ns.length cn)).setCell ⟨w.heap.size, 4, none⟩ (.slice ak ks.length ck)).setCell ⟨w.heap.size + 1, 0, none⟩ (.int .i64 s5)).setCell ⟨w.heap.size + 1, 1, none⟩ (.int .i64 m5)).setCell ⟨w.heap.size + 1, 2, none⟩ (.string t5)).setCell ⟨w.heap.size + 1, 3, none⟩ (.slice an5 ns5.length cn5)).setCell ⟨w.heap.size + 1, 4, none⟩ (.slice ak5 ks5.length ck5)) w.heap.size 27 [.int .i64 s, .int .i64 m, .string t, .slice an ns.length cn, .slice ak ks.length ck] ∧ Blk ((((((((((w5.setCell ⟨w.heap.size, 0, none⟩ (.int .i64 s)).setCell ⟨w.heap.size, 1, none⟩ (.int .i64 m)).setCell ⟨w.heap.size, 2, none⟩ (.string t)).setCell ⟨w.heap.size, 3, none⟩ (.slice an ns.length cn)).setCell ⟨w.heap.size, 4, none⟩ (.slice ak ks.length ck)).setCell ⟨w.heap.size + 1, 0, none⟩ (.int .i64 s5)).setCell ⟨w.heap.size + 1, 1, none⟩ (.int .i64 m5)).setCell ⟨w.heap.size + 1, 2, none⟩ (.string t5)).setCell ⟨w.heap.size + 1, 3, none⟩ (.slice an5 ns5.length cn5)).setCell ⟨w.heap.size + 1, 4, none⟩ (.slice ak5 ks5.length ck5)) (w.heap.size + 1) 27 [.int .i64 s5, .int .i64 m5, .string t5, .slice an5 ns5.length cn5, .slice ak5 ks5.length ck5] from by
        have h := two_blk (.int .i64 s) (.int .i64 m) (.string t) (.slice an ns.length cn) (.slice ak ks.length ck) (.int .i64 s5) (.int .i64 m5) (.string t5) (.slice an5 ns5.length cn5) (.slice ak5 ks5.length ck5) (.int .i64 0) (.int .i64 0) (.string ⟨#[]⟩) (.slice none 0 0) (.slice none 0 0) (.int .i64 0) (.int .i64 0) (.string ⟨#[]⟩) (.slice none 0 0) (.slice none 0 0) HB5.out HC5.out (by omega)
        unfold set10 set5 at h
        exact h)
      generalize ((((((((((w5.setCell ⟨w.heap.size, 0, none⟩ (.int .i64 s)).setCell ⟨w.heap.size, 1, none⟩ (.int .i64 m)).setCell ⟨w.heap.size, 2, none⟩ (.string t)).setCell ⟨w.heap.size, 3, none⟩ (.slice an ns.length cn)).setCell ⟨w.heap.size, 4, none⟩ (.slice ak ks.length ck)).setCell ⟨w.heap.size + 1, 0, none⟩ (.int .i64 s5)).setCell ⟨w.heap.size + 1, 1, none⟩ (.int .i64 m5)).setCell ⟨w.heap.size + 1, 2, none⟩ (.string t5)).setCell ⟨w.heap.size + 1, 3, none⟩ (.slice an5 ns5.length cn5)).setCell ⟨w.heap.size + 1, 4, none⟩ (.slice ak5 ks5.length ck5)) = wf at HEND HBE ⊢
      clear x0 x1 x2 x3 x4 y0 y1 y2 y3 y4 r0 r1 r2 r3 r4 g0 g1 g2 g3 g4 u0 u1 u2 u3 u4 v0 v1 v2 v3 v4 HV5 HB5 HC5 HVX5a HVX5 HG5 HV4 HB4 HC4 HG4 HVX4 HR4
      go_wp2
      exact ⟨rfl, _, results_two Tryz.results40 _ wf w.heap.size (w.heap.size + 1) 27 _ _ _ HBE.out.1 HBE.out.2 Tryz.underlying27 rfl info26s info26s rfl rfl, HEND.out⟩

end Go.Proofs.YtgmigloafcejdaaGreatDoor
