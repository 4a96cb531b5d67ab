/- Values copied by the exact laws: rows of values, and values. -/
import Derived.Test.YtgmigloafcejdaaGreatDoorV2
namespace Go.Proofs.YtgmigloafcejdaaGreatDoor
open Go.RowKit

theorem VIn.shape {w : World} {base : Nat} {T : VT} {cs : List Value} (h : VIn w base T cs) : ∃ (s n : Int) (t : ByteArray) (an : Option Addr) (ln cn : Nat) (ak : Option Addr) (lk ck : Nat), cs = [.int .i64 s, .int .i64 n, .string t, .slice an ln cn, .slice ak lk ck] := by
  cases h with
  | mk CS => exact ⟨_, _, _, _, _, _, _, _, _, rfl⟩
def FiveL (X : List Value) (o : Nat) (cs : List Value) : Prop := ∃ c0 c1 c2 c3 c4, cs = [c0, c1, c2, c3, c4] ∧ X[o]? = some c0 ∧ X[o + 1]? = some c1 ∧ X[o + 2]? = some c2 ∧ X[o + 3]? = some c3 ∧ X[o + 4]? = some c4
theorem get_app {X Y : List Value} {o : Nat} {v : Value} (h : X[o]? = some v) : (X ++ Y)[o]? = some v := by
  have hl : o < X.length := by
    apply Classical.byContradiction
    intro hh
    rw [List.getElem?_eq_none (by omega)] at h
    cases h
  rw [List.getElem?_append_left hl, h]
theorem FiveL.app {X Y : List Value} {o : Nat} {cs : List Value} (h : FiveL X o cs) : FiveL (X ++ Y) o cs := by
  obtain ⟨c0, c1, c2, c3, c4, e, h0, h1, h2, h3, h4⟩ := h
  exact ⟨c0, c1, c2, c3, c4, e, get_app h0, get_app h1, get_app h2, get_app h3, get_app h4⟩
theorem FiveL.new {X : List Value} {k : Nat} (hX : X.length = k * 5) (c0 c1 c2 c3 c4 : Value) : FiveL (X ++ [c0, c1, c2, c3, c4]) (k * 5) [c0, c1, c2, c3, c4] := by
  refine ⟨c0, c1, c2, c3, c4, rfl, ?_, ?_, ?_, ?_, ?_⟩ <;> rw [List.getElem?_append_right (by omega), hX] <;> simp [Nat.add_sub_cancel_left]
theorem FiveL.five {w : World} {g : Nat} {t : TypeId} {X : List Value} {o : Nat} {cs : List Value} (h : FiveL X o cs) (hb : Blk w g t X) : Five w g o cs := by
  obtain ⟨c0, c1, c2, c3, c4, e, h0, h1, h2, h3, h4⟩ := h
  exact ⟨c0, c1, c2, c3, c4, e, hb.cell h0, hb.cell h1, hb.cell h2, hb.cell h3, hb.cell h4⟩

/-- a row of values, copied so far -/
def Copied (w : World) (g : Nat) (ks : List VT) (k : Nat) : Prop := ∃ (X : List Value) (CS : Nat → List Value), X.length = k * 5 ∧ Blk w g 27 (X ++ zs5 (ks.length - k)) ∧ ∀ j, j < k → FiveL X (j * 5) (CS j) ∧ ∀ t, ks[j]? = some t → VIn w (g + 1) t (CS j)

theorem Copied.kept {w w' : World} {g : Nat} {ks : List VT} {k : Nat} (h : Copied w g ks k) (hg : w.grownBy w' none) : Copied w' g ks k := by
  obtain ⟨X, CS, h1, h2, h3⟩ := h
  exact ⟨X, CS, h1, h2.kept hg (by simp), fun j hj => ⟨(h3 j hj).1, fun t ht => ((h3 j hj).2 t ht).grown hg⟩⟩

set_option maxRecDepth 100000 in
set_option maxHeartbeats 1000000 in
theorem toK_any (w : World) (base : Nat) (ks : List VT) (ak : Option Addr) (ck : Nat) (hkl : ks.length ≤ 1048576) (CS : Nat → List Value) (hp : ks.length = 0 ∨ ∃ b o, ak = some ⟨b, o, none⟩ ∧ base ≤ b ∧ ∀ j, j < ks.length → Five w b (o + j * 5) (CS j))
    (ih : ∀ j k, ks[j]? = some k → ∀ W : World, w.grownBy W none → Calls Tryz.prog 20 #[.agg (CS j).toArray] W fun e w' => ∃ cs, e = .returned (.agg cs.toArray) ∧ VIn w' W.heap.size k cs ∧ W.grownBy w' none)
    (W0 : World) (hW0 : w.grownBy W0 none) :
    Calls Tryz.prog 46 #[.slice ak ks.length ck] W0 fun e w' => e = .returned (.slice (some ⟨W0.heap.size, 0, none⟩) ks.length ks.length) ∧ Copied w' W0.heap.size ks ks.length ∧ W0.grownBy w' none := by
  have HP := Lib.hid hp
  have HI := Lib.hid ih
  have HW := Lib.hid hW0
  clear hp ih hW0
  obtain ⟨i30, hi30, hz0, hz1, hz2⟩ := info_parts info30
  have hmk : ∀ W : World, (Instr.makeSlice 25 (.int .i64 (ks.length : Int)) (.int .i64 (ks.length : Int))).run Tryz.prog W = .ok (.slice (some ⟨W.heap.size, 0, none⟩) ks.length ks.length) (W.alloc (.cells (madeCells #[Value.int .i64 0, .int .i64 0, .string ⟨#[]⟩, .slice none 0 0, .slice none 0 0] (ks.length * 5)) 27)) := fun W => by
    have := run_make (P := Tryz.prog) W 25 27 i30 (.agg #[.int .i64 0, .int .i64 0, .string ⟨#[]⟩, .slice none 0 0, .slice none 0 0]) Tryz.underlying25 hi30 hz0 .i64 .i64 ks.length (ks.length : Int) (by omega) (by omega) (by rw [hz2]; omega) (by omega)
    rw [this, hz1, show ((ks.length : Int)).toNat = ks.length from by omega]
    simp [Value.cells]
  have HB0 := Lib.hid (show Copied (W0.alloc (.cells (madeCells #[Value.int .i64 0, .int .i64 0, .string ⟨#[]⟩, .slice none 0 0, .slice none 0 0] (ks.length * 5)) 27)) W0.heap.size ks 0 from ⟨[], fun _ => [], rfl, by
    rw [made_five, Nat.sub_zero, List.nil_append]
    exact Blk.new W0 27 _, fun j hj => absurd hj (Nat.not_lt_zero _)⟩)
  go_enter Tryz.func46, Tryz.ntmps46
  go_wp2
  go_loopw [4] (fun i wr => ∃ k : Nat, k ≤ ks.length ∧ i = .int .i64 k ∧ Copied wr W0.heap.size ks k ∧ W0.grownBy wr none) (fun i _ => ks.length - (intOf i).toNat)
  case atStart => exact ⟨0, Nat.zero_le _, rfl, HB0.out, grown_alloc (grown_refl _ _) _⟩
  case round =>
    obtain ⟨k, hk, rfl, hb, hg⟩ := hrel
    have HC := Lib.hid hb
    have HG := Lib.hid hg
    clear hb hg HB0
    by_cases hlt : k < ks.length
    · rcases HP.out with h00 | ⟨b, o, rfl, -, hc⟩
      · omega
      have HGW := Lib.hid (grown_trans HW.out HG.out)
      obtain ⟨c0, c1, c2, c3, c4, hcs, d0, d1, d2, d3, d4⟩ := (hc k hlt).kept HGW.out (by simp)
      have HCA := Lib.hid (HI.out k ks[k] (by simp [hlt]) wr HGW.out)
      rw [hcs] at HCA
      have hkI : (k : Int) < ks.length := by omega
      clear hc hcs
      go_wp2_with fail
      refine HCA.out.mono ?_
      rintro e w1 ⟨cs, rfl, hv, hg1⟩
      obtain ⟨s, n, t, an, ln, cn, ak2, lk, ck2, hcs⟩ := hv.shape
      subst hcs
      obtain ⟨X, CX, hX, hbk, hall⟩ := HC.out.kept hg1
      have hgl : W0.heap.size < wr.heap.size := by
        obtain ⟨X2, CX2, _, hbk2, _⟩ := HC.out
        exact hbk2.lt
      have hm1 : ks.length - k = (ks.length - (k + 1)) + 1 := by omega
      rw [hm1] at hbk
      have HV := Lib.hid (hv.base (show W0.heap.size + 1 ≤ wr.heap.size from hgl))
      have HALL := Lib.hid hall
      have HBK := Lib.hid hbk
      have HG1 := Lib.hid (grown_trans HG.out hg1)
      have e0 : w1.cell? ⟨W0.heap.size, k * 5, none⟩ = some (.int .i64 0) := hbk.cell (get_five X k _ 0 hX (by decide))
      have e1 : w1.cell? ⟨W0.heap.size, k * 5 + 1, none⟩ = some (.int .i64 0) := hbk.cell (get_five X k _ 1 hX (by decide))
      have e2 : w1.cell? ⟨W0.heap.size, k * 5 + 2, none⟩ = some (.string ⟨#[]⟩) := hbk.cell (get_five X k _ 2 hX (by decide))
      have e3 : w1.cell? ⟨W0.heap.size, k * 5 + 3, none⟩ = some (.slice none 0 0) := hbk.cell (get_five X k _ 3 hX (by decide))
      have e4 : w1.cell? ⟨W0.heap.size, k * 5 + 4, none⟩ = some (.slice none 0 0) := hbk.cell (get_five X k _ 4 hX (by decide))
      have f0 := hbk.frozen (k * 5)
      have f1 := hbk.frozen (k * 5 + 1)
      have f2 := hbk.frozen (k * 5 + 2)
      have f3 := hbk.frozen (k * 5 + 3)
      have f4 := hbk.frozen (k * 5 + 4)
      clear hv hg1 hall hbk HCA d0 d1 d2 d3 d4 HC hm1 hgl
      go_wp2
      go_roundw
      case rel =>
        have hgs : w1.grownBy _ (some W0.heap.size) := grown_set (grown_set (grown_set (grown_set (grown_set (grown_refl w1 _) (k * 5) (.int .i64 s)) (k * 5 + 1) (.int .i64 n)) (k * 5 + 2) (.string t)) (k * 5 + 3) (.slice an ln cn)) (k * 5 + 4) (.slice ak2 lk ck2)
        refine ⟨k + 1, by omega, by go_num, ⟨X ++ [.int .i64 s, .int .i64 n, .string t, .slice an ln cn, .slice ak2 lk ck2], fun j => if j = k then [.int .i64 s, .int .i64 n, .string t, .slice an ln cn, .slice ak2 lk ck2] else CX j, by simp [hX]; omega, ?_, fun j hj => ?_⟩, grown_into HG1.out hgs (Nat.le_refl _)⟩
        · have := ((((HBK.out.set (k * 5) (.int .i64 s)).set (k * 5 + 1) (.int .i64 n)).set (k * 5 + 2) (.string t)).set (k * 5 + 3) (.slice an ln cn)).set (k * 5 + 4) (.slice ak2 lk ck2)
          rw [set_five X k _ hX] at this
          exact this
        · by_cases e : j = k
          · subst e
            simp only [if_true]
            exact ⟨FiveL.new hX _ _ _ _ _, fun T hT => by
              have : T = ks[j] := by rw [List.getElem?_eq_getElem hlt] at hT; exact (Option.some.inj hT).symm
              subst this
              exact HV.out.kept hgs (fun q hq => by cases hq; omega)⟩
          · simp only [if_neg e]
            exact ⟨(HALL.out j (by omega)).1.app, fun T hT => ((HALL.out j (by omega)).2 T hT).kept hgs (fun q hq => by cases hq; omega)⟩
      case measure => simp [intOf]; omega
    · obtain rfl : k = ks.length := by omega
      go_wp2
      go_ret
      exact ⟨rfl, HC.out, HG.out⟩
end Go.Proofs.YtgmigloafcejdaaGreatDoor
