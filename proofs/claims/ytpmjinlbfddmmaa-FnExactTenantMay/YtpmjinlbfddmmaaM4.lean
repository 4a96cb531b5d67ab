/- Lists of users, copied and compared. -/
import Derived.Test.YtpmjinlbfddmmaaM3
namespace Go.Proofs.Ytpmjinlbfddmmaa
open Go.RowKit

theorem roles_len (us : List (ByteArray × List ByteArray)) (M : Nat) (hn : us.length + bulkU us ≤ M) (j : Nat) (h : j < us.length) : us[j].2.length ≤ M := by
  have h1 := bulkU_at us j h
  have h2 : us[j].2.length ≤ uB us[j] := by unfold uB; omega
  omega
/-- a row of users, copied so far -/
def UCopied (w : World) (g : Nat) (us : List (ByteArray × List ByteArray)) (k : Nat) : Prop := ∃ X : List Value, X.length = k * 2 ∧ Blk w g 70 (X ++ zs2 (us.length - k)) ∧ ∀ j, j < k → ∀ (h : j < us.length), ∃ ar cr, X[j * 2]? = some (.string us[j].1) ∧ X[j * 2 + 1]? = some (.slice ar us[j].2.length cr) ∧ Lies w (g + 1) ar us[j].2
theorem UCopied.kept {w w' : World} {g : Nat} {us : List (ByteArray × List ByteArray)} {k : Nat} (h : UCopied w g us k) (hg : w.grownBy w' none) : UCopied w' g us k := by
  obtain ⟨X, h1, h2, h3⟩ := h
  refine ⟨X, h1, h2.kept hg (by simp), fun j hj hl => ?_⟩
  obtain ⟨ar, cr, a, b, c⟩ := h3 j hj hl
  exact ⟨ar, cr, a, b, c.kept hg (fun q e => by cases e)⟩
theorem get_app {X Y : List Value} {o : Nat} {v : Value} (h : X[o]? = some v) : (X ++ Y)[o]? = some v := by
  have hl : o < X.length := by
    apply Classical.byContradiction
    intro hh
    rw [List.getElem?_eq_none (by omega)] at h
    cases h
  rw [List.getElem?_append_left hl, h]
theorem UCopied.lies {w : World} {g : Nat} {us : List (ByteArray × List ByteArray)} (h : UCopied w g us us.length) : ULies w g (some ⟨g, 0, none⟩) us := by
  obtain ⟨X, h1, h2, h3⟩ := h
  refine .inr ⟨g, 0, rfl, Nat.le_refl _, fun j hj => ?_⟩
  obtain ⟨ar, cr, a, b, c⟩ := h3 j hj hj
  refine ⟨ar, cr, ?_, ?_, c.base (by omega)⟩
  · rw [Nat.zero_add]; exact h2.cell (get_app a)
  · rw [Nat.zero_add]; exact h2.cell (get_app b)

set_option maxRecDepth 100000 in
set_option maxHeartbeats 1000000 in
theorem toUsers_any (w : World) (base : Nat) (us : List (ByteArray × List ByteArray)) (ao : Option Addr) (cap : Nat) (hl : ULies w base ao us) (hn : us.length + bulkU us ≤ 1048576) (W0 : World) (hW0 : w.grownBy W0 none) :
    Calls Try.prog 20 #[.slice ao us.length cap] W0 fun e w' => e = .returned (.slice (some ⟨W0.heap.size, 0, none⟩) us.length us.length) ∧ ULies w' W0.heap.size (some ⟨W0.heap.size, 0, none⟩) us ∧ W0.grownBy w' none := by
  have HP := Lib.hid hl
  have HW := Lib.hid hW0
  have HBU := Lib.hid (fun (j : Nat) (h : j < us.length) => roles_len us 1048576 hn j h)
  clear hl hW0
  obtain ⟨i70, hi70, hz0, hz1, hz2⟩ := info_parts info70
  have hmk : ∀ W : World, (Instr.makeSlice 37 (.int .i64 (us.length : Int)) (.int .i64 (us.length : Int))).run Try.prog W = .ok (.slice (some ⟨W.heap.size, 0, none⟩) us.length us.length) (W.alloc (.cells (madeCells #[Value.string ⟨#[]⟩, .slice none 0 0] (us.length * 2)) 70)) := fun W => by
    have := run_make (P := Try.prog) W 37 70 i70 (.agg #[.string ⟨#[]⟩, .slice none 0 0]) Try.underlying37 hi70 hz0 .i64 .i64 us.length (us.length : Int) (by omega) (by omega) (by rw [hz2]; omega) (by omega)
    rw [this, hz1, show ((us.length : Int)).toNat = us.length from by omega]
    simp [Value.cells]
  have HB0 := Lib.hid (show UCopied (W0.alloc (.cells (madeCells #[Value.string ⟨#[]⟩, .slice none 0 0] (us.length * 2)) 70)) W0.heap.size us 0 from ⟨[], rfl, by
    rw [made_two, Nat.sub_zero, List.nil_append]
    exact Blk.new W0 70 _, fun j hj => absurd hj (Nat.not_lt_zero _)⟩)
  have hn' : us.length ≤ 1048576 := by omega
  go_enter Try.func20, Try.ntmps20
  go_wp2
  go_loopw [4] (fun i wr => ∃ k : Nat, k ≤ us.length ∧ i = .int .i64 k ∧ UCopied wr W0.heap.size us k ∧ W0.grownBy wr none) (fun i _ => us.length - (intOf i).toNat)
  case atStart => exact ⟨0, Nat.zero_le _, rfl, HB0.out, grown_alloc (grown_refl _ _) _⟩
  case round =>
    obtain ⟨k, hk, rfl, hb, hg⟩ := hrel
    have HC := Lib.hid hb
    have HG := Lib.hid hg
    clear hb hg HB0
    by_cases hlt : k < us.length
    · rcases HP.out with h00 | ⟨b, o, rfl, -, hc⟩
      · omega
      have HGW := Lib.hid (grown_trans HW.out HG.out)
      obtain ⟨ar, cr, ht⟩ := hc k hlt
      obtain ⟨d0, d1, hls⟩ := ht.kept HGW.out (by simp) (fun q e => by cases e)
      have hbk := HBU.out k hlt
      obtain ⟨u, hu⟩ : ∃ u, us[k] = u := ⟨_, rfl⟩
      have HU := Lib.hid hu
      rw [hu] at d0 d1 hls hbk
      have HCA := Lib.hid (toUser_any wr base u ar cr hls hbk)
      have hkI : (k : Int) < us.length := by omega
      clear hc ht hls hu
      go_wp2_with fail
      refine HCA.out.mono ?_
      rintro e w1 ⟨g, rfl, hgw, hv, hg1⟩
      obtain ⟨X, hX, hbx, hall⟩ := HC.out.kept hg1
      have hgl : W0.heap.size < wr.heap.size := by
        obtain ⟨X2, _, hbk2, _⟩ := HC.out
        exact hbk2.lt
      have hm1 : us.length - k = (us.length - (k + 1)) + 1 := by omega
      rw [hm1] at hbx
      have HV := Lib.hid (hv.base (show W0.heap.size + 1 ≤ wr.heap.size from hgl))
      have HALL := Lib.hid hall
      have HBK := Lib.hid hbx
      have HG1 := Lib.hid (grown_trans HG.out hg1)
      have e0 : w1.cell? ⟨W0.heap.size, k * 2, none⟩ = some (.string ⟨#[]⟩) := hbx.cell (get_two X k _ 0 hX (by decide))
      have e1 : w1.cell? ⟨W0.heap.size, k * 2 + 1, none⟩ = some (.slice none 0 0) := hbx.cell (get_two X k _ 1 hX (by decide))
      have f0 := hbx.frozen (k * 2)
      have f1 := hbx.frozen (k * 2 + 1)
      clear hv hg1 hall hbx HCA d0 d1 HC hm1 hgl hgw
      go_wp2
      go_roundw
      case rel =>
        have hgs : w1.grownBy _ (some W0.heap.size) := grown_set (grown_set (grown_refl w1 _) (k * 2) (.string u.1)) (k * 2 + 1) (.slice (some ⟨g, 0, none⟩) u.2.length u.2.length)
        refine ⟨k + 1, by omega, by go_num, ⟨X ++ [.string u.1, .slice (some ⟨g, 0, none⟩) u.2.length u.2.length], by simp [hX]; omega, ?_, fun j hj hjl => ?_⟩, grown_into HG1.out hgs (Nat.le_refl _)⟩
        · have := (HBK.out.set (k * 2) (.string u.1)).set (k * 2 + 1) (.slice (some ⟨g, 0, none⟩) u.2.length u.2.length)
          rw [set_two X k _ hX] at this
          exact this
        · by_cases e : j = k
          · subst e
            rw [HU.out]
            refine ⟨some ⟨g, 0, none⟩, u.2.length, ?_, ?_, HV.out.kept hgs (fun q hq => by cases hq; omega)⟩
            · rw [List.getElem?_append_right (by omega), hX, Nat.sub_self]; rfl
            · rw [List.getElem?_append_right (by omega), hX, Nat.add_sub_cancel_left]; rfl
          · obtain ⟨ar2, cr2, a, b2, c⟩ := HALL.out j (by omega) hjl
            exact ⟨ar2, cr2, get_app a, get_app b2, c.kept hgs (fun q hq => by cases hq; omega)⟩
      case measure => simp [intOf]; omega
    · obtain rfl : k = us.length := by omega
      go_wp2
      go_ret
      exact ⟨rfl, HC.out.lies, HG.out⟩

set_option maxRecDepth 100000 in
set_option maxHeartbeats 1000000 in
theorem eqUser_any (w : World) (b1 b2 : Nat) (u : ByteArray × List ByteArray) (a1 a2 : Option Addr) (c1 c2 : Nat) (h1 : Lies w b1 a1 u.2) (h2 : Lies w b2 a2 u.2) (hn : u.2.length ≤ 1048576) :
    Calls Try.prog 52 #[.agg #[.string u.1, .slice a1 u.2.length c1], .agg #[.string u.1, .slice a2 u.2.length c2]] w fun e w' => e = .returned (.bool true) ∧ w.grownBy w' none := by
  have HG := Lib.hid (show w.grownBy ((w.alloc (Obj.cells #[Value.string u.1, .slice a1 u.2.length c1] 70)).alloc (Obj.cells #[Value.string u.1, .slice a2 u.2.length c2] 70)) none from grown_alloc (grown_alloc (grown_refl _ _) _) _)
  have HE := Lib.hid (eqS_any _ b1 b2 u.2 a1 a2 c1 c2 (h1.kept HG.out (fun q e => by cases e)) (h2.kept HG.out (fun q e => by cases e)) hn)
  clear h1 h2
  go_enter Try.func52, Try.ntmps52
  go_wp2_with fail
  refine HE.out.mono ?_
  rintro e w1 ⟨rfl, hg1⟩
  have HG1 := Lib.hid (grown_trans HG.out hg1)
  clear hg1 HE
  go_wp2
  go_ret
  exact ⟨rfl, HG1.out⟩

set_option maxRecDepth 100000 in
set_option maxHeartbeats 1000000 in
theorem eqUsers_any (w : World) (b1 b2 : Nat) (us : List (ByteArray × List ByteArray)) (a1 a2 : Option Addr) (c1 c2 : Nat) (h1 : ULies w b1 a1 us) (h2 : ULies w b2 a2 us) (hn : us.length + bulkU us ≤ 1048576) (W0 : World) (hW0 : w.grownBy W0 none) :
    Calls Try.prog 22 #[.slice a1 us.length c1, .slice a2 us.length c2] W0 fun e w' => e = .returned (.bool true) ∧ W0.grownBy w' none := by
  have HP := Lib.hid h1
  have HQ := Lib.hid h2
  have HW := Lib.hid hW0
  have HBU := Lib.hid (fun (j : Nat) (h : j < us.length) => roles_len us 1048576 hn j h)
  have hn' : us.length ≤ 1048576 := by omega
  clear h1 h2 hW0
  go_enter Try.func22, Try.ntmps22
  go_wp2
  go_loopw [5] (fun i wr => ∃ k : Nat, k ≤ us.length ∧ i = .int .i64 k ∧ W0.grownBy wr none) (fun i _ => us.length - (intOf i).toNat)
  case atStart => exact ⟨0, Nat.zero_le _, rfl, grown_refl _ _⟩
  case round =>
    obtain ⟨k, hk, rfl, hg⟩ := hrel
    have HG := Lib.hid hg
    clear hg
    by_cases hlt : k < us.length
    · rcases HP.out with h0 | ⟨b, o, rfl, -, hc⟩
      · omega
      rcases HQ.out with h0 | ⟨bb, oo, rfl, -, hc2⟩
      · omega
      obtain ⟨ar, cr, t1⟩ := hc k hlt
      obtain ⟨ar2, cr2, t2⟩ := hc2 k hlt
      have hbk := HBU.out k hlt
      generalize us[k] = u at t1 t2 hbk
      have T1 := Lib.hid t1
      have T2 := Lib.hid t2
      have hkI : (k : Int) < us.length := by omega
      clear hc hc2 t1 t2
      go_wp2
      refine wp_still_tail 8 (by kernel_rfl) (by kernel_rfl) (fun wx => W0.grownBy wx none) (grown_drew HG.out) ?_
      intro wx hgx
      have HGX := Lib.hid hgx
      have HGW := Lib.hid (grown_trans HW.out hgx)
      obtain ⟨d0, d1, l1⟩ := T1.out.kept HGW.out (by simp) (fun q e => by cases e)
      obtain ⟨e0, e1, l2⟩ := T2.out.kept HGW.out (by simp) (fun q e => by cases e)
      have HCA := Lib.hid (eqUser_any wx b1 b2 u ar ar2 cr cr2 l1 l2 hbk)
      clear hgx l1 l2 T1 T2
      simp only [List.take_succ_cons, List.take_zero, List.drop_succ_cons, List.drop_zero]
      repeat still_step
      refine wpStill_nil ?_
      clear d0 d1 e0 e1
      go_wp2_with fail
      refine HCA.out.mono ?_
      rintro e w1 ⟨rfl, hg1⟩
      have HG1 := Lib.hid (grown_trans HGX.out hg1)
      clear hg1 HCA
      go_wp2
      go_roundw
      case rel => exact ⟨k + 1, by omega, by go_num, HG1.out⟩
      case measure => simp [intOf]; omega
    · obtain rfl : k = us.length := by omega
      go_wp2
      go_ret
      exact ⟨rfl, HG.out⟩
end Go.Proofs.Ytpmjinlbfddmmaa
