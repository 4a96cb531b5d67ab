/- Lists of entries, compared. -/
import Derived.Test.YtfdhopkjblbkmaaDoorQ3
import Derived.Test.YtfdhopkjblbkmaaDoorB0
namespace Go.Proofs.YtfdhopkjblbkmaaDoor
open Go.RowKit

set_option maxRecDepth 100000 in
set_option maxHeartbeats 1000000 in
theorem eqEntry_any (w : World) (u : AE) :
    Calls Tryd.prog 25 #[.agg #[.int .i64 u.seq, .string u.ten, .string u.wha, .string u.det, .string u.sum], .agg #[.int .i64 u.seq, .string u.ten, .string u.wha, .string u.det, .string u.sum]] w fun e w' => e = .returned (.bool true) ∧ w.grownBy w' none := by
  have HG := Lib.hid (show w.grownBy ((w.alloc (Obj.cells #[Value.int .i64 u.seq, .string u.ten, .string u.wha, .string u.det, .string u.sum] 37)).alloc (Obj.cells #[Value.int .i64 u.seq, .string u.ten, .string u.wha, .string u.det, .string u.sum] 37)) none from grown_alloc (grown_alloc (grown_refl _ _) _) _)
  go_enter Tryd.func25, Tryd.ntmps25
  go_wp2
  go_ret
  exact ⟨rfl, HG.out⟩

set_option maxRecDepth 100000 in
set_option maxHeartbeats 1000000 in
theorem eqEntries_any (w : World) (b1 b2 : Nat) (us : List AE) (a1 a2 : Option Addr) (c1 c2 : Nat) (h1 : ELies w b1 a1 us) (h2 : ELies w b2 a2 us) (hn : us.length ≤ 1048576) (W0 : World) (hW0 : w.grownBy W0 none) :
    Calls Tryd.prog 10 #[.slice a1 us.length c1, .slice a2 us.length c2] W0 fun e w' => e = .returned (.bool true) ∧ W0.grownBy w' none := by
  have HP := Lib.hid h1
  have HQ := Lib.hid h2
  have HW := Lib.hid hW0
  have hn' : us.length ≤ 1048576 := by omega
  clear h1 h2 hW0
  go_enter Tryd.func10, Tryd.ntmps10
  go_wp2
  go_loopw [5] (fun i wr => ∃ k : Nat, k ≤ us.length ∧ i = .int .i64 k ∧ W0.grownBy wr none) (fun i _ => us.length - (intOf i).toNat)
  case atStart => exact ⟨0, Nat.zero_le _, rfl, grown_refl _ _⟩
  case round =>
    obtain ⟨k, hk, rfl, hg⟩ := hrel
    have HG := Lib.hid hg
    clear hg
    by_cases hlt : k < us.length
    · rcases HP.out with h0 | ⟨b, o, rfl, -, hc⟩
      · omega
      rcases HQ.out with h0 | ⟨bb, oo, rfl, -, hc2⟩
      · omega
      have t1 := hc k hlt
      have t2 := hc2 k hlt
      generalize us[k] = u at t1 t2
      have T1 := Lib.hid t1
      have T2 := Lib.hid t2
      have hkI : (k : Int) < us.length := by omega
      clear hc hc2 t1 t2
      go_wp2
      refine wp_still_tail 8 (by kernel_rfl) (by kernel_rfl) (fun wx => W0.grownBy wx none) (grown_drew HG.out) ?_
      intro wx hgx
      have HGX := Lib.hid hgx
      have HGW := Lib.hid (grown_trans HW.out hgx)
      obtain ⟨d0, d1, d2, d3, d4⟩ := T1.out.kept HGW.out (by simp)
      obtain ⟨e0, e1, e2, e3, e4⟩ := T2.out.kept HGW.out (by simp)
      have HCA := Lib.hid (eqEntry_any wx u)
      clear hgx T1 T2
      simp only [List.take_succ_cons, List.take_zero, List.drop_succ_cons, List.drop_zero]
      repeat still_step
      refine wpStill_nil ?_
      clear d0 d1 d2 d3 d4 e0 e1 e2 e3 e4
      go_wp2_with fail
      refine HCA.out.mono ?_
      rintro e w1 ⟨rfl, hg1⟩
      have HG1 := Lib.hid (grown_trans HGX.out hg1)
      clear hg1 HCA
      go_wp2
      go_roundw
      case rel => exact ⟨k + 1, by omega, by go_num, HG1.out⟩
      case measure => simp [intOf]; omega
    · obtain rfl : k = us.length := by omega
      go_wp2
      go_ret
      exact ⟨rfl, HG.out⟩
end Go.Proofs.YtfdhopkjblbkmaaDoor
