/- Credentials marked, and held. -/
import Derived.Test.YtecekbhkombnnaaGreatDoorEA
import Derived.Test.YtecekbhkombnnaaGreatDoorP2
namespace Go.Proofs.YtecekbhkombnnaaGreatDoor
open Go.RowKit

set_option maxRecDepth 100000 in
set_option maxHeartbeats 4000000 in
theorem markCap_any (w : World) (base : Nat) (tn sp : ByteArray) (run frm unt : Int) (an : Option Addr) (cn : Nat) (ss : List ByteArray) (se : ByteArray) (h : Row w base (.slice an ss.length cn) (strs ss)) (hn : ss.length ≤ 1048576) (k : Nat) (hk : 0 < k) (hkb : k ≤ 549755813888) :
    Calls Tryz.prog 12 #[.agg #[.string tn, .string sp, .int .i64 run, .int .i64 frm, .int .i64 unt, .slice an ss.length cn, .string se], .int .i64 (k : Int)] w fun e w' => e = .returned (.int .i64 ((k + ss.length : Nat) : Int)) ∧ Row w' base (.slice an ss.length cn) (strs (marks k ss.length)) ∧ w.grownBy w' (Value.slice an ss.length cn).ownBlock := by
  have HM := Lib.hid (markS_any (w.alloc (Obj.cells #[Value.string tn, .string sp, .int .i64 run, .int .i64 frm, .int .i64 unt, .slice an ss.length cn, .string se] 26)) base (.slice an ss.length cn) ss (h.alloc _) hn k hk hkb)
  go_enter Tryz.func12, Tryz.ntmps12
  go_wp2_with fail
  refine HM.out.mono ?_
  rintro e w1 ⟨rfl, hr, hg⟩
  have HR := Lib.hid hr
  have HG := Lib.hid (show w.grownBy w1 (Value.slice an ss.length cn).ownBlock from grown_trans (World.grownBy_alloc w _ _) hg)
  clear hr hg HM h
  go_wp2
  go_ret
  exact ⟨rfl, HR.out, HG.out⟩

set_option maxRecDepth 100000 in
set_option maxHeartbeats 4000000 in
theorem heldCap_any (w : World) (base : Nat) (tn sp : ByteArray) (run frm unt : Int) (an : Option Addr) (cn n : Nat) (se : ByteArray) (k : Nat) (h : Row w base (.slice an n cn) (strs (marks k n))) (hn : n ≤ 1048576) (hk : 0 < k) (hkb : k ≤ 549755813888) :
    Calls Tryz.prog 13 #[.agg #[.string tn, .string sp, .int .i64 run, .int .i64 frm, .int .i64 unt, .slice an n cn, .string se], .int .i64 (k : Int)] w fun e w' => e = .returned (.int .i64 ((k + n : Nat) : Int)) ∧ w.grownBy w' none := by
  have HM := Lib.hid (heldS_any (w.alloc (Obj.cells #[Value.string tn, .string sp, .int .i64 run, .int .i64 frm, .int .i64 unt, .slice an n cn, .string se] 26)) base (.slice an n cn) n k (h.alloc _) hn hk hkb)
  go_enter Tryz.func13, Tryz.ntmps13
  go_wp2_with fail
  refine HM.out.mono ?_
  rintro e w1 ⟨rfl, hg⟩
  have HG := Lib.hid (grown_trans (World.grownBy_alloc w _ _) hg)
  have h0 : ¬ ((k + n : Nat) : Int) < 0 := by omega
  clear hg HM h
  go_wp2
  go_ret
  exact ⟨rfl, HG.out⟩
end Go.Proofs.YtecekbhkombnnaaGreatDoor
