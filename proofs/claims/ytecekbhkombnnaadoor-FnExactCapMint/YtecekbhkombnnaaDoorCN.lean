/- Credentials that are ok, by both. -/
import Derived.Test.YtecekbhkombnnaaDoorCM
import Derived.Test.YtecekbhkombnnaaDoorM1
namespace Go.Proofs.YtecekbhkombnnaaDoor
open Go.RowKit

def RunP (tn sp : ByteArray) (run : Int) : Prop := NameOk tn ∧ NameOk sp ∧ InR 1 run 9999
def TickP (frm unt : Int) : Prop := InR 0 frm 999999 ∧ InR frm unt 999999
/-- a credential that is ok, whatever its seal -/
def CapP (tn sp : ByteArray) (run frm unt : Int) (ls : List ByteArray) (se : ByteArray) : Prop := RunP tn sp run ∧ TickP frm unt ∧ ls.length ≤ 4 ∧ (∀ l ∈ ls, LimP l) ∧ SealP se
theorem infoCap : (Tryd.prog.info? 24).map (·.size) = some 7 := by kernel_rfl

set_option maxRecDepth 100000 in
set_option maxHeartbeats 4000000 in
theorem irun_any (w : World) (tn sp : ByteArray) (run frm unt : Int) (ao : Option Addr) (cp : Nat) (ls : List ByteArray) (se : ByteArray) (h1 : tn.size ≤ 1048576) (h2 : sp.size ≤ 1048576) : Calls Tryd.prog 16 #[.agg #[.string tn, .string sp, .int .i64 run, .int .i64 frm, .int .i64 unt, .slice ao ls.length cp, .string se]] w fun e w' => Says e (RunP tn sp run) ∧ w.grownBy w' none := by
  have HG := Lib.hid (show w.grownBy (w.alloc (Obj.cells #[Value.string tn, .string sp, .int .i64 run, .int .i64 frm, .int .i64 unt, .slice ao ls.length cp, .string se] 24)) none from grown_alloc (grown_refl _ _) _)
  have HB := Lib.hid (show Blk (w.alloc (Obj.cells #[Value.string tn, .string sp, .int .i64 run, .int .i64 frm, .int .i64 unt, .slice ao ls.length cp, .string se] 24)) w.heap.size 24 [.string tn, .string sp, .int .i64 run, .int .i64 frm, .int .i64 unt, .slice ao ls.length cp, .string se] from Blk.new w 24 _)
  have H1 := Lib.hid (fun V => inameOk_any V tn h1)
  have H2 := Lib.hid (fun V => inameOk_any V sp h2)
  obtain ⟨P, hP⟩ : ∃ P, RunP tn sp run = P := ⟨_, rfl⟩
  have HP := Lib.hid (show P ↔ NameOk tn ∧ NameOk sp ∧ InR 1 run 9999 from by rw [← hP]; exact Iff.rfl)
  rw [hP]
  clear h1 h2 hP
  go_enter Tryd.func16, Tryd.ntmps16
  go_wp2_with fail
  refine (H1.out _).mono ?_
  rintro e w1 ⟨⟨b1, rfl, hb1⟩, rfl⟩
  have HB1 := Lib.hid hb1
  clear hb1 H1
  cases b1
  · have HD := Lib.hid (show Says (.returned (.bool false)) P from .no (fun h => by have := HB1.out.2 (HP.out.1 h).1; cases this))
    go_wp2
    go_ret
    exact ⟨HD.out, HG.out⟩
  go_wp2_with fail
  refine (H2.out _).mono ?_
  rintro e w1 ⟨⟨b2, rfl, hb2⟩, rfl⟩
  have HB2 := Lib.hid hb2
  clear hb2 H2
  cases b2
  · have HD := Lib.hid (show Says (.returned (.bool false)) P from .no (fun h => by have := HB2.out.2 (HP.out.1 h).2.1; cases this))
    go_wp2
    go_ret
    exact ⟨HD.out, HG.out⟩
  by_cases r1 : (1 : Int) ≤ run
  · by_cases r2 : run ≤ (9999 : Int)
    · have HD := Lib.hid (show Says (.returned (.bool true)) P from .yes (HP.out.2 ⟨HB1.out.1 (by first | trivial | rfl), HB2.out.1 (by first | trivial | rfl), r1, r2⟩))
      go_wp2
      go_ret
      exact ⟨HD.out, HG.out⟩
    · have HD := Lib.hid (show Says (.returned (.bool false)) P from .no (fun h => r2 (HP.out.1 h).2.2.2))
      have r2b : decide (run ≤ 9999) = false := decide_eq_false r2
      go_wp2
      go_ret
      exact ⟨HD.out, HG.out⟩
  · have HD := Lib.hid (show Says (.returned (.bool false)) P from .no (fun h => r1 (HP.out.1 h).2.2.1))
    go_wp2
    go_ret
    exact ⟨HD.out, HG.out⟩

set_option maxRecDepth 100000 in
set_option maxHeartbeats 4000000 in
theorem itick_any (w : World) (tn sp : ByteArray) (run frm unt : Int) (ao : Option Addr) (cp : Nat) (ls : List ByteArray) (se : ByteArray) : Calls Tryd.prog 17 #[.agg #[.string tn, .string sp, .int .i64 run, .int .i64 frm, .int .i64 unt, .slice ao ls.length cp, .string se]] w fun e w' => Says e (TickP frm unt) ∧ w.grownBy w' none := by
  have HG := Lib.hid (show w.grownBy (w.alloc (Obj.cells #[Value.string tn, .string sp, .int .i64 run, .int .i64 frm, .int .i64 unt, .slice ao ls.length cp, .string se] 24)) none from grown_alloc (grown_refl _ _) _)
  obtain ⟨P, hP⟩ : ∃ P, TickP frm unt = P := ⟨_, rfl⟩
  have HP := Lib.hid (show P ↔ InR 0 frm 999999 ∧ InR frm unt 999999 from by rw [← hP]; exact Iff.rfl)
  rw [hP]
  clear hP
  by_cases a1 : (0 : Int) ≤ frm
  case neg =>
    have HD := Lib.hid (show Says (.returned (.bool false)) P from .no (fun h => by have h := HP.out.1 h; exact a1 h.1.1))
    go_enter Tryd.func17, Tryd.ntmps17
    go_wp2_with (first | (go_at_call 36; go_in))
    go_ret
    exact ⟨HD.out, HG.out⟩
  by_cases a2 : frm ≤ (999999 : Int)
  case neg =>
    have HD := Lib.hid (show Says (.returned (.bool false)) P from .no (fun h => by have h := HP.out.1 h; exact a2 h.1.2))
    go_enter Tryd.func17, Tryd.ntmps17
    go_wp2_with (first | (go_at_call 36; go_in))
    go_ret
    exact ⟨HD.out, HG.out⟩
  by_cases a3 : (0 : Int) ≤ unt
  case neg =>
    have HD := Lib.hid (show Says (.returned (.bool false)) P from .no (fun h => by have h := HP.out.1 h; (have := h.2.1; omega)))
    go_enter Tryd.func17, Tryd.ntmps17
    go_wp2_with (first | (go_at_call 36; go_in))
    go_ret
    exact ⟨HD.out, HG.out⟩
  by_cases a4 : unt ≤ (999999 : Int)
  case neg =>
    have HD := Lib.hid (show Says (.returned (.bool false)) P from .no (fun h => by have h := HP.out.1 h; exact a4 h.2.2))
    go_enter Tryd.func17, Tryd.ntmps17
    go_wp2_with (first | (go_at_call 36; go_in))
    go_ret
    exact ⟨HD.out, HG.out⟩
  by_cases a5 : frm ≤ unt
  case neg =>
    have HD := Lib.hid (show Says (.returned (.bool false)) P from .no (fun h => by have h := HP.out.1 h; exact a5 h.2.1))
    go_enter Tryd.func17, Tryd.ntmps17
    go_wp2_with (first | (go_at_call 36; go_in))
    go_ret
    exact ⟨HD.out, HG.out⟩
  have HD := Lib.hid (show Says (.returned (.bool true)) P from .yes (HP.out.2 ⟨⟨a1, a2⟩, ⟨a5, a4⟩⟩))
  go_enter Tryd.func17, Tryd.ntmps17
  go_wp2_with (first | (go_at_call 36; go_in))
  go_ret
  exact ⟨HD.out, HG.out⟩

end Go.Proofs.YtecekbhkombnnaaDoor
