/- Credentials that are ok, by both. -/
import Derived.Test.YtecekbhkombnnaaGreatDoorCM
import Derived.Test.YtecekbhkombnnaaGreatDoorM1
namespace Go.Proofs.YtecekbhkombnnaaGreatDoor
open Go.RowKit

def RunP (tn sp : ByteArray) (run : Int) : Prop := NameOk tn ∧ NameOk sp ∧ InR 1 run 9999
def TickP (frm unt : Int) : Prop := InR 0 frm 999999 ∧ InR frm unt 999999
/-- a credential that is ok, whatever its seal -/
def CapP (tn sp : ByteArray) (run frm unt : Int) (ls : List ByteArray) (se : ByteArray) : Prop := RunP tn sp run ∧ TickP frm unt ∧ ls.length ≤ 4 ∧ (∀ l ∈ ls, LimP l) ∧ SealP se
theorem infoCap : (Tryz.prog.info? 26).map (·.size) = some 7 := by kernel_rfl

set_option maxRecDepth 100000 in
set_option maxHeartbeats 4000000 in
theorem irun_any (w : World) (tn sp : ByteArray) (run frm unt : Int) (ao : Option Addr) (cp : Nat) (ls : List ByteArray) (se : ByteArray) (h1 : tn.size ≤ 1048576) (h2 : sp.size ≤ 1048576) : Calls Tryz.prog 53 #[.agg #[.string tn, .string sp, .int .i64 run, .int .i64 frm, .int .i64 unt, .slice ao ls.length cp, .string se]] w fun e w' => Says e (RunP tn sp run) ∧ w.grownBy w' none := by
  have HG := Lib.hid (show w.grownBy (w.alloc (Obj.cells #[Value.string tn, .string sp, .int .i64 run, .int .i64 frm, .int .i64 unt, .slice ao ls.length cp, .string se] 26)) none from grown_alloc (grown_refl _ _) _)
  have HB := Lib.hid (show Blk (w.alloc (Obj.cells #[Value.string tn, .string sp, .int .i64 run, .int .i64 frm, .int .i64 unt, .slice ao ls.length cp, .string se] 26)) w.heap.size 26 [.string tn, .string sp, .int .i64 run, .int .i64 frm, .int .i64 unt, .slice ao ls.length cp, .string se] from Blk.new w 26 _)
  have H1 := Lib.hid (fun V => inameOk_any V tn h1)
  have H2 := Lib.hid (fun V => inameOk_any V sp h2)
  obtain ⟨P, hP⟩ : ∃ P, RunP tn sp run = P := ⟨_, rfl⟩
  have HP := Lib.hid (show P ↔ NameOk tn ∧ NameOk sp ∧ InR 1 run 9999 from by rw [← hP]; exact Iff.rfl)
  rw [hP]
  clear h1 h2 hP
  go_enter Tryz.func53, Tryz.ntmps53
  go_wp2_with fail
  refine (H1.out _).mono ?_
  rintro e w1 ⟨⟨b1, rfl, hb1⟩, rfl⟩
  have HB1 := Lib.hid hb1
  clear hb1 H1
  cases b1
  · have HD := Lib.hid (show Says (.returned (.bool false)) P from .no (fun h => by have := HB1.out.2 (HP.out.1 h).1; cases this))
    go_wp2
    go_ret
    exact ⟨HD.out, HG.out⟩
  go_wp2_with fail
  refine (H2.out _).mono ?_
  rintro e w1 ⟨⟨b2, rfl, hb2⟩, rfl⟩
  have HB2 := Lib.hid hb2
  clear hb2 H2
  cases b2
  · have HD := Lib.hid (show Says (.returned (.bool false)) P from .no (fun h => by have := HB2.out.2 (HP.out.1 h).2.1; cases this))
    go_wp2
    go_ret
    exact ⟨HD.out, HG.out⟩
  by_cases r1 : (1 : Int) ≤ run
  · by_cases r2 : run ≤ (9999 : Int)
    · have HD := Lib.hid (show Says (.returned (.bool true)) P from .yes (HP.out.2 ⟨HB1.out.1 (by first | trivial | rfl), HB2.out.1 (by first | trivial | rfl), r1, r2⟩))
      go_wp2
      go_ret
      exact ⟨HD.out, HG.out⟩
    · have HD := Lib.hid (show Says (.returned (.bool false)) P from .no (fun h => r2 (HP.out.1 h).2.2.2))
      have r2b : decide (run ≤ 9999) = false := decide_eq_false r2
      go_wp2
      go_ret
      exact ⟨HD.out, HG.out⟩
  · have HD := Lib.hid (show Says (.returned (.bool false)) P from .no (fun h => r1 (HP.out.1 h).2.2.1))
    go_wp2
    go_ret
    exact ⟨HD.out, HG.out⟩

set_option maxRecDepth 100000 in
set_option maxHeartbeats 4000000 in
theorem itick_any (w : World) (tn sp : ByteArray) (run frm unt : Int) (ao : Option Addr) (cp : Nat) (ls : List ByteArray) (se : ByteArray) : Calls Tryz.prog 54 #[.agg #[.string tn, .string sp, .int .i64 run, .int .i64 frm, .int .i64 unt, .slice ao ls.length cp, .string se]] w fun e w' => Says e (TickP frm unt) ∧ w.grownBy w' none := by
  have HG := Lib.hid (show w.grownBy (w.alloc (Obj.cells #[Value.string tn, .string sp, .int .i64 run, .int .i64 frm, .int .i64 unt, .slice ao ls.length cp, .string se] 26)) none from grown_alloc (grown_refl _ _) _)
  obtain ⟨P, hP⟩ : ∃ P, TickP frm unt = P := ⟨_, rfl⟩
  have HP := Lib.hid (show P ↔ InR 0 frm 999999 ∧ InR frm unt 999999 from by rw [← hP]; exact Iff.rfl)
  rw [hP]
  clear hP
  by_cases a1 : (0 : Int) ≤ frm
  case neg =>
    have HD := Lib.hid (show Says (.returned (.bool false)) P from .no (fun h => by have h := HP.out.1 h; exact a1 h.1.1))
    go_enter Tryz.func54, Tryz.ntmps54
    go_wp2_with (first | (go_at_call 76; go_in))
    go_ret
    exact ⟨HD.out, HG.out⟩
  by_cases a2 : frm ≤ (999999 : Int)
  case neg =>
    have HD := Lib.hid (show Says (.returned (.bool false)) P from .no (fun h => by have h := HP.out.1 h; exact a2 h.1.2))
    go_enter Tryz.func54, Tryz.ntmps54
    go_wp2_with (first | (go_at_call 76; go_in))
    go_ret
    exact ⟨HD.out, HG.out⟩
  by_cases a3 : (0 : Int) ≤ unt
  case neg =>
    have HD := Lib.hid (show Says (.returned (.bool false)) P from .no (fun h => by have h := HP.out.1 h; (have := h.2.1; omega)))
    go_enter Tryz.func54, Tryz.ntmps54
    go_wp2_with (first | (go_at_call 76; go_in))
    go_ret
    exact ⟨HD.out, HG.out⟩
  by_cases a4 : unt ≤ (999999 : Int)
  case neg =>
    have HD := Lib.hid (show Says (.returned (.bool false)) P from .no (fun h => by have h := HP.out.1 h; exact a4 h.2.2))
    go_enter Tryz.func54, Tryz.ntmps54
    go_wp2_with (first | (go_at_call 76; go_in))
    go_ret
    exact ⟨HD.out, HG.out⟩
  by_cases a5 : frm ≤ unt
  case neg =>
    have HD := Lib.hid (show Says (.returned (.bool false)) P from .no (fun h => by have h := HP.out.1 h; exact a5 h.2.1))
    go_enter Tryz.func54, Tryz.ntmps54
    go_wp2_with (first | (go_at_call 76; go_in))
    go_ret
    exact ⟨HD.out, HG.out⟩
  have HD := Lib.hid (show Says (.returned (.bool true)) P from .yes (HP.out.2 ⟨⟨a1, a2⟩, ⟨a5, a4⟩⟩))
  go_enter Tryz.func54, Tryz.ntmps54
  go_wp2_with (first | (go_at_call 76; go_in))
  go_ret
  exact ⟨HD.out, HG.out⟩

set_option maxRecDepth 100000 in
set_option maxHeartbeats 4000000 in
theorem ieach_any (w : World) (l : ByteArray) (q : Nat) (hs : l.size ≤ 1048576) (hE : ErrC w) (hP : Pow w) (hq : w.cell? ⟨q, 0, none⟩ = some (.func (.func 26) #[] #[])) :
    Calls Tryz.prog 78 #[.string l, .pointer (some ⟨q, 0, none⟩)] w fun e w' => Says e (¬ LimP l) ∧ w.grownBy w' none := by
  have HC := Lib.hid (ilimOk_any w l hs hE hP)
  clear hE hP
  go_enter Tryz.func78, Tryz.ntmps78
  go_wp2_with fail
  refine HC.out.mono ?_
  rintro e w1 ⟨⟨b, rfl, hb⟩, hg⟩
  have HG := Lib.hid hg
  have HD := Lib.hid (show Says (.returned (.bool (!b))) (¬ LimP l) from ⟨!b, rfl, by cases b <;> simp_all⟩)
  clear hg HC hb hq
  cases b
  all_goals
    go_wp2
    go_ret
    exact ⟨HD.out, HG.out⟩

set_option maxRecDepth 100000 in
set_option maxHeartbeats 8000000 in
theorem iindex_any (w : World) (base : Nat) (ao : Option Addr) (cp : Nat) (ls : List ByteArray) (q : Nat) (hl : Lies w base ao ls) (hn : ls.length ≤ 1048576) (hz : ∀ l ∈ ls, l.size ≤ 1048576) (hE : ErrC w) (hP : Pow w) (hq : w.cell? ⟨q, 0, none⟩ = some (.func (.func 26) #[] #[])) :
    Calls Tryz.prog 99 #[.slice ao ls.length cp, .func (.func 78) #[] #[.pointer (some ⟨q, 0, none⟩)]] w fun e w' => (∃ r : Int, e = .returned (.int .i64 r) ∧ (0 ≤ r ↔ ∃ l ∈ ls, ¬ LimP l)) ∧ w.grownBy w' none := by
  have HL := Lib.hid hl
  have HZ := Lib.hid hz
  have HE := Lib.hid hE
  have HP := Lib.hid hP
  have HQ := Lib.hid hq
  clear hl hz hE hP hq
  go_enter Tryz.func99, Tryz.ntmps99
  go_wp2
  go_loopw [8] (fun i wr => ∃ k : Nat, k ≤ ls.length ∧ i = .int .i64 k ∧ Hid (∀ j (h : j < ls.length), j < k → LimP ls[j]) ∧ w.grownBy wr none) (fun i _ => ls.length - (intOf i).toNat)
  case atStart => exact ⟨0, Nat.zero_le _, rfl, Lib.hid fun j _ h => absurd h (Nat.not_lt_zero _), grown_refl _ _⟩
  case round =>
    obtain ⟨k, hk, rfl, HA, hg⟩ := hrel
    have HG := Lib.hid hg
    by_cases hlt : k < ls.length
    · rcases HL.out with h00 | ⟨ab, o, rfl, -, hc⟩
      · omega
      obtain ⟨s, hse⟩ : ∃ s, s = ls.getD k ByteArray.empty := ⟨_, rfl⟩
      have hge : ls[k] = s := by rw [hse]; simp [hlt]
      have d0 := HG.out.cell (hc k hlt) (by simp)
      rw [← hse] at d0
      have HEA := Lib.hid (ieach_any wr s q (HZ.out s (by rw [← hge]; exact List.getElem_mem hlt)) (HE.out.grown HG.out) (HP.out.grown HG.out) (HG.out.cell HQ.out (by simp)))
      have HSE := Lib.hid hge
      have hkI : (k : Int) < ls.length := by omega
      clear hc hse hge hg
      go_wp2_with fail
      refine HEA.out.mono ?_
      rintro e w1 ⟨⟨b, rfl, hb⟩, hg1⟩
      have HG1 := Lib.hid (grown_trans HG.out hg1)
      have HB := Lib.hid hb
      clear hg1 HEA d0 hb
      cases b
      · have HA2 := Lib.hid (show ∀ j (h : j < ls.length), j < k + 1 → LimP ls[j] from fun j h hj => by
          by_cases e : j = k
          · subst e
            rw [HSE.out]
            exact Classical.byContradiction (fun h2 => by have := HB.out.2 h2; cases this)
          · exact HA.out j h (by omega))
        go_wp2
        go_roundw
        case rel => exact ⟨k + 1, by omega, by go_num, HA2, HG1.out⟩
        case measure => simp [intOf]; omega
      · have HD := Lib.hid (show 0 ≤ (k : Int) ↔ ∃ l ∈ ls, ¬ LimP l from ⟨fun _ => ⟨ls[k], List.getElem_mem hlt, by rw [HSE.out]; exact HB.out.1 (by first | trivial | rfl)⟩, fun _ => by omega⟩)
        go_wp2
        go_ret
        exact ⟨⟨_, rfl, HD.out⟩, HG1.out⟩
    · obtain rfl : k = ls.length := by omega
      have HD := Lib.hid (show 0 ≤ (-1 : Int) ↔ ∃ l ∈ ls, ¬ LimP l from ⟨fun h => by omega, fun ⟨l, hl, hn⟩ => by
        obtain ⟨j, hj, rfl⟩ := List.mem_iff_getElem.1 hl
        exact absurd (HA.out j hj hj) hn⟩)
      clear hg
      go_wp2
      go_ret
      exact ⟨⟨_, rfl, HD.out⟩, HG.out⟩

set_option maxRecDepth 100000 in
set_option maxHeartbeats 4000000 in
theorem ievery_any (w : World) (base : Nat) (ao : Option Addr) (cp : Nat) (ls : List ByteArray) (hl : Lies w base ao ls) (hn : ls.length ≤ 1048576) (hz : ∀ l ∈ ls, l.size ≤ 1048576) (hE : ErrC w) (hP : Pow w) :
    Calls Tryz.prog 55 #[.slice ao ls.length cp, .func (.func 26) #[] #[]] w fun e w' => Says e (∀ l ∈ ls, LimP l) ∧ w.grownBy w' none := by
  obtain ⟨W, hW⟩ : ∃ W, w.alloc (Obj.cells #[.func (.func 26) #[] #[]] 38) = W := ⟨_, rfl⟩
  obtain ⟨q, hq⟩ : ∃ x, w.heap.size = x := ⟨_, rfl⟩
  have HG := Lib.hid (show w.grownBy W none from by rw [← hW]; exact grown_alloc (grown_refl _ _) _)
  have HQ := Lib.hid (show W.cell? ⟨q, 0, none⟩ = some (.func (.func 26) #[] #[]) from by rw [← hW, ← hq]; exact (Blk.new w 38 [.func (.func 26) #[] #[]]).cell rfl)
  have HI := Lib.hid (iindex_any W base ao cp ls q (hl.kept HG.out (fun q e => by cases e)) hn hz (hE.grown HG.out) (hP.grown HG.out) HQ.out)
  have HCF := Lib.hid (show Calls Tryz.prog 77 #[.slice ao ls.length cp, .func (.func 78) #[] #[.pointer (some ⟨q, 0, none⟩)]] W (fun e w' => Says e (∃ l ∈ ls, ¬ LimP l) ∧ W.grownBy w' none) from by
    go_enter Tryz.func77, Tryz.ntmps77
    go_wp2_with fail
    refine HI.out.mono ?_
    rintro e w1 ⟨⟨r, rfl, hr⟩, hg⟩
    have HGx := Lib.hid hg
    have HR := Lib.hid hr
    clear hg hr HI
    by_cases h0 : 0 ≤ r
    · have HD := Lib.hid (show Says (.returned (.bool true)) (∃ l ∈ ls, ¬ LimP l) from .yes (HR.out.1 h0))
      go_wp2
      go_ret
      exact ⟨HD.out, HGx.out⟩
    · have HD := Lib.hid (show Says (.returned (.bool false)) (∃ l ∈ ls, ¬ LimP l) from .no (fun h => h0 (HR.out.2 h)))
      have h0b : decide (0 ≤ r) = false := decide_eq_false h0
      go_wp2
      go_ret
      exact ⟨HD.out, HGx.out⟩)
  have HW := Lib.hid hW
  have HQE := Lib.hid hq
  clear hl hz hE hP hW hq HI
  go_enter Tryz.func55, Tryz.ntmps55
  go_wp2_with fail
  rw [HW.out, HQE.out]
  refine HCF.out.mono ?_
  rintro e w1 ⟨⟨b, rfl, hb⟩, hg⟩
  have HG1 := Lib.hid (grown_trans HG.out hg)
  have HB := Lib.hid hb
  clear hg hb HCF
  cases b
  · have HD := Lib.hid (show Says (.returned (.bool true)) (∀ l ∈ ls, LimP l) from .yes (fun l hl => Classical.byContradiction (fun h => by have := HB.out.2 ⟨l, hl, h⟩; cases this)))
    go_wp2
    go_ret
    exact ⟨HD.out, HG1.out⟩
  · have HD := Lib.hid (show Says (.returned (.bool false)) (∀ l ∈ ls, LimP l) from .no (fun h => by
      obtain ⟨l, hl, hn⟩ := HB.out.1 (by first | trivial | rfl)
      exact hn (h l hl)))
    go_wp2
    go_ret
    exact ⟨HD.out, HG1.out⟩

set_option maxRecDepth 100000 in
set_option maxHeartbeats 16000000 in
theorem icap_any (w : World) (tn sp : ByteArray) (run frm unt : Int) (ao : Option Addr) (cp : Nat) (ls : List ByteArray) (se : ByteArray) (base : Nat) (hl : Lies w base ao ls) (hn : ls.length ≤ 1048576) (hz : ∀ l ∈ ls, l.size ≤ 1048576) (h1 : tn.size ≤ 1048576) (h2 : sp.size ≤ 1048576) (h3 : se.size ≤ 1048576) (hE : ErrC w) (hP : Pow w) :
    Calls Tryz.prog 25 #[.agg #[.string tn, .string sp, .int .i64 run, .int .i64 frm, .int .i64 unt, .slice ao ls.length cp, .string se]] w fun e w' => Says e (CapP tn sp run frm unt ls se) ∧ w.grownBy w' none := by
  obtain ⟨W, hW⟩ : ∃ W, w.alloc (Obj.cells #[Value.string tn, .string sp, .int .i64 run, .int .i64 frm, .int .i64 unt, .slice ao ls.length cp, .string se] 26) = W := ⟨_, rfl⟩
  obtain ⟨B, hB⟩ : ∃ x, w.heap.size = x := ⟨_, rfl⟩
  have HG := Lib.hid (show w.grownBy W none from by rw [← hW]; exact grown_alloc (grown_refl _ _) _)
  have HB := Lib.hid (show Blk W B 26 [.string tn, .string sp, .int .i64 run, .int .i64 frm, .int .i64 unt, .slice ao ls.length cp, .string se] from by rw [← hW, ← hB]; exact Blk.new w 26 _)
  have HRU := Lib.hid (fun V => irun_any V tn sp run frm unt ao cp ls se h1 h2)
  have HTI := Lib.hid (fun V => itick_any V tn sp run frm unt ao cp ls se)
  have HEV := Lib.hid (fun (V : World) (hV : w.grownBy V none) => ievery_any V base ao cp ls (hl.kept hV (fun q e => by cases e)) hn hz (hE.grown hV) (hP.grown hV))
  have HSE := Lib.hid (fun V => iseal_any V se h3)
  obtain ⟨P, hP2⟩ : ∃ P, CapP tn sp run frm unt ls se = P := ⟨_, rfl⟩
  have HPP := Lib.hid (show P ↔ RunP tn sp run ∧ TickP frm unt ∧ ls.length ≤ 4 ∧ (∀ l ∈ ls, LimP l) ∧ SealP se from by rw [← hP2]; exact Iff.rfl)
  rw [hP2]
  have HW := Lib.hid hW
  have HBE := Lib.hid hB
  clear hW hB hl hz hn h1 h2 h3 hE hP hP2
  go_enter Tryz.func25, Tryz.ntmps25
  go_wp2_with fail
  rw [HW.out, HBE.out]
  refine (HRU.out _).mono ?_
  rintro e w1 ⟨⟨b1, rfl, hb1⟩, hg1⟩
  have HB1 := Lib.hid (HB.out.kept hg1 (by simp))
  have HG1 := Lib.hid (grown_trans HG.out hg1)
  have HC1 := Lib.hid hb1
  clear hg1 hb1 HRU HB HG HW HBE
  cases b1
  · have HD := Lib.hid (show Says (.returned (.bool false)) P from .no (fun h => by have := HC1.out.2 (HPP.out.1 h).1; cases this))
    go_wp2
    go_ret
    exact ⟨HD.out, HG1.out⟩
  have c0 : w1.cell? ⟨B, 0, none⟩ = some (.string tn) := HB1.out.cell rfl
  have c1 : w1.cell? ⟨B, 1, none⟩ = some (.string sp) := HB1.out.cell rfl
  have c2 : w1.cell? ⟨B, 2, none⟩ = some (.int .i64 run) := HB1.out.cell rfl
  have c3 : w1.cell? ⟨B, 3, none⟩ = some (.int .i64 frm) := HB1.out.cell rfl
  have c4 : w1.cell? ⟨B, 4, none⟩ = some (.int .i64 unt) := HB1.out.cell rfl
  have c5 : w1.cell? ⟨B, 5, none⟩ = some (.slice ao ls.length cp) := HB1.out.cell rfl
  have c6 : w1.cell? ⟨B, 6, none⟩ = some (.string se) := HB1.out.cell rfl
  go_wp2_with fail
  clear c0 c1 c2 c3 c4 c5 c6
  refine (HTI.out _).mono ?_
  rintro e w2 ⟨⟨b2, rfl, hb2⟩, hg2⟩
  have HB2 := Lib.hid (HB1.out.kept hg2 (by simp))
  have HG2 := Lib.hid (grown_trans HG1.out hg2)
  have HC2 := Lib.hid hb2
  clear hg2 hb2 HTI HB1 HG1
  cases b2
  · have HD := Lib.hid (show Says (.returned (.bool false)) P from .no (fun h => by have := HC2.out.2 (HPP.out.1 h).2.1; cases this))
    go_wp2
    go_ret
    exact ⟨HD.out, HG2.out⟩
  have d5 : w2.cell? ⟨B, 5, none⟩ = some (.slice ao ls.length cp) := HB2.out.cell rfl
  by_cases h4 : (ls.length : Int) ≤ 4
  case neg =>
    have HD := Lib.hid (show Says (.returned (.bool false)) P from .no (fun h => h4 (by have := (HPP.out.1 h).2.2.1; omega)))
    go_wp2
    go_ret
    exact ⟨HD.out, HG2.out⟩
  have HEV2 := Lib.hid (HEV.out w2 HG2.out)
  go_wp2_with fail
  refine HEV2.out.mono ?_
  rintro e w3 ⟨⟨b3, rfl, hb3⟩, hg3⟩
  have HB3 := Lib.hid (HB2.out.kept hg3 (by simp))
  have HG3 := Lib.hid (grown_trans HG2.out hg3)
  have HC3 := Lib.hid hb3
  clear hg3 hb3 HEV HEV2 HB2 HG2 d5
  cases b3
  · have HD := Lib.hid (show Says (.returned (.bool false)) P from .no (fun h => by have := HC3.out.2 (HPP.out.1 h).2.2.2.1; cases this))
    go_wp2
    go_ret
    exact ⟨HD.out, HG3.out⟩
  have d6 : w3.cell? ⟨B, 6, none⟩ = some (.string se) := HB3.out.cell rfl
  go_wp2_with fail
  refine (HSE.out _).mono ?_
  rintro e w4 ⟨⟨b4, rfl, hb4⟩, hg4⟩
  have HG4 := Lib.hid (grown_trans HG3.out hg4)
  have HD := Lib.hid (show Says (.returned (.bool b4)) P from ⟨b4, rfl, by
    rw [hb4, HPP.out]
    exact ⟨fun h => ⟨HC1.out.1 (by first | trivial | rfl), HC2.out.1 (by first | trivial | rfl), by omega, HC3.out.1 (by first | trivial | rfl), h⟩, fun h => h.2.2.2.2⟩⟩)
  clear hg4 hb4 HSE HB3 HG3 d6
  go_wp2
  go_ret
  exact ⟨HD.out, HG4.out⟩
end Go.Proofs.YtecekbhkombnnaaGreatDoor
