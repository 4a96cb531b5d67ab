/- Credentials that are ok, by the document. -/
import Derived.Test.YtecekbhkombnnaaGreatDoorCN
namespace Go.Proofs.YtecekbhkombnnaaGreatDoor
open Go.RowKit

set_option maxRecDepth 100000 in
set_option maxHeartbeats 16000000 in
theorem scap_any (w : World) (tn sp : ByteArray) (run frm unt : Int) (ao : Option Addr) (cp : Nat) (ls : List ByteArray) (se : ByteArray) (base : Nat) (hl : Lies w base ao ls) (hn : ls.length ≤ 1048576) (hz : ∀ l ∈ ls, l.size ≤ 1048576) (h1 : tn.size ≤ 1048576) (h2 : sp.size ≤ 1048576) (h3 : se.size ≤ 1048576) :
    Calls Tryz.prog 21 #[.agg #[.string tn, .string sp, .int .i64 run, .int .i64 frm, .int .i64 unt, .slice ao ls.length cp, .string se]] w fun e w' => Says e (CapP tn sp run frm unt ls se) ∧ w.grownBy w' none := by
  obtain ⟨W, hW⟩ : ∃ W, w.alloc (Obj.cells #[Value.string tn, .string sp, .int .i64 run, .int .i64 frm, .int .i64 unt, .slice ao ls.length cp, .string se] 26) = W := ⟨_, rfl⟩
  obtain ⟨B, hB⟩ : ∃ x, w.heap.size = x := ⟨_, rfl⟩
  have HG := Lib.hid (show w.grownBy W none from by rw [← hW]; exact grown_alloc (grown_refl _ _) _)
  have HB := Lib.hid (show Blk W B 26 [.string tn, .string sp, .int .i64 run, .int .i64 frm, .int .i64 unt, .slice ao ls.length cp, .string se] from by rw [← hW, ← hB]; exact Blk.new w 26 _)
  have HN1 := Lib.hid (fun V => nameOkS_any V tn h1)
  have HN2 := Lib.hid (fun V => nameOkS_any V sp h2)
  have HSE := Lib.hid (fun V => sseal_any V se h3)
  have HL := Lib.hid hl
  have HZ := Lib.hid hz
  obtain ⟨P, hP2⟩ : ∃ P, CapP tn sp run frm unt ls se = P := ⟨_, rfl⟩
  have HPP := Lib.hid (show P ↔ (NameOk tn ∧ NameOk sp ∧ InR 1 run 9999) ∧ (InR 0 frm 999999 ∧ InR frm unt 999999) ∧ ls.length ≤ 4 ∧ (∀ l ∈ ls, LimP l) ∧ SealP se from by rw [← hP2]; exact Iff.rfl)
  rw [hP2]
  have HW := Lib.hid hW
  have HBE := Lib.hid hB
  clear hW hB hl hz h1 h2 h3 hP2
  go_enter Tryz.func21, Tryz.ntmps21
  go_wp2
  rw [HW.out, HBE.out]
  go_loopw [3] (fun i wr => ∃ k : Nat, k ≤ ls.length ∧ i = .int .i64 k ∧ Hid (∀ j (h : j < ls.length), j < k → LimP ls[j]) ∧ W.grownBy wr none) (fun i _ => ls.length - (intOf i).toNat)
  case atStart => exact ⟨0, Nat.zero_le _, rfl, Lib.hid fun j _ h => absurd h (Nat.not_lt_zero _), grown_refl _ _⟩
  case round =>
    obtain ⟨k, hk, rfl, HA, hg⟩ := hrel
    have HGr := Lib.hid (grown_trans HG.out hg)
    have HBr := Lib.hid (HB.out.kept hg (by simp))
    have HGw := Lib.hid hg
    clear hg
    have c5 : wr.cell? ⟨B, 5, none⟩ = some (.slice ao ls.length cp) := HBr.out.cell rfl
    by_cases hlt : k < ls.length
    · rcases HL.out with h00 | ⟨ab, o, rfl, -, hc⟩
      · omega
      obtain ⟨s, hse⟩ : ∃ s, s = ls.getD k ByteArray.empty := ⟨_, rfl⟩
      have hge : ls[k] = s := by rw [hse]; simp [hlt]
      have d0 := HGr.out.cell (hc k hlt) (by simp)
      rw [← hse] at d0
      have HLI := Lib.hid (slim_any wr s (HZ.out s (by rw [← hge]; exact List.getElem_mem hlt)))
      have HSK := Lib.hid hge
      have hkI : (k : Int) < ls.length := by omega
      clear hc hse hge
      go_wp2_with fail
      refine HLI.out.mono ?_
      rintro e w1 ⟨⟨r, rfl, hr⟩, hg1⟩
      have HG1 := Lib.hid (grown_trans HGw.out hg1)
      clear hg1 HLI d0 c5
      by_cases hr0 : r = 0
      · subst hr0
        have HD := Lib.hid (show Says (.returned (.bool false)) P from .no (fun h => by
          have h5 := (HPP.out.1 h).2.2.2.1 ls[k] (List.getElem_mem hlt)
          rw [HSK.out] at h5
          rcases hr with ⟨h6, -⟩ | ⟨h6, -⟩ | ⟨-, h6⟩
          · omega
          · omega
          · exact h6 h5))
        clear hr
        go_wp2
        go_ret
        exact ⟨HD.out, grown_trans HG.out HG1.out⟩
      · have hrb : (r == 0) = false := by rw [beq_eq_false_iff_ne]; exact hr0
        have HA2 := Lib.hid (show ∀ j (h : j < ls.length), j < k + 1 → LimP ls[j] from fun j h hj => by
          by_cases e : j = k
          · subst e
            rw [HSK.out]
            rcases hr with ⟨-, h6⟩ | ⟨-, h6⟩ | ⟨h6, -⟩
            · exact .inl h6
            · exact .inr h6
            · exact absurd h6 hr0
          · exact HA.out j h (by omega))
        clear hr hr0
        go_wp2
        go_roundw
        case rel => exact ⟨k + 1, by omega, by go_num, HA2, HG1.out⟩
        case measure => simp [intOf]; omega
    · obtain rfl : k = ls.length := by omega
      have HAL := Lib.hid (show ∀ l ∈ ls, LimP l from fun l hl => by
        obtain ⟨j, hj, rfl⟩ := List.mem_iff_getElem.1 hl
        exact HA.out j hj hj)
      clear hk hlt HA
      have c0 : wr.cell? ⟨B, 0, none⟩ = some (.string tn) := HBr.out.cell rfl
      have c1 : wr.cell? ⟨B, 1, none⟩ = some (.string sp) := HBr.out.cell rfl
      have c2 : wr.cell? ⟨B, 2, none⟩ = some (.int .i64 run) := HBr.out.cell rfl
      have c3 : wr.cell? ⟨B, 3, none⟩ = some (.int .i64 frm) := HBr.out.cell rfl
      have c4 : wr.cell? ⟨B, 4, none⟩ = some (.int .i64 unt) := HBr.out.cell rfl
      have c6 : wr.cell? ⟨B, 6, none⟩ = some (.string se) := HBr.out.cell rfl
      go_wp2_with fail
      refine (HN1.out _).mono ?_
      rintro e wx ⟨⟨b1, rfl, hb1⟩, hw⟩
      have hw := hw.symm
      subst hw
      have HC1 := Lib.hid hb1
      clear hb1 HN1
      cases b1
      · have HD := Lib.hid (show Says (.returned (.bool false)) P from .no (fun h => by have := HC1.out.2 (HPP.out.1 h).1.1; cases this))
        go_wp2
        go_ret
        exact ⟨HD.out, HGr.out⟩
      go_wp2_with fail
      refine (HN2.out _).mono ?_
      rintro e wx ⟨⟨b2, rfl, hb2⟩, hw⟩
      have hw := hw.symm
      subst hw
      have HC2 := Lib.hid hb2
      clear hb2 HN2
      cases b2
      · have HD := Lib.hid (show Says (.returned (.bool false)) P from .no (fun h => by have := HC2.out.2 (HPP.out.1 h).1.2.1; cases this))
        go_wp2
        go_ret
        exact ⟨HD.out, HGr.out⟩
      by_cases r1 : (1 : Int) ≤ run
      case neg =>
        have HD := Lib.hid (show Says (.returned (.bool false)) P from .no (fun h => by have h := HPP.out.1 h; exact r1 h.1.2.2.1))
        go_wp2_with (first | (go_at_call 34; go_in))
        go_ret
        exact ⟨HD.out, HGr.out⟩
      by_cases r2 : run ≤ (9999 : Int)
      case neg =>
        have HD := Lib.hid (show Says (.returned (.bool false)) P from .no (fun h => by have h := HPP.out.1 h; exact r2 h.1.2.2.2))
        go_wp2_with (first | (go_at_call 34; go_in))
        go_ret
        exact ⟨HD.out, HGr.out⟩
      by_cases r3 : (0 : Int) ≤ frm
      case neg =>
        have HD := Lib.hid (show Says (.returned (.bool false)) P from .no (fun h => by have h := HPP.out.1 h; exact r3 h.2.1.1.1))
        go_wp2_with (first | (go_at_call 34; go_in))
        go_ret
        exact ⟨HD.out, HGr.out⟩
      by_cases r4 : frm ≤ (999999 : Int)
      case neg =>
        have HD := Lib.hid (show Says (.returned (.bool false)) P from .no (fun h => by have h := HPP.out.1 h; exact r4 h.2.1.1.2))
        go_wp2_with (first | (go_at_call 34; go_in))
        go_ret
        exact ⟨HD.out, HGr.out⟩
      by_cases r5 : frm ≤ unt
      case neg =>
        have HD := Lib.hid (show Says (.returned (.bool false)) P from .no (fun h => by have h := HPP.out.1 h; exact r5 h.2.1.2.1))
        go_wp2_with (first | (go_at_call 34; go_in))
        go_ret
        exact ⟨HD.out, HGr.out⟩
      by_cases r6 : unt ≤ (999999 : Int)
      case neg =>
        have HD := Lib.hid (show Says (.returned (.bool false)) P from .no (fun h => by have h := HPP.out.1 h; exact r6 h.2.1.2.2))
        go_wp2_with (first | (go_at_call 34; go_in))
        go_ret
        exact ⟨HD.out, HGr.out⟩
      by_cases r7 : (ls.length : Int) ≤ 4
      case neg =>
        have HD := Lib.hid (show Says (.returned (.bool false)) P from .no (fun h => by have h := HPP.out.1 h; exact r7 (by have := h.2.2.1; omega)))
        go_wp2_with (first | (go_at_call 34; go_in))
        go_ret
        exact ⟨HD.out, HGr.out⟩
      go_wp2_with (first | (go_at_call 34; go_in))
      refine (HSE.out _).mono ?_
      rintro e wx ⟨⟨b4, rfl, hb4⟩, hw⟩
      have hw := hw.symm
      subst hw
      have HD := Lib.hid (show Says (.returned (.bool b4)) P from ⟨b4, rfl, by
        rw [hb4, HPP.out]
        exact ⟨fun h => ⟨⟨HC1.out.1 (by first | trivial | rfl), HC2.out.1 (by first | trivial | rfl), r1, r2⟩, ⟨⟨r3, r4⟩, r5, r6⟩, by omega, HAL.out, h⟩, fun h => h.2.2.2.2⟩⟩)
      clear hb4 HSE
      go_wp2
      go_ret
      exact ⟨HD.out, HGr.out⟩
end Go.Proofs.YtecekbhkombnnaaGreatDoor
