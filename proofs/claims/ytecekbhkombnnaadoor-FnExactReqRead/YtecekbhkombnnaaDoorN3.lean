/- Requests, by the document and by the program. -/
import Derived.Test.YtecekbhkombnnaaDoorN2
namespace Go.Proofs.YtecekbhkombnnaaDoor
open Go.RowKit

/-- a name, or nothing -/
def NameE (s : ByteArray) : Prop := s.size = 0 ∨ NameOk s
def ReqP (kd : Int) (tn us sp : ByteArray) (run num : Int) (tx : ByteArray) : Prop := NameE tn ∧ NameE us ∧ NameE sp ∧ InR 1 kd 10 ∧ InR 0 run 9999 ∧ InR 0 num 999999 ∧ TxtOk tx

set_option maxHeartbeats 1000000 in
theorem inameE_any (w : World) (s : ByteArray) (hs : s.size ≤ 1048576) : Calls Tryd.prog 64 #[.string s] w fun e w' => Says e (NameE s) ∧ w' = w := by
  have HET := Lib.hid (empty_iff s)
  by_cases h0 : s.size = 0
  · have hte : s.toList.isEmpty = true := by rw [HET.out]; exact decide_eq_true h0
    have HD := Lib.hid (show Says (.returned (.bool true)) (NameE s) from .yes (.inl h0))
    go_enter Tryd.func64, Tryd.ntmps64
    go_wp2
    go_ret
    exact ⟨HD.out, rfl⟩
  have hte : s.toList.isEmpty = false := by rw [HET.out]; exact decide_eq_false h0
  have HN := Lib.hid (inameOk_any w s hs)
  by_cases hN : NameOk s
  · have HD := Lib.hid (show Says (.returned (.bool true)) (NameE s) from .yes (.inr hN))
    have HC := Lib.hid (HN.out.mono (R' := fun e w' => e = .returned (.bool true) ∧ w' = w) (fun e w' h => ⟨h.1.is_yes hN, h.2⟩))
    clear hN HN
    go_enter Tryd.func64, Tryd.ntmps64
    go_wp2_with fail
    refine HC.out.mono ?_
    rintro e w1 ⟨rfl, rfl⟩
    go_wp2
    go_ret
    exact ⟨HD.out, rfl⟩
  · have HD := Lib.hid (show Says (.returned (.bool false)) (NameE s) from .no (fun h => h.elim h0 hN))
    have HC := Lib.hid (HN.out.mono (R' := fun e w' => e = .returned (.bool false) ∧ w' = w) (fun e w' h => ⟨h.1.is_no hN, h.2⟩))
    clear hN HN
    go_enter Tryd.func64, Tryd.ntmps64
    go_wp2_with fail
    refine HC.out.mono ?_
    rintro e w1 ⟨rfl, rfl⟩
    go_wp2
    go_ret
    exact ⟨HD.out, rfl⟩

set_option maxRecDepth 100000 in
set_option maxHeartbeats 4000000 in
theorem ireq_any (w : World) (kd : Int) (tn us sp : ByteArray) (run num : Int) (tx : ByteArray) (h1 : tn.size ≤ 1048576) (h2 : us.size ≤ 1048576) (h3 : sp.size ≤ 1048576) (h4 : tx.size ≤ 1048576) :
    Calls Tryd.prog 49 #[.agg #[.int .i64 kd, .string tn, .string us, .string sp, .int .i64 run, .int .i64 num, .string tx]] w fun e w' => Says e (ReqP kd tn us sp run num tx) ∧ w.grownBy w' none := by
  obtain ⟨p, hp⟩ : ∃ p : Prop, p = ReqP kd tn us sp run num tx := ⟨_, rfl⟩
  rw [← hp]
  have HP := Lib.hid hp
  clear hp
  have HG := Lib.hid (show w.grownBy (w.alloc (Obj.cells #[Value.int .i64 kd, .string tn, .string us, .string sp, .int .i64 run, .int .i64 num, .string tx] 31)) none from grown_alloc (grown_refl _ _) _)
  have HNO : Hid (¬ ReqP kd tn us sp run num tx → Says (.returned (.bool false)) p) := Lib.hid fun h => by rw [HP.out]; exact .no h
  by_cases k1 : (1 : Int) ≤ kd
  case neg =>
    have HN := Lib.hid (HNO.out (fun h => k1 h.2.2.2.1.1))
    go_enter Tryd.func49, Tryd.ntmps49
    go_wp2
    go_ret
    exact ⟨HN.out, HG.out⟩
  by_cases k2 : kd ≤ (10 : Int)
  case neg =>
    have HN := Lib.hid (HNO.out (fun h => k2 h.2.2.2.1.2))
    go_enter Tryd.func49, Tryd.ntmps49
    go_wp2
    go_ret
    exact ⟨HN.out, HG.out⟩
  by_cases nT : NameE tn
  case neg =>
    have HN := Lib.hid (HNO.out (fun h => nT h.1))
    have HCT := Lib.hid ((inameE_any (w.alloc (Obj.cells #[Value.int .i64 kd, .string tn, .string us, .string sp, .int .i64 run, .int .i64 num, .string tx] 31)) tn h1).mono (R' := fun e w' => e = .returned (.bool false) ∧ w' = (w.alloc (Obj.cells #[Value.int .i64 kd, .string tn, .string us, .string sp, .int .i64 run, .int .i64 num, .string tx] 31))) (fun e w' h => ⟨h.1.is_no nT, h.2⟩))
    clear nT
    go_enter Tryd.func49, Tryd.ntmps49
    go_wp2_with (first | (go_at_call 46; go_in) | (go_at_call 36; go_in))
    refine HCT.out.mono ?_
    rintro e w1 ⟨rfl, rfl⟩
    go_wp2
    go_ret
    exact ⟨HN.out, HG.out⟩
  have HCT := Lib.hid ((inameE_any (w.alloc (Obj.cells #[Value.int .i64 kd, .string tn, .string us, .string sp, .int .i64 run, .int .i64 num, .string tx] 31)) tn h1).mono (R' := fun e w' => e = .returned (.bool true) ∧ w' = (w.alloc (Obj.cells #[Value.int .i64 kd, .string tn, .string us, .string sp, .int .i64 run, .int .i64 num, .string tx] 31))) (fun e w' h => ⟨h.1.is_yes nT, h.2⟩))
  have HQT := Lib.hid nT
  clear nT
  by_cases nU : NameE us
  case neg =>
    have HN := Lib.hid (HNO.out (fun h => nU h.2.1))
    have HCU := Lib.hid ((inameE_any (w.alloc (Obj.cells #[Value.int .i64 kd, .string tn, .string us, .string sp, .int .i64 run, .int .i64 num, .string tx] 31)) us h2).mono (R' := fun e w' => e = .returned (.bool false) ∧ w' = (w.alloc (Obj.cells #[Value.int .i64 kd, .string tn, .string us, .string sp, .int .i64 run, .int .i64 num, .string tx] 31))) (fun e w' h => ⟨h.1.is_no nU, h.2⟩))
    clear nU
    go_enter Tryd.func49, Tryd.ntmps49
    go_wp2_with (first | (go_at_call 46; go_in) | (go_at_call 36; go_in))
    refine HCT.out.mono ?_
    rintro e w1 ⟨rfl, rfl⟩
    go_wp2_with (first | (go_at_call 46; go_in) | (go_at_call 36; go_in))
    refine HCU.out.mono ?_
    rintro e w1 ⟨rfl, rfl⟩
    go_wp2
    go_ret
    exact ⟨HN.out, HG.out⟩
  have HCU := Lib.hid ((inameE_any (w.alloc (Obj.cells #[Value.int .i64 kd, .string tn, .string us, .string sp, .int .i64 run, .int .i64 num, .string tx] 31)) us h2).mono (R' := fun e w' => e = .returned (.bool true) ∧ w' = (w.alloc (Obj.cells #[Value.int .i64 kd, .string tn, .string us, .string sp, .int .i64 run, .int .i64 num, .string tx] 31))) (fun e w' h => ⟨h.1.is_yes nU, h.2⟩))
  have HQU := Lib.hid nU
  clear nU
  by_cases nS : NameE sp
  case neg =>
    have HN := Lib.hid (HNO.out (fun h => nS h.2.2.1))
    have HCS := Lib.hid ((inameE_any (w.alloc (Obj.cells #[Value.int .i64 kd, .string tn, .string us, .string sp, .int .i64 run, .int .i64 num, .string tx] 31)) sp h3).mono (R' := fun e w' => e = .returned (.bool false) ∧ w' = (w.alloc (Obj.cells #[Value.int .i64 kd, .string tn, .string us, .string sp, .int .i64 run, .int .i64 num, .string tx] 31))) (fun e w' h => ⟨h.1.is_no nS, h.2⟩))
    clear nS
    go_enter Tryd.func49, Tryd.ntmps49
    go_wp2_with (first | (go_at_call 46; go_in) | (go_at_call 36; go_in))
    refine HCT.out.mono ?_
    rintro e w1 ⟨rfl, rfl⟩
    go_wp2_with (first | (go_at_call 46; go_in) | (go_at_call 36; go_in))
    refine HCU.out.mono ?_
    rintro e w1 ⟨rfl, rfl⟩
    go_wp2_with (first | (go_at_call 46; go_in) | (go_at_call 36; go_in))
    refine HCS.out.mono ?_
    rintro e w1 ⟨rfl, rfl⟩
    go_wp2
    go_ret
    exact ⟨HN.out, HG.out⟩
  have HCS := Lib.hid ((inameE_any (w.alloc (Obj.cells #[Value.int .i64 kd, .string tn, .string us, .string sp, .int .i64 run, .int .i64 num, .string tx] 31)) sp h3).mono (R' := fun e w' => e = .returned (.bool true) ∧ w' = (w.alloc (Obj.cells #[Value.int .i64 kd, .string tn, .string us, .string sp, .int .i64 run, .int .i64 num, .string tx] 31))) (fun e w' h => ⟨h.1.is_yes nS, h.2⟩))
  have HQS := Lib.hid nS
  clear nS
  by_cases r0 : (0 : Int) ≤ run
  case neg =>
    have HN := Lib.hid (HNO.out (fun h => r0 h.2.2.2.2.1.1))
    go_enter Tryd.func49, Tryd.ntmps49
    go_wp2_with (first | (go_at_call 46; go_in) | (go_at_call 36; go_in))
    refine HCT.out.mono ?_
    rintro e w1 ⟨rfl, rfl⟩
    go_wp2_with (first | (go_at_call 46; go_in) | (go_at_call 36; go_in))
    refine HCU.out.mono ?_
    rintro e w1 ⟨rfl, rfl⟩
    go_wp2_with (first | (go_at_call 46; go_in) | (go_at_call 36; go_in))
    refine HCS.out.mono ?_
    rintro e w1 ⟨rfl, rfl⟩
    go_wp2
    go_ret
    exact ⟨HN.out, HG.out⟩
  by_cases r1 : run ≤ (9999 : Int)
  case neg =>
    have HN := Lib.hid (HNO.out (fun h => r1 h.2.2.2.2.1.2))
    go_enter Tryd.func49, Tryd.ntmps49
    go_wp2_with (first | (go_at_call 46; go_in) | (go_at_call 36; go_in))
    refine HCT.out.mono ?_
    rintro e w1 ⟨rfl, rfl⟩
    go_wp2_with (first | (go_at_call 46; go_in) | (go_at_call 36; go_in))
    refine HCU.out.mono ?_
    rintro e w1 ⟨rfl, rfl⟩
    go_wp2_with (first | (go_at_call 46; go_in) | (go_at_call 36; go_in))
    refine HCS.out.mono ?_
    rintro e w1 ⟨rfl, rfl⟩
    go_wp2
    go_ret
    exact ⟨HN.out, HG.out⟩
  by_cases r2 : (0 : Int) ≤ num
  case neg =>
    have HN := Lib.hid (HNO.out (fun h => r2 h.2.2.2.2.2.1.1))
    go_enter Tryd.func49, Tryd.ntmps49
    go_wp2_with (first | (go_at_call 46; go_in) | (go_at_call 36; go_in))
    refine HCT.out.mono ?_
    rintro e w1 ⟨rfl, rfl⟩
    go_wp2_with (first | (go_at_call 46; go_in) | (go_at_call 36; go_in))
    refine HCU.out.mono ?_
    rintro e w1 ⟨rfl, rfl⟩
    go_wp2_with (first | (go_at_call 46; go_in) | (go_at_call 36; go_in))
    refine HCS.out.mono ?_
    rintro e w1 ⟨rfl, rfl⟩
    go_wp2
    go_ret
    exact ⟨HN.out, HG.out⟩
  by_cases r3 : num ≤ (999999 : Int)
  case neg =>
    have HN := Lib.hid (HNO.out (fun h => r3 h.2.2.2.2.2.1.2))
    go_enter Tryd.func49, Tryd.ntmps49
    go_wp2_with (first | (go_at_call 46; go_in) | (go_at_call 36; go_in))
    refine HCT.out.mono ?_
    rintro e w1 ⟨rfl, rfl⟩
    go_wp2_with (first | (go_at_call 46; go_in) | (go_at_call 36; go_in))
    refine HCU.out.mono ?_
    rintro e w1 ⟨rfl, rfl⟩
    go_wp2_with (first | (go_at_call 46; go_in) | (go_at_call 36; go_in))
    refine HCS.out.mono ?_
    rintro e w1 ⟨rfl, rfl⟩
    go_wp2
    go_ret
    exact ⟨HN.out, HG.out⟩
  by_cases nX : TxtOk tx
  case neg =>
    have HN := Lib.hid (HNO.out (fun h => nX h.2.2.2.2.2.2))
    have HCX := Lib.hid ((itxt_any (w.alloc (Obj.cells #[Value.int .i64 kd, .string tn, .string us, .string sp, .int .i64 run, .int .i64 num, .string tx] 31)) tx h4).mono (R' := fun e w' => e = .returned (.bool false) ∧ (w.alloc (Obj.cells #[Value.int .i64 kd, .string tn, .string us, .string sp, .int .i64 run, .int .i64 num, .string tx] 31)).grownBy w' none) (fun e w' h => ⟨h.1.is_no nX, h.2⟩))
    clear nX
    go_enter Tryd.func49, Tryd.ntmps49
    go_wp2_with (first | (go_at_call 46; go_in) | (go_at_call 36; go_in))
    refine HCT.out.mono ?_
    rintro e w1 ⟨rfl, rfl⟩
    go_wp2_with (first | (go_at_call 46; go_in) | (go_at_call 36; go_in))
    refine HCU.out.mono ?_
    rintro e w1 ⟨rfl, rfl⟩
    go_wp2_with (first | (go_at_call 46; go_in) | (go_at_call 36; go_in))
    refine HCS.out.mono ?_
    rintro e w1 ⟨rfl, rfl⟩
    go_wp2_with (first | (go_at_call 46; go_in) | (go_at_call 36; go_in))
    refine HCX.out.mono ?_
    rintro e w1 ⟨rfl, hgx⟩
    go_wp2
    go_ret
    exact ⟨HN.out, grown_trans HG.out hgx⟩
  have HY := Lib.hid (show Says (.returned (.bool true)) p from by rw [HP.out]; exact .yes ⟨HQT.out, HQU.out, HQS.out, ⟨k1, k2⟩, ⟨r0, r1⟩, ⟨r2, r3⟩, nX⟩)
  have HCX := Lib.hid ((itxt_any (w.alloc (Obj.cells #[Value.int .i64 kd, .string tn, .string us, .string sp, .int .i64 run, .int .i64 num, .string tx] 31)) tx h4).mono (R' := fun e w' => e = .returned (.bool true) ∧ (w.alloc (Obj.cells #[Value.int .i64 kd, .string tn, .string us, .string sp, .int .i64 run, .int .i64 num, .string tx] 31)).grownBy w' none) (fun e w' h => ⟨h.1.is_yes nX, h.2⟩))
  clear nX
  go_enter Tryd.func49, Tryd.ntmps49
  go_wp2_with (first | (go_at_call 46; go_in) | (go_at_call 36; go_in))
  refine HCT.out.mono ?_
  rintro e w1 ⟨rfl, rfl⟩
  go_wp2_with (first | (go_at_call 46; go_in) | (go_at_call 36; go_in))
  refine HCU.out.mono ?_
  rintro e w1 ⟨rfl, rfl⟩
  go_wp2_with (first | (go_at_call 46; go_in) | (go_at_call 36; go_in))
  refine HCS.out.mono ?_
  rintro e w1 ⟨rfl, rfl⟩
  go_wp2_with (first | (go_at_call 46; go_in) | (go_at_call 36; go_in))
  refine HCX.out.mono ?_
  rintro e w1 ⟨rfl, hgx⟩
  go_wp2
  go_ret
  exact ⟨HY.out, grown_trans HG.out hgx⟩
end Go.Proofs.YtecekbhkombnnaaDoor
