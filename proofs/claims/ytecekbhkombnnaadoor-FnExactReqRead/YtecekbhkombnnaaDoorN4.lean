/- Requests, by the document. -/
import Derived.Test.YtecekbhkombnnaaDoorN3
namespace Go.Proofs.YtecekbhkombnnaaDoor
open Go.RowKit

set_option maxRecDepth 100000 in
set_option maxHeartbeats 4000000 in
theorem req_any (w : World) (kd : Int) (tn us sp : ByteArray) (run num : Int) (tx : ByteArray) (h1 : tn.size ≤ 1048576) (h2 : us.size ≤ 1048576) (h3 : sp.size ≤ 1048576) (h4 : tx.size ≤ 1048576) :
    Calls Tryd.prog 42 #[.agg #[.int .i64 kd, .string tn, .string us, .string sp, .int .i64 run, .int .i64 num, .string tx]] w fun e w' => Says e (ReqP kd tn us sp run num tx) ∧ w.grownBy w' none := by
  obtain ⟨p, hp⟩ : ∃ p : Prop, p = ReqP kd tn us sp run num tx := ⟨_, rfl⟩
  rw [← hp]
  have HP := Lib.hid hp
  clear hp
  have HG := Lib.hid (show w.grownBy ((w.alloc (Obj.cells #[Value.int .i64 kd, .string tn, .string us, .string sp, .int .i64 run, .int .i64 num, .string tx] 31)).alloc (Obj.cells #[Value.string tn, .string us, .string sp] 9)) none from grown_alloc (grown_alloc (grown_refl _ _) _) _)
  have HNO : Hid (¬ ReqP kd tn us sp run num tx → Says (.returned (.bool false)) p) := Lib.hid fun h => by rw [HP.out]; exact .no h
  have HB1 := Lib.hid (show Blk ((w.alloc (Obj.cells #[Value.int .i64 kd, .string tn, .string us, .string sp, .int .i64 run, .int .i64 num, .string tx] 31)).alloc (Obj.cells #[Value.string tn, .string us, .string sp] 9)) w.heap.size 31 [Value.int .i64 kd, .string tn, .string us, .string sp, .int .i64 run, .int .i64 num, .string tx] from (Blk.new w 31 _).alloc _)
  have HB2 := Lib.hid (show Blk ((w.alloc (Obj.cells #[Value.int .i64 kd, .string tn, .string us, .string sp, .int .i64 run, .int .i64 num, .string tx] 31)).alloc (Obj.cells #[Value.string tn, .string us, .string sp] 9)) (w.heap.size + 1) 9 [Value.string tn, .string us, .string sp] from by
    have := Blk.new (w.alloc (Obj.cells #[Value.int .i64 kd, .string tn, .string us, .string sp, .int .i64 run, .int .i64 num, .string tx] 31)) 9 [Value.string tn, .string us, .string sp]
    simpa using this)
  have HTX := Lib.hid (txtS_any ((w.alloc (Obj.cells #[Value.int .i64 kd, .string tn, .string us, .string sp, .int .i64 run, .int .i64 num, .string tx] 31)).alloc (Obj.cells #[Value.string tn, .string us, .string sp] 9)) tx h4)
  have HNM := Lib.hid (fun (x : ByteArray) (hx : x.size ≤ 1048576) => nameOkS_any ((w.alloc (Obj.cells #[Value.int .i64 kd, .string tn, .string us, .string sp, .int .i64 run, .int .i64 num, .string tx] 31)).alloc (Obj.cells #[Value.string tn, .string us, .string sp] 9)) x hx)
  have HGET : Hid (∀ k : Nat, k < 3 → ∃ x : ByteArray, x.size ≤ 1048576 ∧ [Value.string tn, .string us, .string sp][k]? = some (.string x) ∧ (¬ NameE x → Says (.returned (.bool false)) p) ∧ (NameE x → ((k = 0 → NameE tn) ∧ (k = 1 → NameE us) ∧ (k = 2 → NameE sp)))) := Lib.hid fun k hk => by
    have h3k : k = 0 ∨ k = 1 ∨ k = 2 := by omega
    rcases h3k with rfl | rfl | rfl
    · exact ⟨tn, h1, rfl, fun h => HNO.out (fun hh => h hh.1), fun h => ⟨fun _ => h, fun e => by omega, fun e => by omega⟩⟩
    · exact ⟨us, h2, rfl, fun h => HNO.out (fun hh => h hh.2.1), fun h => ⟨fun e => by omega, fun _ => h, fun e => by omega⟩⟩
    · exact ⟨sp, h3, rfl, fun h => HNO.out (fun hh => h hh.2.2.1), fun h => ⟨fun e => by omega, fun e => by omega, fun _ => h⟩⟩
  go_enter Tryd.func42, Tryd.ntmps42
  go_wp2
  go_loop [4] (fun i => ∃ k : Nat, k ≤ 3 ∧ i = .int .i64 k ∧ Hid ((0 < k → NameE tn) ∧ (1 < k → NameE us) ∧ (2 < k → NameE sp))) (fun i => 3 - (intOf i).toNat)
  case atStart => exact ⟨0, by omega, rfl, Lib.hid ⟨fun h => by omega, fun h => by omega, fun h => by omega⟩⟩
  case round =>
    obtain ⟨k, hk, rfl, HA⟩ := hrel
    by_cases hlt : k < 3
    · have hkI : (k : Int) < 3 := by omega
      obtain ⟨x, hxs, hxg, hxn, hxy⟩ := HGET.out k hlt
      have HXN := Lib.hid hxn
      have HXY := Lib.hid hxy
      have d0 := HB2.out.cell hxg
      have HET := Lib.hid (empty_iff x)
      clear hxn hxy hxg
      by_cases h0 : x.size = 0
      · have hte : x.toList.isEmpty = true := by rw [HET.out]; exact decide_eq_true h0
        have HY := Lib.hid (HXY.out (.inl h0))
        go_wp2
        exact ⟨⟨k + 1, by omega, by go_num, Lib.hid ⟨fun _ => by by_cases e : k = 0; exact HY.out.1 e; exact HA.out.1 (by omega), fun _ => by by_cases e : k = 1; exact HY.out.2.1 e; exact HA.out.2.1 (by omega), fun _ => by by_cases e : k = 2; exact HY.out.2.2 e; exact HA.out.2.2 (by omega)⟩⟩, by simp [intOf]; omega⟩
      have hte : x.toList.isEmpty = false := by rw [HET.out]; exact decide_eq_false h0
      by_cases hN : NameOk x
      · have HY := Lib.hid (HXY.out (.inr hN))
        have HC := Lib.hid ((HNM.out x hxs).mono (R' := fun e w' => e = .returned (.bool true) ∧ w' = ((w.alloc (Obj.cells #[Value.int .i64 kd, .string tn, .string us, .string sp, .int .i64 run, .int .i64 num, .string tx] 31)).alloc (Obj.cells #[Value.string tn, .string us, .string sp] 9))) (fun e w' h => ⟨h.1.is_yes hN, h.2⟩))
        clear hN
        go_wp2_with fail
        refine HC.out.mono ?_
        rintro e w1 ⟨rfl, rfl⟩
        go_wp2
        exact ⟨⟨k + 1, by omega, by go_num, Lib.hid ⟨fun _ => by by_cases e : k = 0; exact HY.out.1 e; exact HA.out.1 (by omega), fun _ => by by_cases e : k = 1; exact HY.out.2.1 e; exact HA.out.2.1 (by omega), fun _ => by by_cases e : k = 2; exact HY.out.2.2 e; exact HA.out.2.2 (by omega)⟩⟩, by simp [intOf]; omega⟩
      · have HN := Lib.hid (HXN.out (fun h => h.elim h0 hN))
        have HC := Lib.hid ((HNM.out x hxs).mono (R' := fun e w' => e = .returned (.bool false) ∧ w' = ((w.alloc (Obj.cells #[Value.int .i64 kd, .string tn, .string us, .string sp, .int .i64 run, .int .i64 num, .string tx] 31)).alloc (Obj.cells #[Value.string tn, .string us, .string sp] 9))) (fun e w' h => ⟨h.1.is_no hN, h.2⟩))
        clear hN
        go_wp2_with fail
        refine HC.out.mono ?_
        rintro e w1 ⟨rfl, rfl⟩
        go_wp2
        go_ret
        exact ⟨HN.out, HG.out⟩
    · obtain rfl : k = 3 := by omega
      have d0 : ((w.alloc (Obj.cells #[Value.int .i64 kd, .string tn, .string us, .string sp, .int .i64 run, .int .i64 num, .string tx] 31)).alloc (Obj.cells #[Value.string tn, .string us, .string sp] 9)).cell? ⟨w.heap.size, 0, none⟩ = some (.int .i64 kd) := HB1.out.cell rfl
      have d4 : ((w.alloc (Obj.cells #[Value.int .i64 kd, .string tn, .string us, .string sp, .int .i64 run, .int .i64 num, .string tx] 31)).alloc (Obj.cells #[Value.string tn, .string us, .string sp] 9)).cell? ⟨w.heap.size, 4, none⟩ = some (.int .i64 run) := HB1.out.cell rfl
      have d5 : ((w.alloc (Obj.cells #[Value.int .i64 kd, .string tn, .string us, .string sp, .int .i64 run, .int .i64 num, .string tx] 31)).alloc (Obj.cells #[Value.string tn, .string us, .string sp] 9)).cell? ⟨w.heap.size, 5, none⟩ = some (.int .i64 num) := HB1.out.cell rfl
      have d6 : ((w.alloc (Obj.cells #[Value.int .i64 kd, .string tn, .string us, .string sp, .int .i64 run, .int .i64 num, .string tx] 31)).alloc (Obj.cells #[Value.string tn, .string us, .string sp] 9)).cell? ⟨w.heap.size, 6, none⟩ = some (.string tx) := HB1.out.cell rfl
      by_cases r0 : (1 : Int) ≤ kd
      case neg =>
        have HN := Lib.hid (HNO.out (fun h => r0 h.2.2.2.1.1))
        go_wp2
        go_ret
        exact ⟨HN.out, HG.out⟩
      by_cases r1 : kd ≤ (10 : Int)
      case neg =>
        have HN := Lib.hid (HNO.out (fun h => r1 h.2.2.2.1.2))
        go_wp2
        go_ret
        exact ⟨HN.out, HG.out⟩
      by_cases r2 : (0 : Int) ≤ run
      case neg =>
        have HN := Lib.hid (HNO.out (fun h => r2 h.2.2.2.2.1.1))
        go_wp2
        go_ret
        exact ⟨HN.out, HG.out⟩
      by_cases r3 : run ≤ (9999 : Int)
      case neg =>
        have HN := Lib.hid (HNO.out (fun h => r3 h.2.2.2.2.1.2))
        go_wp2
        go_ret
        exact ⟨HN.out, HG.out⟩
      by_cases r4 : (0 : Int) ≤ num
      case neg =>
        have HN := Lib.hid (HNO.out (fun h => r4 h.2.2.2.2.2.1.1))
        go_wp2
        go_ret
        exact ⟨HN.out, HG.out⟩
      by_cases r5 : num ≤ (999999 : Int)
      case neg =>
        have HN := Lib.hid (HNO.out (fun h => r5 h.2.2.2.2.2.1.2))
        go_wp2
        go_ret
        exact ⟨HN.out, HG.out⟩
      by_cases nX : TxtOk tx
      case neg =>
        have HN := Lib.hid (HNO.out (fun h => nX h.2.2.2.2.2.2))
        have HCX := Lib.hid (HTX.out.mono (R' := fun e w' => e = .returned (.bool false) ∧ w' = ((w.alloc (Obj.cells #[Value.int .i64 kd, .string tn, .string us, .string sp, .int .i64 run, .int .i64 num, .string tx] 31)).alloc (Obj.cells #[Value.string tn, .string us, .string sp] 9))) (fun e w' h => ⟨h.1.is_no nX, h.2⟩))
        clear nX
        go_wp2_with (first | (go_at_call 14; go_in))
        refine HCX.out.mono ?_
        rintro e w1 ⟨rfl, rfl⟩
        go_wp2
        go_ret
        exact ⟨HN.out, HG.out⟩
      have HY := Lib.hid (show Says (.returned (.bool true)) p from by rw [HP.out]; exact .yes ⟨HA.out.1 (by omega), HA.out.2.1 (by omega), HA.out.2.2 (by omega), ⟨r0, r1⟩, ⟨r2, r3⟩, ⟨r4, r5⟩, nX⟩)
      have HCX := Lib.hid (HTX.out.mono (R' := fun e w' => e = .returned (.bool true) ∧ w' = ((w.alloc (Obj.cells #[Value.int .i64 kd, .string tn, .string us, .string sp, .int .i64 run, .int .i64 num, .string tx] 31)).alloc (Obj.cells #[Value.string tn, .string us, .string sp] 9))) (fun e w' h => ⟨h.1.is_yes nX, h.2⟩))
      clear nX
      go_wp2_with (first | (go_at_call 14; go_in))
      refine HCX.out.mono ?_
      rintro e w1 ⟨rfl, rfl⟩
      go_wp2
      go_ret
      exact ⟨HY.out, HG.out⟩
end Go.Proofs.YtecekbhkombnnaaDoor
