/- FnExactReqOk, walked. -/
import Derived.Test.YtpmjinlbfddmmaaN4
namespace Go.Proofs.Ytpmjinlbfddmmaa
open Go.RowKit

set_option maxRecDepth 100000 in
set_option maxHeartbeats 2000000 in
theorem szReq_any (w : World) (kd : Int) (tn us sp : ByteArray) (run num : Int) (tx : ByteArray) (h1 : tn.size ≤ 9223372036854775807) (h2 : us.size ≤ 9223372036854775807) (h3 : sp.size ≤ 9223372036854775807) (h4 : tx.size ≤ 9223372036854775807) :
    Calls Try.prog 25 #[.agg #[.int .i64 kd, .string tn, .string us, .string sp, .int .i64 run, .int .i64 num, .string tx], .int .i64 1048576] w fun e w' => ∃ r : Int, e = .returned (.int .i64 r) ∧ (r < 0 ∨ (0 ≤ r ∧ tn.size ≤ 1048576 ∧ us.size ≤ 1048576 ∧ sp.size ≤ 1048576 ∧ tx.size ≤ 1048576)) ∧ w.grownBy w' none := by
  have HG := Lib.hid (show w.grownBy (w.alloc (Obj.cells #[Value.int .i64 kd, .string tn, .string us, .string sp, .int .i64 run, .int .i64 num, .string tx] 44)) none from grown_alloc (grown_refl _ _) _)
  by_cases a1 : (1048576 : Int) < tn.size
  · go_enter Try.func25, Try.ntmps25
    go_wp2
    go_ret
    exact ⟨-1, rfl, .inl (by omega), HG.out⟩
  by_cases a2 : (1048576 : Int) - tn.size < us.size
  · go_enter Try.func25, Try.ntmps25
    go_wp2
    go_ret
    exact ⟨-1, rfl, .inl (by omega), HG.out⟩
  by_cases a3 : (1048576 : Int) - tn.size - us.size < sp.size
  · go_enter Try.func25, Try.ntmps25
    go_wp2
    go_ret
    exact ⟨-1, rfl, .inl (by omega), HG.out⟩
  by_cases a4 : (1048576 : Int) - tn.size - us.size - sp.size < tx.size
  · go_enter Try.func25, Try.ntmps25
    go_wp2
    go_ret
    exact ⟨-1, rfl, .inl (by omega), HG.out⟩
  go_enter Try.func25, Try.ntmps25
  go_wp2
  go_ret
  exact ⟨_, rfl, .inr ⟨by omega, by omega, by omega, by omega, by omega⟩, HG.out⟩

theorem results_blk1 {P : Program} {fn : Func} {p : Tmp} {ty : TypeId} (h : fn.results = #[.cell p ty]) (tmps : Array Value) (w : World) (g : Nat) (t : TypeId) (L : List Value) (d : TypeDesc)
    (hg : Blk w g t L) (hu : P.underlying ty = some d) (hd : (match d with | .struct _ | .array _ _ => true | _ => false) = true) (hi : (P.info? ty).map (·.size) = some L.length)
    (hp : tmps[p]?.getD undef = .pointer (some ⟨g, 0, none⟩)) :
    (results fn tmps).run P w = .ok (.agg L.toArray) w := by
  simp [results, h, hp, asAddr, run_loadVar_row w g t ty L.toArray (0, 0) d hg hu hd (by simpa using hi)]
theorem info47 : (Try.prog.info? 47).map (·.size) = some 7 := by kernel_rfl

set_option maxRecDepth 100000 in
set_option maxHeartbeats 2000000 in
theorem toReq_any (w : World) (kd : Int) (tn us sp : ByteArray) (run num : Int) (tx : ByteArray) :
    Calls Try.prog 27 #[.agg #[.int .i64 kd, .string tn, .string us, .string sp, .int .i64 run, .int .i64 num, .string tx]] w fun e w' => e = .returned (.agg #[.int .i64 kd, .string tn, .string us, .string sp, .int .i64 run, .int .i64 num, .string tx]) ∧ w.grownBy w' none := by
  have HB := Lib.hid (show Blk ((w.alloc (Obj.cells #[Value.int .i64 kd, .string tn, .string us, .string sp, .int .i64 run, .int .i64 num, .string tx] 44)).alloc (Obj.cells #[Value.int .i64 kd, .string tn, .string us, .string sp, .int .i64 run, .int .i64 num, .string tx] 47)) (w.heap.size + 1) 47 [Value.int .i64 kd, .string tn, .string us, .string sp, .int .i64 run, .int .i64 num, .string tx] from by
    have := Blk.new (w.alloc (Obj.cells #[Value.int .i64 kd, .string tn, .string us, .string sp, .int .i64 run, .int .i64 num, .string tx] 44)) 47 [Value.int .i64 kd, .string tn, .string us, .string sp, .int .i64 run, .int .i64 num, .string tx]
    simpa using this)
  go_enter Try.func27, Try.ntmps27
  go_wp2
  exact ⟨rfl, _, results_blk1 Try.results27 _ _ (w.heap.size + 1) 47 _ _ (HB.out.alloc _) Try.underlying47 rfl info47 rfl, rfl, grown_alloc (grown_alloc (grown_alloc (grown_refl _ _) _) _) _⟩

set_option maxRecDepth 100000 in
set_option maxHeartbeats 2000000 in
theorem exactReqOk_walk (w : World) (kd : Int) (tn us sp : ByteArray) (run num : Int) (tx : ByteArray) (h1 : tn.size ≤ 9223372036854775807) (h2 : us.size ≤ 9223372036854775807) (h3 : sp.size ≤ 9223372036854775807) (h4 : tx.size ≤ 9223372036854775807) :
    Calls Try.prog 7 #[.agg #[.int .i64 kd, .string tn, .string us, .string sp, .int .i64 run, .int .i64 num, .string tx]] w fun e w' => e = .returned (.bool true) ∧ w.grownBy w' none := by
  have HGA := Lib.hid (show w.grownBy (w.alloc (Obj.cells #[Value.int .i64 kd, .string tn, .string us, .string sp, .int .i64 run, .int .i64 num, .string tx] 44)) none from grown_alloc (grown_refl _ _) _)
  have HBA := Lib.hid (Blk.new w 44 [Value.int .i64 kd, .string tn, .string us, .string sp, .int .i64 run, .int .i64 num, .string tx])
  have HS := Lib.hid (szReq_any (w.alloc (Obj.cells #[Value.int .i64 kd, .string tn, .string us, .string sp, .int .i64 run, .int .i64 num, .string tx] 44)) kd tn us sp run num tx h1 h2 h3 h4)
  have HTO := Lib.hid (fun W => toReq_any W kd tn us sp run num tx)
  go_enter Try.func7, Try.ntmps7
  go_wp2_with fail
  refine HS.out.mono ?_
  rintro e w1 ⟨r, rfl, hr, hg1⟩
  have HG1 := Lib.hid (grown_trans HGA.out hg1)
  have HB1 := Lib.hid (HBA.out.kept hg1 (by simp))
  clear hg1 HS HBA HGA
  rcases hr with hr | ⟨hr, k1, k2, k3, k4⟩
  · go_wp2
    go_ret
    exact ⟨rfl, HG1.out⟩
  have hr' : ¬ r < 0 := by omega
  have d0 : w1.cell? ⟨w.heap.size, 0, none⟩ = some (.int .i64 kd) := HB1.out.cell rfl
  have d1 : w1.cell? ⟨w.heap.size, 1, none⟩ = some (.string tn) := HB1.out.cell rfl
  have d2 : w1.cell? ⟨w.heap.size, 2, none⟩ = some (.string us) := HB1.out.cell rfl
  have d3 : w1.cell? ⟨w.heap.size, 3, none⟩ = some (.string sp) := HB1.out.cell rfl
  have d4 : w1.cell? ⟨w.heap.size, 4, none⟩ = some (.int .i64 run) := HB1.out.cell rfl
  have d5 : w1.cell? ⟨w.heap.size, 5, none⟩ = some (.int .i64 num) := HB1.out.cell rfl
  have d6 : w1.cell? ⟨w.heap.size, 6, none⟩ = some (.string tx) := HB1.out.cell rfl
  go_wp2_with fail
  refine (HTO.out w1).mono ?_
  rintro e w2 ⟨rfl, hg2⟩
  have HG2 := Lib.hid (grown_trans HG1.out hg2)
  have HB2 := Lib.hid (HB1.out.kept hg2 (by simp))
  have HRQ := Lib.hid (req_any w2 kd tn us sp run num tx k1 k2 k3 k4)
  clear hg2 d0 d1 d2 d3 d4 d5 d6
  go_wp2_with fail
  refine HRQ.out.mono ?_
  rintro e w3 ⟨⟨b, rfl, hb⟩, hg3⟩
  have HG3 := Lib.hid (grown_trans HG2.out hg3)
  have HB3 := Lib.hid (HB2.out.kept hg3 (by simp))
  have HBB := Lib.hid hb
  clear hg3 HRQ hb
  have d0 : w3.cell? ⟨w.heap.size, 0, none⟩ = some (.int .i64 kd) := HB3.out.cell rfl
  have d1 : w3.cell? ⟨w.heap.size, 1, none⟩ = some (.string tn) := HB3.out.cell rfl
  have d2 : w3.cell? ⟨w.heap.size, 2, none⟩ = some (.string us) := HB3.out.cell rfl
  have d3 : w3.cell? ⟨w.heap.size, 3, none⟩ = some (.string sp) := HB3.out.cell rfl
  have d4 : w3.cell? ⟨w.heap.size, 4, none⟩ = some (.int .i64 run) := HB3.out.cell rfl
  have d5 : w3.cell? ⟨w.heap.size, 5, none⟩ = some (.int .i64 num) := HB3.out.cell rfl
  have d6 : w3.cell? ⟨w.heap.size, 6, none⟩ = some (.string tx) := HB3.out.cell rfl
  go_wp2_with fail
  refine (HTO.out w3).mono ?_
  rintro e w4 ⟨rfl, hg4⟩
  have HG4 := Lib.hid (grown_trans HG3.out hg4)
  have HIR := Lib.hid (ireq_any w4 kd tn us sp run num tx k1 k2 k3 k4)
  clear hg4 d0 d1 d2 d3 d4 d5 d6
  go_wp2_with fail
  refine HIR.out.mono ?_
  rintro e w5 ⟨⟨b', rfl, hb'⟩, hg5⟩
  have HG5 := Lib.hid (grown_trans HG4.out hg5)
  obtain rfl : b' = b := by rw [Bool.eq_iff_iff, hb', HBB.out]
  clear hg5 HIR hb'
  cases b'
  all_goals (go_wp2; go_ret; exact ⟨rfl, HG5.out⟩)
end Go.Proofs.Ytpmjinlbfddmmaa
