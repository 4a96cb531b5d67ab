/- A tape that is made safe, by the program. -/
import Derived.Test.YtpmjinlbfddmmaaP4
namespace Go.Proofs.Ytpmjinlbfddmmaa
open Go.RowKit

theorem results_blk1 {P : Program} {fn : Func} {p : Tmp} {ty : TypeId} (h : fn.results = #[.cell p ty]) (tmps : Array Value) (w : World) (g : Nat) (t : TypeId) (L : List Value) (d : TypeDesc)
    (hg : Blk w g t L) (hu : P.underlying ty = some d) (hd : (match d with | .struct _ | .array _ _ => true | _ => false) = true) (hi : (P.info? ty).map (·.size) = some L.length)
    (hp : tmps[p]?.getD undef = .pointer (some ⟨g, 0, none⟩)) :
    (results fn tmps).run P w = .ok (.agg L.toArray) w := by
  simp [results, h, hp, asAddr, run_loadVar_row w g t ty L.toArray (0, 0) d hg hu hd (by simpa using hi)]
theorem info26 : (Try.prog.info? 26).map (·.size) = some 2 := by kernel_rfl

theorem Row.lies {w : World} {base : Nat} {v : Value} {ss : List ByteArray} (h : Row w base v (strs ss)) : ∃ an cn, v = .slice an ss.length cn ∧ Lies w base an ss := by
  rcases h with ⟨rfl, h⟩ | ⟨g, c, rfl, hb, hl, hn, hc, hf⟩
  · have : ss = [] := by simpa [strs] using h
    subst this
    exact ⟨none, 0, rfl, .inl rfl⟩
  · refine ⟨_, c, by simp [strs], .inr ⟨g, 0, rfl, hb, fun j hj => ?_⟩⟩
    rw [Nat.zero_add, hc j (by simpa [strs] using hj)]
    simp [strs, hj]

set_option maxRecDepth 100000 in
set_option maxHeartbeats 2000000 in
theorem icrash_sync (w : World) (gs cs gl cl : Nat) (ss ls : List ByteArray) (hs : At w ⟨gs, 0, none⟩ ss) (hl : At w ⟨gl, 0, none⟩ ls) (n1 : ss.length ≤ 1048576) (n2 : ls.length ≤ 1048576) (hcl : ls.length ≤ cl) (hz : ∀ s ∈ ss ++ ls, s.size ≤ 1048576) :
    Calls Try.prog 17 #[.agg #[.slice (some ⟨gs, 0, none⟩) ss.length cs, .slice (some ⟨gl, 0, none⟩) ls.length cl], .int .i64 (ls.length : Int), .int .i64 0] w fun e w' => ∃ v, e = .returned (.agg #[v, .slice none 0 0]) ∧ Row w' w.heap.size v (strs (ss ++ ls)) ∧ w.grownBy w' none := by
  have HG := Lib.hid (show w.grownBy ((w.alloc (Obj.cells #[Value.slice (some ⟨gs, 0, none⟩) ss.length cs, .slice (some ⟨gl, 0, none⟩) ls.length cl] 26)).alloc (Obj.cells #[Value.slice none 0 0, .slice none 0 0] 26)) none from grown_alloc (grown_alloc (grown_refl _ _) _) _)
  have HBX := Lib.hid (show Blk ((w.alloc (Obj.cells #[Value.slice (some ⟨gs, 0, none⟩) ss.length cs, .slice (some ⟨gl, 0, none⟩) ls.length cl] 26)).alloc (Obj.cells #[Value.slice none 0 0, .slice none 0 0] 26)) w.heap.size 26 [Value.slice (some ⟨gs, 0, none⟩) ss.length cs, .slice (some ⟨gl, 0, none⟩) ls.length cl] from (Blk.new w 26 _).alloc _)
  have HBR := Lib.hid (show Blk ((w.alloc (Obj.cells #[Value.slice (some ⟨gs, 0, none⟩) ss.length cs, .slice (some ⟨gl, 0, none⟩) ls.length cl] 26)).alloc (Obj.cells #[Value.slice none 0 0, .slice none 0 0] 26)) (w.heap.size + 1) 26 [Value.slice none 0 0, .slice none 0 0] from by
    have := Blk.new (w.alloc (Obj.cells #[Value.slice (some ⟨gs, 0, none⟩) ss.length cs, .slice (some ⟨gl, 0, none⟩) ls.length cl] 26)) 26 [Value.slice none 0 0, .slice none 0 0]
    simpa using this)
  have HS := Lib.hid hs
  have HL := Lib.hid hl
  have HZ := Lib.hid hz
  have m1 : max (ls.length : Int) 0 = ls.length := by omega
  have m2 : ¬ (ls.length : Int) < 0 := by omega
  have m3 : ¬ (ls.length : Int) < ls.length := by omega
  clear hs hl hz
  go_enter Try.func17, Try.ntmps17
  go_wp2
  generalize ((w.alloc (Obj.cells #[Value.slice (some ⟨gs, 0, none⟩) ss.length cs, .slice (some ⟨gl, 0, none⟩) ls.length cl] 26)).alloc (Obj.cells #[Value.slice none 0 0, .slice none 0 0] 26)) = W at HG HBX HBR ⊢
  refine wp_still_tail 6 (by kernel_rfl) (by kernel_rfl) (fun wx => w.grownBy wx none ∧ Blk wx w.heap.size 26 [Value.slice (some ⟨gs, 0, none⟩) ss.length cs, .slice (some ⟨gl, 0, none⟩) ls.length cl] ∧ Blk wx (w.heap.size + 1) 26 [Value.slice none 0 0, .slice none 0 0]) ⟨grown_drew HG.out, HBX.out.drew, HBR.out.drew⟩ ?_
  rintro wx ⟨hgx, hbx, hbr⟩
  have HGX := Lib.hid hgx
  have HX := Lib.hid hbx
  have HR := Lib.hid hbr
  have d0 : wx.cell? ⟨w.heap.size, 0, none⟩ = some (.slice (some ⟨gs, 0, none⟩) ss.length cs) := hbx.cell rfl
  have d1 : wx.cell? ⟨w.heap.size, 1, none⟩ = some (.slice (some ⟨gl, 0, none⟩) ls.length cl) := hbx.cell rfl
  have HGB := Lib.hid (show wx.grownBy (wx.alloc (Obj.cells #[Value.slice (some ⟨gs, 0, none⟩) ss.length cs, .slice (some ⟨gl, 0, none⟩) ls.length cl] 22)) none from grown_alloc (grown_refl _ _) _)
  have HBB := Lib.hid (Blk.new wx 22 [Value.slice (some ⟨gs, 0, none⟩) ss.length cs, .slice (some ⟨gl, 0, none⟩) ls.length cl])
  have HCC := Lib.hid (concat_any (wx.alloc (Obj.cells #[Value.slice (some ⟨gs, 0, none⟩) ss.length cs, .slice (some ⟨gl, 0, none⟩) ls.length cl] 22)) wx.heap.size gs 0 cs gl 0 cl ss ls ((HS.out.kept HGX.out (by simp)).kept HGB.out (by simp)) ((HL.out.kept HGX.out (by simp)).kept HGB.out (by simp)) n1 n2 (HBB.out.cell rfl) (HBB.out.cell rfl))
  clear hgx hbx hbr HG HBX HBR
  simp only [List.take_succ_cons, List.take_zero, List.drop_succ_cons, List.drop_zero]
  repeat still_step
  refine wpStill_nil ?_
  clear d0 d1
  go_wp2_with fail
  refine HCC.out.mono ?_
  rintro e w1 ⟨v1, rfl, hr1, hg1⟩
  have hgw1 := grown_trans HGB.out hg1
  have HG1 := Lib.hid (grown_trans HGX.out hgw1)
  have HX1 := Lib.hid (HX.out.kept hgw1 (by simp))
  have HR1 := Lib.hid (HR.out.kept hgw1 (by simp))
  obtain ⟨an, cn, rfl, hl1⟩ := hr1.lies
  have hlen : (ss ++ ls).length ≤ 2097152 := by simp; omega
  have HCO := Lib.hid (copied_any w1 _ an cn (ss ++ ls) hl1 hlen HZ.out)
  have d1 : w1.cell? ⟨w.heap.size, 1, none⟩ = some (.slice (some ⟨gl, 0, none⟩) ls.length cl) := HX1.out.cell rfl
  generalize (ss ++ ls).length = N at HCO ⊢
  have HSZ := Lib.hid (show w.heap.size + 1 < w1.heap.size from HR1.out.lt)
  clear hr1 hl1 hg1 hgw1 HCC HGB HBB hlen
  go_wp2_with fail
  refine HCO.out.mono ?_
  rintro e w2 ⟨v2, rfl, hr2, hg2⟩
  have HG2 := Lib.hid (grown_trans HG1.out hg2)
  have HRB := Lib.hid (HR1.out.kept hg2 (by simp))
  have HRW := Lib.hid hr2
  obtain ⟨an2, cn2, rfl, -⟩ := hr2.lies
  have e0 : w2.cell? ⟨w.heap.size + 1, 0, none⟩ = some (.slice none 0 0) := HRB.out.cell rfl
  have e1 : w2.cell? ⟨w.heap.size + 1, 1, none⟩ = some (.slice none 0 0) := HRB.out.cell rfl
  have f0 := HRB.out.frozen 0
  have f1 := HRB.out.frozen 1
  clear hr2 hg2 HCO d1
  generalize (ss ++ ls).length = N2 at HRW ⊢
  go_wp2
  have hs2 := grown_set (grown_set (grown_refl w2 (some (w.heap.size + 1))) 0 (.slice an2 N2 cn2)) 1 (.slice none 0 0)
  have hrB := (HRB.out.set 0 (.slice an2 N2 cn2)).set 1 (.slice none 0 0)
  have hrow := HRW.out.kept hs2 (fun q hq e => by have h1 := (HRW.out.lt q hq).1; have h2 := HSZ.out; cases e; omega)
  have hgB := grown_into HG2.out hs2 (by omega)
  exact ⟨rfl, _, results_blk1 Try.results17 _ _ (w.heap.size + 1) 26 _ _ hrB Try.underlying26 rfl info26 rfl, _, rfl, hrow.base (by have := HSZ.out; omega), hgB⟩

set_option maxRecDepth 100000 in
set_option maxHeartbeats 2000000 in
theorem isync_any (w : World) (gs cs gl cl : Nat) (ss ls : List ByteArray) (hs : At w ⟨gs, 0, none⟩ ss) (hl : At w ⟨gl, 0, none⟩ ls) (n1 : ss.length ≤ 1048576) (n2 : ls.length ≤ 1048576) (hcl : ls.length ≤ cl) (hz : ∀ s ∈ ss ++ ls, s.size ≤ 1048576) :
    Calls Try.prog 12 #[.agg #[.slice (some ⟨gs, 0, none⟩) ss.length cs, .slice (some ⟨gl, 0, none⟩) ls.length cl]] w fun e w' => ∃ v, e = .returned (.agg #[v, .slice none 0 0]) ∧ Row w' w.heap.size v (strs (ss ++ ls)) ∧ w.grownBy w' none := by
  have HG := Lib.hid (show w.grownBy ((w.alloc (Obj.cells #[Value.slice (some ⟨gs, 0, none⟩) ss.length cs, .slice (some ⟨gl, 0, none⟩) ls.length cl] 26)).alloc (Obj.cells #[Value.slice none 0 0, .slice none 0 0] 26)) none from grown_alloc (grown_alloc (grown_refl _ _) _) _)
  have HBR := Lib.hid (show Blk ((w.alloc (Obj.cells #[Value.slice (some ⟨gs, 0, none⟩) ss.length cs, .slice (some ⟨gl, 0, none⟩) ls.length cl] 26)).alloc (Obj.cells #[Value.slice none 0 0, .slice none 0 0] 26)) (w.heap.size + 1) 26 [Value.slice none 0 0, .slice none 0 0] from by
    have := Blk.new (w.alloc (Obj.cells #[Value.slice (some ⟨gs, 0, none⟩) ss.length cs, .slice (some ⟨gl, 0, none⟩) ls.length cl] 26)) 26 [Value.slice none 0 0, .slice none 0 0]
    simpa using this)
  have HC := Lib.hid (icrash_sync ((w.alloc (Obj.cells #[Value.slice (some ⟨gs, 0, none⟩) ss.length cs, .slice (some ⟨gl, 0, none⟩) ls.length cl] 26)).alloc (Obj.cells #[Value.slice none 0 0, .slice none 0 0] 26)) gs cs gl cl ss ls (hs.kept HG.out (by simp)) (hl.kept HG.out (by simp)) n1 n2 hcl hz)
  clear hs hl hz
  go_enter Try.func12, Try.ntmps12
  go_wp2_with fail
  refine HC.out.mono ?_
  rintro e w2 ⟨v2, rfl, hr2, hg2⟩
  have HG2 := Lib.hid (grown_trans HG.out hg2)
  have HRB := Lib.hid (HBR.out.kept hg2 (by simp))
  have HRW := Lib.hid hr2
  have HSZ := Lib.hid (show w.heap.size + 1 < ((w.alloc (Obj.cells #[Value.slice (some ⟨gs, 0, none⟩) ss.length cs, .slice (some ⟨gl, 0, none⟩) ls.length cl] 26)).alloc (Obj.cells #[Value.slice none 0 0, .slice none 0 0] 26)).heap.size from HBR.out.lt)
  obtain ⟨an2, cn2, rfl, -⟩ := hr2.lies
  have e0 : w2.cell? ⟨w.heap.size + 1, 0, none⟩ = some (.slice none 0 0) := HRB.out.cell rfl
  have e1 : w2.cell? ⟨w.heap.size + 1, 1, none⟩ = some (.slice none 0 0) := HRB.out.cell rfl
  have f0 := HRB.out.frozen 0
  have f1 := HRB.out.frozen 1
  clear hr2 hg2 HC HG
  generalize (ss ++ ls).length = N2 at HRW ⊢
  go_wp2
  have hs2 := grown_set (grown_set (grown_refl w2 (some (w.heap.size + 1))) 0 (.slice an2 N2 cn2)) 1 (.slice none 0 0)
  have hrB := (HRB.out.set 0 (.slice an2 N2 cn2)).set 1 (.slice none 0 0)
  have hrow := HRW.out.kept hs2 (fun q hq e => by have h1 := (HRW.out.lt q hq).1; have h2 := HSZ.out; cases e; omega)
  have hgB := grown_into HG2.out hs2 (by omega)
  exact ⟨rfl, _, results_blk1 Try.results12 _ _ (w.heap.size + 1) 26 _ _ hrB Try.underlying26 rfl info26 rfl, _, rfl, hrow.base (by have := HSZ.out; omega), hgB⟩
end Go.Proofs.Ytpmjinlbfddmmaa
