/- Credentials sized, copied by the laws, and compared. -/
import Derived.Test.YtecekbhkombnnaaDoorCP
import Derived.Test.YtecekbhkombnnaaDoorTS
namespace Go.Proofs.YtecekbhkombnnaaDoor
open Go.RowKit

/-- how great a credential is -/
def CapZ (tn sp : ByteArray) (ls : List ByteArray) (se : ByteArray) : Prop := tn.size ≤ 1048576 ∧ sp.size ≤ 1048576 ∧ ls.length + bulkS ls ≤ 1048576 ∧ se.size ≤ 1048576
theorem bulkS_mem (ss : List ByteArray) (s : ByteArray) (h : s ∈ ss) : s.size ≤ bulkS ss := by
  induction ss with
  | nil => cases h
  | cons x xs ih =>
    rcases List.mem_cons.1 h with rfl | h
    · simp [bulkS]
    · have := ih h
      simp [bulkS]; omega

set_option maxRecDepth 100000 in
set_option maxHeartbeats 8000000 in
theorem eqCap_any (w : World) (tn sp : ByteArray) (run frm unt : Int) (a1 a2 : Option Addr) (c1 c2 : Nat) (ls : List ByteArray) (se : ByteArray) (b1 b2 : Nat) (hl1 : Lies w b1 a1 ls) (hl2 : Lies w b2 a2 ls) (hn : ls.length ≤ 1048576) :
    Calls Tryd.prog 7 #[.agg #[.string tn, .string sp, .int .i64 run, .int .i64 frm, .int .i64 unt, .slice a1 ls.length c1, .string se], .agg #[.string tn, .string sp, .int .i64 run, .int .i64 frm, .int .i64 unt, .slice a2 ls.length c2, .string se]] w fun e w' => e = .returned (.bool true) ∧ w.grownBy w' none := by
  obtain ⟨W, hW⟩ : ∃ W, (w.alloc (Obj.cells #[Value.string tn, .string sp, .int .i64 run, .int .i64 frm, .int .i64 unt, .slice a1 ls.length c1, .string se] 24)).alloc (Obj.cells #[Value.string tn, .string sp, .int .i64 run, .int .i64 frm, .int .i64 unt, .slice a2 ls.length c2, .string se] 24) = W := ⟨_, rfl⟩
  have HG := Lib.hid (show w.grownBy W none from by rw [← hW]; exact grown_alloc (grown_alloc (grown_refl _ _) _) _)
  have HE := Lib.hid (eqS_any W b1 b2 ls a1 a2 c1 c2 (hl1.kept HG.out (fun q e => by cases e)) (hl2.kept HG.out (fun q e => by cases e)) hn)
  have c6 : W.cell? ⟨w.heap.size, 6, none⟩ = some (.string se) := by rw [← hW]; exact ((Blk.new w 24 [.string tn, .string sp, .int .i64 run, .int .i64 frm, .int .i64 unt, .slice a1 ls.length c1, .string se]).alloc _).cell rfl
  have d6 : W.cell? ⟨w.heap.size + 1, 6, none⟩ = some (.string se) := by
    rw [← hW]
    have := (Blk.new (w.alloc (Obj.cells #[Value.string tn, .string sp, .int .i64 run, .int .i64 frm, .int .i64 unt, .slice a1 ls.length c1, .string se] 24)) 24 [.string tn, .string sp, .int .i64 run, .int .i64 frm, .int .i64 unt, .slice a2 ls.length c2, .string se]).cell (j := 6) rfl
    simp at this ⊢
  have HC6 := Lib.hid c6
  have HD6 := Lib.hid d6
  have HW := Lib.hid hW
  clear hW hl1 hl2 c6 d6
  go_enter Tryd.func7, Tryd.ntmps7
  go_wp2_with fail
  rw [HW.out]
  refine HE.out.mono ?_
  rintro e w1 ⟨rfl, hg⟩
  have HG1 := Lib.hid (grown_trans HG.out hg)
  have c6 := hg.cell HC6.out (by simp)
  have d6 := hg.cell HD6.out (by simp)
  clear hg HE
  go_wp2
  go_ret
  exact ⟨rfl, HG1.out⟩
end Go.Proofs.YtecekbhkombnnaaDoor
