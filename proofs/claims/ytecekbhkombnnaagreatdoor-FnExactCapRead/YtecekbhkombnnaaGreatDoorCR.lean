/- Credentials sized, copied by the laws, and compared. -/
import Derived.Test.YtecekbhkombnnaaGreatDoorCP
import Derived.Test.YtecekbhkombnnaaGreatDoorTS
namespace Go.Proofs.YtecekbhkombnnaaGreatDoor
open Go.RowKit

/-- how great a credential is -/
def CapZ (tn sp : ByteArray) (ls : List ByteArray) (se : ByteArray) : Prop := tn.size ≤ 1048576 ∧ sp.size ≤ 1048576 ∧ ls.length + bulkS ls ≤ 1048576 ∧ se.size ≤ 1048576
theorem bulkS_mem (ss : List ByteArray) (s : ByteArray) (h : s ∈ ss) : s.size ≤ bulkS ss := by
  induction ss with
  | nil => cases h
  | cons x xs ih =>
    rcases List.mem_cons.1 h with rfl | h
    · simp [bulkS]
    · have := ih h
      simp [bulkS]; omega

set_option maxRecDepth 100000 in
set_option maxHeartbeats 4000000 in
theorem szCap_any (w : World) (tn sp : ByteArray) (run frm unt : Int) (ao : Option Addr) (cp : Nat) (ls : List ByteArray) (se : ByteArray) (hl : Lies w 0 ao ls) (hn : ls.length ≤ 9223372036854775807) (hz : ∀ l ∈ ls, l.size ≤ 9223372036854775807) (h1 : tn.size ≤ 9223372036854775807) (h2 : sp.size ≤ 9223372036854775807) (h3 : se.size ≤ 9223372036854775807) :
    Calls Tryz.prog 7 #[.agg #[.string tn, .string sp, .int .i64 run, .int .i64 frm, .int .i64 unt, .slice ao ls.length cp, .string se], .int .i64 1048576] w fun e w' => ∃ r : Int, e = .returned (.int .i64 r) ∧ (r < 0 ∨ (0 ≤ r ∧ CapZ tn sp ls se)) ∧ w.grownBy w' none := by
  have HG := Lib.hid (show w.grownBy (w.alloc (Obj.cells #[Value.string tn, .string sp, .int .i64 run, .int .i64 frm, .int .i64 unt, .slice ao ls.length cp, .string se] 24)) none from grown_alloc (grown_refl _ _) _)
  have HSZ := Lib.hid (fun (M : Nat) (hM : M ≤ 1048576) => szS_any (w.alloc (Obj.cells #[Value.string tn, .string sp, .int .i64 run, .int .i64 frm, .int .i64 unt, .slice ao ls.length cp, .string se] 24)) ao cp ls (hl.kept HG.out (fun q e => by cases e)) hn hz M hM)
  clear hl hz
  by_cases a1 : (1048576 : Int) - tn.size < 0
  · go_enter Tryz.func7, Tryz.ntmps7
    go_wp2
    go_ret
    exact ⟨-1, rfl, .inl (by omega), HG.out⟩
  by_cases a2 : (1048576 : Int) - tn.size - sp.size < 0
  · go_enter Tryz.func7, Tryz.ntmps7
    go_wp2
    go_ret
    exact ⟨-1, rfl, .inl (by omega), HG.out⟩
  obtain ⟨M, hM⟩ : ∃ M : Nat, (M : Int) = (1048576 : Int) - tn.size - sp.size := ⟨((1048576 : Int) - tn.size - sp.size).toNat, by omega⟩
  have HM := Lib.hid hM
  have HS := Lib.hid (HSZ.out M (by omega))
  rw [hM] at HS
  clear hM HSZ
  go_enter Tryz.func7, Tryz.ntmps7
  go_wp2_with fail
  refine HS.out.mono ?_
  rintro e w1 ⟨r, rfl, hr, hw⟩
  have hw := hw.symm
  subst hw
  have HR := Lib.hid hr
  clear hr HS
  rcases HR.out with ⟨rfl, -⟩ | ⟨h0, h4⟩
  · go_wp2
    go_ret
    exact ⟨-1, rfl, .inl (by omega), HG.out⟩
  have hr0 : ¬ r < 0 := by omega
  have hr1 : r ≤ 1048576 := by have := HM.out; omega
  have HX := Lib.hid h4
  clear h4
  by_cases a3 : r - se.size < 0
  · go_wp2
    go_ret
    exact ⟨-1, rfl, .inl (by omega), HG.out⟩
  · go_wp2
    go_ret
    exact ⟨r - se.size, rfl, .inr ⟨by omega, by omega, by omega, by have := HX.out; have := HM.out; omega, by omega⟩, HG.out⟩

set_option maxRecDepth 100000 in
set_option maxHeartbeats 8000000 in
theorem toCap_any (w : World) (tn sp : ByteArray) (run frm unt : Int) (ao : Option Addr) (cp : Nat) (ls : List ByteArray) (se : ByteArray) (base : Nat) (hl : Lies w base ao ls) (hn : ls.length ≤ 1048576) :
    Calls Tryz.prog 9 #[.agg #[.string tn, .string sp, .int .i64 run, .int .i64 frm, .int .i64 unt, .slice ao ls.length cp, .string se]] w fun e w' => ∃ g : Nat, e = .returned (.agg #[.string tn, .string sp, .int .i64 run, .int .i64 frm, .int .i64 unt, .slice (some ⟨g, 0, none⟩) ls.length ls.length, .string se]) ∧ w.heap.size ≤ g ∧ Blk w' g 9 (strs ls) ∧ w.grownBy w' none := by
  obtain ⟨W, hW⟩ : ∃ W, ((w.alloc (Obj.cells #[Value.string tn, .string sp, .int .i64 run, .int .i64 frm, .int .i64 unt, .slice ao ls.length cp, .string se] 24)).alloc (Obj.cells #[Value.string ⟨#[]⟩, .string ⟨#[]⟩, .int .i64 0, .int .i64 0, .int .i64 0, .slice none 0 0, .string ⟨#[]⟩] 26)).alloc (Obj.cells #[Value.string tn, .string sp, .int .i64 run, .int .i64 frm, .int .i64 unt, .slice none 0 0, .string ⟨#[]⟩] 26) = W := ⟨_, rfl⟩
  obtain ⟨B, hB⟩ : ∃ x, w.heap.size = x := ⟨_, rfl⟩
  have HG := Lib.hid (show w.grownBy W none from by rw [← hW]; exact grown_alloc (grown_alloc (grown_alloc (grown_refl _ _) _) _) _)
  have HS := Lib.hid (show W.heap.size = B + 3 from by rw [← hW, ← hB]; simp)
  have HB0 := Lib.hid (show Blk W B 24 [.string tn, .string sp, .int .i64 run, .int .i64 frm, .int .i64 unt, .slice ao ls.length cp, .string se] from by rw [← hW, ← hB]; exact ((Blk.new w 24 _).alloc _).alloc _)
  have HB1 := Lib.hid (show Blk W (B + 1) 26 [.string ⟨#[]⟩, .string ⟨#[]⟩, .int .i64 0, .int .i64 0, .int .i64 0, .slice none 0 0, .string ⟨#[]⟩] from by
    rw [← hW, ← hB]
    have := (Blk.new (w.alloc (Obj.cells #[Value.string tn, .string sp, .int .i64 run, .int .i64 frm, .int .i64 unt, .slice ao ls.length cp, .string se] 24)) 26 [.string ⟨#[]⟩, .string ⟨#[]⟩, .int .i64 0, .int .i64 0, .int .i64 0, .slice none 0 0, .string ⟨#[]⟩]).alloc (Obj.cells #[Value.string tn, .string sp, .int .i64 run, .int .i64 frm, .int .i64 unt, .slice none 0 0, .string ⟨#[]⟩] 26)
    rw [show (w.alloc (Obj.cells #[Value.string tn, .string sp, .int .i64 run, .int .i64 frm, .int .i64 unt, .slice ao ls.length cp, .string se] 24)).heap.size = w.heap.size + 1 from by simp] at this
    exact this)
  have HB2 := Lib.hid (show Blk W (B + 2) 26 [.string tn, .string sp, .int .i64 run, .int .i64 frm, .int .i64 unt, .slice none 0 0, .string ⟨#[]⟩] from by
    rw [← hW, ← hB]
    have := Blk.new ((w.alloc (Obj.cells #[Value.string tn, .string sp, .int .i64 run, .int .i64 frm, .int .i64 unt, .slice ao ls.length cp, .string se] 24)).alloc (Obj.cells #[Value.string ⟨#[]⟩, .string ⟨#[]⟩, .int .i64 0, .int .i64 0, .int .i64 0, .slice none 0 0, .string ⟨#[]⟩] 26)) 26 [.string tn, .string sp, .int .i64 run, .int .i64 frm, .int .i64 unt, .slice none 0 0, .string ⟨#[]⟩]
    rw [show ((w.alloc (Obj.cells #[Value.string tn, .string sp, .int .i64 run, .int .i64 frm, .int .i64 unt, .slice ao ls.length cp, .string se] 24)).alloc (Obj.cells #[Value.string ⟨#[]⟩, .string ⟨#[]⟩, .int .i64 0, .int .i64 0, .int .i64 0, .slice none 0 0, .string ⟨#[]⟩] 26)).heap.size = w.heap.size + 2 from by simp] at this
    exact this)
  have HTO := Lib.hid (toS2_any W base ao cp ls (hl.kept HG.out (fun q e => by cases e)) hn)
  have HW := Lib.hid hW
  have HBE := Lib.hid hB
  clear hW hB hl
  go_enter Tryz.func9, Tryz.ntmps9
  go_wp2_with fail
  rw [HW.out]
  refine HTO.out.mono ?_
  rintro e w1 ⟨rfl, hb, hg⟩
  obtain ⟨g, hgE⟩ : ∃ x, W.heap.size = x := ⟨_, rfl⟩
  rw [hgE] at hb ⊢
  rw [HBE.out]
  have HBG := Lib.hid hb
  have HGG := Lib.hid (show B + 3 ≤ g from by rw [← hgE]; have := HS.out; omega)
  have HB0' := Lib.hid (HB0.out.kept hg (by simp))
  have HB1' := Lib.hid (HB1.out.kept hg (by simp))
  have HB2' := Lib.hid (HB2.out.kept hg (by simp))
  have HG1 := Lib.hid (grown_trans HG.out hg)
  have HBW := Lib.hid (show w.heap.size = B from HBE.out)
  clear hb hg hgE HTO HW HBE HB0 HB1 HB2 HS HG
  have c6 : w1.cell? ⟨B, 6, none⟩ = some (.string se) := HB0'.out.cell rfl
  have d5 : w1.cell? ⟨B + 1 + 1, 5, none⟩ = some (.slice none 0 0) := HB2'.out.cell rfl
  have d6 : w1.cell? ⟨B + 1 + 1, 6, none⟩ = some (.string ⟨#[]⟩) := HB2'.out.cell rfl
  have f5 := HB2'.out.frozen 5
  have f6 := HB2'.out.frozen 6
  obtain ⟨W2, hW2⟩ : ∃ x, (w1.setCell ⟨B + 1 + 1, 5, none⟩ (.slice (some ⟨g, 0, none⟩) ls.length ls.length)).setCell ⟨B + 1 + 1, 6, none⟩ (.string se) = x := ⟨_, rfl⟩
  have hg2 : w1.grownBy W2 (some (B + 2)) := by rw [← hW2]; exact grown_set (grown_set (grown_refl w1 (some (B + 2))) 5 _) 6 _
  have HC2 := Lib.hid (show Blk W2 (B + 2) 26 [.string tn, .string sp, .int .i64 run, .int .i64 frm, .int .i64 unt, .slice (some ⟨g, 0, none⟩) ls.length ls.length, .string se] from by rw [← hW2]; exact (HB2'.out.set 5 _).set 6 _)
  have HC1 := Lib.hid (HB1'.out.kept hg2 (by simp))
  have HG2 := Lib.hid (grown_into HG1.out hg2 (by have := HBW.out; omega))
  have HBG2 := Lib.hid (HBG.out.kept hg2 (by have := HGG.out; simp; omega))
  have HW2 := Lib.hid hW2
  clear hW2 hg2
  go_wp2_with (first
    | (rw [HW2.out]; refine wpList_load_blk rfl 26 _ rfl (B + 2) [.string tn, .string sp, .int .i64 run, .int .i64 frm, .int .i64 unt, .slice (some ⟨g, 0, none⟩) ls.length ls.length, .string se] 26 HC2.out _ Tryz.underlying26 rfl infoCap rfl ?_)
    | (refine wpList_store_blk rfl 26 _ _ rfl (B + 1) [.string tn, .string sp, .int .i64 run, .int .i64 frm, .int .i64 unt, .slice (some ⟨g, 0, none⟩) ls.length ls.length, .string se] [.string ⟨#[]⟩, .string ⟨#[]⟩, .int .i64 0, .int .i64 0, .int .i64 0, .slice none 0 0, .string ⟨#[]⟩] 26 HC1.out infoCap rfl (by intro v hv; simp at hv; rcases hv with rfl | rfl | rfl | rfl | rfl | rfl | rfl <;> rfl) rfl rfl ?_; intro w3 hb3 hg3))
  exact ⟨rfl, _, results_blk1 Tryz.results9 _ _ (B + 1) 26 _ _ hb3.out Tryz.underlying26 rfl infoCap rfl, g, rfl, by have := HGG.out; have := HBW.out; omega, HBG2.out.kept hg3.out (by have := HGG.out; simp; omega), grown_into HG2.out hg3.out (by have := HBW.out; omega)⟩

set_option maxRecDepth 100000 in
set_option maxHeartbeats 8000000 in
theorem eqCap_any (w : World) (tn sp : ByteArray) (run frm unt : Int) (a1 a2 : Option Addr) (c1 c2 : Nat) (ls : List ByteArray) (se : ByteArray) (b1 b2 : Nat) (hl1 : Lies w b1 a1 ls) (hl2 : Lies w b2 a2 ls) (hn : ls.length ≤ 1048576) :
    Calls Tryz.prog 11 #[.agg #[.string tn, .string sp, .int .i64 run, .int .i64 frm, .int .i64 unt, .slice a1 ls.length c1, .string se], .agg #[.string tn, .string sp, .int .i64 run, .int .i64 frm, .int .i64 unt, .slice a2 ls.length c2, .string se]] w fun e w' => e = .returned (.bool true) ∧ w.grownBy w' none := by
  obtain ⟨W, hW⟩ : ∃ W, (w.alloc (Obj.cells #[Value.string tn, .string sp, .int .i64 run, .int .i64 frm, .int .i64 unt, .slice a1 ls.length c1, .string se] 26)).alloc (Obj.cells #[Value.string tn, .string sp, .int .i64 run, .int .i64 frm, .int .i64 unt, .slice a2 ls.length c2, .string se] 26) = W := ⟨_, rfl⟩
  have HG := Lib.hid (show w.grownBy W none from by rw [← hW]; exact grown_alloc (grown_alloc (grown_refl _ _) _) _)
  have HE := Lib.hid (eqS_any W b1 b2 ls a1 a2 c1 c2 (hl1.kept HG.out (fun q e => by cases e)) (hl2.kept HG.out (fun q e => by cases e)) hn)
  have c6 : W.cell? ⟨w.heap.size, 6, none⟩ = some (.string se) := by rw [← hW]; exact ((Blk.new w 26 [.string tn, .string sp, .int .i64 run, .int .i64 frm, .int .i64 unt, .slice a1 ls.length c1, .string se]).alloc _).cell rfl
  have d6 : W.cell? ⟨w.heap.size + 1, 6, none⟩ = some (.string se) := by
    rw [← hW]
    have := (Blk.new (w.alloc (Obj.cells #[Value.string tn, .string sp, .int .i64 run, .int .i64 frm, .int .i64 unt, .slice a1 ls.length c1, .string se] 26)) 26 [.string tn, .string sp, .int .i64 run, .int .i64 frm, .int .i64 unt, .slice a2 ls.length c2, .string se]).cell (j := 6) rfl
    simp at this ⊢
  have HC6 := Lib.hid c6
  have HD6 := Lib.hid d6
  have HW := Lib.hid hW
  clear hW hl1 hl2 c6 d6
  go_enter Tryz.func11, Tryz.ntmps11
  go_wp2_with fail
  rw [HW.out]
  refine HE.out.mono ?_
  rintro e w1 ⟨rfl, hg⟩
  have HG1 := Lib.hid (grown_trans HG.out hg)
  have c6 := hg.cell HC6.out (by simp)
  have d6 := hg.cell HD6.out (by simp)
  clear hg HE
  go_wp2
  go_ret
  exact ⟨rfl, HG1.out⟩
end Go.Proofs.YtecekbhkombnnaaGreatDoor
