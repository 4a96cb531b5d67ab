/- What a tenant sees of an audit: the plain words, and impl.AuditView. -/
import Derived.Test.YtdelijobaebfnaaDoorMv5
import Derived.Test.YtdelijobaebfnaaDoorQ5
import Derived.Test.YtdelijobaebfnaaDoorMv12
namespace Go.Proofs.YtdelijobaebfnaaDoor
open Go.RowKit

/-- what an entry tells its tenant -/
def viewL (es : List AE) (tn : ByteArray) : List (ByteArray × ByteArray) := (es.filter fun e => e.ten.toList == tn.toList).map fun e => (e.wha, e.det)
/-- the cells of what is seen -/
def seenV : List (ByteArray × ByteArray) → List Value
  | [] => []
  | p :: ps => [Value.string p.1, .string p.2] ++ seenV ps
theorem seenV_len (ps : List (ByteArray × ByteArray)) : (seenV ps).length = ps.length * 2 := by
  induction ps with
  | nil => rfl
  | cons p ps ih => simp [seenV, ih]; omega
theorem seenV_app (a b : List (ByteArray × ByteArray)) : seenV (a ++ b) = seenV a ++ seenV b := by
  induction a with
  | nil => rfl
  | cons p ps ih => simp [seenV, ih]
theorem viewL_yes (es : List AE) (tn : ByteArray) (k : Nat) (hk : k < es.length) (h : (es[k].ten.toList == tn.toList) = true) : viewL (es.take (k + 1)) tn = viewL (es.take k) tn ++ [(es[k].wha, es[k].det)] := by
  unfold viewL
  rw [List.take_succ_eq_append_getElem hk, List.filter_append, List.map_append]
  simp only [List.filter_cons, List.filter_nil, h, if_true, List.map_cons, List.map_nil]
theorem viewL_no (es : List AE) (tn : ByteArray) (k : Nat) (hk : k < es.length) (h : (es[k].ten.toList == tn.toList) = false) : viewL (es.take (k + 1)) tn = viewL (es.take k) tn := by
  unfold viewL
  rw [List.take_succ_eq_append_getElem hk, List.filter_append, List.map_append]
  simp [h]
theorem viewL_len (es : List AE) (tn : ByteArray) (k : Nat) : (viewL (es.take k) tn).length ≤ es.length := by
  unfold viewL
  rw [List.length_map]
  have h1 := List.length_filter_le (fun e : AE => e.ten.toList == tn.toList) (es.take k)
  have h2 := List.length_take_le k es
  have h3 : (es.take k).length ≤ es.length := by simp; omega
  omega
theorem infoSeen : (Tryd.prog.info? 44).map (fun i => (i.zero, i.size, i.bytes)) = some (some (.agg #[.string ⟨#[]⟩, .string ⟨#[]⟩]), 2, 32) := by kernel_rfl
theorem one_two (x y : ByteArray) : ∀ v ∈ [Value.string x, .string y], v.oneCell' = true := fun v hv => by
  rcases List.mem_cons.1 hv with rfl | hv
  · rfl
  · rcases List.mem_cons.1 hv with rfl | hv
    · rfl
    · cases hv

set_option maxRecDepth 100000 in
set_option maxHeartbeats 2000000 in
theorem iview_any (W0 : World) (base : Nat) (es : List AE) (ao : Option Addr) (cap : Nat) (hl : ELies W0 base ao es) (hn : es.length + bulkE es ≤ 1048576) (tn : ByteArray) :
    Calls Tryd.prog 20 #[.slice ao es.length cap, .string tn] W0 fun e w' => ∃ v, e = .returned v ∧ RowT w' W0.heap.size v (viewL es tn).length (seenV (viewL es tn)) ∧ W0.grownBy w' none := by
  have HP := Lib.hid hl
  have HN := Lib.hid hn
  have hn' : es.length ≤ 1048576 := by omega
  obtain ⟨iS, hiS, hz0, hz1, hz2⟩ := info_parts infoSeen
  clear hl hn
  go_enter Tryd.func20, Tryd.ntmps20
  go_wp2
  go_loopw [5, 10] (fun sv i wr => ∃ k : Nat, k ≤ es.length ∧ i = .int .i64 k ∧ Hid (RowT wr W0.heap.size sv (viewL (es.take k) tn).length (seenV (viewL (es.take k) tn))) ∧ W0.grownBy wr none) (fun _ i _ => es.length - (intOf i).toNat)
  case atStart => exact ⟨0, Nat.zero_le _, rfl, Lib.hid (RowT.nil _ _), grown_refl _ _⟩
  case round =>
    obtain ⟨k, hk, rfl, HR, hg⟩ := hrel
    have HG := Lib.hid hg
    have hszW := hg.size
    clear hg
    by_cases hlt : k < es.length
    · rcases HP.out with h0 | ⟨b, o, rfl, -, hc⟩
      · omega
      obtain ⟨d0, d1, d2, d3, d4⟩ := (hc k hlt).kept HG.out (by simp)
      have HB := Lib.hid (bulkE_at es k hlt)
      have HVL := Lib.hid (viewL_len es tn k)
      have HY := Lib.hid (viewL_yes es tn k hlt)
      have HX := Lib.hid (viewL_no es tn k hlt)
      generalize es[k] = u at d0 d1 d2 d3 d4 HB HY HX
      have hkI : (k : Int) < es.length := by omega
      clear hc
      by_cases hten : (u.ten.toList == tn.toList) = true
      · have HYY := Lib.hid (HY.out hten)
        clear HX HY
        go_wp2
        have HN0 := Lib.hid (show ∀ q, u5.ownBlock = some q → W0.heap.size ≤ q ∧ q < wr.heap.size from HR.out.lt)
        have HBW := Lib.hid (Blk.new wr 28 [.int .i64 u.seq, .string u.ten, .string u.wha, .string u.det, .string u.sum])
        have HRW := Lib.hid (HR.out.kept (World.grownBy_alloc wr (Obj.cells #[.int .i64 u.seq, .string u.ten, .string u.wha, .string u.det, .string u.sum] 28) none) (by simp))
        have HGW := Lib.hid (grown_alloc HG.out (Obj.cells #[.int .i64 u.seq, .string u.ten, .string u.wha, .string u.det, .string u.sum] 28))
        have HC := Lib.hid (fun (s : ByteArray) (hs : s.size ≤ 1048576) (W : World) (hW : W.cell? ⟨wr.heap.size, 2, none⟩ = some (.string u.wha) ∧ W.cell? ⟨wr.heap.size, 3, none⟩ = some (.string u.det)) => (clone_any W s hs).mono (R' := fun e w' => e = .returned (.string s) ∧ (w'.cell? ⟨wr.heap.size, 2, none⟩ = some (.string u.wha) ∧ w'.cell? ⟨wr.heap.size, 3, none⟩ = some (.string u.det)) ∧ W.grownBy w' none) (fun e w' q => ⟨q.1, ⟨q.2.cell hW.1 (by simp), q.2.cell hW.2 (by simp)⟩, q.2⟩))
        have HZ := Lib.hid (show u.wha.size ≤ 1048576 ∧ u.det.size ≤ 1048576 from by have h1 := HB.out; have h2 := HN.out; unfold eB at h1; omega)
        have HVB := Lib.hid (show (viewL (es.take k) tn).length + 1 ≤ 1048577 from by have := HVL.out; omega)
        have HSW := Lib.hid (show W0.heap.size ≤ (wr.alloc (Obj.cells #[.int .i64 u.seq, .string u.ten, .string u.wha, .string u.det, .string u.sum] 28)).heap.size from by simp; omega)
        generalize hne : (viewL (es.take k) tn).length = n at HRW HVB
        have HNE := Lib.hid hne
        generalize hxe : seenV (viewL (es.take k) tn) = xs at HRW
        have HXE := Lib.hid hxe
        clear hne hxe
        generalize wr.alloc (Obj.cells #[.int .i64 u.seq, .string u.ten, .string u.wha, .string u.det, .string u.sum] 28) = W at HBW HRW HGW HSW ⊢
        generalize wr.heap.size = N at HBW HC HN0 ⊢
        go_region_held3 (fun w' => w'.cell? ⟨N, 2, none⟩ = some (.string u.wha) ∧ w'.cell? ⟨N, 3, none⟩ = some (.string u.det)) (first | assumption | exact ⟨HBW.out.cell rfl, HBW.out.cell rfl⟩ | exact ⟨(World.grownBy_alloc _ _ none).cell hS2.1 (by simp), (World.grownBy_alloc _ _ none).cell hS2.2 (by simp)⟩ | exact hS3)
          (first | (go_at_call 40; (with_reducible refine (HC.out u.wha HZ.out.1 _ (by assumption)).mono ?_); rintro e w1 ⟨rfl, hS1, hg1⟩; have HG1 := Lib.hid hg1; clear hg1) | (go_at_call 40; (with_reducible refine (HC.out u.det HZ.out.2 _ (by assumption)).mono ?_); rintro e w2 ⟨rfl, hS2, hg2⟩; have HG2 := Lib.hid hg2; clear hg2) | (refine step_append_rowT rfl _ _ 41 rfl 44 iS (.agg #[.string ⟨#[]⟩, .string ⟨#[]⟩]) 32 Tryd.underlying41 hiS hz0 hz1 hz2 rfl W0.heap.size u5 n xs rfl ((((show RowT W.drew W0.heap.size u5 n xs from HRW.out).kept HG1.out (by simp)).kept HG2.out (by simp)).kept (World.grownBy_alloc _ _ none) (by simp)) ⟨_, 0, none⟩ 1 1 [.string u.wha, .string u.det] rfl rfl (news_new _ 44 [.string u.wha, .string u.det]) (one_two _ _) (by have := HVB.out; unfold maxLen; omega) (by have := HVB.out; omega) (by have h1 := HG1.out.size; have h2 := HG2.out.size; have h3 : W.drew.heap.size = W.heap.size := rfl; have h4 := HSW.out; simp; omega) ?_; intro v3 w3 HR3 HG3 HO3; have hS3 := And.intro (HG3.out.cell ((World.grownBy_alloc w2 _ none).cell hS2.1 (by simp)) (fun e => absurd (HN0.out N e.symm).2 (Nat.lt_irrefl _))) (HG3.out.cell ((World.grownBy_alloc w2 _ none).cell hS2.2 (by simp)) (fun e => absurd (HN0.out N e.symm).2 (Nat.lt_irrefl _)))))
        go_wp2
        go_roundw
        case rel =>
          refine ⟨k + 1, by omega, by go_num, Lib.hid ?_, ?_⟩
          · rw [HYY.out, List.length_append, seenV_app, HNE.out, HXE.out]
            exact HR3.out
          · refine grown_own (grown_alloc (grown_trans (grown_trans (grown_drew HGW.out) HG1.out) HG2.out) _) HG3.out (fun q hq => (HN0.out q hq).1)
        case measure => simp [intOf]; omega
      · have hten' : (u.ten.toList == tn.toList) = false := by simpa using hten
        have HX' := Lib.hid (HX.out hten')
        clear hten HX HY
        go_wp2
        go_roundw
        case rel =>
          refine ⟨k + 1, by omega, by go_num, Lib.hid ?_, ?_⟩
          · rw [HX'.out]
            exact HR.out.kept (World.grownBy_alloc wr _ none) (by simp)
          · exact grown_alloc HG.out _
        case measure => simp [intOf]; omega
    · obtain rfl : k = es.length := by omega
      have HF := HR.out
      rw [List.take_length] at HF
      have HF' := Lib.hid HF
      clear HF
      go_wp2
      go_ret
      exact ⟨_, rfl, HF'.out, HG.out⟩
end Go.Proofs.YtdelijobaebfnaaDoor
