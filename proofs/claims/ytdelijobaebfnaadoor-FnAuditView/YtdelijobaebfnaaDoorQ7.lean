/- What a tenant sees of an audit: the document's. -/
import Derived.Test.YtdelijobaebfnaaDoorQ6
namespace Go.Proofs.YtdelijobaebfnaaDoor
open Go.RowKit

set_option maxRecDepth 100000 in
set_option maxHeartbeats 2000000 in
theorem sview_any (W0 : World) (base : Nat) (es : List AE) (ao : Option Addr) (cap : Nat) (hl : ELies W0 base ao es) (hn : es.length + bulkE es ≤ 1048576) (tn : ByteArray) :
    Calls Tryd.prog 21 #[.slice ao es.length cap, .string tn] W0 fun e w' => ∃ v, e = .returned v ∧ RowT w' W0.heap.size v (viewL es tn).length (seenV (viewL es tn)) ∧ W0.grownBy w' none := by
  have HP := Lib.hid hl
  have hn' : es.length ≤ 1048576 := by omega
  obtain ⟨iS, hiS, hz0, hz1, hz2⟩ := info_parts infoSeen
  have HR0 := Lib.hid (show RowT (W0.alloc (.cells #[] 44)) W0.heap.size (.slice (some ⟨W0.heap.size, 0, none⟩) 0 0) 0 [] from RowT.lit W0 44 0 [] rfl)
  clear hl hn
  go_enter Tryd.func21, Tryd.ntmps21
  go_wp2
  go_loopw [5, 6] (fun sv i wr => ∃ k : Nat, k ≤ es.length ∧ i = .int .i64 k ∧ Hid (RowT wr W0.heap.size sv (viewL (es.take k) tn).length (seenV (viewL (es.take k) tn))) ∧ W0.grownBy wr none) (fun _ i _ => es.length - (intOf i).toNat)
  case atStart => exact ⟨0, Nat.zero_le _, rfl, HR0, grown_alloc (grown_refl _ _) _⟩
  case round =>
    obtain ⟨k, hk, rfl, HR, hg⟩ := hrel
    have HG := Lib.hid hg
    have hszW := hg.size
    clear hg
    by_cases hlt : k < es.length
    · rcases HP.out with h0 | ⟨b, o, rfl, -, hc⟩
      · omega
      have hb0 : b < W0.heap.size := by have := World.block_lt_of_cell? W0 _ (hc k hlt).1; exact this
      obtain ⟨d0, d1, d2, d3, d4⟩ := (hc k hlt).kept HG.out (by simp)
      have HVL := Lib.hid (viewL_len es tn k)
      have HY := Lib.hid (viewL_yes es tn k hlt)
      have HX := Lib.hid (viewL_no es tn k hlt)
      generalize es[k] = u at d0 d1 d2 d3 d4 HY HX
      have hkI : (k : Int) < es.length := by omega
      clear hc
      by_cases hten : (u.ten.toList == tn.toList) = true
      · have HYY := Lib.hid (HY.out hten)
        clear HX HY
        go_wp2
        have HN0 := Lib.hid (show ∀ q, u5.ownBlock = some q → W0.heap.size ≤ q ∧ q < wr.heap.size from HR.out.lt)
        have HVB := Lib.hid (show (viewL (es.take k) tn).length + 1 ≤ 1048577 from by have := HVL.out; omega)
        have HS0 := Lib.hid (show wr.cell? ⟨b, o + k * 5 + 2, none⟩ = some (.string u.wha) ∧ wr.cell? ⟨b, o + k * 5 + 3, none⟩ = some (.string u.det) from ⟨d2, d3⟩)
        clear d0 d1 d2 d3 d4
        go_region_held3 (fun w' => w'.cell? ⟨b, o + k * 5 + 2, none⟩ = some (.string u.wha) ∧ w'.cell? ⟨b, o + k * 5 + 3, none⟩ = some (.string u.det)) (first | assumption | exact HS0.out | exact ⟨(World.grownBy_alloc _ _ none).cell HS0.out.1 (by simp), (World.grownBy_alloc _ _ none).cell HS0.out.2 (by simp)⟩ | exact hS3)
          (first | (refine step_append_rowT rfl _ _ 41 rfl 44 iS (.agg #[.string ⟨#[]⟩, .string ⟨#[]⟩]) 32 Tryd.underlying41 hiS hz0 hz1 hz2 rfl W0.heap.size u5 (viewL (es.take k) tn).length (seenV (viewL (es.take k) tn)) rfl ((show RowT wr.drew W0.heap.size u5 _ _ from HR.out).kept (World.grownBy_alloc _ _ none) (by simp)) ⟨_, 0, none⟩ 1 1 [.string u.wha, .string u.det] rfl rfl (news_new _ 44 [.string u.wha, .string u.det]) (one_two _ _) (by have := HVB.out; unfold maxLen; omega) (by have := HVB.out; omega) (by have h3 : wr.drew.heap.size = wr.heap.size := rfl; simp; omega) ?_; intro v3 w3 HR3 HG3 HO3; have hS3 := And.intro (HG3.out.cell ((World.grownBy_alloc wr.drew _ none).cell HS0.out.1 (by simp)) (fun e => by have h5 : W0.heap.size ≤ b := (HN0.out b e.symm).1; omega)) (HG3.out.cell ((World.grownBy_alloc wr.drew _ none).cell HS0.out.2 (by simp)) (fun e => by have h5 : W0.heap.size ≤ b := (HN0.out b e.symm).1; omega))))
        go_wp2
        go_roundw
        case rel =>
          refine ⟨k + 1, by omega, by go_num, Lib.hid ?_, ?_⟩
          · rw [HYY.out, List.length_append, seenV_app]
            exact HR3.out
          · exact grown_own (grown_alloc (grown_drew HG.out) _) HG3.out (fun q hq => (HN0.out q hq).1)
        case measure => simp [intOf]; omega
      · have hten' : (u.ten.toList == tn.toList) = false := by simpa using hten
        have HX' := Lib.hid (HX.out hten')
        clear hten HX HY
        go_wp2
        go_roundw
        case rel =>
          refine ⟨k + 1, by omega, by go_num, Lib.hid ?_, HG.out⟩
          rw [HX'.out]
          exact HR.out
        case measure => simp [intOf]; omega
    · obtain rfl : k = es.length := by omega
      have HF := HR.out
      rw [List.take_length] at HF
      have HF' := Lib.hid HF
      clear HF
      go_wp2
      go_ret
      exact ⟨_, rfl, HF'.out, HG.out⟩
end Go.Proofs.YtdelijobaebfnaaDoor
