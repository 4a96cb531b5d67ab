/- Entries of an audit: how much they are, copied. -/
import Derived.Test.YtfdhopkjblbkmaaDoorB0
import Derived.Test.YtfdhopkjblbkmaaDoorQ1
namespace Go.Proofs.YtfdhopkjblbkmaaDoor
open Go.RowKit

set_option maxRecDepth 100000 in
set_option maxHeartbeats 1000000 in
theorem szEntries_any (w : World) (us : List AE) (ao : Option Addr) (cap : Nat) (hl : ELies w 0 ao us) (hn : us.length ≤ 9223372036854775807) (hz : ESz us) (W0 : World) (hW0 : w.grownBy W0 none) (M : Nat) (hM : M ≤ 1048576) :
    Calls Tryd.prog 6 #[.slice ao us.length cap, .int .i64 (M : Int)] W0 fun e w' => ∃ r : Int, e = .returned (.int .i64 r) ∧ Left M (us.length + bulkE us) r ∧ W0.grownBy w' none := by
  have HP := Lib.hid hl
  have HZ := Lib.hid hz
  have HW := Lib.hid hW0
  clear hl hz hW0
  by_cases hbig : (M : Int) < us.length
  · go_enter Tryd.func6, Tryd.ntmps6
    go_wp2
    go_ret
    exact ⟨-1, rfl, .inl ⟨rfl, by omega⟩, grown_refl _ _⟩
  have hb' : (us.length : Int) ≤ M := by omega
  clear hbig
  go_enter Tryd.func6, Tryd.ntmps6
  go_wp2
  go_loopw [1, 5] (fun b i wr => ∃ k B : Nat, k ≤ us.length ∧ i = .int .i64 k ∧ b = .int .i64 B ∧ Hid (B + us.length + bulkE (us.take k) = M) ∧ W0.grownBy wr none) (fun _ i _ => us.length - (intOf i).toNat)
  case atStart => exact ⟨0, M - us.length, Nat.zero_le _, rfl, by congr 1; omega, Lib.hid (by simp [bulkE]; omega), grown_refl _ _⟩
  case round =>
    obtain ⟨k, B, hk, rfl, rfl, HB, hg⟩ := hrel
    have HG := Lib.hid hg
    clear hg
    have hB : B ≤ 1048576 := by have := HB.out; omega
    by_cases hlt : k < us.length
    · rcases HP.out with h0 | ⟨b, o, rfl, -, hc⟩
      · omega
      have HGW := Lib.hid (grown_trans HW.out HG.out)
      obtain ⟨d0, d1, d2, d3, d4⟩ := (hc k hlt).kept HGW.out (by simp)
      obtain ⟨z1, z2, z3, z4⟩ := HZ.out us[k] (List.getElem_mem hlt)
      have HST := Lib.hid (bulkE_take us k hlt)
      generalize us[k] = u at d0 d1 d2 d3 d4 z1 z2 z3 z4 HST
      have HCA := Lib.hid (szEntry_any wr u z1 z2 z3 z4 B hB)
      have hkI : (k : Int) < us.length := by omega
      clear hc
      go_wp2_with fail
      refine HCA.out.mono ?_
      rintro e w1 ⟨r, rfl, hr, hg1⟩
      have HR := Lib.hid hr
      have HG1 := Lib.hid (grown_trans HG.out hg1)
      clear hr HCA d0 d1 d2 d3 d4 hg1
      rcases HR.out with ⟨rfl, hneg⟩ | ⟨hr0, hre⟩
      · have HNG := Lib.hid (show M < us.length + bulkE us from by have h1 := HB.out; have h2 := HST.out; have h3 := bulkE_le us (k + 1); omega)
        go_wp2
        go_ret
        exact ⟨-1, rfl, .inl ⟨rfl, HNG.out⟩, HG1.out⟩
      · obtain ⟨R, rfl⟩ := Int.eq_ofNat_of_zero_le hr0
        have HRE := Lib.hid (show R + eB u = B from by omega)
        clear hre
        go_wp2
        go_roundw
        case rel => exact ⟨k + 1, R, by omega, by go_num, rfl, Lib.hid (by rw [HST.out]; have h1 := HB.out; have h2 := HRE.out; omega), HG1.out⟩
        case measure => simp [intOf]; omega
    · obtain rfl : k = us.length := by omega
      go_wp2
      go_ret
      refine ⟨B, rfl, .inr ⟨by omega, ?_⟩, HG.out⟩
      have := HB.out
      rw [List.take_length] at this
      omega

theorem info83s : (Tryd.prog.info? 37).map (·.size) = some 5 := by kernel_rfl

set_option maxRecDepth 100000 in
set_option maxHeartbeats 2000000 in
theorem toEntry_any (w : World) (u : AE) :
    Calls Tryd.prog 20 #[.agg #[.int .i64 u.seq, .string u.ten, .string u.wha, .string u.det, .string u.sum]] w fun e w' => e = .returned (.agg #[.int .i64 u.seq, .string u.ten, .string u.wha, .string u.det, .string u.sum]) ∧ w.grownBy w' none := by
  have HB := Lib.hid (show Blk ((w.alloc (Obj.cells #[Value.int .i64 u.seq, .string u.ten, .string u.wha, .string u.det, .string u.sum] 36)).alloc (Obj.cells #[Value.int .i64 u.seq, .string u.ten, .string u.wha, .string u.det, .string u.sum] 37)) (w.heap.size + 1) 37 [Value.int .i64 u.seq, .string u.ten, .string u.wha, .string u.det, .string u.sum] from by
    have := Blk.new (w.alloc (Obj.cells #[Value.int .i64 u.seq, .string u.ten, .string u.wha, .string u.det, .string u.sum] 36)) 37 [Value.int .i64 u.seq, .string u.ten, .string u.wha, .string u.det, .string u.sum]
    simpa using this)
  go_enter Tryd.func20, Tryd.ntmps20
  go_wp2
  exact ⟨rfl, _, results_blk1 Tryd.results20 _ _ (w.heap.size + 1) 37 _ _ (HB.out.alloc _) Tryd.underlying37 rfl info83s rfl, rfl, grown_alloc (grown_alloc (grown_alloc (grown_refl _ _) _) _) _⟩
end Go.Proofs.YtfdhopkjblbkmaaDoor
