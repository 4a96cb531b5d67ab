/- What the exact laws ask of a value ahead of all: that it is not too much. -/
import Derived.Test.YtgmigloafcejdaaGreatDoorV0
import Derived.Test.YtgmigloafcejdaaGreatDoorChecked
namespace Go.Proofs.YtgmigloafcejdaaGreatDoor
open Go.RowKit

def Left (M b : Nat) (r : Int) : Prop := (r = -1 ∧ M < b) ∨ (0 ≤ r ∧ r + b = M)

set_option maxRecDepth 100000 in
set_option maxHeartbeats 1000000 in
theorem szS_any (w : World) (ao : Option Addr) (cap : Nat) (ss : List ByteArray) (hl : Lies w 0 ao ss) (hn : ss.length ≤ 9223372036854775807) (hs : ∀ s ∈ ss, s.size ≤ 9223372036854775807) (M : Nat) (hM : M ≤ 1048576) :
    Calls Tryz.prog 43 #[.slice ao ss.length cap, .int .i64 (M : Int)] w fun e w' => ∃ r : Int, e = .returned (.int .i64 r) ∧ Left M (ss.length + bulkS ss) r ∧ w' = w := by
  have HL := Lib.hid hl
  have HS := Lib.hid hs
  clear hl hs
  by_cases hbig : (M : Int) < ss.length
  · go_enter Tryz.func43, Tryz.ntmps43
    go_wp2
    go_ret
    exact ⟨-1, rfl, .inl ⟨rfl, by omega⟩, rfl⟩
  have hb' : (ss.length : Int) ≤ M := by omega
  clear hbig
  go_enter Tryz.func43, Tryz.ntmps43
  go_wp2
  go_loopw [1, 5] (fun b i wr => ∃ k B : Nat, k ≤ ss.length ∧ i = .int .i64 k ∧ b = .int .i64 B ∧ Hid (B + ss.length + bulkS (ss.take k) = M) ∧ wr = w) (fun _ i _ => ss.length - (intOf i).toNat)
  case atStart => exact ⟨0, M - ss.length, Nat.zero_le _, rfl, by congr 1; omega, Lib.hid (by simp [bulkS]; omega), rfl⟩
  case round =>
    obtain ⟨k, B, hk, rfl, rfl, HB, rfl⟩ := hrel
    have hB : B ≤ 1048576 := by have := HB.out; omega
    by_cases hlt : k < ss.length
    · obtain ⟨s, hse⟩ : ∃ s, s = ss.getD k ByteArray.empty := ⟨_, rfl⟩
      have hge : ss[k] = s := by rw [hse]; simp [hlt]
      have hss := HS.out s (by rw [← hge]; exact List.getElem_mem hlt)
      rcases HL.out with h0 | ⟨ab, o, rfl, -, hc⟩
      · omega
      have d0 := hc k hlt
      rw [← hse] at d0
      have HST := Lib.hid (show bulkS (ss.take (k + 1)) = bulkS (ss.take k) + s.size from by rw [← hge]; exact bulkS_take ss k hlt)
      have hkI : (k : Int) < ss.length := by omega
      clear hc hse hge
      by_cases hneg : (B : Int) < s.size
      · have HNG := Lib.hid (show M < ss.length + bulkS ss from by have h1 := HB.out; have h2 := HST.out; have h3 := bulkS_le ss (k + 1); omega)
        go_wp2
        go_ret
        exact ⟨-1, rfl, .inl ⟨rfl, HNG.out⟩, rfl⟩
      · have hpos : (s.size : Int) ≤ B := by omega
        go_wp2
        go_roundw
        case rel => exact ⟨k + 1, B - s.size, by omega, by go_num, by congr 1; omega, Lib.hid (by rw [HST.out]; have := HB.out; omega), by trivial⟩
        case measure => simp [intOf]; omega
    · obtain rfl : k = ss.length := by omega
      go_wp2
      go_ret
      refine ⟨B, rfl, .inr ⟨by omega, ?_⟩, rfl⟩
      have := HB.out
      rw [List.take_length] at this
      omega

set_option maxRecDepth 100000 in
set_option maxHeartbeats 1000000 in
theorem szK_any (w : World) (ks : List VT) (ak : Option Addr) (ck : Nat) (hkl : ks.length ≤ 9223372036854775807) (CS : Nat → List Value) (hp : ks.length = 0 ∨ ∃ b o, ak = some ⟨b, o, none⟩ ∧ 0 ≤ b ∧ ∀ j, j < ks.length → Five w b (o + j * 5) (CS j))
    (ih : ∀ j k, ks[j]? = some k → ∀ W : World, w.grownBy W none → ∀ M : Nat, M ≤ 1048576 → Calls Tryz.prog 19 #[.agg (CS j).toArray, .int .i64 (M : Int)] W fun e w' => ∃ r : Int, e = .returned (.int .i64 r) ∧ Left M (bulk k) r ∧ W.grownBy w' none)
    (W0 : World) (hW0 : w.grownBy W0 none) (M : Nat) (hM : M ≤ 1048576) :
    Calls Tryz.prog 44 #[.slice ak ks.length ck, .int .i64 (M : Int)] W0 fun e w' => ∃ r : Int, e = .returned (.int .i64 r) ∧ Left M (ks.length + bulkK ks) r ∧ W0.grownBy w' none := by
  have HP := Lib.hid hp
  have HI := Lib.hid ih
  have HW := Lib.hid hW0
  clear hp ih hW0
  by_cases hbig : (M : Int) < ks.length
  · go_enter Tryz.func44, Tryz.ntmps44
    go_wp2
    go_ret
    exact ⟨-1, rfl, .inl ⟨rfl, by omega⟩, grown_refl _ _⟩
  have hb' : (ks.length : Int) ≤ M := by omega
  clear hbig
  go_enter Tryz.func44, Tryz.ntmps44
  go_wp2
  go_loopw [1, 5] (fun b i wr => ∃ k B : Nat, k ≤ ks.length ∧ i = .int .i64 k ∧ b = .int .i64 B ∧ Hid (B + ks.length + bulkK (ks.take k) = M) ∧ W0.grownBy wr none) (fun _ i _ => ks.length - (intOf i).toNat)
  case atStart => exact ⟨0, M - ks.length, Nat.zero_le _, rfl, by congr 1; omega, Lib.hid (by simp [bulkK]; omega), grown_refl _ _⟩
  case round =>
    obtain ⟨k, B, hk, rfl, rfl, HB, hg⟩ := hrel
    have HG := Lib.hid hg
    clear hg
    have hB : B ≤ 1048576 := by have := HB.out; omega
    by_cases hlt : k < ks.length
    · rcases HP.out with h0 | ⟨b, o, rfl, -, hc⟩
      · omega
      have HGW := Lib.hid (grown_trans HW.out HG.out)
      obtain ⟨c0, c1, c2, c3, c4, hcs, d0, d1, d2, d3, d4⟩ := (hc k hlt).kept HGW.out (by simp)
      have HCA := Lib.hid (HI.out k ks[k] (by simp [hlt]) wr HGW.out B hB)
      rw [hcs] at HCA
      have HST := Lib.hid (bulkK_take ks k hlt)
      have hkI : (k : Int) < ks.length := by omega
      clear hc hcs
      go_wp2_with fail
      refine HCA.out.mono ?_
      rintro e w1 ⟨r, rfl, hr, hg1⟩
      have HR := Lib.hid hr
      have HG1 := Lib.hid (grown_trans HG.out hg1)
      clear hr HCA d0 d1 d2 d3 d4 hg1
      rcases HR.out with ⟨rfl, hneg⟩ | ⟨hr0, hre⟩
      · have HNG := Lib.hid (show M < ks.length + bulkK ks from by have h1 := HB.out; have h2 := HST.out; have h3 := bulkK_le ks (k + 1); omega)
        go_wp2
        go_ret
        exact ⟨-1, rfl, .inl ⟨rfl, HNG.out⟩, HG1.out⟩
      · obtain ⟨R, rfl⟩ := Int.eq_ofNat_of_zero_le hr0
        have HRE := Lib.hid (show R + bulk ks[k] = B from by omega)
        clear hre
        go_wp2
        go_roundw
        case rel => exact ⟨k + 1, R, by omega, by go_num, rfl, Lib.hid (by rw [HST.out]; have h1 := HB.out; have h2 := HRE.out; omega), HG1.out⟩
        case measure => simp [intOf]; omega
    · obtain rfl : k = ks.length := by omega
      go_wp2
      go_ret
      refine ⟨B, rfl, .inr ⟨by omega, ?_⟩, HG.out⟩
      have := HB.out
      rw [List.take_length] at this
      omega

set_option maxRecDepth 100000 in
set_option maxHeartbeats 1000000 in
theorem szV_any (w : World) (T : VT) (cs : List Value) (h : VIn w 0 T cs) : ∀ W : World, w.grownBy W none → ∀ M : Nat, M ≤ 1048576 → Calls Tryz.prog 19 #[.agg cs.toArray, .int .i64 (M : Int)] W fun e w' => ∃ r : Int, e = .returned (.int .i64 r) ∧ Left M (bulk T) r ∧ W.grownBy w' none := by
  induction h with
  | @mk s n t ns ks an ak cn ck CS hn hp hk hcn hck ht hcl hkl hsl hs1 hs2 hn1 hn2 ih =>
    intro W hW M hM
    have HS := Lib.hid (fun (X : World) (hX : w.grownBy X none) (B : Nat) (hB : B ≤ 1048576) => szS_any X an cn ns (hn.kept hX (fun q e => by cases e)) hcl hsl B hB)
    have HK := Lib.hid (fun (X : World) (hX : w.grownBy X none) (B : Nat) (hB : B ≤ 1048576) => szK_any w ks ak ck hkl CS hp ih X hX B hB)
    have HBU := Lib.hid (show bulk (.node s n t ns ks) = t.size + (ns.length + bulkS ns) + (ks.length + bulkK ks) from by rw [bulk])
    have HGA := Lib.hid (show W.grownBy (W.alloc (Obj.cells #[.int .i64 s, .int .i64 n, .string t, .slice an ns.length cn, .slice ak ks.length ck] 39)) none from grown_alloc (grown_refl _ _) _)
    have HBL := Lib.hid (Blk.new W 39 [.int .i64 s, .int .i64 n, .string t, .slice an ns.length cn, .slice ak ks.length ck])
    have HW := Lib.hid hW
    rw [HBU.out]
    clear hn hp hk ih hsl hW
    by_cases hneg : (M : Int) < t.size
    · go_enter Tryz.func19, Tryz.ntmps19
      go_wp2
      go_ret
      exact ⟨-1, rfl, .inl ⟨rfl, by omega⟩, HGA.out⟩
    have hpos : (t.size : Int) ≤ M := by omega
    obtain ⟨B, hB⟩ : ∃ B : Nat, (B : Int) = (M : Int) - t.size := ⟨M - t.size, by omega⟩
    have HB := Lib.hid hB
    have hBM : B ≤ 1048576 := by omega
    clear hneg
    go_enter Tryz.func19, Tryz.ntmps19
    go_wp2_with fail
    rw [← HB.out]
    refine (HS.out _ (grown_trans HW.out HGA.out) B hBM).mono ?_
    rintro e w1 ⟨r, rfl, hr, hw⟩
    have hw := hw.symm
    subst hw
    have HR := Lib.hid hr
    clear hr HS
    rcases HR.out with ⟨rfl, hneg⟩ | ⟨hr0, hre⟩
    · have HNG := Lib.hid (show M < t.size + (ns.length + bulkS ns) + (ks.length + bulkK ks) from by have := HB.out; omega)
      go_wp2
      go_ret
      exact ⟨-1, rfl, .inl ⟨rfl, HNG.out⟩, HGA.out⟩
    obtain ⟨R, rfl⟩ := Int.eq_ofNat_of_zero_le hr0
    have HRE := Lib.hid (show R + (ns.length + bulkS ns) = B from by omega)
    have hRB : R ≤ 1048576 := by omega
    clear hre
    go_wp2_with fail
    refine (HK.out _ (grown_trans HW.out HGA.out) R hRB).mono ?_
    rintro e w1 ⟨r, rfl, hr, hg1⟩
    have HR2 := Lib.hid hr
    have HG1 := Lib.hid (grown_trans HGA.out hg1)
    clear hr HK hg1
    rcases HR2.out with ⟨rfl, hneg⟩ | ⟨hr0, hre⟩
    · have HNG := Lib.hid (show M < t.size + (ns.length + bulkS ns) + (ks.length + bulkK ks) from by have := HB.out; have := HRE.out; omega)
      go_wp2
      go_ret
      exact ⟨-1, rfl, .inl ⟨rfl, HNG.out⟩, HG1.out⟩
    obtain ⟨R2, rfl⟩ := Int.eq_ofNat_of_zero_le hr0
    have HFI := Lib.hid (show (R2 : Int) + (t.size + (ns.length + bulkS ns) + (ks.length + bulkK ks) : Nat) = M from by have := HB.out; have := HRE.out; omega)
    clear hre
    go_wp2
    go_ret
    exact ⟨R2, rfl, .inr ⟨by omega, HFI.out⟩, HG1.out⟩
end Go.Proofs.YtgmigloafcejdaaGreatDoor
