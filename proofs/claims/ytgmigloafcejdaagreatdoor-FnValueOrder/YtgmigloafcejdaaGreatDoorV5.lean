/- Two copies of one value are held to be the same. -/
import Derived.Test.YtgmigloafcejdaaGreatDoorV4
import Derived.Test.YtgmigloafcejdaaGreatDoorB0
namespace Go.Proofs.YtgmigloafcejdaaGreatDoor
open Go.RowKit

set_option maxRecDepth 100000 in
set_option maxHeartbeats 1000000 in
theorem eqS_any (w : World) (b1 b2 : Nat) (ss : List ByteArray) (a1 a2 : Option Addr) (c1 c2 : Nat) (h1 : Lies w b1 a1 ss) (h2 : Lies w b2 a2 ss) (hn : ss.length ≤ 1048576) :
    Calls Tryz.prog 47 #[.slice a1 ss.length c1, .slice a2 ss.length c2] w fun e w' => e = .returned (.bool true) ∧ w.grownBy w' none := by
  have H1 := Lib.hid h1
  have H2 := Lib.hid h2
  clear h1 h2
  go_enter Tryz.func47, Tryz.ntmps47
  go_wp2
  go_loopw [5] (fun i wr => ∃ k : Nat, k ≤ ss.length ∧ i = .int .i64 k ∧ w.grownBy wr none) (fun i _ => ss.length - (intOf i).toNat)
  case atStart => exact ⟨0, Nat.zero_le _, rfl, grown_refl _ _⟩
  case round =>
    obtain ⟨k, hk, rfl, hg⟩ := hrel
    have HG := Lib.hid hg
    by_cases hlt : k < ss.length
    · rcases H1.out with h0 | ⟨ab, o, rfl, -, hc⟩
      · omega
      rcases H2.out with h0 | ⟨ab2, o2, rfl, -, hc2⟩
      · omega
      have d1 := hg.cell (hc k hlt) (by simp)
      have d2 := hg.cell (hc2 k hlt) (by simp)
      generalize ss.getD k ByteArray.empty = s at d1 d2
      have hkI : (k : Int) < ss.length := by omega
      clear hg hc hc2
      go_wp2
      go_quiet (fail)
      go_wp2
      go_roundw
      case rel => exact ⟨k + 1, by omega, by go_num, grown_drewN HG.out _⟩
      case measure => simp [intOf]; omega
    · obtain rfl : k = ss.length := by omega
      clear hg
      go_wp2
      go_ret
      exact ⟨rfl, HG.out⟩

set_option maxRecDepth 100000 in
set_option maxHeartbeats 1000000 in
theorem eqK_any (w : World) (b1 b2 : Nat) (ks : List VT) (a1 a2 : Option Addr) (c1 c2 : Nat) (hkl : ks.length ≤ 1048576) (CS CT : Nat → List Value)
    (hp : ks.length = 0 ∨ ∃ b o, a1 = some ⟨b, o, none⟩ ∧ b1 ≤ b ∧ ∀ j, j < ks.length → Five w b (o + j * 5) (CS j)) (hq : ks.length = 0 ∨ ∃ b o, a2 = some ⟨b, o, none⟩ ∧ b2 ≤ b ∧ ∀ j, j < ks.length → Five w b (o + j * 5) (CT j))
    (ih : ∀ j k, ks[j]? = some k → ∀ W : World, w.grownBy W none → Calls Tryz.prog 21 #[.agg (CS j).toArray, .agg (CT j).toArray] W fun e w' => e = .returned (.bool true) ∧ W.grownBy w' none)
    (W0 : World) (hW0 : w.grownBy W0 none) :
    Calls Tryz.prog 48 #[.slice a1 ks.length c1, .slice a2 ks.length c2] W0 fun e w' => e = .returned (.bool true) ∧ W0.grownBy w' none := by
  have HP := Lib.hid hp
  have HQ := Lib.hid hq
  have HI := Lib.hid ih
  have HW := Lib.hid hW0
  clear hp hq ih hW0
  go_enter Tryz.func48, Tryz.ntmps48
  go_wp2
  go_loopw [5] (fun i wr => ∃ k : Nat, k ≤ ks.length ∧ i = .int .i64 k ∧ W0.grownBy wr none) (fun i _ => ks.length - (intOf i).toNat)
  case atStart => exact ⟨0, Nat.zero_le _, rfl, grown_refl _ _⟩
  case round =>
    obtain ⟨k, hk, rfl, hg⟩ := hrel
    have HG := Lib.hid hg
    clear hg
    by_cases hlt : k < ks.length
    · rcases HP.out with h0 | ⟨b, o, rfl, -, hc⟩
      · omega
      rcases HQ.out with h0 | ⟨bb, oo, rfl, -, hc2⟩
      · omega
      have F1 := Lib.hid (hc k hlt)
      have F2 := Lib.hid (hc2 k hlt)
      have hkI : (k : Int) < ks.length := by omega
      clear hc hc2
      go_wp2
      refine wp_still_tail 8 (by kernel_rfl) (by kernel_rfl) (fun wx => W0.grownBy wx none) (grown_drew HG.out) ?_
      intro wx hgx
      have HGX := Lib.hid hgx
      have HGW := Lib.hid (grown_trans HW.out hgx)
      obtain ⟨p0, p1, p2, p3, p4, hcs, d0, d1, d2, d3, d4⟩ := F1.out.kept HGW.out (by simp)
      obtain ⟨q0, q1, q2, q3, q4, hct, e0, e1, e2, e3, e4⟩ := F2.out.kept HGW.out (by simp)
      have HCA := Lib.hid (HI.out k ks[k] (by simp [hlt]) wx HGW.out)
      rw [hcs, hct] at HCA
      clear hgx hcs hct F1 F2
      simp only [List.take_succ_cons, List.take_zero, List.drop_succ_cons, List.drop_zero]
      repeat still_step
      refine wpStill_nil ?_
      clear d0 d1 d2 d3 d4 e0 e1 e2 e3 e4
      go_wp2_with fail
      refine HCA.out.mono ?_
      rintro e w1 ⟨rfl, hg1⟩
      have HG1 := Lib.hid (grown_trans HGX.out hg1)
      clear hg1 HCA
      go_wp2
      go_roundw
      case rel => exact ⟨k + 1, by omega, by go_num, HG1.out⟩
      case measure => simp [intOf]; omega
    · obtain rfl : k = ks.length := by omega
      go_wp2
      go_ret
      exact ⟨rfl, HG.out⟩

set_option maxRecDepth 100000 in
set_option maxHeartbeats 1000000 in
theorem eqV_any (w : World) (b1 : Nat) (T : VT) (cs : List Value) (h : VIn w b1 T cs) : bulk T ≤ 1048576 → ∀ (b2 : Nat) (ct : List Value), VIn w b2 T ct → ∀ W : World, w.grownBy W none → Calls Tryz.prog 21 #[.agg cs.toArray, .agg ct.toArray] W fun e w' => e = .returned (.bool true) ∧ W.grownBy w' none := by
  induction h with
  | @mk s n t ns ks an ak cn ck CS hn hp hk hcn hck ht hcl hkl hsl hs1 hs2 hn1 hn2 ih =>
    intro hbu b2 ct h2 W hW
    rw [bulk] at hbu
    cases h2 with
    | @mk _ _ _ _ _ an2 ak2 cn2 ck2 CT kn kp kk =>
      have HS := Lib.hid (fun (X : World) (hX : w.grownBy X none) => eqS_any X b1 b2 ns an an2 cn cn2 (hn.kept hX (fun q e => by cases e)) (kn.kept hX (fun q e => by cases e)) (by omega))
      have HK := Lib.hid (fun (X : World) (hX : w.grownBy X none) => eqK_any w b1 b2 ks ak ak2 ck ck2 (by omega) CS CT hp kp (fun j k hj Y hY => ih j k hj (by have := bulk_kid hj; omega) b2 (CT j) (kk j k hj) Y hY) X hX)
      have HW := Lib.hid hW
      clear hn hp hk ih hsl hW kn kp kk
      have HBA := Lib.hid (show Blk ((W.alloc (Obj.cells #[Value.int .i64 s, .int .i64 n, .string t, .slice an ns.length cn, .slice ak ks.length ck] 27)).alloc (Obj.cells #[Value.int .i64 s, .int .i64 n, .string t, .slice an2 ns.length cn2, .slice ak2 ks.length ck2] 27)) W.heap.size 27 [.int .i64 s, .int .i64 n, .string t, .slice an ns.length cn, .slice ak ks.length ck] from (Blk.new W 27 [.int .i64 s, .int .i64 n, .string t, .slice an ns.length cn, .slice ak ks.length ck]).alloc _)
      have HBB := Lib.hid (show Blk ((W.alloc (Obj.cells #[Value.int .i64 s, .int .i64 n, .string t, .slice an ns.length cn, .slice ak ks.length ck] 27)).alloc (Obj.cells #[Value.int .i64 s, .int .i64 n, .string t, .slice an2 ns.length cn2, .slice ak2 ks.length ck2] 27)) (W.heap.size + 1) 27 [.int .i64 s, .int .i64 n, .string t, .slice an2 ns.length cn2, .slice ak2 ks.length ck2] from by
        have := Blk.new (W.alloc (Obj.cells #[Value.int .i64 s, .int .i64 n, .string t, .slice an ns.length cn, .slice ak ks.length ck] 27)) 27 [.int .i64 s, .int .i64 n, .string t, .slice an2 ns.length cn2, .slice ak2 ks.length ck2]
        simpa using this)
      have HG2 := Lib.hid (show W.grownBy ((W.alloc (Obj.cells #[Value.int .i64 s, .int .i64 n, .string t, .slice an ns.length cn, .slice ak ks.length ck] 27)).alloc (Obj.cells #[Value.int .i64 s, .int .i64 n, .string t, .slice an2 ns.length cn2, .slice ak2 ks.length ck2] 27)) none from grown_alloc (grown_alloc (grown_refl _ _) _) _)
      go_enter Tryz.func21, Tryz.ntmps21
      go_wp2_with fail
      generalize ((W.alloc (Obj.cells #[Value.int .i64 s, .int .i64 n, .string t, .slice an ns.length cn, .slice ak ks.length ck] 27)).alloc (Obj.cells #[Value.int .i64 s, .int .i64 n, .string t, .slice an2 ns.length cn2, .slice ak2 ks.length ck2] 27)) = W2 at HBA HBB HG2 ⊢
      refine (HS.out W2 (grown_trans HW.out HG2.out)).mono ?_
      rintro e w1 ⟨rfl, hg1⟩
      have HG1 := Lib.hid (grown_trans HG2.out hg1)
      have d4 : w1.cell? ⟨W.heap.size, 4, none⟩ = some (.slice ak ks.length ck) := (HBA.out.kept hg1 (by simp)).cell rfl
      have e4 : w1.cell? ⟨W.heap.size + 1, 4, none⟩ = some (.slice ak2 ks.length ck2) := (HBB.out.kept hg1 (by simp)).cell rfl
      clear hg1 HS HBA HBB HG2
      go_wp2_with fail
      refine (HK.out w1 (grown_trans HW.out HG1.out)).mono ?_
      rintro e w3 ⟨rfl, hg3⟩
      have HG3 := Lib.hid (grown_trans HG1.out hg3)
      clear hg3 HK d4 e4
      go_wp2
      go_ret
      exact ⟨rfl, HG3.out⟩
end Go.Proofs.YtgmigloafcejdaaGreatDoor
