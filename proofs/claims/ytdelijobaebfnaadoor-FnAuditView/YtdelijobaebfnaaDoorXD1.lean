/- The readers that the laws draw by: what they leave of a world, and in what bounds their numbers lie. -/
import Derived.Test.YtdelijobaebfnaaDoorXH7
import Derived.Test.YtdelijobaebfnaaDoorR0
import Derived.Deep.CutRange
namespace Go.Proofs.YtdelijobaebfnaaDoor
open Go.RowKit

theorem i64_xor_nat (a b : Nat) (ha : a < 9223372036854775808) (hb : b < 9223372036854775808) : bits .xor .i64 (a : Int) (b : Int) = ((a ^^^ b : Nat) : Int) := by
  have hx : a ^^^ b < 2 ^ 63 := Nat.xor_lt_two_pow (by omega) (by omega)
  have h1 : (BitVec.ofInt 64 (a : Int)).toNat = a := by
    rw [BitVec.ofInt_natCast, BitVec.toNat_ofNat]; exact Nat.mod_eq_of_lt (by omega)
  have h2 : (BitVec.ofInt 64 (b : Int)).toNat = b := by
    rw [BitVec.ofInt_natCast, BitVec.toNat_ofNat]; exact Nat.mod_eq_of_lt (by omega)
  show IntKind.i64.wrap ((BitVec.ofInt 64 (a : Int) ^^^ BitVec.ofInt 64 (b : Int)).toNat : Int) = _
  rw [BitVec.toNat_xor, h1, h2, IntKind.wrap_i64]
  omega

/-- the bytes that are read: in another block than the reader -/
def Code8 (w : World) (rb : Nat) (ao : Option Addr) (n : Nat) : Prop :=
  n ≤ 2000 ∧ (n = 0 ∨ ∃ ab o, ao = some ⟨ab, o, none⟩ ∧ ab ≠ rb ∧ ∀ j, j < n → ∃ x : Int, 0 ≤ x ∧ x < 256 ∧ w.cell? ⟨ab, o + j, none⟩ = some (.int .u8 x))
theorem Code8.kept {w w' : World} {rb : Nat} {ao : Option Addr} {n : Nat} {row : Option Nat} (h : Code8 w rb ao n) (hg : w.grownBy w' row) (hr : ∀ k, row = some k → k = rb) : Code8 w' rb ao n := by
  obtain ⟨hn, h | ⟨ab, o, rfl, hne, hc⟩⟩ := h
  · exact ⟨hn, .inl h⟩
  · refine ⟨hn, .inr ⟨ab, o, rfl, hne, fun j hj => ?_⟩⟩
    obtain ⟨x, h0, h1, hx⟩ := hc j hj
    exact ⟨x, h0, h1, hg.cell hx (fun e => hne (hr ab e.symm))⟩
/-- the reader: it stands at place p -/
def Rd (w : World) (rb : Nat) (ao : Option Addr) (n cap p : Nat) : Prop := Blk w rb 69 [.slice ao n cap, .int .i64 (p : Int)] ∧ Code8 w rb ao n

set_option maxRecDepth 100000 in
set_option maxHeartbeats 1000000 in
theorem pick_any (w : World) (rb : Nat) (ao : Option Addr) (n cap p : Nat) (hr : Rd w rb ao n cap p) (hp : p < 1000000) (N : Int) (hN1 : 1 ≤ N) (hN2 : N ≤ 1000000) :
    Calls Tryd.prog 42 #[.pointer (some ⟨rb, 0, none⟩), .int .i64 N] w fun e w' => ∃ x : Int, e = .returned (.int .i64 x) ∧ 0 ≤ x ∧ x < N ∧ Rd w' rb ao n cap (p + 1) ∧ w.grownBy w' (some rb) := by
  obtain ⟨hb, hc⟩ := hr
  have c0 := hb.cell (j := 0) rfl
  have c1 := hb.cell (j := 1) rfl
  have f1 := hb.frozen 1
  have HB := Lib.hid hb
  have HC := Lib.hid hc
  have hn2 : n ≤ 2000 := hc.1
  clear hb hc
  go_enter Tryd.func42, Tryd.ntmps42
  go_upto_region 2 with (fail)
  refine wp_letter (fun wx => Blk wx rb 69 [.slice ao n cap, .int .i64 ((p : Int) + 1)] ∧ w.grownBy wx (some rb)) ⟨HB.out.set 1 (.int .i64 ((p : Int) + 1)), grown_set (grown_refl _ _) 1 _⟩ ?_
  clear c0 c1 f1
  rintro wx ⟨hb, hg⟩
  have c0 := hb.cell (j := 0) rfl
  have c1 := hb.cell (j := 1) rfl
  have hc := HC.out.kept hg (fun k hk => by cases hk; rfl)
  have HRD := Lib.hid (show Rd wx rb ao n cap (p + 1) from ⟨hb, hc⟩)
  have HG := Lib.hid hg
  clear HB HC hb hg
  obtain ⟨_, rfl | ⟨ab, o, rfl, hne, hcc⟩⟩ := hc
  · go_wp2
    go_ret
    exact ⟨0, rfl, by omega, by omega, HRD.out, HG.out⟩
  by_cases hn0 : n = 0
  · subst hn0
    go_wp2
    go_ret
    exact ⟨0, rfl, by omega, by omega, HRD.out, HG.out⟩
  have hn1 : 0 < n := by omega
  have hnb : ((n : Int) == 0) = false := by simp; omega
  have hNb : decide (N < 1) = false := by simp; omega
  by_cases hpn : p < n
  · obtain ⟨x, hx0, hx1, d1⟩ := hcc p hpn
    clear hcc
    have hpI : (p : Int) < (n : Int) := by omega
    go_wp2
    go_ret
    exact ⟨x % N, rfl, Int.emod_nonneg _ (by omega), Int.emod_lt_of_pos _ (by omega), HRD.out, HG.out⟩
  · have hpI : (n : Int) ≤ (p : Int) := by omega
    have hpd : decide ((p : Int) < (n : Int)) = false := by simp; omega
    obtain ⟨q1, hq1⟩ : ∃ q, q = p % n := ⟨_, rfl⟩
    obtain ⟨q2, hq2⟩ : ∃ q, q = (p * 7 + 3) % n := ⟨_, rfl⟩
    obtain ⟨d, hd⟩ : ∃ d, d = p / n := ⟨_, rfl⟩
    have l1 : q1 < n := by rw [hq1]; exact Nat.mod_lt _ hn1
    have l2 : q2 < n := by rw [hq2]; exact Nat.mod_lt _ hn1
    have ld : d ≤ p := by rw [hd]; exact Nat.div_le_self _ _
    have i1 : (q1 : Int) < (n : Int) := by omega
    have i2 : (q2 : Int) < (n : Int) := by omega
    obtain ⟨x1, hx0, hx1, d1⟩ := hcc q1 l1
    obtain ⟨x2, hy0, hy1, d2⟩ := hcc q2 l2
    have e1 : (p : Int).tmod (n : Int) = (q1 : Int) := by rw [Int.tmod_eq_emod_of_nonneg (by omega), hq1]; simp
    have e0 : IntKind.i64.wrap ((p : Int) * 7) = (p : Int) * 7 := by rw [IntKind.wrap_i64]; omega
    have e0' : IntKind.i64.wrap ((p : Int) * 7 + 3) = (p : Int) * 7 + 3 := by rw [IntKind.wrap_i64]; omega
    have e2 : ((p : Int) * 7 + 3).tmod (n : Int) = (q2 : Int) := by rw [Int.tmod_eq_emod_of_nonneg (by omega), hq2]; simp
    have e3 : (p : Int).tdiv (n : Int) = (d : Int) := by rw [Int.tdiv_eq_ediv_of_nonneg (by omega), hd]; simp
    have e4 : IntKind.i64.wrap (x1 * 131) = x1 * 131 := by rw [IntKind.wrap_i64]; omega
    have e5 : IntKind.i64.wrap (x2 * 1117) = x2 * 1117 := by rw [IntKind.wrap_i64]; omega
    have e6 : IntKind.i64.wrap (x1 * 131 + x2 * 1117) = x1 * 131 + x2 * 1117 := by rw [IntKind.wrap_i64]; omega
    have e7 : IntKind.i64.wrap ((p : Int) * 29) = (p : Int) * 29 := by rw [IntKind.wrap_i64]; omega
    have e8 : IntKind.i64.wrap (x1 * 131 + x2 * 1117 + (p : Int) * 29) = x1 * 131 + x2 * 1117 + (p : Int) * 29 := by rw [IntKind.wrap_i64]; omega
    have e9 : IntKind.i64.wrap ((d : Int) * 53) = (d : Int) * 53 := by rw [IntKind.wrap_i64]; omega
    obtain ⟨X, hX⟩ : ∃ X : Nat, (X : Int) = x1 * 131 + x2 * 1117 + (p : Int) * 29 + (d : Int) * 53 := ⟨(x1 * 131 + x2 * 1117 + (p : Int) * 29 + (d : Int) * 53).toNat, by omega⟩
    have eA : IntKind.i64.wrap (x1 * 131 + x2 * 1117 + (p : Int) * 29 + (d : Int) * 53) = (X : Int) := by rw [IntKind.wrap_i64]; omega
    have hX2 : X < 1000000000 := by omega
    have wc : IntKind.i64.wrap x1 = x1 := by rw [IntKind.wrap_i64]; omega
    have wd : IntKind.i64.wrap x2 = x2 := by rw [IntKind.wrap_i64]; omega
    have HX := Lib.hid hX
    have HQ := Lib.hid (And.intro hq1 (And.intro hq2 hd))
    clear hcc hX hq1 hq2 hd
    go_wp2
    go_quiet (fail)
    clear e0 e0' e1 e2 e3 e4 e5 e6 e7 e8 e9 eA wc wd d1 d2 c0 c1
    obtain ⟨Y, hY⟩ : ∃ Y, Y = X ^^^ (X / 64) := ⟨_, rfl⟩
    have hY2 : Y < 1073741824 := by rw [hY]; exact Nat.xor_lt_two_pow (n := 30) (by omega) (by omega)
    have eX : bits .xor .i64 (X : Int) ((X : Int) / 64) = (Y : Int) := by
      rw [hY, show ((X : Int) / 64) = ((X / 64 : Nat) : Int) from by omega]
      exact i64_xor_nat X (X / 64) (by omega) (by omega)
    clear hY
    go_wp2
    go_ret
    exact ⟨(Y : Int) % N, rfl, Int.emod_nonneg _ (by omega), Int.emod_lt_of_pos _ (by omega), HRD.out, grown_drewN HG.out _⟩

/-- the reader is opened -/
theorem open_any (w : World) (ao : Option Addr) (n cap : Nat) (hn : n ≤ 1048576) (hcap : n ≤ cap)
    (hc : n = 0 ∨ ∃ ab o, ao = some ⟨ab, o, none⟩ ∧ ∀ j, j < n → ∃ x : Int, 0 ≤ x ∧ x < 256 ∧ w.cell? ⟨ab, o + j, none⟩ = some (.int .u8 x)) :
    Calls Tryd.prog 23 #[.slice ao n cap] w fun e w' => e = .returned (.pointer (some ⟨w.heap.size, 0, none⟩)) ∧ (∃ n', Rd w' w.heap.size ao n' cap 0) ∧ w.grownBy w' none := by
  have hrd : ∀ n', n' ≤ n → n' ≤ 2000 → Rd (w.alloc (.cells #[.slice ao n' cap, .int .i64 0] 69)) w.heap.size ao n' cap 0 := fun n' h1 h2 => by
    refine ⟨Blk.new w 69 [.slice ao n' cap, .int .i64 0], h2, ?_⟩
    rcases hc with h0 | ⟨ab, o, rfl, hc⟩
    · exact .inl (by omega)
    · by_cases h0 : n' = 0
      · exact .inl h0
      refine .inr ⟨ab, o, rfl, ?_, fun j hj => ?_⟩
      · obtain ⟨x, _, _, hx⟩ := hc 0 (by omega)
        have := World.block_lt_of_cell? w _ hx
        simp at this
        omega
      · obtain ⟨x, hx0, hx1, hx⟩ := hc j (by omega)
        exact ⟨x, hx0, hx1, (World.grownBy_alloc w _ none).cell hx (by simp)⟩
  by_cases hb : (n : Int) > 2000
  · obtain ⟨ab, o, rfl, hcc⟩ : ∃ ab o, ao = some ⟨ab, o, none⟩ ∧ True := by
      rcases hc with h0 | ⟨ab, o, rfl, hc⟩
      · omega
      · exact ⟨ab, o, rfl, trivial⟩
    have HR := Lib.hid (hrd 2000 (by omega) (by omega))
    have hcI : (2000 : Int) ≤ (cap : Int) := by omega
    clear hrd hc
    go_enter Tryd.func23, Tryd.ntmps23
    go_wp2
    go_ret
    exact ⟨rfl, ⟨2000, HR.out⟩, World.grownBy_alloc w _ none⟩
  · have hb' : (n : Int) ≤ 2000 := by omega
    have HR := Lib.hid (hrd n (by omega) (by omega))
    clear hrd hc
    go_enter Tryd.func23, Tryd.ntmps23
    go_wp2
    go_ret
    exact ⟨rfl, ⟨n, HR.out⟩, World.grownBy_alloc w _ none⟩

/-- one of a list of texts -/
theorem of_any (w : World) (rb : Nat) (ao : Option Addr) (n cap p : Nat) (hr : Rd w rb ao n cap p) (hp : p < 1000000) (g : Nat) (hne : g ≠ rb) (ss : List ByteArray) (h1 : 0 < ss.length) (h2 : ss.length ≤ 1000) (cp : Nat)
    (hss : ∀ j, j < ss.length → w.cell? ⟨g, j, none⟩ = some (.string (ss.getD j ByteArray.empty))) :
    Calls Tryd.prog 35 #[.pointer (some ⟨rb, 0, none⟩), .slice (some ⟨g, 0, none⟩) ss.length cp] w fun e w' => ∃ j, j < ss.length ∧ e = .returned (.string (ss.getD j ByteArray.empty)) ∧ Rd w' rb ao n cap (p + 1) ∧ w.grownBy w' (some rb) := by
  have HS := Lib.hid hss
  have HP := Lib.hid (pick_any w rb ao n cap p hr hp ss.length (by omega) (by omega))
  clear hss hr
  go_enter Tryd.func35, Tryd.ntmps35
  go_wp2_with fail
  refine HP.out.mono ?_
  rintro e w1 ⟨x, rfl, hx0, hx1, hr1, hg1⟩
  obtain ⟨j, rfl⟩ := Int.eq_ofNat_of_zero_le hx0
  have hj : j < ss.length := by omega
  have d1 := hg1.cell (HS.out j hj) (by simp; exact hne)
  have HR := Lib.hid (And.intro hr1 hg1)
  clear hr1 hg1
  obtain ⟨s, hs⟩ : ∃ s, s = ss.getD j ByteArray.empty := ⟨_, rfl⟩
  rw [← hs] at d1
  have HS2 := Lib.hid hs
  clear hs
  go_wp2
  go_ret
  exact ⟨j, hj, by rw [← HS2.out]; rfl, HR.out.1, HR.out.2⟩

/-- a text n times -/
def repI : Nat → List Int → List Int
  | 0, _ => []
  | n + 1, l => l ++ repI n l
theorem repI_len (l : List Int) : ∀ n, (repI n l).length = n * l.length
  | 0 => by simp [repI]
  | n + 1 => by simp [repI, repI_len l n, Nat.add_mul]; omega
theorem repI_two (l : List Int) : ∀ q, repI (2 * q) l = repI q (l ++ l)
  | 0 => rfl
  | q + 1 => by rw [show 2 * (q + 1) = 2 * q + 1 + 1 from by omega, repI, repI, repI_two l q, repI]; simp
theorem repI_odd (l : List Int) (q : Nat) : repI (2 * q + 1) l = l ++ repI q (l ++ l) := by rw [repI, repI_two]
theorem repI_b (l : List Int) (h : B8 l) : ∀ n, B8 (repI n l)
  | 0 => fun x hx => by cases hx
  | n + 1 => fun x hx => by
    rcases List.mem_append.1 hx with h2 | h2
    · exact h x h2
    · exact repI_b l h n x h2
theorem bI_app' (a b : ByteArray) : bI (a ++ b) = bI a ++ bI b := by simp [bI]
theorem bI_empty : bI ⟨#[]⟩ = [] := rfl

set_option maxHeartbeats 1000000 in
theorem many_any (w : World) (s : ByteArray) (n : Nat) (hs : s.size ≤ 1000) (hn : n ≤ 1000) :
    Calls Tryd.prog 36 #[.string s, .int .i64 n] w fun e w' => ∃ r, e = .returned (.string r) ∧ bI r = repI n (bI s) ∧ w' = w := by
  have hbd : n * s.size ≤ 1000000 := Nat.mul_le_mul hn hs
  have HBD := Lib.hid hbd
  clear hbd
  go_enter Tryd.func36, Tryd.ntmps36
  go_wp2
  go_loopw [0, 1, 5] (fun x k o wr => ∃ (X O : ByteArray) (K : Nat), x = .string X ∧ k = .int .i64 K ∧ o = .string O ∧ bI O ++ repI K (bI X) = repI n (bI s) ∧ K ≤ 1000 ∧ wr = w) (fun _ k _ _ => (intOf k).toNat)
  case atStart => exact ⟨s, ⟨#[]⟩, n, rfl, rfl, rfl, by rw [bI_empty]; rfl, hn, rfl⟩
  case round =>
    obtain ⟨X, O, K, rfl, rfl, rfl, hrep, hK1, rfl⟩ := hrel
    have HR := Lib.hid hrep
    have hO : O.size ≤ 1000000 ∧ (0 < K → X.size ≤ 1000000) := by
      have := congrArg List.length hrep
      rw [List.length_append, repI_len, repI_len, bI_len, bI_len, bI_len] at this
      have hb := HBD.out
      refine ⟨by omega, fun hK => ?_⟩
      have := Nat.le_mul_of_pos_left X.size hK
      omega
    obtain ⟨hO, hX⟩ := hO
    clear hrep
    by_cases hK : 0 < K
    · have hX' := hX hK
      clear hX
      have hKI : (0 : Int) < (K : Int) := by omega
      have l1 : ¬ 9223372036854775807 < O.size + X.size := by omega
      have l2 : ¬ 9223372036854775807 < X.size + X.size := by omega
      obtain ⟨q, hq⟩ : ∃ q, q = K / 2 := ⟨_, rfl⟩
      have eq2 : (K : Int) / 2 = (q : Int) := by omega
      have hq1 : q ≤ 1000 := by omega
      by_cases hodd : K % 2 = 1
      · have em : (K : Int) % 2 = 1 := by omega
        have HQ := Lib.hid (show K = 2 * q + 1 from by omega)
        clear hq hodd
        go_wp2
        go_roundw
        case rel =>
          refine ⟨X ++ X, O ++ X, q, rfl, rfl, rfl, ?_, by have := HQ.out; omega, by trivial⟩
          rw [bI_app', bI_app', List.append_assoc, ← repI_odd, ← HQ.out]
          exact HR.out
        case measure => have := HQ.out; simp [intOf]; omega
      · have em : (K : Int) % 2 = 0 := by omega
        have HQ := Lib.hid (show K = 2 * q from by omega)
        clear hq hodd
        go_wp2
        go_roundw
        case rel =>
          refine ⟨X ++ X, O, q, rfl, rfl, rfl, ?_, by have := HQ.out; omega, by trivial⟩
          rw [bI_app', ← repI_two, ← HQ.out]
          exact HR.out
        case measure => have := HQ.out; simp [intOf]; omega
    · obtain rfl : K = 0 := by omega
      go_wp2
      go_ret
      refine ⟨O, rfl, ?_, rfl⟩
      have := HR.out
      rw [repI, List.append_nil] at this
      exact this

end Go.Proofs.YtdelijobaebfnaaDoor
