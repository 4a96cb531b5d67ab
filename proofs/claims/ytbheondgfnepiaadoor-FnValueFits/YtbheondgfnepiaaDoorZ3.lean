/- The readers that the laws draw by. -/
import Derived.Test.YtbheondgfnepiaaDoorZ2
import Derived.Test.YtbheondgfnepiaaDoorB0
import Derived.Test.YtbheondgfnepiaaDoorChecked
namespace Go.Proofs.YtbheondgfnepiaaDoor
open Go.RowKit

theorem i64_xor_nat (a b : Nat) (ha : a < 9223372036854775808) (hb : b < 9223372036854775808) : bits .xor .i64 (a : Int) (b : Int) = ((a ^^^ b : Nat) : Int) := by
  have hx : a ^^^ b < 2 ^ 63 := Nat.xor_lt_two_pow (by omega) (by omega)
  have h1 : (BitVec.ofInt 64 (a : Int)).toNat = a := by
    rw [BitVec.ofInt_natCast, BitVec.toNat_ofNat]; exact Nat.mod_eq_of_lt (by omega)
  have h2 : (BitVec.ofInt 64 (b : Int)).toNat = b := by
    rw [BitVec.ofInt_natCast, BitVec.toNat_ofNat]; exact Nat.mod_eq_of_lt (by omega)
  show IntKind.i64.wrap ((BitVec.ofInt 64 (a : Int) ^^^ BitVec.ofInt 64 (b : Int)).toNat : Int) = _
  rw [BitVec.toNat_xor, h1, h2, IntKind.wrap_i64]
  omega

/-- the bytes that are read: in another block than the reader -/
def Code8 (w : World) (rb : Nat) (ao : Option Addr) (n : Nat) : Prop :=
  n ≤ 2000 ∧ (n = 0 ∨ ∃ ab o, ao = some ⟨ab, o, none⟩ ∧ ab < rb ∧ ∀ j, j < n → ∃ x : Int, 0 ≤ x ∧ x < 256 ∧ w.cell? ⟨ab, o + j, none⟩ = some (.int .u8 x))
theorem Code8.kept {w w' : World} {rb : Nat} {ao : Option Addr} {n : Nat} {row : Option Nat} (h : Code8 w rb ao n) (hg : w.grownBy w' row) (hr : ∀ k, row = some k → rb ≤ k) : Code8 w' rb ao n := by
  obtain ⟨hn, h | ⟨ab, o, rfl, hne, hc⟩⟩ := h
  · exact ⟨hn, .inl h⟩
  · refine ⟨hn, .inr ⟨ab, o, rfl, hne, fun j hj => ?_⟩⟩
    obtain ⟨x, h0, h1, hx⟩ := hc j hj
    exact ⟨x, h0, h1, hg.cell hx (fun e => by have := hr ab e.symm; omega)⟩
/-- the reader: it stands at place p -/
def Rd (w : World) (rb : Nat) (ao : Option Addr) (n cap p : Nat) : Prop := Blk w rb 64 [.slice ao n cap, .int .i64 (p : Int)] ∧ Code8 w rb ao n
theorem Rd.kept {w w' : World} {rb : Nat} {ao : Option Addr} {n cap p : Nat} {row : Option Nat} (h : Rd w rb ao n cap p) (hg : w.grownBy w' row) (hr : ∀ k, row = some k → rb < k) : Rd w' rb ao n cap p :=
  ⟨h.1.kept hg (fun e => by have := hr rb e.symm; omega), h.2.kept hg (fun k hk => Nat.le_of_lt (hr k hk))⟩
theorem Rd.lt {w : World} {rb : Nat} {ao : Option Addr} {n cap p : Nat} (h : Rd w rb ao n cap p) : rb < w.heap.size := h.1.lt

set_option maxRecDepth 100000 in
set_option maxHeartbeats 1000000 in
theorem pick_any (w : World) (rb : Nat) (ao : Option Addr) (n cap p : Nat) (hr : Rd w rb ao n cap p) (hp : p < 1000000) (N : Int) (hN1 : 1 ≤ N) (hN2 : N ≤ 1000000) :
    Calls Tryd.prog 38 #[.pointer (some ⟨rb, 0, none⟩), .int .i64 N] w fun e w' => ∃ x : Int, e = .returned (.int .i64 x) ∧ 0 ≤ x ∧ x < N ∧ Rd w' rb ao n cap (p + 1) ∧ w.grownBy w' (some rb) := by
  obtain ⟨hb, hc⟩ := hr
  have c0 := hb.cell (j := 0) rfl
  have c1 := hb.cell (j := 1) rfl
  have f1 := hb.frozen 1
  have HB := Lib.hid hb
  have HC := Lib.hid hc
  have hn2 : n ≤ 2000 := hc.1
  clear hb hc
  go_enter Tryd.func38, Tryd.ntmps38
  go_upto_region 2 with (fail)
  refine wp_letter (fun wx => Blk wx rb 64 [.slice ao n cap, .int .i64 ((p : Int) + 1)] ∧ w.grownBy wx (some rb)) ⟨HB.out.set 1 (.int .i64 ((p : Int) + 1)), grown_set (grown_refl _ _) 1 _⟩ ?_
  clear c0 c1 f1
  rintro wx ⟨hb, hg⟩
  have c0 := hb.cell (j := 0) rfl
  have c1 := hb.cell (j := 1) rfl
  have hc := HC.out.kept hg (fun k hk => by cases hk; exact Nat.le_refl _)
  have HRD := Lib.hid (show Rd wx rb ao n cap (p + 1) from ⟨hb, hc⟩)
  have HG := Lib.hid hg
  clear HB HC hb hg
  obtain ⟨_, rfl | ⟨ab, o, rfl, hne, hcc⟩⟩ := hc
  · go_wp2
    go_ret
    exact ⟨0, rfl, by omega, by omega, HRD.out, HG.out⟩
  by_cases hn0 : n = 0
  · subst hn0
    go_wp2
    go_ret
    exact ⟨0, rfl, by omega, by omega, HRD.out, HG.out⟩
  have hn1 : 0 < n := by omega
  have hnb : ((n : Int) == 0) = false := by simp; omega
  have hNb : decide (N < 1) = false := by simp; omega
  by_cases hpn : p < n
  · obtain ⟨x, hx0, hx1, d1⟩ := hcc p hpn
    clear hcc
    have hpI : (p : Int) < (n : Int) := by omega
    go_wp2
    go_ret
    exact ⟨x % N, rfl, Int.emod_nonneg _ (by omega), Int.emod_lt_of_pos _ (by omega), HRD.out, HG.out⟩
  · have hpI : (n : Int) ≤ (p : Int) := by omega
    have hpd : decide ((p : Int) < (n : Int)) = false := by simp; omega
    obtain ⟨q1, hq1⟩ : ∃ q, q = p % n := ⟨_, rfl⟩
    obtain ⟨q2, hq2⟩ : ∃ q, q = (p * 7 + 3) % n := ⟨_, rfl⟩
    obtain ⟨d, hd⟩ : ∃ d, d = p / n := ⟨_, rfl⟩
    have l1 : q1 < n := by rw [hq1]; exact Nat.mod_lt _ hn1
    have l2 : q2 < n := by rw [hq2]; exact Nat.mod_lt _ hn1
    have ld : d ≤ p := by rw [hd]; exact Nat.div_le_self _ _
    have i1 : (q1 : Int) < (n : Int) := by omega
    have i2 : (q2 : Int) < (n : Int) := by omega
    obtain ⟨x1, hx0, hx1, d1⟩ := hcc q1 l1
    obtain ⟨x2, hy0, hy1, d2⟩ := hcc q2 l2
    have e1 : (p : Int).tmod (n : Int) = (q1 : Int) := by rw [Int.tmod_eq_emod_of_nonneg (by omega), hq1]; simp
    have e0 : IntKind.i64.wrap ((p : Int) * 7) = (p : Int) * 7 := by rw [IntKind.wrap_i64]; omega
    have e0' : IntKind.i64.wrap ((p : Int) * 7 + 3) = (p : Int) * 7 + 3 := by rw [IntKind.wrap_i64]; omega
    have e2 : ((p : Int) * 7 + 3).tmod (n : Int) = (q2 : Int) := by rw [Int.tmod_eq_emod_of_nonneg (by omega), hq2]; simp
    have e3 : (p : Int).tdiv (n : Int) = (d : Int) := by rw [Int.tdiv_eq_ediv_of_nonneg (by omega), hd]; simp
    have e4 : IntKind.i64.wrap (x1 * 131) = x1 * 131 := by rw [IntKind.wrap_i64]; omega
    have e5 : IntKind.i64.wrap (x2 * 1117) = x2 * 1117 := by rw [IntKind.wrap_i64]; omega
    have e6 : IntKind.i64.wrap (x1 * 131 + x2 * 1117) = x1 * 131 + x2 * 1117 := by rw [IntKind.wrap_i64]; omega
    have e7 : IntKind.i64.wrap ((p : Int) * 29) = (p : Int) * 29 := by rw [IntKind.wrap_i64]; omega
    have e8 : IntKind.i64.wrap (x1 * 131 + x2 * 1117 + (p : Int) * 29) = x1 * 131 + x2 * 1117 + (p : Int) * 29 := by rw [IntKind.wrap_i64]; omega
    have e9 : IntKind.i64.wrap ((d : Int) * 53) = (d : Int) * 53 := by rw [IntKind.wrap_i64]; omega
    obtain ⟨X, hX⟩ : ∃ X : Nat, (X : Int) = x1 * 131 + x2 * 1117 + (p : Int) * 29 + (d : Int) * 53 := ⟨(x1 * 131 + x2 * 1117 + (p : Int) * 29 + (d : Int) * 53).toNat, by omega⟩
    have eA : IntKind.i64.wrap (x1 * 131 + x2 * 1117 + (p : Int) * 29 + (d : Int) * 53) = (X : Int) := by rw [IntKind.wrap_i64]; omega
    have hX2 : X < 1000000000 := by omega
    have wc : IntKind.i64.wrap x1 = x1 := by rw [IntKind.wrap_i64]; omega
    have wd : IntKind.i64.wrap x2 = x2 := by rw [IntKind.wrap_i64]; omega
    have HX := Lib.hid hX
    have HQ := Lib.hid (And.intro hq1 (And.intro hq2 hd))
    clear hcc hX hq1 hq2 hd
    go_wp2
    go_quiet (fail)
    clear e0 e0' e1 e2 e3 e4 e5 e6 e7 e8 e9 eA wc wd d1 d2 c0 c1
    obtain ⟨Y, hY⟩ : ∃ Y, Y = X ^^^ (X / 64) := ⟨_, rfl⟩
    have hY2 : Y < 1073741824 := by rw [hY]; exact Nat.xor_lt_two_pow (n := 30) (by omega) (by omega)
    have eX : bits .xor .i64 (X : Int) ((X : Int) / 64) = (Y : Int) := by
      rw [hY, show ((X : Int) / 64) = ((X / 64 : Nat) : Int) from by omega]
      exact i64_xor_nat X (X / 64) (by omega) (by omega)
    clear hY
    go_wp2
    go_ret
    exact ⟨(Y : Int) % N, rfl, Int.emod_nonneg _ (by omega), Int.emod_lt_of_pos _ (by omega), HRD.out, grown_drewN HG.out _⟩

/-- the reader is opened -/
theorem open_any (w : World) (ao : Option Addr) (n cap : Nat) (hn : n ≤ 1048576) (hcap : n ≤ cap)
    (hc : n = 0 ∨ ∃ ab o, ao = some ⟨ab, o, none⟩ ∧ ∀ j, j < n → ∃ x : Int, 0 ≤ x ∧ x < 256 ∧ w.cell? ⟨ab, o + j, none⟩ = some (.int .u8 x)) :
    Calls Tryd.prog 18 #[.slice ao n cap] w fun e w' => e = .returned (.pointer (some ⟨w.heap.size, 0, none⟩)) ∧ (∃ n', Rd w' w.heap.size ao n' cap 0) ∧ w.grownBy w' none := by
  have hrd : ∀ n', n' ≤ n → n' ≤ 2000 → Rd (w.alloc (.cells #[.slice ao n' cap, .int .i64 0] 64)) w.heap.size ao n' cap 0 := fun n' h1 h2 => by
    refine ⟨Blk.new w 64 [.slice ao n' cap, .int .i64 0], h2, ?_⟩
    rcases hc with h0 | ⟨ab, o, rfl, hc⟩
    · exact .inl (by omega)
    · by_cases h0 : n' = 0
      · exact .inl h0
      refine .inr ⟨ab, o, rfl, ?_, fun j hj => ?_⟩
      · obtain ⟨x, _, _, hx⟩ := hc 0 (by omega)
        have := World.block_lt_of_cell? w _ hx
        simp at this
        omega
      · obtain ⟨x, hx0, hx1, hx⟩ := hc j (by omega)
        exact ⟨x, hx0, hx1, (World.grownBy_alloc w _ none).cell hx (by simp)⟩
  by_cases hb : (n : Int) > 2000
  · obtain ⟨ab, o, rfl, hcc⟩ : ∃ ab o, ao = some ⟨ab, o, none⟩ ∧ True := by
      rcases hc with h0 | ⟨ab, o, rfl, hc⟩
      · omega
      · exact ⟨ab, o, rfl, trivial⟩
    have HR := Lib.hid (hrd 2000 (by omega) (by omega))
    have hcI : (2000 : Int) ≤ (cap : Int) := by omega
    clear hrd hc
    go_enter Tryd.func18, Tryd.ntmps18
    go_wp2
    go_ret
    exact ⟨rfl, ⟨2000, HR.out⟩, World.grownBy_alloc w _ none⟩
  · have hb' : (n : Int) ≤ 2000 := by omega
    have HR := Lib.hid (hrd n (by omega) (by omega))
    clear hrd hc
    go_enter Tryd.func18, Tryd.ntmps18
    go_wp2
    go_ret
    exact ⟨rfl, ⟨n, HR.out⟩, World.grownBy_alloc w _ none⟩



set_option maxRecDepth 100000 in
set_option maxHeartbeats 1000000 in
/-- one text of a list -/
theorem of_any (w : World) (rb : Nat) (ao : Option Addr) (n cap p : Nat) (hr : Rd w rb ao n cap p) (hp : p < 1000000) (b m c : Nat) (hm0 : 1 ≤ m) (hm : m ≤ 100) (L : Nat → ByteArray) (hb : b ≠ rb) (hL : ∀ j, j < m → w.cell? ⟨b, j, none⟩ = some (.string (L j))) :
    Calls Tryd.prog 53 #[.pointer (some ⟨rb, 0, none⟩), .slice (some ⟨b, 0, none⟩) m c] w fun e w' => ∃ j, j < m ∧ e = .returned (.string (L j)) ∧ Rd w' rb ao n cap (p + 1) ∧ w.grownBy w' (some rb) := by
  have HP := Lib.hid (pick_any w rb ao n cap p hr hp (m : Int) (by omega) (by omega))
  have HL := Lib.hid hL
  clear hr hL
  go_enter Tryd.func53, Tryd.ntmps53
  go_wp2_with fail
  refine HP.out.mono ?_
  rintro e w1 ⟨x, rfl, hx0, hx1, hr1, hg1⟩
  obtain ⟨j, rfl⟩ := Int.eq_ofNat_of_zero_le hx0
  have hj : j < m := by omega
  have d0 := hg1.cell (HL.out j hj) (by simpa using hb)
  have HR := Lib.hid hr1
  have HG := Lib.hid hg1
  clear HP HL hr1 hg1
  obtain ⟨t, ht⟩ : ∃ t, L j = t := ⟨_, rfl⟩
  rw [ht] at d0
  have HT := Lib.hid ht
  clear ht
  have HJ := Lib.hid hj
  have hjI : (j : Int) < m := by omega
  go_wp2
  go_ret
  exact ⟨j, HJ.out, by rw [HT.out]; rfl, HR.out, HG.out⟩

/-- five cells are written -/
def set5 (w : World) (r : Nat) (c0 c1 c2 c3 c4 : Value) : World := ((((w.setCell ⟨r, 0, none⟩ c0).setCell ⟨r, 1, none⟩ c1).setCell ⟨r, 2, none⟩ c2).setCell ⟨r, 3, none⟩ c3).setCell ⟨r, 4, none⟩ c4
theorem set5_grown (w : World) (r : Nat) (c0 c1 c2 c3 c4 : Value) : w.grownBy (set5 w r c0 c1 c2 c3 c4) (some r) := grown_set (grown_set (grown_set (grown_set (grown_set (grown_refl w (some r)) 0 c0) 1 c1) 2 c2) 3 c3) 4 c4
theorem set5_blk {w : World} {r : Nat} {t : TypeId} {o0 o1 o2 o3 o4 : Value} (h : Blk w r t [o0, o1, o2, o3, o4]) (c0 c1 c2 c3 c4 : Value) : Blk (set5 w r c0 c1 c2 c3 c4) r t [c0, c1, c2, c3, c4] := ((((h.set 0 c0).set 1 c1).set 2 c2).set 3 c3).set 4 c4
theorem results_five {P : Program} {fn : Func} {p : Tmp} {ty : TypeId} (h : fn.results = #[.cell p ty]) (tmps : Array Value) (w : World) (g : Nat) (t : TypeId) (L : List Value) (d : TypeDesc)
    (hg : Blk w g t L) (hu : P.underlying ty = some d) (hd : (match d with | .struct _ | .array _ _ => true | _ => false) = true) (hi : (P.info? ty).map (·.size) = some L.length)
    (hp : tmps[p]?.getD undef = .pointer (some ⟨g, 0, none⟩)) :
    (results fn tmps).run P w = .ok (.agg L.toArray) w := by
  simp [results, h, hp, asAddr, run_loadVar_row w g t ty L.toArray (0, 0) d hg hu hd (by simpa using hi)]
theorem info26s : (Tryd.prog.info? 26).map (·.size) = some 5 := by kernel_rfl

set_option maxRecDepth 100000 in
set_option maxHeartbeats 1000000 in
theorem unknown_any (w : World) : Calls Tryd.prog 55 #[] w fun e w' => e = .returned (.agg #[.int .i64 7, .int .i64 0, .string ⟨#[]⟩, .slice none 0 0, .slice none 0 0]) ∧ w.grownBy w' none := by
  have HB := Lib.hid (Blk.new w 26 [.int .i64 7, .int .i64 0, .string ⟨#[]⟩, .slice none 0 0, .slice none 0 0])
  go_enter Tryd.func55, Tryd.ntmps55
  go_wp2
  exact ⟨rfl, _, results_five Tryd.results55 _ _ w.heap.size 26 _ _ HB.out Tryd.underlying26 rfl info26s rfl, rfl, grown_alloc (grown_refl w none) _⟩

end Go.Proofs.YtbheondgfnepiaaDoor
