/- Texts of numbers that are bytes. No program is named here. -/
import Derived.Test.YtdelijobaebfnaaDoorR0
import Derived.Test.YtdelijobaebfnaaDoorChecked
import Derived.Test.YtdelijobaebfnaaDoorH0
namespace Go.Proofs.YtdelijobaebfnaaDoor
open Go.RowKit

def toB (M : List Int) : List UInt8 := M.map fun n => UInt8.ofNat n.toNat
def strI (M : List Int) : ByteArray := ⟨(toB M).toArray⟩
theorem strI_size (M : List Int) : (strI M).size = M.length := by
  show ((toB M).toArray).size = _
  simp [toB]

end Go.Proofs.YtdelijobaebfnaaDoor
namespace Go.Proofs.YtdelijobaebfnaaDoor
open Go.RowKit

/-- a word turned to the right by r bits, as Go's library spells it -/
def ror (x : Int) (r : Nat) : Int := bits .or .u32 (x * 2 ^ (32 - r) % 4294967296) (x / 2 ^ r)

theorem ret_int {k : IntKind} {a b : Int} (h : a = b) : Ending.returned (.int k a) = .returned (.int k b) := by rw [h]

set_option maxHeartbeats 400000 in
theorem rot_nat (x : Int) (w : World) (r : Nat) (h1 : 1 ≤ r) (h2 : r ≤ 31) : Calls Tryd.prog 90 #[.int .u32 x, .int .i64 (-(r : Int))] w fun e w' => e = .returned (.int .u32 (ror x r)) ∧ w' = w := by
  have hk : bits BinOp.and IntKind.u64 (IntKind.u64.wrap (-(r : Int))) 31 = ((32 - r : Nat) : Int) := by
    have all : ∀ r : Fin 32, 1 ≤ r.val → bits BinOp.and IntKind.u64 (IntKind.u64.wrap (-(r.val : Int))) 31 = ((32 - r.val : Nat) : Int) := by decide +kernel
    exact all ⟨r, by omega⟩ h1
  go_enter Tryd.func90, Tryd.ntmps90
  go_wp2
  go_ret
  exact ⟨ret_int (by unfold ror; rw [show 32 - (32 - r) = r from by omega]), rfl⟩

theorem rot_any (x k : Int) (w : World) (h1 : -31 ≤ k) (h2 : k ≤ -1) : Calls Tryd.prog 90 #[.int .u32 x, .int .i64 k] w fun e w' => e = .returned (.int .u32 (ror x (-k).toNat)) ∧ w' = w := by
  have := rot_nat x w (-k).toNat (by omega) (by omega)
  rw [show -((-k).toNat : Int) = k from by omega] at this
  exact this

set_option maxHeartbeats 400000 in
theorem first_any (b : Nat) (w : World) (p : Nat) (hp : p < 16) (x : Int) (hc : w.cell? ⟨b, p, none⟩ = some (.int .u32 x)) :
    Calls Tryd.prog 78 #[.pointer (some ⟨b, 0, none⟩), .int .i64 p] w fun e w' => e = .returned (.int .u32 x) ∧ w' = w := by
  go_enter Tryd.func78, Tryd.ntmps78
  go_wp2
  go_ret
  exact ⟨rfl, rfl⟩

theorem modw (p k : Nat) (hp : p < 16) (hk : k < 16) : (IntKind.i64.wrap ((p : Int) + (k : Int))).tmod 16 = (((p + k) % 16 : Nat) : Int) := by
  rw [IntKind.wrap_i64, Int.tmod_eq_emod_of_nonneg (by omega)]; omega

theorem size50 : (Tryd.prog.info? 89).map (·.size) = some 1 := by kernel_rfl

def sg0 (x : Int) : Int := bits .xor .u32 (bits .xor .u32 (ror x 7) (ror x 18)) (x / 8)
def sg1 (x : Int) : Int := bits .xor .u32 (bits .xor .u32 (ror x 17) (ror x 19)) (x / 1024)
/-- the word that takes the place of the one of 16 rounds ago -/
def lat (x0 x1 x9 x14 : Int) : Int := (x0 + (sg0 x1 + x9 + sg1 x14)) % 4294967296

set_option maxHeartbeats 400000 in
theorem later_walk (b : Nat) (w : World) (p q1 q9 q14 : Nat) (hp : p < 16) (h1 : q1 < 16) (h9 : q9 < 16) (h14 : q14 < 16) (x0 x1 x9 x14 : Int)
    (e1 : (IntKind.i64.wrap ((p : Int) + 1)).tmod 16 = (q1 : Int)) (e9 : (IntKind.i64.wrap ((p : Int) + 9)).tmod 16 = (q9 : Int)) (e14 : (IntKind.i64.wrap ((p : Int) + 14)).tmod 16 = (q14 : Int))
    (hc0 : w.cell? ⟨b, p, none⟩ = some (.int .u32 x0)) (hc1 : w.cell? ⟨b, q1, none⟩ = some (.int .u32 x1))
    (hc9 : w.cell? ⟨b, q9, none⟩ = some (.int .u32 x9)) (hc14 : w.cell? ⟨b, q14, none⟩ = some (.int .u32 x14))
    (hf : w.frozen? ⟨b, p, none⟩ = false) :
    Calls Tryd.prog 79 #[.pointer (some ⟨b, 0, none⟩), .int .i64 p] w fun e w' => e = .returned (.int .u32 (lat x0 x1 x9 x14)) ∧ ∃ n, w' = (w.drewN n).setCell ⟨b, p, none⟩ (.int .u32 (lat x0 x1 x9 x14)) := by
  have i1 : (q1 : Int) < 16 := by omega
  have i9 : (q9 : Int) < 16 := by omega
  have i14 : (q14 : Int) < 16 := by omega
  have i0 : (p : Int) < 16 := by omega
  go_enter Tryd.func79, Tryd.ntmps79
  go_wp2
  go_quiet (fail)
  go_wp2_with (go_at_call 90; refine (rot_any _ _ _ (by omega) (by omega)).mono ?_; rintro e w' ⟨rfl, rfl⟩)
  go_region
  all_goals go_wp2
  all_goals go_ret
  all_goals exact ⟨rfl, _, rfl⟩

def chh (e f g : Int) : Int := bits .xor .u32 (bits .and .u32 e f) (bits .and .u32 (bits .xor .u32 IntKind.u32.max e) g)
def mjj (a b c : Int) : Int := bits .xor .u32 (bits .xor .u32 (bits .and .u32 a b) (bits .and .u32 a c)) (bits .and .u32 b c)
def bs1 (e : Int) : Int := bits .xor .u32 (bits .xor .u32 (ror e 6) (ror e 11)) (ror e 25)
def bs0 (a : Int) : Int := bits .xor .u32 (bits .xor .u32 (ror a 2) (ror a 13)) (ror a 22)
def rnd0 (s0 s1 s2 s4 s5 s6 s7 x : Int) : Int := (x + (s7 + chh s4 s5 s6) + bs1 s4 + (mjj s0 s1 s2 + bs0 s0)) % 4294967296
def rnd4 (s3 s4 s5 s6 s7 x : Int) : Int := (s3 + (x + (s7 + chh s4 s5 s6) + bs1 s4)) % 4294967296

set_option maxHeartbeats 1000000 in
theorem round_walk (b : Nat) (t : TypeId) (w : World) (s0 s1 s2 s3 s4 s5 s6 s7 x : Int)
    (hb : Blk w b t [.int .u32 s0, .int .u32 s1, .int .u32 s2, .int .u32 s3, .int .u32 s4, .int .u32 s5, .int .u32 s6, .int .u32 s7]) :
    Calls Tryd.prog 80 #[.pointer (some ⟨b, 0, none⟩), .int .u32 x] w fun e w' => e = .returned (.tuple #[]) ∧ Blk w' b t [.int .u32 (rnd0 s0 s1 s2 s4 s5 s6 s7 x), .int .u32 s0, .int .u32 s1, .int .u32 s2, .int .u32 (rnd4 s3 s4 s5 s6 s7 x), .int .u32 s4, .int .u32 s5, .int .u32 s6] ∧ w.grownBy w' (some b) := by
  have c0 := hb.cell (j := 0) rfl
  have c1 := hb.cell (j := 1) rfl
  have c2 := hb.cell (j := 2) rfl
  have c4 := hb.cell (j := 4) rfl
  have c5 := hb.cell (j := 5) rfl
  have c6 := hb.cell (j := 6) rfl
  have c7 := hb.cell (j := 7) rfl
  have hrun : ∀ n, (Builtin.copy_ #[125, 125] 3 #[.slice (some ⟨b, 1, none⟩) 7 7, .slice (some ⟨b, 0, none⟩) 7 8]).run Tryd.prog (w.drewN n) = .ok (goInt 7) ((w.drewN n).setRow b #[Value.int .u32 s0, .int .u32 s0, .int .u32 s1, .int .u32 s2, .int .u32 s3, .int .u32 s4, .int .u32 s5, .int .u32 s6]) := fun n => by
    have := run_copy_row (P := Tryd.prog) (w.drewN n) 125 125 3 89 b 1 7 7 ⟨b, 0, none⟩ 7 8 [Value.int .u32 s0, .int .u32 s1, .int .u32 s2, .int .u32 s3, .int .u32 s4, .int .u32 s5, .int .u32 s6, .int .u32 s7].toArray t [Value.int .u32 s0, .int .u32 s1, .int .u32 s2, .int .u32 s3, .int .u32 s4, .int .u32 s5, .int .u32 s6] Tryd.underlying125 size50 hb rfl (fun j v h => by
      rw [Addr.add_mid, Nat.zero_add]
      refine (hb.drewN n).cell ?_
      rw [← h]
      have hj : j < 7 := (List.getElem?_eq_some_iff.1 h).1
      match j, hj with
      | 0, _ => rfl
      | 1, _ => rfl
      | 2, _ => rfl
      | 3, _ => rfl
      | 4, _ => rfl
      | 5, _ => rfl
      | 6, _ => rfl) (by simp) (by simp [Value.oneCell'])
    simpa using this
  have hbn : ∀ n, Blk ((w.drewN n).setRow b #[Value.int .u32 s0, .int .u32 s0, .int .u32 s1, .int .u32 s2, .int .u32 s3, .int .u32 s4, .int .u32 s5, .int .u32 s6]) b t [Value.int .u32 s0, .int .u32 s0, .int .u32 s1, .int .u32 s2, .int .u32 s3, .int .u32 s4, .int .u32 s5, .int .u32 s6] := fun n => setRow_heap (w.drewN n) b _ _ t _ hb
  have d0 := fun n => (hbn n).cell (j := 0) rfl
  have d4 := fun n => (hbn n).cell (j := 4) rfl
  have f0 := fun n => (hbn n).frozen 0
  have f4 := fun n => (hbn n).frozen 4
  have HBN : Hid (∀ n, Blk ((w.drewN n).setRow b #[Value.int .u32 s0, .int .u32 s0, .int .u32 s1, .int .u32 s2, .int .u32 s3, .int .u32 s4, .int .u32 s5, .int .u32 s6]) b t [Value.int .u32 s0, .int .u32 s0, .int .u32 s1, .int .u32 s2, .int .u32 s3, .int .u32 s4, .int .u32 s5, .int .u32 s6]) := hbn
  clear hbn
  go_enter Tryd.func80, Tryd.ntmps80
  go_wp2
  go_quiet (fail)
  go_wp2
  go_quiet (fail)
  go_wp2_with (go_at_call 90; refine (rot_any _ _ _ (by omega) (by omega)).mono ?_; rintro e w' ⟨rfl, rfl⟩)
  go_quiet (fail)
  go_wp2_with (go_at_call 90; refine (rot_any _ _ _ (by omega) (by omega)).mono ?_; rintro e w' ⟨rfl, rfl⟩)
  go_region
  all_goals go_wp2
  all_goals go_region
  go_end0
  exact ⟨rfl, (((HBN.out _).set 0 _).set 4 _).drew, grown_drew (grown_set (grown_set (grown_setRow (grown_drewN (grown_refl _ _) _) _) _ _) _ _)⟩

end Go.Proofs.YtdelijobaebfnaaDoor
