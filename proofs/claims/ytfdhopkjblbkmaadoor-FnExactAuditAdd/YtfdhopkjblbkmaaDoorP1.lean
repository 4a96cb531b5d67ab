/- The marks that the exact laws lay, as texts. -/
import Derived.Test.YtfdhopkjblbkmaaDoorT0
import Derived.Test.YtfdhopkjblbkmaaDoorM1
import Derived.Deep.LoopGhost
namespace Go.Proofs.YtfdhopkjblbkmaaDoor
open Go.RowKit

theorem conv_one (W : World) (x : Int) (h0 : 0 ≤ x) (h1 : x < 256) (g : Nat) (hc : W.cell? ⟨g, 0, none⟩ = some (.int .u8 x)) : (convert 67 9 (.slice (some ⟨g, 0, none⟩) 1 1)).run Tryd.prog W = .ok (.string (strI [x])) W := by
  have hcells : ∀ j (hj : j < (toB [x]).length), W.cell? ((⟨g, 0, none⟩ : Addr).add j) = some (.int .u8 ((toB [x])[j].toNat : Int)) := fun j hj => by
    have hj0 : j = 0 := by simpa [toB] using hj
    subst hj0
    rw [Addr.add_mid, Nat.zero_add, hc]
    simp [toB]
    omega
  exact run_convert_bytes_back (P := Tryd.prog) W 67 9 5 ⟨g, 0, none⟩ 1 (toB [x]) Tryd.underlying67 Tryd.underlying5 Tryd.underlying9 hcells

/-- the figures of a number ahead of a text, at most so many -/
def mtGo : Nat → Nat → ByteArray → ByteArray
  | 0, _, out => out
  | f + 1, k, out => if k = 0 then out else mtGo f (k / 10) (strI [48 + ((k % 10 : Nat) : Int)] ++ out)
theorem mtGo_zero (f : Nat) (out : ByteArray) : mtGo f 0 out = out := by cases f <;> simp [mtGo]
/-- the mark of a number -/
def MT (k : Nat) : ByteArray := ⟨#[109]⟩ ++ mtGo k k ⟨#[]⟩

set_option maxRecDepth 100000 in
set_option maxHeartbeats 1000000 in
theorem markText_any (w : World) (k : Nat) (hk : 0 < k) (hb : k ≤ 1099511627776) : Calls Tryd.prog 26 #[.int .i64 (k : Int)] w fun e w' => e = .returned (.string (MT k)) ∧ w.grownBy w' none := by
  have hkI : (0 : Int) < (k : Int) := by omega
  have HMT := Lib.hid (show MT k = ⟨#[109]⟩ ++ mtGo k k ⟨#[]⟩ from rfl)
  go_enter Tryd.func26, Tryd.ntmps26
  go_wp2
  go_loopg [0, 3] k (fun gf kv ov wx => ∃ (m : Nat) (D : ByteArray), kv = .int .i64 (m : Int) ∧ ov = .string D ∧ Hid (mtGo gf m D = mtGo k k ⟨#[]⟩) ∧ m ≤ gf ∧ D.size + m ≤ k ∧ w.grownBy wx none)
  case atStart => exact ⟨k, ⟨#[]⟩, rfl, rfl, Lib.hid rfl, Nat.le_refl _, by show 0 + k ≤ k; omega, grown_refl _ _⟩
  case round =>
    obtain ⟨m, D, rfl, rfl, HE, hmf, hDs, hg⟩ := hrel
    have HG := Lib.hid hg
    clear hg
    by_cases hm : m = 0
    · subst hm
      have HD := Lib.hid (show mtGo k k ⟨#[]⟩ = D from by rw [← HE.out, mtGo_zero])
      have h109 : (⟨#[109]⟩ : ByteArray).size = 1 := rfl
      have hlim : ¬ 9223372036854775807 < (⟨#[109]⟩ : ByteArray).size + D.size := by omega
      have hlim2 : ¬ 9223372036854775807 < 1 + D.size := by omega
      clear h109
      go_wp2
      go_ret
      exact ⟨by rw [HMT.out, HD.out]; rfl, HG.out⟩
    · obtain ⟨g', rfl⟩ : ∃ g', gk = g' + 1 := ⟨gk - 1, by omega⟩
      obtain ⟨q, hq⟩ : ∃ q, q = m / 10 := ⟨_, rfl⟩
      obtain ⟨r, hr⟩ : ∃ r, r = m % 10 := ⟨_, rfl⟩
      have hmI : (0 : Int) < (m : Int) := by omega
      have hr10 : r < 10 := by omega
      have hqm : q + 1 ≤ m := by omega
      have e1 : IntKind.i64.wrap (q : Int) = (q : Int) := by rw [IntKind.wrap_i64]; omega
      have e1' : (m : Int).tdiv 10 = (q : Int) := by rw [Int.tdiv_eq_ediv_of_nonneg (by omega)]; omega
      have e2 : (m : Int).tmod 10 = (r : Int) := by rw [Int.tmod_eq_emod_of_nonneg (by omega)]; omega
      have e3 : IntKind.i64.wrap (48 + (r : Int)) = 48 + (r : Int) := by rw [IntKind.wrap_i64]; omega
      have e4 : IntKind.u8.wrap (48 + (r : Int)) = 48 + (r : Int) := by rw [IntKind.wrap_u8']; omega
      have hcv := conv_one (wr.alloc (.cells #[.int .u8 (48 + (r : Int))] 5)) (48 + (r : Int)) (by omega) (by omega) wr.heap.size ((Blk.new wr 5 [.int .u8 (48 + (r : Int))]).cell rfl)
      have hs1 : (strI [48 + (r : Int)]).size = 1 := by rw [strI_size]; rfl
      have HN := Lib.hid (show mtGo g' q (strI [48 + (r : Int)] ++ D) = mtGo k k ⟨#[]⟩ from by rw [← HE.out]; simp only [mtGo, if_neg hm]; rw [hq, hr])
      have hsz : (strI [48 + (r : Int)] ++ D).size = 1 + D.size := by rw [ByteArray.size_append, hs1]
      have HSZ := Lib.hid hsz
      generalize strI [48 + (r : Int)] = R at hcv hs1 HN HSZ
      have hlim : ¬ 9223372036854775807 < R.size + D.size := by omega
      have hlim2 : ¬ 9223372036854775807 < 1 + D.size := by omega
      clear hq hr hsz
      go_wp2
      go_roundg g'
      case measure => omega
      case rel => exact ⟨q, R ++ D, rfl, rfl, HN, by omega, by have := HSZ.out; omega, grown_alloc HG.out _⟩
end Go.Proofs.YtfdhopkjblbkmaaDoor
