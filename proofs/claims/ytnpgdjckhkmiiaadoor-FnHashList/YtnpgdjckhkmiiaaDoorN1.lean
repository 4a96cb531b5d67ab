/- The sum over natural numbers, in a form that the kernel reckons fast; it is the sum of the walks: plain mathematics. -/
import Derived.Test.YtnpgdjckhkmiiaaDoorE1
namespace Go.Proofs.YtnpgdjckhkmiiaaDoor
open Go.RowKit

def toI (l : List Nat) : List Int := l.map Int.ofNat
theorem toI_len (l : List Nat) : (toI l).length = l.length := by simp [toI]
theorem toI_app (a b : List Nat) : toI (a ++ b) = toI a ++ toI b := by simp [toI]
theorem toI_getD (l : List Nat) (j : Nat) : (toI l).getD j 0 = ((l.getD j 0 : Nat) : Int) := by
  simp only [toI, List.getD_eq_getElem?_getD, List.getElem?_map]
  cases l[j]? <;> rfl
theorem toI_inj {a b : List Nat} (h : toI a = toI b) : a = b := by
  unfold toI at h
  exact List.map_inj_right (fun _ _ e => Int.ofNat.inj e) |>.1 h

def rorN (x p q : Nat) : Nat := (x * p % 4294967296) ||| (x / q)
theorem ror_nat (x r : Nat) (hx : x < 4294967296) : ror (x : Int) r = ((rorN x (2 ^ (32 - r)) (2 ^ r) : Nat) : Int) := by
  unfold ror rorN
  have hq : x / 2 ^ r < 4294967296 := Nat.lt_of_le_of_lt (Nat.div_le_self _ _) hx
  rw [← u32_or_nat _ _ (Nat.mod_lt _ (by decide)) hq]
  simp
theorem rorN_lt (x p q : Nat) (hx : x < 4294967296) : rorN x p q < 4294967296 := by
  unfold rorN
  have hq : x / q < 4294967296 := Nat.lt_of_le_of_lt (Nat.div_le_self _ _) hx
  exact Nat.or_lt_two_pow (n := 32) (Nat.mod_lt _ (by decide)) hq
theorem xor_lt {a b : Nat} (ha : a < 4294967296) (hb : b < 4294967296) : a ^^^ b < 4294967296 := Nat.xor_lt_two_pow (n := 32) ha hb
theorem and_lt (a : Nat) {b : Nat} (hb : b < 4294967296) : a &&& b < 4294967296 := Nat.and_lt_two_pow (n := 32) a hb

def sg0N (x : Nat) : Nat := rorN x 33554432 128 ^^^ rorN x 16384 262144 ^^^ (x / 8)
def sg1N (x : Nat) : Nat := rorN x 32768 131072 ^^^ rorN x 8192 524288 ^^^ (x / 1024)
def bs1N (e : Nat) : Nat := rorN e 67108864 64 ^^^ rorN e 2097152 2048 ^^^ rorN e 128 33554432
def bs0N (a : Nat) : Nat := rorN a 1073741824 4 ^^^ rorN a 524288 8192 ^^^ rorN a 1024 4194304
def chN (e f g : Nat) : Nat := (e &&& f) ^^^ ((4294967295 ^^^ e) &&& g)
def mjN (a b c : Nat) : Nat := (a &&& b) ^^^ (a &&& c) ^^^ (b &&& c)
theorem div_lt {x : Nat} (q : Nat) (hx : x < 4294967296) : x / q < 4294967296 := Nat.lt_of_le_of_lt (Nat.div_le_self _ _) hx

theorem sg0_nat (x : Nat) (hx : x < 4294967296) : sg0 (x : Int) = (sg0N x : Int) := by
  unfold sg0 sg0N
  rw [ror_nat x 7 hx, ror_nat x 18 hx, u32_xor_nat _ _ (rorN_lt _ _ _ hx) (rorN_lt _ _ _ hx), show (x : Int) / 8 = ((x / 8 : Nat) : Int) from by omega, u32_xor_nat _ _ (xor_lt (rorN_lt _ _ _ hx) (rorN_lt _ _ _ hx)) (div_lt _ hx)]
theorem sg1_nat (x : Nat) (hx : x < 4294967296) : sg1 (x : Int) = (sg1N x : Int) := by
  unfold sg1 sg1N
  rw [ror_nat x 17 hx, ror_nat x 19 hx, u32_xor_nat _ _ (rorN_lt _ _ _ hx) (rorN_lt _ _ _ hx), show (x : Int) / 1024 = ((x / 1024 : Nat) : Int) from by omega, u32_xor_nat _ _ (xor_lt (rorN_lt _ _ _ hx) (rorN_lt _ _ _ hx)) (div_lt _ hx)]
theorem bs1_nat (x : Nat) (hx : x < 4294967296) : bs1 (x : Int) = (bs1N x : Int) := by
  unfold bs1 bs1N
  rw [ror_nat x 6 hx, ror_nat x 11 hx, ror_nat x 25 hx, u32_xor_nat _ _ (rorN_lt _ _ _ hx) (rorN_lt _ _ _ hx), u32_xor_nat _ _ (xor_lt (rorN_lt _ _ _ hx) (rorN_lt _ _ _ hx)) (rorN_lt _ _ _ hx)]
theorem bs0_nat (x : Nat) (hx : x < 4294967296) : bs0 (x : Int) = (bs0N x : Int) := by
  unfold bs0 bs0N
  rw [ror_nat x 2 hx, ror_nat x 13 hx, ror_nat x 22 hx, u32_xor_nat _ _ (rorN_lt _ _ _ hx) (rorN_lt _ _ _ hx), u32_xor_nat _ _ (xor_lt (rorN_lt _ _ _ hx) (rorN_lt _ _ _ hx)) (rorN_lt _ _ _ hx)]
theorem ch_nat (e f g : Nat) (he : e < 4294967296) (hf : f < 4294967296) (hg : g < 4294967296) : chh (e : Int) (f : Int) (g : Int) = (chN e f g : Int) := by
  unfold chh chN
  rw [show IntKind.u32.max = ((4294967295 : Nat) : Int) from rfl, u32_and_nat _ _ he hf, u32_xor_nat _ _ (by decide) he, u32_and_nat _ _ (xor_lt (by decide) he) hg, u32_xor_nat _ _ (and_lt _ hf) (and_lt _ hg)]
theorem mj_nat (a b c : Nat) (ha : a < 4294967296) (hb : b < 4294967296) (hc : c < 4294967296) : mjj (a : Int) (b : Int) (c : Int) = (mjN a b c : Int) := by
  unfold mjj mjN
  rw [u32_and_nat _ _ ha hb, u32_and_nat _ _ ha hc, u32_and_nat _ _ hb hc, u32_xor_nat _ _ (and_lt _ hb) (and_lt _ hc), u32_xor_nat _ _ (xor_lt (and_lt _ hb) (and_lt _ hc)) (and_lt _ hc)]

def N32 (l : List Nat) : Prop := ∀ x ∈ l, x < 4294967296
theorem N32.get {l : List Nat} (h : N32 l) (j : Nat) : l.getD j 0 < 4294967296 := by
  by_cases hj : j < l.length
  · have := h l[j] (List.getElem_mem hj); simpa [hj] using this
  · simp [List.getElem?_eq_none (show l.length ≤ j by omega)]

def extN (X : List Nat) : Nat := (X.getD 0 0 + sg0N (X.getD 1 0) + X.getD 9 0 + sg1N (X.getD 14 0)) % 4294967296
def rndN : List Nat → Nat → Nat → List Nat
  | [a, b, c, d, e, f, g, h], k, x => [((h + bs1N e + chN e f g + k + x) % 4294967296 + bs0N a + mjN a b c) % 4294967296, a, b, c, (d + (h + bs1N e + chN e f g + k + x) % 4294967296) % 4294967296, e, f, g]
  | _, _, _ => []
def runN : List Nat → List Nat → List Nat → List Nat
  | [], _, S => S
  | k :: ks, X, S => runN ks (X.tail ++ [extN X]) (rndN S k (X.headD 0))
def K0N : List Nat := [1116352408, 1899447441, 3049323471, 3921009573, 961987163, 1508970993, 2453635748, 2870763221, 3624381080, 310598401, 607225278, 1426881987, 1925078388, 2162078206, 2614888103, 3248222580, 3835390401, 4022224774, 264347078, 604807628, 770255983, 1249150122, 1555081692, 1996064986, 2554220882, 2821834349, 2952996808, 3210313671, 3336571891, 3584528711, 113926993, 338241895, 666307205, 773529912, 1294757372, 1396182291, 1695183700, 1986661051, 2177026350, 2456956037, 2730485921, 2820302411, 3259730800, 3345764771, 3516065817, 3600352804, 4094571909, 275423344, 430227734, 506948616, 659060556, 883997877, 958139571, 1322822218, 1537002063, 1747873779, 1955562222, 2024104815, 2227730452, 2361852424, 2428436474, 2756734187, 3204031479, 3329325298]
def H0N : List Nat := [1779033703, 3144134277, 1013904242, 2773480762, 1359893119, 2600822924, 528734635, 1541459225]
theorem K0_nat : K0 = toI K0N := rfl
theorem H0_nat : H0 = toI H0N := rfl
theorem K0N_len : K0N.length = 64 := rfl
theorem H0N_b : N32 H0N := by unfold N32; decide

theorem rnd_nat (S : List Nat) (hS : S.length = 8) (hb : N32 S) (k x : Nat) : rndS (toI S) (k : Int) (x : Int) = toI (rndN S k x) ∧ (rndN S k x).length = 8 ∧ N32 (rndN S k x) := by
  match S, hS with
  | [a, b, c, d, e, f, g, h], _ =>
    have ha := hb a (by simp)
    have hbb := hb b (by simp)
    have hc := hb c (by simp)
    have he := hb e (by simp)
    have hf := hb f (by simp)
    have hg := hb g (by simp)
    refine ⟨?_, rfl, ?_⟩
    · simp only [rndS, t1S, toI, rndN, List.map_cons, List.map_nil, List.getD_cons_zero, List.getD_cons_succ, Int.ofNat_eq_natCast]
      rw [bs1_nat e he, ch_nat e f g he hf hg, bs0_nat a ha, mj_nat a b c ha hbb hc]
      simp
    · intro y hy
      simp only [rndN, List.mem_cons, List.not_mem_nil, or_false] at hy
      rcases hy with rfl | rfl | rfl | rfl | rfl | rfl | rfl | rfl
      · exact Nat.mod_lt _ (by decide)
      · exact ha
      · exact hbb
      · exact hc
      · exact Nat.mod_lt _ (by decide)
      · exact he
      · exact hf
      · exact hg

theorem ext_nat (A : List Int) (X : List Nat) (j : Nat) (h : A.drop j = toI X) (hb : N32 X) : extS (A.getD j 0) (sg0 (A.getD (j + 1) 0)) (A.getD (j + 9) 0) (sg1 (A.getD (j + 14) 0)) = (extN X : Int) := by
  have g : ∀ i, A.getD (j + i) 0 = ((X.getD i 0 : Nat) : Int) := fun i => by
    rw [← toI_getD, ← h]
    simp only [List.getD_eq_getElem?_getD, List.getElem?_drop]
  have g0 := g 0
  rw [Nat.add_zero] at g0
  rw [g0, g 1, g 9, g 14, sg0_nat _ (hb.get 1), sg1_nat _ (hb.get 14)]
  unfold extS extN
  simp only [IntKind.wrap_u32']
  omega

theorem run_nat (L SI : List Int) (hL : L.length = 16) : ∀ (n j : Nat) (X S : List Nat), j + n = 64 → (schedTo L j).drop j = toI X → N32 X → X.length = 16 → roundsS K0 (schedTo L 48) SI j = toI S → N32 S → S.length = 8 →
    roundsS K0 (schedTo L 48) SI 64 = toI (runN (K0N.drop j) X S) ∧ N32 (runN (K0N.drop j) X S) ∧ (runN (K0N.drop j) X S).length = 8
  | 0, j, X, S, hj, _, _, _, hr, hbS, hS => by
    obtain rfl : j = 64 := by omega
    rw [List.drop_of_length_le (by rw [K0N_len]; omega)]
    exact ⟨hr, hbS, hS⟩
  | n + 1, j, X, S, hj, hw, hbX, hX, hr, hbS, hS => by
    have hjK : j < K0N.length := by rw [K0N_len]; omega
    rw [List.drop_eq_getElem_cons hjK, runN]
    have hk : K0.getD j 0 = ((K0N[j] : Nat) : Int) := by rw [K0_nat, toI_getD]; simp [hjK]
    have hx0 : (schedTo L j).getD j 0 = ((X.headD 0 : Nat) : Int) := by
      have : (schedTo L j).getD j 0 = ((schedTo L j).drop j).getD 0 0 := by simp only [List.getD_eq_getElem?_getD, List.getElem?_drop, Nat.add_zero]
      rw [this, hw, toI_getD]
      cases X <;> rfl
    have hx : (schedTo L 48).getD j 0 = ((X.headD 0 : Nat) : Int) := by
      rw [← hx0]
      by_cases h48 : j ≤ 48
      · have := schedTo_more L j j (48 - j) (by omega)
        rw [show j + (48 - j) = 48 by omega] at this
        exact this
      · have := schedTo_more L j 48 (j - 48) (by omega)
        rw [show 48 + (j - 48) = j by omega] at this
        exact this.symm
    obtain ⟨r1, r2, r3⟩ := rnd_nat S hS hbS K0N[j] (X.headD 0)
    refine run_nat L SI hL n (j + 1) _ _ (by omega) ?_ ?_ ?_ ?_ r3 r2
    · rw [schedTo, List.drop_append_of_le_length (by rw [schedTo_len]; omega), ext_nat _ X j hw hbX, toI_app, ← List.tail_drop, hw]
      simp [toI]
    · intro y hy
      rcases List.mem_append.1 hy with hy | hy
      · exact hbX y (List.mem_of_mem_tail hy)
      · simp at hy; subst hy; exact Nat.mod_lt _ (by decide)
    · simp [hX]
    · rw [roundsS, hr, hk, hx, r1]

end Go.Proofs.YtnpgdjckhkmiiaaDoor
