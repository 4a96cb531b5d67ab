import Derived.Test.YtdelijobaebfnaaDoorMa1
import Derived.Laws.EntriesVeiled
import Derived.Lib.Hide
namespace Go.Proofs.YtdelijobaebfnaaDoor
open Go.RowKit

def latAt (X : List Int) (p : Nat) : Int := lat (X.getD p 0) (X.getD ((p + 1) % 16) 0) (X.getD ((p + 9) % 16) 0) (X.getD ((p + 14) % 16) 0)
abbrev u32s (X : List Int) : List Value := X.map (Value.int .u32)

theorem u32s_get {X : List Int} {j : Nat} (h : j < X.length) : (u32s X)[j]? = some (.int .u32 (X.getD j 0)) := by
  simp [u32s, h]

theorem later_any (b : Nat) (t : TypeId) (w : World) (X : List Int) (hl : X.length = 16) (hb : Blk w b t (u32s X)) (p : Nat) (hp : p < 16) :
    Calls Tryd.prog 79 #[.pointer (some ⟨b, 0, none⟩), .int .i64 p] w fun e w' => e = .returned (.int .u32 (latAt X p)) ∧ Blk w' b t (u32s (X.set p (latAt X p))) ∧ w.grownBy w' (some b) := by
  refine (later_walk b w p ((p + 1) % 16) ((p + 9) % 16) ((p + 14) % 16) hp (by omega) (by omega) (by omega) _ _ _ _ (modw p 1 hp (by omega)) (modw p 9 hp (by omega)) (modw p 14 hp (by omega))
    (hb.cell (u32s_get (by omega))) (hb.cell (u32s_get (by omega))) (hb.cell (u32s_get (by omega))) (hb.cell (u32s_get (by omega))) (hb.frozen _)).mono ?_
  rintro e w' ⟨rfl, n, rfl⟩
  refine ⟨rfl, ?_, grown_set (grown_drewN (grown_refl _ _) _) _ _⟩
  have := (hb.drewN n).set p (.int .u32 (latAt X p))
  rw [show u32s (X.set p (latAt X p)) = (u32s X).set p (.int .u32 (latAt X p)) from by simp [u32s, List.map_set]]
  exact this

def rndL (S : List Int) (x : Int) : List Int :=
  [rnd0 (S.getD 0 0) (S.getD 1 0) (S.getD 2 0) (S.getD 4 0) (S.getD 5 0) (S.getD 6 0) (S.getD 7 0) x, S.getD 0 0, S.getD 1 0, S.getD 2 0, rnd4 (S.getD 3 0) (S.getD 4 0) (S.getD 5 0) (S.getD 6 0) (S.getD 7 0) x, S.getD 4 0, S.getD 5 0, S.getD 6 0]

theorem list8 {S : List Int} (h : S.length = 8) : S = [S.getD 0 0, S.getD 1 0, S.getD 2 0, S.getD 3 0, S.getD 4 0, S.getD 5 0, S.getD 6 0, S.getD 7 0] := by
  match S, h with
  | [a, b, c, d, e, f, g, i], _ => rfl

theorem round_any (b : Nat) (t : TypeId) (w : World) (S : List Int) (hl : S.length = 8) (x : Int) (hb : Blk w b t (u32s S)) :
    Calls Tryd.prog 80 #[.pointer (some ⟨b, 0, none⟩), .int .u32 x] w fun e w' => e = .returned (.tuple #[]) ∧ Blk w' b t (u32s (rndL S x)) ∧ w.grownBy w' (some b) := by
  rw [list8 hl] at hb
  exact round_walk b t w _ _ _ _ _ _ _ _ x hb

/-- the word of round i, and the block behind it -/
def schV (X : List Int) (i : Nat) : Int := if i < 16 then X.getD i 0 else latAt X (i % 16)
def schX (X : List Int) (i : Nat) : List Int := if i < 16 then X else X.set (i % 16) (latAt X (i % 16))
def takeTo (K X S : List Int) : Nat → List Int × List Int
  | 0 => (X, S)
  | k + 1 => (schX (takeTo K X S k).1 k, rndL (takeTo K X S k).2 ((schV (takeTo K X S k).1 k + K.getD k 0) % 4294967296))

theorem takeTo_len (K X S : List Int) (hX : X.length = 16) (hS : S.length = 8) : ∀ k, (takeTo K X S k).1.length = 16 ∧ (takeTo K X S k).2.length = 8
  | 0 => ⟨hX, hS⟩
  | k + 1 => by
    have ih := takeTo_len K X S hX hS k
    refine ⟨?_, rfl⟩
    show (schX _ _).length = 16
    unfold schX; split <;> simp [ih.1]

def funs : List Value := [.func (.func 78) #[] #[], .func (.func 79) #[] #[], .func (.func 79) #[] #[], .func (.func 79) #[] #[]]
def TakeRel (w : World) (K X S : List Int) (k : Nat) (wr : World) : Prop :=
  Blk wr w.heap.size 123 (u32s (takeTo K X S k).1) ∧ Blk wr (w.heap.size + 1) 136 funs ∧ Blk wr (w.heap.size + 1 + 1) 91 (u32s (takeTo K X S k).2) ∧ w.grownBy wr none

theorem rel_first {w : World} {K X S : List Int} {k : Nat} {wr w' : World} (h : TakeRel w K X S k wr) (hk : k < 16) {v : Int} (hb : Blk w' (w.heap.size + 1 + 1) 91 (u32s (rndL (takeTo K X S k).2 v)))
    (hv : v = ((takeTo K X S k).1.getD k 0 + K.getD k 0) % 4294967296) (hg : wr.drew.grownBy w' (some (w.heap.size + 1 + 1))) : TakeRel w K X S (k + 1) w' := by
  obtain ⟨h0, h1, h2, h3⟩ := h
  have e1 : (takeTo K X S (k + 1)).1 = (takeTo K X S k).1 := by show schX _ _ = _; unfold schX; rw [if_pos hk]
  have e2 : (takeTo K X S (k + 1)).2 = rndL (takeTo K X S k).2 v := by show rndL _ ((schV _ _ + _) % _) = _; unfold schV; rw [if_pos hk, hv]
  refine ⟨?_, ?_, ?_, ?_⟩
  · rw [e1]; exact (h0.drew).kept hg (by simp; omega)
  · exact (h1.drew).kept hg (by simp)
  · rw [e2]; exact hb
  · exact grown_into (grown_drew h3) hg (by omega)

theorem rel_later {w : World} {K X S : List Int} {k : Nat} {wr w1 w' : World} (h : TakeRel w K X S k wr) (hk : ¬ k < 16) {v : Int} (hb : Blk w' (w.heap.size + 1 + 1) 91 (u32s (rndL (takeTo K X S k).2 v)))
    (hv : v = (latAt (takeTo K X S k).1 (k % 16) + K.getD k 0) % 4294967296) (hb1 : Blk w1 w.heap.size 123 (u32s ((takeTo K X S k).1.set (k % 16) (latAt (takeTo K X S k).1 (k % 16)))))
    (hg1 : wr.drew.grownBy w1 (some w.heap.size)) (hg : w1.grownBy w' (some (w.heap.size + 1 + 1))) : TakeRel w K X S (k + 1) w' := by
  obtain ⟨h0, h1, h2, h3⟩ := h
  have e1 : (takeTo K X S (k + 1)).1 = (takeTo K X S k).1.set (k % 16) (latAt (takeTo K X S k).1 (k % 16)) := by show schX _ _ = _; unfold schX; rw [if_neg hk]
  have e2 : (takeTo K X S (k + 1)).2 = rndL (takeTo K X S k).2 v := by show rndL _ ((schV _ _ + _) % _) = _; unfold schV; rw [if_neg hk, hv]
  refine ⟨?_, ?_, ?_, ?_⟩
  · rw [e1]; exact hb1.kept hg (by simp; omega)
  · exact ((h1.drew).kept hg1 (by simp)).kept hg (by simp)
  · rw [e2]; exact hb
  · exact grown_into (grown_into (grown_drew h3) hg1 (by omega)) hg (by omega)

theorem take_start (w : World) (K X S : List Int) : TakeRel w K X S 0 (((w.alloc (.cells (u32s X).toArray 123)).alloc (.cells funs.toArray 136)).alloc (.cells (u32s S).toArray 91)) := by
  refine ⟨((Blk.new w 123 (u32s X)).alloc _).alloc _, ?_, ?_, grown_alloc (grown_alloc (grown_alloc (grown_refl _ _) _) _) _⟩
  · have := (Blk.new (w.alloc (.cells (u32s X).toArray 123)) 136 funs).alloc (Obj.cells (u32s S).toArray 91)
    rw [World.size_alloc] at this
    exact this
  · have := Blk.new ((w.alloc (.cells (u32s X).toArray 123)).alloc (.cells funs.toArray 136)) 91 (u32s S)
    rw [World.size_alloc, World.size_alloc] at this
    exact this

/-- the sum's words, each with what the rounds left added: the first k of them -/
def addTo (L : List Value) (S S' : List Int) : Nat → List Value
  | 0 => L
  | k + 1 => (addTo L S S' k).set (1 + k) (.int .u32 ((S.getD k 0 + S'.getD k 0) % 4294967296))

theorem addTo_get (L : List Value) (S S' : List Int) : ∀ k j, k ≤ j → (addTo L S S' k)[1 + j]? = L[1 + j]?
  | 0, _, _ => rfl
  | k + 1, j, h => by
    rw [addTo, List.getElem?_set_ne (by omega)]
    exact addTo_get L S S' k j (by omega)

set_option maxHeartbeats 1000000 in
theorem take_walk (c : Nat) (t : TypeId) (w : World) (X : List Int) (hX : X.length = 16) (s0 s1 s2 s3 s4 s5 s6 s7 : Int) (K : List Int) (v0 : Value) (R : List Value)
    (hb : Blk w c t (v0 :: (u32s [s0, s1, s2, s3, s4, s5, s6, s7] ++ R))) (hT : ∀ k, k < 64 → w.cell? ⟨2, k, none⟩ = some (.int .u32 (K.getD k 0))) :
    Calls Tryd.prog 69 #[.pointer (some ⟨c, 1, none⟩), .agg (u32s X).toArray] w fun e w' => e = .returned (.tuple #[]) ∧
      Blk w' c t (addTo (v0 :: (u32s [s0, s1, s2, s3, s4, s5, s6, s7] ++ R)) [s0, s1, s2, s3, s4, s5, s6, s7] (takeTo K X [s0, s1, s2, s3, s4, s5, s6, s7] 64).2 8) ∧ w.grownBy w' (some c) := by
  have HT := Lib.hid hT
  have c0 := hb.cell (j := 1) rfl
  have c1 := hb.cell (j := 2) rfl
  have c2 := hb.cell (j := 3) rfl
  have c3 := hb.cell (j := 4) rfl
  have c4 := hb.cell (j := 5) rfl
  have c5 := hb.cell (j := 6) rfl
  have c6 := hb.cell (j := 7) rfl
  have c7 := hb.cell (j := 8) rfl
  have hc := hb.lt
  have HB := Lib.hid hb
  clear hT hb
  go_enter Tryd.func69, Tryd.ntmps69
  go_wp2
  go_loopw [12] (fun i wr => ∃ k : Nat, k ≤ 64 ∧ i = .int .i64 k ∧ TakeRel w K X [s0, s1, s2, s3, s4, s5, s6, s7] k wr) (fun i _ => 64 - (intOf i).toNat)
  case atStart =>
    exact ⟨0, by omega, rfl, take_start w K X [s0, s1, s2, s3, s4, s5, s6, s7]⟩
  case round =>
    obtain ⟨k, hk, rfl, hR⟩ := hrel
    have hlen := takeTo_len K X [s0, s1, s2, s3, s4, s5, s6, s7] hX rfl k
    have hB0 := hR.1
    have hB1 := hR.2.1
    have hB2 := hR.2.2.1
    have hg := hR.2.2.2
    have HR := Lib.hid hR
    clear hR
    obtain ⟨Xk, hXk⟩ : ∃ Xk, Xk = (takeTo K X [s0, s1, s2, s3, s4, s5, s6, s7] k).1 := ⟨_, rfl⟩
    obtain ⟨Sk, hSk⟩ : ∃ Sk, Sk = (takeTo K X [s0, s1, s2, s3, s4, s5, s6, s7] k).2 := ⟨_, rfl⟩
    rw [← hXk] at hB0 hlen
    rw [← hSk] at hB2 hlen
    obtain ⟨hXl, hSl⟩ := hlen
    have HX := Lib.hid hXk
    have HS := Lib.hid hSk
    have HG := Lib.hid hg
    clear hXk hSk hg
    by_cases hlt : k < 64
    · have dk : wr.cell? ⟨2, k, none⟩ = some (.int .u32 (K.getD k 0)) := HG.out.cell (HT.out k hlt) (by simp)
      have nk : some 2 ≠ some w.heap.size := by have := World.block_lt_of_cell? w _ (HT.out k hlt); simp at this ⊢; omega
      have n02 : some (w.heap.size + 1 + 1) ≠ some w.heap.size := by simp; omega
      by_cases h16 : k < 16
      · have q0 : (k : Int).tdiv 16 = 0 := by rw [Int.tdiv_eq_ediv_of_nonneg (by omega)]; omega
        have r0 : (k : Int).tmod 16 = (k : Int) := by rw [Int.tmod_eq_emod_of_nonneg (by omega)]; omega
        have d0 := hB1.cell (j := 0) rfl
        have hx : wr.cell? ⟨w.heap.size, k, none⟩ = some (.int .u32 (Xk.getD k 0)) := hB0.cell (u32s_get (by omega))
        go_wp2
        go_region_with (first | (go_at_call 78; refine (first_any w.heap.size _ k h16 (Xk.getD k 0) ?_).mono ?_; exact hx; rintro e w' ⟨rfl, rfl⟩) | (go_at_call 80; refine (round_any (w.heap.size + 1 + 1) 91 _ Sk hSl _ ?_).mono ?_; exact hB2; rintro e w' ⟨rfl, hb', hg'⟩))
        all_goals go_wp2
        all_goals go_roundw
        all_goals first
          | (simp [intOf]; omega)
          | (refine ⟨k + 1, by omega, by go_num, ?_⟩
             have hXk := HX.out
             have hSk := HS.out
             subst hXk hSk
             have hkl : k < (takeTo K X [s0, s1, s2, s3, s4, s5, s6, s7] k).1.length := by rw [hXl]; omega
             exact rel_first HR.out h16 hb' (by simp [IntKind.wrap_u32, hkl]) hg')
      · have q0 : (k : Int).tdiv 16 = ((k / 16 : Nat) : Int) := by rw [Int.tdiv_eq_ediv_of_nonneg (by omega)]; omega
        have r0 : (k : Int).tmod 16 = ((k % 16 : Nat) : Int) := by rw [Int.tmod_eq_emod_of_nonneg (by omega)]; omega
        obtain ⟨q, hq⟩ : ∃ q, q = k / 16 := ⟨_, rfl⟩
        obtain ⟨r, hr⟩ : ∃ r, r = k % 16 := ⟨_, rfl⟩
        rw [← hq] at q0
        rw [← hr] at r0
        have hq1 : 1 ≤ q := by omega
        have q0e : (k : Int) / 16 = (q : Int) := by omega
        have r0e : (k : Int) % 16 = (r : Int) := by omega
        have hq4 : (q : Int) < 4 := by omega
        have hq4n : q < 4 := by omega
        have hqw : IntKind.i64.wrap (q : Int) = (q : Int) := by rw [IntKind.wrap_i64]; omega
        have hk64 : (k : Int) < 64 := by omega
        have hr16 : r < 16 := by omega
        have HQ := Lib.hid hq
        have HRr := Lib.hid hr
        clear hq hr
        have d0 : wr.cell? ⟨w.heap.size + 1, q, none⟩ = some (.func (.func 79) #[] #[]) := hB1.cell (by
          obtain rfl | rfl | rfl : q = 1 ∨ q = 2 ∨ q = 3 := by omega
          · rfl
          · rfl
          · rfl)
        go_wp2
        go_region_with (first | (go_at_call 79; refine (later_any w.heap.size 123 _ Xk hXl ?_ r hr16).mono ?_; exact hB0; rintro e w1 ⟨rfl, hb1, hg1⟩; have dk1 := hg1.cell (a := ⟨2, k, none⟩) dk nk; have hB21 := hB2.drew.kept hg1 n02) | (go_at_call 80; refine (round_any (w.heap.size + 1 + 1) 91 _ Sk hSl _ ?_).mono ?_; exact hB21; rintro e w' ⟨rfl, hb', hg'⟩))
        all_goals go_wp2
        all_goals go_roundw
        all_goals first
          | (simp [intOf]; omega)
          | (refine ⟨k + 1, by omega, by go_num, ?_⟩
             have hXk := HX.out
             have hSk := HS.out
             have hr := HRr.out
             subst hXk hSk hr
             exact rel_later HR.out h16 hb' (by simp [IntKind.wrap_u32]) hb1 hg1 hg')
    · obtain rfl : k = 64 := by omega
      go_wp2
      go_loopw [28] (fun i wr' => ∃ m : Nat, m ≤ 8 ∧ i = .int .i64 m ∧ Blk wr' c t (addTo (v0 :: (u32s [s0, s1, s2, s3, s4, s5, s6, s7] ++ R)) [s0, s1, s2, s3, s4, s5, s6, s7] Sk m) ∧ Blk wr' (w.heap.size + 1 + 1) 91 (u32s Sk) ∧ w.grownBy wr' (some c)) (fun i _ => 8 - (intOf i).toNat)
      case atStart => exact ⟨0, by omega, rfl, HB.out.kept HG.out (by simp), hB2, grown_widen HG.out⟩
      case round =>
        obtain ⟨m, hm, rfl, hC, hN, hG⟩ := hrel
        by_cases hlt8 : m < 8
        · have hm8 : (m : Int) < 8 := by omega
          have e1 : wr.cell? ⟨c, 1 + m, none⟩ = some (.int .u32 ([s0, s1, s2, s3, s4, s5, s6, s7].getD m 0)) := hC.cell (by
            rw [addTo_get _ _ _ _ _ (Nat.le_refl m)]
            match m, hlt8 with
            | 0, _ => rfl
            | 1, _ => rfl
            | 2, _ => rfl
            | 3, _ => rfl
            | 4, _ => rfl
            | 5, _ => rfl
            | 6, _ => rfl
            | 7, _ => rfl)
          have e2 : wr.cell? ⟨w.heap.size + 1 + 1, m, none⟩ = some (.int .u32 (Sk.getD m 0)) := hN.cell (u32s_get (by omega))
          have e3 := hC.frozen (1 + m)
          obtain ⟨sm, hsm⟩ : ∃ sm, sm = [s0, s1, s2, s3, s4, s5, s6, s7].getD m 0 := ⟨_, rfl⟩
          rw [← hsm] at e1
          have HSM := Lib.hid hsm
          have HC := Lib.hid hC
          have HN := Lib.hid hN
          have HGG := Lib.hid hG
          clear hsm hC hN hG
          go_wp2
          go_region
          all_goals go_wp2
          all_goals go_roundw
          case rel =>
            refine ⟨m + 1, by omega, by go_num, ?_, HN.out.kept (grown_drew (grown_set (grown_refl wr (some c)) _ _)) (by simp; omega), grown_drew (grown_set HGG.out _ _)⟩
            have hsm := HSM.out
            subst hsm
            have := (HC.out.set (1 + m) (.int .u32 (([s0, s1, s2, s3, s4, s5, s6, s7].getD m 0 + Sk.getD m 0) % 4294967296))).drew
            have hml : m < Sk.length := by omega
            simpa [addTo, hml] using this
          case measure => simp [intOf]; omega
        · obtain rfl : m = 8 := by omega
          have HC := Lib.hid hC
          have HGG := Lib.hid hG
          clear hC hG hN
          go_wp2
          go_end0
          have hSk := HS.out
          subst hSk
          exact ⟨rfl, HC.out, HGG.out⟩

/-- each word with what the rounds left added to it -/
def addL (S S' : List Int) : List Int := (List.range 8).map fun k => (S.getD k 0 + S'.getD k 0) % 4294967296
/-- a block let into a sum -/
def compI (K S X : List Int) : List Int := addL S (takeTo K X S 64).2
theorem compI_len (K S X : List Int) : (compI K S X).length = 8 := rfl

theorem take_any (c : Nat) (t : TypeId) (w : World) (X : List Int) (hX : X.length = 16) (S : List Int) (hS : S.length = 8) (K : List Int) (v0 : Value) (R : List Value)
    (hb : Blk w c t (v0 :: (u32s S ++ R))) (hT : ∀ k, k < 64 → w.cell? ⟨2, k, none⟩ = some (.int .u32 (K.getD k 0))) :
    Calls Tryd.prog 69 #[.pointer (some ⟨c, 1, none⟩), .agg (u32s X).toArray] w fun e w' => e = .returned (.tuple #[]) ∧
      Blk w' c t (v0 :: (u32s (compI K S X) ++ R)) ∧ w.grownBy w' (some c) := by
  obtain ⟨s0, s1, s2, s3, s4, s5, s6, s7, rfl⟩ : ∃ s0 s1 s2 s3 s4 s5 s6 s7, S = [s0, s1, s2, s3, s4, s5, s6, s7] := ⟨_, _, _, _, _, _, _, _, list8 hS⟩
  refine (take_walk c t w X hX s0 s1 s2 s3 s4 s5 s6 s7 K v0 R hb hT).mono ?_
  rintro e w' ⟨rfl, h1, h2⟩
  exact ⟨rfl, h1, h2⟩

end Go.Proofs.YtdelijobaebfnaaDoor
