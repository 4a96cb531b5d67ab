/- Rows of values with what is in them; what a draw answers. -/
import Derived.Test.YtgmigloafcejdaaGreatDoorZ2
namespace Go.Proofs.YtgmigloafcejdaaGreatDoor
open Go.RowKit

/-- a row of values and what is in it, all in blocks of X; none of them lies in the row's own block -/
def KidsIn (w : World) (X : Nat → Prop) (sk : Value) (ks : List VT) : Prop :=
  ∃ css : List (List Value), css.length = ks.length ∧ RowK w 0 sk ks.length css.flatten ∧ (∀ q, sk.ownBlock = some q → X q) ∧ ∀ (j : Nat) (k : VT), ks[j]? = some k → VX w (fun b => X b ∧ sk.ownBlock ≠ some b) k (css.getD j [])
theorem RowK.shape {w : World} {base : Nat} {v : Value} {n : Nat} {xs : List Value} (h : RowK w base v n xs) : ∃ ta cap, v = .slice ta n cap ∧ n ≤ cap := by
  rcases h.2 with ⟨rfl, h0⟩ | ⟨g, cap, rfl, _, _, hn, _⟩
  · exact ⟨none, 0, by rw [h0], by omega⟩
  · exact ⟨_, cap, rfl, hn⟩
theorem KidsIn.nil (w : World) (X : Nat → Prop) : KidsIn w X (.slice none 0 0) [] := ⟨[], rfl, RowK.nil w 0, (fun q hq => by cases hq), (fun j k h => by simp at h)⟩
theorem KidsIn.shape {w : World} {X : Nat → Prop} {sk : Value} {ks : List VT} (h : KidsIn w X sk ks) : ∃ ta cap, sk = .slice ta ks.length cap ∧ ks.length ≤ cap := by
  obtain ⟨css, _, hr, _⟩ := h
  exact hr.shape
theorem KidsIn.lt {w : World} {X : Nat → Prop} {sk : Value} {ks : List VT} (h : KidsIn w X sk ks) : ∀ k, sk.ownBlock = some k → X k ∧ k < w.heap.size := by
  obtain ⟨css, _, hr, hx, _⟩ := h
  exact fun k hk => ⟨hx k hk, (hr.lt k hk).2⟩
theorem KidsIn.kept {w w' : World} {X : Nat → Prop} {sk : Value} {ks : List VT} {row : Option Nat} (h : KidsIn w X sk ks) (hg : w.grownBy w' row) (hr : ∀ q, row = some q → ¬ X q) : KidsIn w' X sk ks := by
  obtain ⟨css, h1, h2, hx, h3⟩ := h
  exact ⟨css, h1, h2.kept hg (fun k hk e => hr k e.symm (hx k hk)), hx, fun j k hj => (h3 j k hj).kept (Kept.of_grown hg (fun q hq hX => hr q hq hX.1))⟩
theorem KidsIn.mono {w : World} {X Y : Nat → Prop} {sk : Value} {ks : List VT} (h : KidsIn w X sk ks) (hxy : ∀ b, b < w.heap.size → X b → Y b) : KidsIn w Y sk ks := by
  obtain ⟨css, h1, h2, hx, h3⟩ := h
  exact ⟨css, h1, h2, fun q hq => hxy q (h2.lt q hq).2 (hx q hq), fun j k hj => (h3 j k hj).mono (fun b hb hX => ⟨hxy b hb hX.1, hX.2⟩)⟩
theorem flat_len (css : List (List Value)) (h : ∀ c ∈ css, c.length = 5) : css.flatten.length = css.length * 5 := by
  induction css with
  | nil => rfl
  | cons c css ih =>
    rw [List.flatten_cons, List.length_append, h c (by simp), ih (fun d hd => h d (by simp [hd])), List.length_cons]
    omega
theorem flat_at (css : List (List Value)) (h : ∀ c ∈ css, c.length = 5) (j i : Nat) (hj : j < css.length) (hi : i < 5) : css.flatten[j * 5 + i]? = (css.getD j [])[i]? := by
  induction css generalizing j with
  | nil => simp at hj
  | cons c css ih =>
    have hc := h c (by simp)
    rw [List.flatten_cons]
    cases j with
    | zero => rw [List.getElem?_append_left (by omega)]; simp
    | succ j =>
      rw [List.getElem?_append_right (by omega), hc, show (j + 1) * 5 + i - 5 = j * 5 + i from by omega, ih (fun d hd => h d (by simp [hd])) j (by simpa using hj)]
      simp
theorem kids_len {w : World} {X : Nat → Prop} {ks : List VT} {css : List (List Value)} (h1 : css.length = ks.length) (h3 : ∀ (j : Nat) (k : VT), ks[j]? = some k → VX w X k (css.getD j [])) : ∀ c ∈ css, c.length = 5 := fun c hc => by
  obtain ⟨j, hj, rfl⟩ := List.getElem_of_mem hc
  have := (h3 j ks[j] (List.getElem?_eq_getElem (by omega))).len
  simpa [hj] using this
/-- one more -/
theorem KidsIn.more {w w' : World} {X Z : Nat → Prop} {sk sk' : Value} {ks : List VT} {k : VT} {cs : List Value} {css : List (List Value)} (h1 : css.length = ks.length) (hx : ∀ q, sk.ownBlock = some q → X q) (h3 : ∀ (j : Nat) (k : VT), ks[j]? = some k → VX w (fun b => X b ∧ sk.ownBlock ≠ some b) k (css.getD j []))
    (hk : VX w Z k cs) (hz : ∀ b, b < w.heap.size → Z b → X b ∧ sk.ownBlock ≠ some b) (hr : RowK w' 0 sk' (ks.length + 1) (css.flatten ++ cs)) (hg : w.grownBy w' sk.ownBlock) (ho : ∀ q, sk'.ownBlock = some q → sk.ownBlock = some q ∨ w.heap.size ≤ q) (hX : ∀ q, w.heap.size ≤ q → X q) :
    KidsIn w' X sk' (ks ++ [k]) := by
  have hK : Kept w w' (fun b => X b ∧ sk.ownBlock ≠ some b) := Kept.of_grown hg (fun q hq hx => hx.2 hq)
  have hlift : ∀ {T : VT} {c : List Value}, VX w (fun b => X b ∧ sk.ownBlock ≠ some b) T c → VX w' (fun b => X b ∧ sk'.ownBlock ≠ some b) T c := fun {T c} h => by
    have h' : VX w (fun b => (X b ∧ sk.ownBlock ≠ some b) ∧ b < w.heap.size) T c := h.mono (fun b hb hx => ⟨hx, hb⟩)
    have h'' : VX w' (fun b => (X b ∧ sk.ownBlock ≠ some b) ∧ b < w.heap.size) T c := h'.kept (fun b hb hx => hK b hb hx.1)
    refine h''.mono (fun b _ hx => ⟨hx.1.1, fun e => ?_⟩)
    rcases ho b e with h1 | h1
    · exact hx.1.2 h1
    · have := hx.2
      omega
  refine ⟨css ++ [cs], by simp [h1], ?_, fun q hq => ?_, fun j T hj => ?_⟩
  · rw [List.flatten_append, List.length_append]
    simpa using hr
  · rcases ho q hq with h | h
    · exact hx q h
    · exact hX q h
  · by_cases hl : j < ks.length
    · rw [List.getElem?_append_left hl] at hj
      have := hlift (h3 j T hj)
      rw [List.getD_eq_getElem?_getD, List.getElem?_append_left (by omega), ← List.getD_eq_getElem?_getD]
      exact this
    · rw [List.getElem?_append_right (by omega)] at hj
      have hj0 : j - ks.length = 0 := by
        cases hjj : j - ks.length with
        | zero => rfl
        | succ i => rw [hjj] at hj; simp at hj
      rw [hj0] at hj
      obtain rfl : k = T := by simpa using hj
      have : j = css.length := by omega
      subst this
      have hc : (css ++ [cs]).getD css.length [] = cs := by simp
      rw [hc]
      exact hlift (hk.mono hz)
/-- the whole value -/
theorem KidsIn.made {w : World} {X Y : Nat → Prop} {sk : Value} {ks : List VT} {s n : Int} {t : ByteArray} {ns : List ByteArray} {an ak : Option Addr} {cn ck : Nat} (h : KidsIn w X sk ks) (hsk : sk = .slice ak ks.length ck) (hxy : ∀ b, X b → Y b) (hn : LX w Y an ns) (hcn : ns.length ≤ cn) (ht : t.size ≤ 9223372036854775807) (hcl : ns.length ≤ 9223372036854775807) (hkl : ks.length ≤ 9223372036854775807) (hsl : ∀ s ∈ ns, s.size ≤ 9223372036854775807)
    (hs1 : -9223372036854775808 ≤ s) (hs2 : s ≤ 9223372036854775807) (hn1 : -9223372036854775808 ≤ n) (hn2 : n ≤ 9223372036854775807) :
    VX w Y (.node s n t ns ks) [.int .i64 s, .int .i64 n, .string t, .slice an ns.length cn, .slice ak ks.length ck] := by
  obtain ⟨css, h1, h2, hx, h3⟩ := h
  have h5 := kids_len h1 h3
  refine .mk (fun j => css.getD j []) hn ?_ (fun j k hj => (h3 j k hj).mono (fun b _ hx => hxy b hx.1)) hcn ?_ ht hcl hkl hsl hs1 hs2 hn1 hn2
  · rcases h2.2 with ⟨_, h0⟩ | ⟨g, cap, he, _, _, _, hc, _⟩
    · exact .inl h0
    · have hg : X g := hx g (by rw [he]; rfl)
      rw [hsk] at he
      refine .inr ⟨g, 0, by cases he; rfl, hxy g hg, fun j hj => ?_⟩
      have hl : (css.getD j []).length = 5 := (h3 j ks[j] (List.getElem?_eq_getElem hj)).len
      have hat : ∀ i, i < 5 → w.cell? ⟨g, 0 + j * 5 + i, none⟩ = (css.getD j [])[i]? := fun i hi => by
        rw [Nat.zero_add, hc (j * 5 + i) (by omega), flat_at css h5 j i (by omega) hi]
      generalize css.getD j [] = c at hl hat
      match c, hl with
      | [c0, c1, c2, c3, c4], _ => exact ⟨c0, c1, c2, c3, c4, rfl, by simpa using hat 0 (by omega), by simpa using hat 1 (by omega), by simpa using hat 2 (by omega), by simpa using hat 3 (by omega), by simpa using hat 4 (by omega)⟩
  · rcases h2.2 with ⟨he, h0⟩ | ⟨g, cap, he, _, _, hn', _⟩
    · omega
    · rw [hsk] at he; cases he; exact hn'

/-- a row of texts -/
def txs (ns : List ByteArray) : List Value := ns.map Value.string
theorem txs_len (ns : List ByteArray) : (txs ns).length = ns.length := by simp [txs]
theorem txs_app (ns ms : List ByteArray) : txs (ns ++ ms) = txs ns ++ txs ms := by simp [txs]
theorem txs_one (L : List ByteArray) : ∀ v ∈ txs L, v.oneCell' = true := fun v hv => by
  obtain ⟨s, _, rfl⟩ := List.mem_map.1 hv
  rfl
theorem row_txs {w : World} {base : Nat} {v : Value} {ns : List ByteArray} (h : Row w base v (txs ns)) : ∃ an cn, v = .slice an ns.length cn ∧ ns.length ≤ cn ∧ LX w (fun b => base ≤ b ∧ v.ownBlock = some b) an ns := by
  rcases h with ⟨rfl, h0⟩ | ⟨g, cap, rfl, hb, hl, hn, hc, _⟩
  · have : ns = [] := by simpa [txs] using h0
    subst this
    exact ⟨none, 0, rfl, Nat.le_refl _, .inl rfl⟩
  · rw [txs_len] at *
    refine ⟨_, cap, rfl, hn, .inr ⟨g, 0, rfl, ⟨hb, rfl⟩, fun j hj => ?_⟩⟩
    rw [Nat.zero_add, hc j hj]
    simp [txs, hj]
theorem mem_bulkS {s : ByteArray} {ss : List ByteArray} (h : s ∈ ss) : s.size ≤ bulkS ss := by
  induction ss with
  | nil => cases h
  | cons a ss ih =>
    rcases List.mem_cons.1 h with rfl | h
    · simp [bulkS]
    · have := ih h
      simp [bulkS]; omega

/-- what a draw answers: a value in new memory, not too much of it; the reader went on -/
def DrawR (w w' : World) (rb : Nat) (ao : Option Addr) (n cap p c B : Nat) (e : Ending) : Prop :=
  ∃ T cs p', e = .returned (.agg cs.toArray) ∧ VX w' (fun b => w.heap.size ≤ b) T cs ∧ bulk T ≤ B ∧ Rd w' rb ao n cap p' ∧ p ≤ p' ∧ p' ≤ p + c ∧ w.grownBy w' (some rb)
theorem bulkK_app (ks : List VT) (k : VT) : bulkK (ks ++ [k]) = bulkK ks + bulk k := by
  induction ks with
  | nil => simp [bulkK]
  | cons a ks ih => simp [bulkK, ih, Nat.add_assoc]
theorem bulkS_app (ss : List ByteArray) (s : ByteArray) : bulkS (ss ++ [s]) = bulkS ss + s.size := by
  induction ss with
  | nil => simp [bulkS]
  | cons a ks ih => simp [bulkS, ih, Nat.add_assoc]

/-- a value with something in it is told -/
theorem draw_group {w w1 : World} {rb r : Nat} {ao : Option Addr} {n cap p p1 c B : Nat} {X : Nat → Prop} (s m : Int) (t : ByteArray) (ns : List ByteArray) (ks : List VT) (an ak : Option Addr) (cn ck : Nat) (hr : w.heap.size ≤ r) (hrb : rb < r) (hrd : Rd w1 rb ao n cap p1) (hp1 : p ≤ p1) (hp2 : p1 ≤ p + c) (hg : w.grownBy w1 (some rb))
    (hk : KidsIn w1 X (.slice ak ks.length ck) ks) (hX : ∀ b, X b → w.heap.size ≤ b ∧ b ≠ r) (hn : LX w1 (fun b => w.heap.size ≤ b ∧ b ≠ r) an ns) (hcn : ns.length ≤ cn) (hbu : bulk (.node s m t ns ks) ≤ B) (hB : B ≤ 1048576)
    (hs1 : -9223372036854775808 ≤ s) (hs2 : s ≤ 9223372036854775807) (hn1 : -9223372036854775808 ≤ m) (hn2 : m ≤ 9223372036854775807) :
    DrawR w (set5 w1 r (.int .i64 s) (.int .i64 m) (.string t) (.slice an ns.length cn) (.slice ak ks.length ck)) rb ao n cap p c B (.returned (.agg #[.int .i64 s, .int .i64 m, .string t, .slice an ns.length cn, .slice ak ks.length ck])) := by
  have hbu2 := hbu
  rw [bulk] at hbu2
  refine ⟨.node s m t ns ks, [.int .i64 s, .int .i64 m, .string t, .slice an ns.length cn, .slice ak ks.length ck], p1, rfl, ?_, hbu, hrd.kept (set5_grown _ _ _ _ _ _ _) (fun k hk => by cases hk; exact hrb), hp1, hp2, grown_into hg (set5_grown _ _ _ _ _ _ _) hr⟩
  exact KidsIn.made (X := X) (hk.kept (set5_grown w1 r _ _ _ _ _) (fun q hq hx => by cases hq; exact (hX _ hx).2 rfl)) rfl (fun b hb => (hX b hb).1) ((hn.kept (Kept.of_grown (set5_grown w1 r _ _ _ _ _) (fun q hq hx => by cases hq; exact hx.2 rfl))).mono (fun b _ hx => hx.1)) hcn (by omega) (by omega) (by omega) (fun s hs => by have := mem_bulkS hs; omega) hs1 hs2 hn1 hn2

end Go.Proofs.YtgmigloafcejdaaGreatDoor

namespace Go.Proofs.YtgmigloafcejdaaGreatDoor
open Go.RowKit

set_option maxRecDepth 100000 in
set_option maxHeartbeats 1000000 in
theorem many_any (w : World) (s0 : ByteArray) (n0 : Nat) (hs : s0.size * n0 ≤ 100) (hs1 : s0.size ≤ 100) (hn : n0 ≤ 100) :
    Calls Tryz.prog 53 #[.string s0, .int .i64 (n0 : Int)] w fun e w' => ∃ t : ByteArray, e = .returned (.string t) ∧ t.size ≤ 100 ∧ w' = w := by
  go_enter Tryz.func53, Tryz.ntmps53
  go_wp2
  go_loopw [0, 1, 5] (fun s n o wr => ∃ (S O : ByteArray) (N : Nat), s = .string S ∧ n = .int .i64 (N : Int) ∧ o = .string O ∧ N ≤ 100 ∧ S.size ≤ 200 ∧ Hid (O.size + S.size * N ≤ 100) ∧ wr = w) (fun _ n _ _ => (intOf n).toNat)
  case atStart => exact ⟨s0, ⟨#[]⟩, n0, rfl, rfl, rfl, hn, by omega, Lib.hid (by show 0 + s0.size * n0 ≤ 100; omega), rfl⟩
  case round =>
    obtain ⟨S, O, N, rfl, rfl, rfl, hN, hS, HO, rfl⟩ := hrel
    have hO : O.size ≤ 100 := by have := HO.out; omega
    by_cases h0 : N = 0
    · subst h0
      go_wp2
      go_ret
      exact ⟨O, rfl, hO, rfl⟩
    have hpos : (0 : Int) < (N : Int) := by omega
    obtain ⟨q, hq⟩ : ∃ q, q = N / 2 := ⟨_, rfl⟩
    have e1 : (N : Int).tdiv 2 = (q : Int) := by rw [Int.tdiv_eq_ediv_of_nonneg (by omega), hq]; simp
    have hqN : q < N := by omega
    have ew : IntKind.i64.wrap (q : Int) = (q : Int) := by rw [IntKind.wrap_i64]; omega
    have hSS : (S ++ S).size = S.size + S.size := by simp
    have hlim : ¬ 9223372036854775807 < S.size + S.size := by omega
    have hOS : (O ++ S).size = O.size + S.size := by simp
    have hlim2 : ¬ 9223372036854775807 < O.size + S.size := by omega
    have HP := Lib.hid (show S.size * (2 * q) = 2 * (S.size * q) from by rw [Nat.mul_left_comm])
    have HP2 := Lib.hid (show (S.size + S.size) * q = 2 * (S.size * q) from by rw [Nat.add_mul]; omega)
    have hSle : S.size ≤ 100 := by
      have h1 := HO.out
      have : S.size * 1 ≤ S.size * N := Nat.mul_le_mul_left _ (by omega)
      omega
    generalize hX : S ++ S = SS at hSS
    generalize hY : O ++ S = OS at hOS
    by_cases hodd : N % 2 = 1
    · have e2 : (N : Int).tmod 2 = 1 := by rw [Int.tmod_eq_emod_of_nonneg (by omega)]; omega
      have HO2 := Lib.hid (show OS.size + SS.size * q ≤ 100 from by
        have h1 := HO.out
        rw [show N = 2 * q + 1 from by omega, Nat.mul_add, Nat.mul_one, HP.out] at h1
        rw [hSS, HP2.out]
        omega)
      clear hq hodd HP HP2
      go_wp2
      go_roundw
      case rel => exact ⟨SS, OS, q, by rw [← hX], by first | rfl | go_num, by rw [← hY], by omega, by omega, HO2, by first | trivial | rfl⟩
      case measure => simp [intOf]; omega
    · have e2 : (N : Int).tmod 2 = 0 := by rw [Int.tmod_eq_emod_of_nonneg (by omega)]; omega
      have HO2 := Lib.hid (show O.size + SS.size * q ≤ 100 from by
        have h1 := HO.out
        rw [show N = 2 * q from by omega, HP.out] at h1
        rw [hSS, HP2.out]
        omega)
      clear hq hodd HP HP2
      go_wp2
      go_roundw
      case rel => exact ⟨SS, O, q, by rw [← hX], by first | rfl | go_num, by first | trivial | rfl, by omega, by omega, HO2, by first | trivial | rfl⟩
      case measure => simp [intOf]; omega

theorem Blk.text {w : World} {b : Nat} {t : TypeId} {L : List ByteArray} (h : Blk w b t (L.map Value.string)) (j : Nat) (hj : j < L.length) : w.cell? ⟨b, j, none⟩ = some (.string (L.getD j ByteArray.empty)) := h.cell (by simp [hj])
theorem info26 : (Tryz.prog.info? 27).map (fun i => (i.zero, i.size, i.bytes)) = some (some (.agg #[.int .i64 0, .int .i64 0, .string ⟨#[]⟩, .slice none 0 0, .slice none 0 0]), 5, 80) := by kernel_rfl
theorem info9z : (Tryz.prog.info? 9).map (fun i => (i.zero, i.size, i.bytes)) = some (some (.string ⟨#[]⟩), 1, 16) := by kernel_rfl

end Go.Proofs.YtgmigloafcejdaaGreatDoor
