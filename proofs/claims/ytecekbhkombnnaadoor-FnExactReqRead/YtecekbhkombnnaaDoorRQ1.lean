/- The words of a text, one by one; a request's words. -/
import Derived.Test.YtecekbhkombnnaaDoorW2
import Derived.Test.YtecekbhkombnnaaDoorNS
namespace Go.Proofs.YtecekbhkombnnaaDoor
open Go.RowKit

/-- what is left of a text behind so many words -/
def restK : Nat → ByteArray → ByteArray
  | 0, p => p
  | n + 1, p => restB 32 (restK n p)
/-- a text's word -/
def wordK (n : Nat) (p : ByteArray) : ByteArray := headB 32 (restK n p)
/-- so many spaces there are -/
def SixW (n : Nat) (p : ByteArray) : Prop := ∀ j, j < n → 0 ≤ atB 32 (restK j p)
theorem restK_size (n : Nat) (p : ByteArray) : (restK n p).size ≤ p.size := by
  induction n with
  | zero => exact Nat.le_refl _
  | succ n ih => exact Nat.le_trans (restB_size 32 (restK n p)) ih
theorem wordK_size (n : Nat) (p : ByteArray) : (wordK n p).size ≤ p.size := Nat.le_trans (headB_size 32 (restK n p)) (restK_size n p)
/-- the name that is written so -/
def namedT (s : ByteArray) : ByteArray := if s.toList = [45] then ⟨#[]⟩ else s
theorem namedT_size (s : ByteArray) : (namedT s).size ≤ s.size := by
  unfold namedT
  split
  · exact Nat.zero_le _
  · exact Nat.le_refl _
/-- the kind ahead of a number whose word this is -/
def kindTo (s : ByteArray) : Nat → Nat
  | 0 => 0
  | k + 1 => if 1 ≤ k ∧ (kindW k).toList = s.toList then k else kindTo s k
theorem kindTo_skip (s : ByteArray) (k : Nat) (h : ¬ (1 ≤ k ∧ (kindW k).toList = s.toList)) : kindTo s (k + 1) = kindTo s k := by
  rw [kindTo, if_neg h]
theorem kindTo_hit (s : ByteArray) (k : Nat) (h1 : 1 ≤ k) (h : (kindW k).toList = s.toList) : kindTo s (k + 1) = k := by
  rw [kindTo, if_pos ⟨h1, h⟩]
theorem kindTo_lt (s : ByteArray) (k : Nat) : kindTo s k ≤ k := by
  induction k with
  | zero => exact Nat.le_refl _
  | succ k ih =>
    rw [kindTo]
    split <;> omega
theorem kinds_apart : ((List.range 11).all fun i => (List.range 11).all fun j => decide (i = 0 ∨ j = 0 ∨ i = j ∨ (kindW i).data.toList ≠ (kindW j).data.toList)) = true := by decide +kernel
theorem kindW_inj (i j : Nat) (hi : 1 ≤ i) (hi2 : i < 11) (hj : 1 ≤ j) (hj2 : j < 11) (h : (kindW i).toList = (kindW j).toList) : i = j := by
  have h1 := List.all_eq_true.1 kinds_apart i (by simp; omega)
  have h2 := List.all_eq_true.1 h1 j (by simp; omega)
  have h3 := of_decide_eq_true h2
  rw [ByteArray.toList_eq, ByteArray.toList_eq] at h
  rcases h3 with h3 | h3 | h3 | h3
  · omega
  · omega
  · exact h3
  · exact absurd h h3
theorem kindTo_none (s : ByteArray) (n : Nat) (h : ∀ j, 1 ≤ j → j < n → (kindW j).toList ≠ s.toList) : kindTo s n = 0 := by
  induction n with
  | zero => rfl
  | succ n ih =>
    rw [kindTo_skip s n (fun hh => h n hh.1 (by omega) hh.2)]
    exact ih fun j h1 h2 => h j h1 (by omega)
theorem kindTo_some (s : ByteArray) (m : Nat) (h1 : 1 ≤ m) (h : (kindW m).toList = s.toList) : ∀ n, m < n → n ≤ 11 → kindTo s n = m := by
  intro n
  induction n with
  | zero => intro h2; omega
  | succ n ih =>
    intro h2 h3
    by_cases e : n = m
    · subst e
      exact kindTo_hit s n h1 h
    · rw [kindTo_skip s n (fun hh => e (kindW_inj n m hh.1 (by omega) h1 (by omega) (hh.2.trans h.symm)))]
      exact ih (by omega) (by omega)
theorem kinds_free : ((List.range 11).all fun i => decide ((32 : UInt8) ∉ (kindW i).data.toList)) = true := by decide +kernel
theorem kindW_free (m : Nat) (h : m < 11) : Free 32 (kindW m) := of_decide_eq_true (p := (32 : UInt8) ∉ (kindW m).data.toList) (List.all_eq_true.1 kinds_free m (by simp; omega))
theorem name_free (c : UInt8) (hc : c.toNat < 48) (s : ByteArray) (h : NameOk s) : Free c s := by
  rw [free_iff]
  refine atB_no c s fun j hj e => ?_
  rcases h.2.2 j hj with h2 | h2
  · have := h2.1; omega
  · have := h2.1.1; omega
theorem word_free (s : ByteArray) (h : NameE s) : Free 32 (wordT s) := by
  unfold wordT
  rcases h with h | h
  · rw [if_pos h]; unfold Free; decide
  · rw [if_neg (by have := h.1; omega)]
    exact name_free 32 (by decide) s h
theorem named_word (s : ByteArray) (h : NameE s) : namedT (wordT s) = s := by
  unfold wordT
  rcases h with h | h
  · rw [if_pos h]
    unfold namedT
    rw [if_pos (by rw [ByteArray.toList_eq])]
    apply bytes_ext
    have hl : s.data.toList.length = s.size := by simp
    exact (List.eq_nil_of_length_eq_zero (by omega)).symm
  · rw [if_neg (by have := h.1; omega)]
    unfold namedT
    rw [if_neg]
    intro e
    rw [ByteArray.toList_eq] at e
    have h0 : 0 < s.size := h.1
    have h2 := dataB_get s 0 h0
    rw [e] at h2
    have h3 : s[0] = (45 : UInt8) := (Option.some.inj h2).symm
    rcases h.2.2 0 h0 with h4 | h4
    · have h5 := h4.1
      rw [h3] at h5
      exact absurd h5 (by decide)
    · exact absurd h4.2 (by omega)
theorem write_assoc (m : Nat) (tn us sp : ByteArray) (run num : Nat) (tx : ByteArray) : writeT m tn us sp run num tx = kindW m ++ ⟨#[32]⟩ ++ (wordT tn ++ ⟨#[32]⟩ ++ (wordT us ++ ⟨#[32]⟩ ++ (wordT sp ++ ⟨#[32]⟩ ++ (decS run ++ ⟨#[32]⟩ ++ (decS num ++ ⟨#[32]⟩ ++ tx))))) := by
  unfold writeT
  simp only [ByteArray.append_assoc]
/-- what is read of a request that was written -/
theorem words_write (text : ByteArray) (m : Nat) (tn us sp : ByteArray) (run num : Nat) (tx : ByteArray) (hp : ReqP m tn us sp run num tx) (e : writeT m tn us sp run num tx = text) :
    SixW 6 text ∧ kindTo (wordK 0 text) 11 = m ∧ namedT (wordK 1 text) = tn ∧ namedT (wordK 2 text) = us ∧ namedT (wordK 3 text) = sp ∧ wordK 4 text = decI (run : Int) ∧ wordK 5 text = decI (num : Int) ∧ restK 6 text = tx := by
  have hm1 := hp.2.2.2.1.1
  have hm2 := hp.2.2.2.1.2
  have f0 := kindW_free m (by omega)
  have f1 := word_free tn hp.1
  have f2 := word_free us hp.2.1
  have f3 := word_free sp hp.2.2.1
  have f4 : Free 32 (decS run) := decN_free 32 (by decide) run
  have f5 : Free 32 (decS num) := decN_free 32 (by decide) num
  rw [write_assoc] at e
  have r0 : restK 0 text = _ := e.symm
  have a0 := atB_app 32 _ (wordT tn ++ ⟨#[32]⟩ ++ (wordT us ++ ⟨#[32]⟩ ++ (wordT sp ++ ⟨#[32]⟩ ++ (decS run ++ ⟨#[32]⟩ ++ (decS num ++ ⟨#[32]⟩ ++ tx))))) f0
  have h0 := headB_app 32 _ (wordT tn ++ ⟨#[32]⟩ ++ (wordT us ++ ⟨#[32]⟩ ++ (wordT sp ++ ⟨#[32]⟩ ++ (decS run ++ ⟨#[32]⟩ ++ (decS num ++ ⟨#[32]⟩ ++ tx))))) f0
  have r1 : restK 1 text = _ := (congrArg (restB 32) r0).trans (restB_app 32 _ _ f0)
  have a1 := atB_app 32 _ (wordT us ++ ⟨#[32]⟩ ++ (wordT sp ++ ⟨#[32]⟩ ++ (decS run ++ ⟨#[32]⟩ ++ (decS num ++ ⟨#[32]⟩ ++ tx)))) f1
  have h1 := headB_app 32 _ (wordT us ++ ⟨#[32]⟩ ++ (wordT sp ++ ⟨#[32]⟩ ++ (decS run ++ ⟨#[32]⟩ ++ (decS num ++ ⟨#[32]⟩ ++ tx)))) f1
  have r2 : restK 2 text = _ := (congrArg (restB 32) r1).trans (restB_app 32 _ _ f1)
  have a2 := atB_app 32 _ (wordT sp ++ ⟨#[32]⟩ ++ (decS run ++ ⟨#[32]⟩ ++ (decS num ++ ⟨#[32]⟩ ++ tx))) f2
  have h2 := headB_app 32 _ (wordT sp ++ ⟨#[32]⟩ ++ (decS run ++ ⟨#[32]⟩ ++ (decS num ++ ⟨#[32]⟩ ++ tx))) f2
  have r3 : restK 3 text = _ := (congrArg (restB 32) r2).trans (restB_app 32 _ _ f2)
  have a3 := atB_app 32 _ (decS run ++ ⟨#[32]⟩ ++ (decS num ++ ⟨#[32]⟩ ++ tx)) f3
  have h3 := headB_app 32 _ (decS run ++ ⟨#[32]⟩ ++ (decS num ++ ⟨#[32]⟩ ++ tx)) f3
  have r4 : restK 4 text = _ := (congrArg (restB 32) r3).trans (restB_app 32 _ _ f3)
  have a4 := atB_app 32 _ (decS num ++ ⟨#[32]⟩ ++ tx) f4
  have h4 := headB_app 32 _ (decS num ++ ⟨#[32]⟩ ++ tx) f4
  have r5 : restK 5 text = _ := (congrArg (restB 32) r4).trans (restB_app 32 _ _ f4)
  have a5 := atB_app 32 _ tx f5
  have h5 := headB_app 32 _ tx f5
  have r6 : restK 6 text = _ := (congrArg (restB 32) r5).trans (restB_app 32 _ _ f5)
  rw [← r0] at a0 h0
  rw [← r1] at a1 h1
  rw [← r2] at a2 h2
  rw [← r3] at a3 h3
  rw [← r4] at a4 h4
  rw [← r5] at a5 h5
  refine ⟨?_, ?_, ?_, ?_, ?_, ?_, ?_, r6⟩
  · intro j hj
    have h6 : j = 0 ∨ j = 1 ∨ j = 2 ∨ j = 3 ∨ j = 4 ∨ j = 5 := by omega
    rcases h6 with rfl | rfl | rfl | rfl | rfl | rfl <;> omega
  · rw [show wordK 0 text = _ from h0]
    exact kindTo_some _ m (by omega) rfl 11 (by omega) (Nat.le_refl _)
  · rw [show wordK 1 text = _ from h1]; exact named_word tn hp.1
  · rw [show wordK 2 text = _ from h2]; exact named_word us hp.2.1
  · rw [show wordK 3 text = _ from h3]; exact named_word sp hp.2.2.1
  · rw [show wordK 4 text = _ from h4, decI_nat]; rfl
  · rw [show wordK 5 text = _ from h5, decI_nat]; rfl
/-- a text that a request was written into -/
def ReadT (text : ByteArray) : Prop := ∃ (m : Nat) (tn us sp : ByteArray) (run num : Nat) (tx : ByteArray), ReqP m tn us sp run num tx ∧ writeT m tn us sp run num tx = text
/-- how a reading ends -/
def RRes (text : ByteArray) (e : Ending) : Prop :=
  (∃ (m : Nat) (tn us sp : ByteArray) (run num : Nat) (tx : ByteArray), ReqP m tn us sp run num tx ∧ writeT m tn us sp run num tx = text ∧ e = .returned (.tuple #[.agg #[.int .i64 (m : Int), .string tn, .string us, .string sp, .int .i64 (run : Int), .int .i64 (num : Int), .string tx], .bool true])) ∨
  (¬ ReadT text ∧ e = .returned (.tuple #[.agg #[.int .i64 0, .string ⟨#[]⟩, .string ⟨#[]⟩, .string ⟨#[]⟩, .int .i64 0, .int .i64 0, .string ⟨#[]⟩], .bool false]))
theorem RRes.both {text : ByteArray} {e1 e2 : Ending} (h1 : RRes text e1) (h2 : RRes text e2) : e1 = e2 := by
  rcases h1 with ⟨m, tn, us, sp, run, num, tx, hp, hw, rfl⟩ | ⟨hn, rfl⟩
  · rcases h2 with ⟨m2, tn2, us2, sp2, run2, num2, tx2, hp2, hw2, rfl⟩ | ⟨hn2, -⟩
    · obtain ⟨-, b0, b1, b2, b3, b4, b5, b6⟩ := words_write text m tn us sp run num tx hp hw
      obtain ⟨-, c0, c1, c2, c3, c4, c5, c6⟩ := words_write text m2 tn2 us2 sp2 run2 num2 tx2 hp2 hw2
      have r1 := hp.2.2.2.2.1.2
      have r2 := hp2.2.2.2.2.1.2
      have r3 := hp.2.2.2.2.2.1.2
      have r4 := hp2.2.2.2.2.2.1.2
      have e1 : (run : Int) = run2 := decI_inj (by omega) (by omega) (by omega) (by omega) (b4.symm.trans c4)
      have e2 : (num : Int) = num2 := decI_inj (by omega) (by omega) (by omega) (by omega) (b5.symm.trans c5)
      rw [e1, e2, ← b0, ← b1, ← b2, ← b3, ← b6, c0, c1, c2, c3, c6]
    · exact absurd ⟨m, tn, us, sp, run, num, tx, hp, hw⟩ hn2
  · rcases h2 with ⟨m2, tn2, us2, sp2, run2, num2, tx2, hp2, hw2, -⟩ | ⟨-, rfl⟩
    · exact absurd ⟨m2, tn2, us2, sp2, run2, num2, tx2, hp2, hw2⟩ hn
    · rfl
/-- what was taken of a text, written again -/
def SText (kd : Int) (tn us sp : ByteArray) (run num : Int) (tx S : ByteArray) : Prop :=
  (∃ m r n : Nat, kd = m ∧ run = r ∧ num = n ∧ ReqP kd tn us sp run num tx ∧ S = writeT m tn us sp r n tx) ∨ (¬ ReqP kd tn us sp run num tx ∧ S = ⟨#[]⟩)
/-- taken: it is written so -/
theorem rres_yes {text : ByteArray} {kd : Int} {tn us sp : ByteArray} {run num : Int} {tx S : ByteArray} (hs : SText kd tn us sp run num tx S) (h0 : 0 < text.size) (h : S.toList = text.toList) :
    RRes text (.returned (.tuple #[.agg #[.int .i64 kd, .string tn, .string us, .string sp, .int .i64 run, .int .i64 num, .string tx], .bool true])) := by
  rw [ByteArray.toList_eq, ByteArray.toList_eq] at h
  have h := bytes_ext h
  rcases hs with ⟨m, r, n, rfl, rfl, rfl, hp, rfl⟩ | ⟨-, rfl⟩
  · exact .inl ⟨m, tn, us, sp, r, n, tx, hp, h, rfl⟩
  · rw [← h] at h0
    exact absurd h0 (by decide)
/-- not taken: no request is written so -/
theorem rres_no {text : ByteArray} {kd : Int} {run num : Int} {S : ByteArray} (hs : SText kd (namedT (wordK 1 text)) (namedT (wordK 2 text)) (namedT (wordK 3 text)) run num (restK 6 text) S) (hk : kd = (kindTo (wordK 0 text) 11 : Nat))
    (hr : ∀ r : Nat, r ≤ 9999 → wordK 4 text = decI (r : Int) → run = r) (hn : ∀ r : Nat, r ≤ 999999 → wordK 5 text = decI (r : Int) → num = r) (h : S.toList ≠ text.toList) : ¬ ReadT text := by
  rintro ⟨m, tn, us, sp, r, n, tx, hp, hw⟩
  obtain ⟨-, b0, b1, b2, b3, b4, b5, b6⟩ := words_write text m tn us sp r n tx hp hw
  have e1 := hr r (by have := hp.2.2.2.2.1.2; omega) b4
  have e2 := hn n (by have := hp.2.2.2.2.2.1.2; omega) b5
  rw [b0] at hk
  rw [b1, b2, b3, b6, hk, e1, e2] at hs
  refine h ?_
  rcases hs with ⟨m', r', n', k1, k2, k3, -, rfl⟩ | ⟨hq, -⟩
  · have k1' : m' = m := by omega
    have k2' : r' = r := by omega
    have k3' : n' = n := by omega
    rw [k1', k2', k3', hw]
  · exact absurd hp hq
theorem rres_none {text : ByteArray} (h : ¬ ReadT text) : RRes text (.returned (.tuple #[.agg #[.int .i64 0, .string ⟨#[]⟩, .string ⟨#[]⟩, .string ⟨#[]⟩, .int .i64 0, .int .i64 0, .string ⟨#[]⟩], .bool false])) := .inr ⟨h, rfl⟩
end Go.Proofs.YtecekbhkombnnaaDoor
