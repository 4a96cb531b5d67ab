/- A credential's text, cut at its two bytes: plain facts. -/
import Derived.Test.YtecekbhkombnnaaGreatDoorDJ
import Derived.Test.YtecekbhkombnnaaGreatDoorCQ
namespace Go.Proofs.YtecekbhkombnnaaGreatDoor
open Go.RowKit

theorem joinB_head (c : UInt8) (a b : ByteArray) (L : List ByteArray) : joinB c ((a ++ ⟨#[c]⟩ ++ b) :: L) = a ++ ⟨#[c]⟩ ++ joinB c (b :: L) := by
  cases L with
  | nil => rfl
  | cons q r =>
    rw [joinB_cons c _ (q :: r) (by simp), joinB_cons c b (q :: r) (by simp)]
    simp only [ByteArray.append_assoc]
theorem fold_join (c : UInt8) : ∀ (ls : List ByteArray) (X : ByteArray), ls.foldl (fun t l => (t ++ ⟨#[c]⟩) ++ l) X = joinB c (X :: ls)
  | [], _ => rfl
  | l :: ls, X => by
    show ls.foldl (fun t l => (t ++ ⟨#[c]⟩) ++ l) ((X ++ ⟨#[c]⟩) ++ l) = _
    rw [fold_join c ls, joinB_head c X l ls]
    rfl
theorem capTo_join (tn sp : ByteArray) (run frm unt : Nat) (ls : List ByteArray) (se : ByteArray) : capTo tn sp run frm unt ls se ls.length = joinB 59 (((headC tn sp run frm unt ++ ⟨#[32]⟩) ++ se) :: ls) := by
  unfold capTo
  rw [List.take_length]
  exact fold_join 59 ls _
theorem head_join (tn sp : ByteArray) (run frm unt : Nat) (se : ByteArray) : (headC tn sp run frm unt ++ ⟨#[32]⟩) ++ se = joinB 32 [tn, sp, decS run, decS frm, decS unt, se] := by
  simp only [joinB, headC, ByteArray.append_assoc]
theorem free_app (c d : UInt8) (h : c ≠ d) (a b : ByteArray) (ha : Free c a) (hb : Free c b) : Free c (a ++ ⟨#[d]⟩ ++ b) := by
  unfold Free at *
  rw [app_data]
  intro hm
  rcases List.mem_append.1 hm with h1 | h1
  · exact ha h1
  · rcases List.mem_cons.1 h1 with h2 | h2
    · exact h h2
    · exact hb h2
theorem free_of (c : UInt8) (s : ByteArray) (h : ∀ j (hj : j < s.size), s[j].toNat ≠ c.toNat) : Free c s := (free_iff c s).2 (atB_no c s h)
theorem nameC_free (c : UInt8) (hc : c.toNat < 48 ∨ (57 < c.toNat ∧ c.toNat < 65)) (s : ByteArray) (h : NameOk s) : Free c s := free_of c s (fun j hj e => by
  have h1 := h.2.2 j hj
  unfold Letter Figure at h1
  rw [e] at h1
  omega)
theorem sealC_free (c : UInt8) (hc : c.toNat < 48 ∨ (57 < c.toNat ∧ c.toNat < 65)) (s : ByteArray) (h : SealP s) : Free c s := free_of c s (fun j hj e => by
  have h1 := h.2 j hj
  unfold HexB at h1
  rw [e] at h1
  omega)
theorem rest_free (c d : UInt8) (h : c ≠ d) (s : ByteArray) (h1 : Free c (headB d s)) (h2 : Free c (restB d s)) : Free c s := by
  by_cases h0 : 0 ≤ atB d s
  · rw [cutB_join d s h0]
    exact free_app c d h _ _ h1 h2
  · have h3 : atB d s = -1 := by have := atB_ge d s; omega
    rw [headB_none d s h3] at h1
    exact h1
theorem lim_free (l : ByteArray) (h : LimP l) : Free 59 l := by
  rcases h with ⟨n, h1, h2, h3, h4⟩ | ⟨h1, h2⟩
  · refine rest_free 59 32 (by decide) l ?_ ?_
    · unfold Free
      rw [← ByteArray.toList_eq, h1]
      decide
    · rw [h2]
      obtain ⟨m, rfl⟩ : ∃ m : Nat, n = m := ⟨n.toNat, by omega⟩
      exact decN_free 59 (by decide) m
  · refine rest_free 59 32 (by decide) l ?_ ?_
    · unfold Free
      rw [← ByteArray.toList_eq, h1]
      decide
    · exact rest_free 59 46 (by decide) _ (nameC_free 59 (by decide) _ h2.2.1) (nameC_free 59 (by decide) _ h2.2.2)
theorem joinB_free (c d : UInt8) (h : c ≠ d) : ∀ L : List ByteArray, (∀ p ∈ L, Free c p) → Free c (joinB d L)
  | [], _ => by unfold Free; simp [joinB]
  | [p], h1 => h1 p (by simp)
  | p :: q :: L, h1 => free_app c d h _ _ (h1 p (by simp)) (joinB_free c d h (q :: L) (fun x hx => h1 x (List.mem_cons_of_mem _ hx)))
theorem words_free (c : UInt8) (hc : c.toNat < 48 ∨ (57 < c.toNat ∧ c.toNat < 65)) {tn sp : ByteArray} {run frm unt : Nat} {ls : List ByteArray} {se : ByteArray} (hp : CapP tn sp run frm unt ls se) : ∀ p ∈ [tn, sp, decS run, decS frm, decS unt, se], Free c p := by
  have hd : c.toNat < 48 ∨ 57 < c.toNat := by omega
  intro p h
  simp at h
  rcases h with rfl | rfl | rfl | rfl | rfl | rfl
  · exact nameC_free c hc _ hp.1.1
  · exact nameC_free c hc _ hp.1.2.1
  · exact decN_free c hd _
  · exact decN_free c hd _
  · exact decN_free c hd _
  · exact sealC_free c hc _ hp.2.2.2.2
/-- the pieces of a credential's text -/
theorem read_pieces {tn sp : ByteArray} {run frm unt : Nat} {ls : List ByteArray} {se : ByteArray} (hp : CapP tn sp run frm unt ls se) (L : List ByteArray) (h1 : L ≠ []) (h2 : ∀ p ∈ L, Free 59 p) (h3 : joinB 59 L = capTo tn sp run frm unt ls se ls.length) : L = joinB 32 [tn, sp, decS run, decS frm, decS unt, se] :: ls := by
  refine joinB_inj 59 L _ h1 (by simp) h2 (fun p hm => ?_) (by rw [h3, capTo_join, head_join])
  rcases List.mem_cons.1 hm with h | h
  · rw [h]
    exact joinB_free 59 32 (by decide) _ (words_free 59 (by decide) hp)
  · exact lim_free p (hp.2.2.2.1 p h)
/-- the words of its first piece -/
theorem read_words {tn sp : ByteArray} {run frm unt : Nat} {ls : List ByteArray} {se : ByteArray} (hp : CapP tn sp run frm unt ls se) (L : List ByteArray) (h1 : L ≠ []) (h2 : ∀ p ∈ L, Free 32 p) (h3 : joinB 32 L = joinB 32 [tn, sp, decS run, decS frm, decS unt, se]) : L = [tn, sp, decS run, decS frm, decS unt, se] :=
  joinB_inj 32 L _ h1 (by simp) h2 (words_free 32 (by decide) hp) h3
end Go.Proofs.YtecekbhkombnnaaGreatDoor
