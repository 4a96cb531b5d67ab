/- What a reader of credentials answers: plain facts. -/
import Derived.Test.YtecekbhkombnnaaGreatDoorGC
import Derived.Test.YtecekbhkombnnaaGreatDoorNM
namespace Go.Proofs.YtecekbhkombnnaaGreatDoor
open Go.RowKit

/-- a text is just that of this credential -/
def RdP (text a b : ByteArray) (run frm unt : Nat) (M : List ByteArray) (s : ByteArray) : Prop := CapP a b run frm unt M s ∧ capTo a b run frm unt M s M.length = text
/-- the answer to a text -/
def ReadX (text a b : ByteArray) (r f u : Int) (s : ByteArray) (t : Bool) (M : List ByteArray) : Prop := (∃ run frm unt : Nat, r = run ∧ f = frm ∧ u = unt ∧ RdP text a b run frm unt M s ∧ t = true) ∨ ((∀ a b run frm unt M s, ¬ RdP text a b run frm unt M s) ∧ a = ⟨#[]⟩ ∧ b = ⟨#[]⟩ ∧ r = 0 ∧ f = 0 ∧ u = 0 ∧ s = ⟨#[]⟩ ∧ t = false ∧ M = [])
theorem read_ex (text : ByteArray) : ∃ (a b : ByteArray) (r f u : Int) (s : ByteArray) (t : Bool) (M : List ByteArray), ReadX text a b r f u s t M := by
  by_cases h : ∃ a b run frm unt M s, RdP text a b run frm unt M s
  · obtain ⟨a, b, run, frm, unt, M, s, hr⟩ := h
    exact ⟨a, b, run, frm, unt, s, true, M, .inl ⟨run, frm, unt, rfl, rfl, rfl, hr, rfl⟩⟩
  · exact ⟨_, _, _, _, _, _, _, _, .inr ⟨fun a b run frm unt M s hr => h ⟨a, b, run, frm, unt, M, s, hr⟩, rfl, rfl, rfl, rfl, rfl, rfl, rfl, rfl⟩⟩
theorem ReadX.four {text a b : ByteArray} {r f u : Int} {s : ByteArray} {t : Bool} {M : List ByteArray} (h : ReadX text a b r f u s t M) : M.length ≤ 4 := by
  rcases h with ⟨run, frm, unt, -, -, -, hr, -⟩ | ⟨-, -, -, -, -, -, -, -, rfl⟩
  · exact hr.1.2.2.1
  · simp
/-- six words have five spaces -/
theorem six_size (c : UInt8) (K : List ByteArray) (h6 : K.length = 6) : 5 ≤ (joinB c K).size := by
  cases K with
  | nil => simp at h6
  | cons p K => have := joinB_len c (p :: K) p (by simp); omega
theorem pieces_size (c : UInt8) (p : ByteArray) (P : List ByteArray) : p.size ≤ (joinB c (p :: P)).size ∧ P.length ≤ (joinB c (p :: P)).size ∧ ∀ q ∈ P, q.size ≤ (joinB c (p :: P)).size := by
  have h1 := joinB_len c (p :: P) p (by simp)
  simp only [List.length_cons] at h1
  refine ⟨by omega, by omega, fun q hq => ?_⟩
  have h2 := joinB_len c (p :: P) q (List.mem_cons_of_mem _ hq)
  simp only [List.length_cons] at h2
  omega
/-- a text that is a credential's: its pieces, its words -/
theorem read_yes {text a b : ByteArray} {run frm unt : Nat} {M : List ByteArray} {s : ByteArray} (h : RdP text a b run frm unt M s) {p : ByteArray} {P K : List ByteArray} (h2 : ∀ q ∈ p :: P, Free 59 q) (h3 : joinB 59 (p :: P) = text) (k1 : K ≠ []) (k2 : ∀ q ∈ K, Free 32 q) (k3 : joinB 32 K = p) : P = M ∧ K = [a, b, decS run, decS frm, decS unt, s] := by
  obtain ⟨hp, ht⟩ := h
  have e := read_pieces hp (p :: P) (by simp) h2 (h3.trans ht.symm)
  obtain ⟨e1, e2⟩ := List.cons.inj e
  exact ⟨e2, read_words hp K k1 k2 (k3.trans e1)⟩
end Go.Proofs.YtecekbhkombnnaaGreatDoor
