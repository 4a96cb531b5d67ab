/- Readers of credentials: what both lean on. -/
import Derived.Test.YtecekbhkombnnaaGreatDoorGD
import Derived.Test.YtecekbhkombnnaaGreatDoorEA
import Derived.Test.YtecekbhkombnnaaGreatDoorCQ
namespace Go.Proofs.YtecekbhkombnnaaGreatDoor
open Go.RowKit

theorem Row.at {w : World} {base : Nat} {ao : Option Addr} {cn : Nat} {p : ByteArray} {P : List ByteArray} (h : Row w base (.slice ao (p :: P).length cn) (strs (p :: P))) : ∃ g, ao = some ⟨g, 0, none⟩ ∧ base ≤ g ∧ P.length + 1 ≤ cn ∧ ∀ j, j < (p :: P).length → w.cell? ⟨g, j, none⟩ = some (.string ((p :: P).getD j ByteArray.empty)) := by
  rcases h with ⟨-, h2⟩ | ⟨g, cap, hv, hb, -, hl, hc, -⟩
  · simp [strs] at h2
  · injection hv with e1 e2 e3
    subst e1 e3
    refine ⟨g, rfl, hb, by simpa [strs] using hl, fun j hj => ?_⟩
    rw [hc j (by rw [strs_len]; exact hj)]
    simp only [strs, List.getElem?_map, List.getElem?_eq_getElem hj, Option.map_some, List.getD_eq_getElem?_getD, Option.getD_some]
theorem Row.lies2 {w : World} {base n cn : Nat} {an : Option Addr} {ss : List ByteArray} (h : Row w base (.slice an n cn) (strs ss)) : Lies w base an ss := by
  obtain ⟨a, c, h1, h2⟩ := h.lies
  cases h1
  exact h2
theorem six_of (K : List ByteArray) (h : K.length = 6) : ∃ a b c d e f, K = [a, b, c, d, e, f] := by
  match K, h with
  | [a, b, c, d, e, f], _ => exact ⟨a, b, c, d, e, f, rfl⟩
theorem swrite_not (w : World) (text tn sp : ByteArray) (run frm unt : Int) (ao : Option Addr) (cp : Nat) (ls : List ByteArray) (se : ByteArray) (base : Nat) (hl : Lies w base ao ls) (hn : ls.length ≤ 1048576) (hz : ∀ l ∈ ls, l.size ≤ 1048576) (h1 : tn.size ≤ 1048576) (h2 : sp.size ≤ 1048576) (h3 : se.size ≤ 1048576)
    (hr : ∀ a b run frm unt M s, ¬ RdP text a b run frm unt M s) (ht : text.size ≠ 0) : ∃ T : ByteArray, T.toList ≠ text.toList ∧
    Calls Tryz.prog 16 #[.agg #[.string tn, .string sp, .int .i64 run, .int .i64 frm, .int .i64 unt, .slice ao ls.length cp, .string se]] w fun e w' => e = .returned (.string T) ∧ w.grownBy w' none := by
  by_cases hp : CapP tn sp run frm unt ls se
  · obtain ⟨r, rfl⟩ : ∃ m : Nat, run = m := ⟨run.toNat, by have := hp.1.2.2.1; omega⟩
    obtain ⟨f, rfl⟩ : ∃ m : Nat, frm = m := ⟨frm.toNat, by have := hp.2.1.1.1; omega⟩
    obtain ⟨u, rfl⟩ : ∃ m : Nat, unt = m := ⟨unt.toNat, by have := hp.2.1.1.1; have := hp.2.1.2.1; omega⟩
    exact ⟨_, fun e => hr _ _ r f u _ _ ⟨hp, bytes_ext (by rw [← ByteArray.toList_eq, ← ByteArray.toList_eq]; exact e)⟩, swrite_yes w tn sp r f u ao cp ls se base hl hz h1 h2 h3 hp⟩
  · refine ⟨⟨#[]⟩, fun e => ht ?_, swrite_no w tn sp run frm unt ao cp ls se base hl hn hz h1 h2 h3 hp⟩
    have h5 : text.data.toList = (⟨#[]⟩ : ByteArray).data.toList := by rw [← ByteArray.toList_eq, ← ByteArray.toList_eq]; exact e.symm
    have h6 : text = ⟨#[]⟩ := bytes_ext h5
    rw [h6]; rfl
theorem cut_at (w : World) (g1 c1 : Nat) (p : ByteArray) (P : List ByteArray) (hk : ∀ j, j < (p :: P).length → w.cell? ⟨g1, j, none⟩ = some (.string ((p :: P).getD j ByteArray.empty))) (hc : P.length + 1 ≤ c1) : ∃ o1 : Nat, ((c1 = 1 ∧ o1 = 0) ∨ (¬ c1 = 1 ∧ o1 = 1)) ∧ ∀ j u, (strs P)[j]? = some u → w.cell? ((⟨g1, o1, none⟩ : Addr).add j) = some u := by
  by_cases h1 : c1 = 1
  · refine ⟨0, .inl ⟨h1, rfl⟩, fun j u hu => ?_⟩
    have : P.length = 0 := by omega
    rw [List.getElem?_eq_none (by rw [strs_len]; omega)] at hu
    cases hu
  · refine ⟨1, .inr ⟨h1, rfl⟩, fun j u hu => ?_⟩
    have hj : j < P.length := by
      by_cases h : j < P.length
      · exact h
      · rw [List.getElem?_eq_none (by rw [strs_len]; omega)] at hu
        cases hu
    rw [Addr.add_mid, Nat.add_comm, hk (j + 1) (by simp; omega), ← hu]
    simp [strs, hj]
end Go.Proofs.YtecekbhkombnnaaGreatDoor
