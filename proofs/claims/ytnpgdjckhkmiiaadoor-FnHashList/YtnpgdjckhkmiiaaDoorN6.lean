import Derived.Test.YtnpgdjckhkmiiaaDoorN5
namespace Go.Proofs.YtnpgdjckhkmiiaaDoor
open Go.RowKit

theorem differ_of (k t : List Nat) (hk : N8 k) (ht : N8 t) (h : differ k t = true) : macI (toI k) (toI t) ≠ macI (toI (k ++ [33])) (toI t) := by
  intro e
  have hk2 : N8 (k ++ [33]) := hk.app (by intro x hx; simp at hx; omega)
  rw [mac_nat k t hk ht, mac_nat _ t hk2 ht] at e
  have e2 := toI_inj e
  rw [← macF_eq k t hk ht, ← macF_eq _ t hk2 ht] at e2
  have e3 : (macF k t).headD 0 = (macF (k ++ [33]) t).headD 0 := by
    have b32 : ∀ k, N8 k → N32 (macF k t) := fun k hk => by
      have h2 := (key_nat k hk).2
      obtain ⟨_, b1, b2⟩ := comp_nat H0N (padKN (keyN k) 92) rfl H0N_b (padKN_len _ _) (padKN_b _ h2 92 (by decide))
      rw [macF_eq k t hk ht]
      exact sumFrom_b _ 64 _ b1 b2 (outN_b _)
    rw [outN_inj _ _ (b32 k hk) (b32 _ hk2) e2]
  unfold differ at h
  rw [e3] at h
  simp at h

/-- the key's and the text's bytes that can be drawn -/
theorem drawn_differ (n c : Nat) (hn : n ∈ [0, 3, 63, 64, 65, 100]) (hc : c < 40) (l : List Nat) (hl : l = [109] ∨ l = [116, 101, 120, 116]) :
    strI (hexL (macI (repI n [107]) (repI c (toI l)))) ≠ strI (hexL (macI (repI n [107] ++ [33]) (repI c (toI l)))) := by
  intro h
  have hk : N8 (repN n [107]) := repN_b _ (by intro x hx; simp at hx; omega) n
  have hl8 : N8 l := by rcases hl with rfl | rfl <;> (intro x hx; simp at hx; omega)
  have ht : N8 (repN c l) := repN_b l hl8 c
  have e1 : repI n [107] = toI (repN n [107]) := rep_nat [107] n
  have e2 : repI n [107] ++ [33] = toI (repN n [107] ++ [33]) := by rw [toI_app, e1]; rfl
  rw [e2, e1, rep_nat l c] at h
  have h2 := show_inj _ _ (sha_b _) (sha_b _) h
  have htest := List.all_eq_true.1 macTests n hn
  have := List.all_eq_true.1 htest c (List.mem_range.2 hc)
  rw [Bool.and_eq_true] at this
  rcases hl with rfl | rfl
  · exact differ_of _ _ hk ht this.1 h2
  · exact differ_of _ _ hk ht this.2 h2

set_option maxRecDepth 1000000 in
theorem macFox : strI (hexL (macI (bI ⟨#[107, 101, 121]⟩) (bI ⟨#[84, 104, 101, 32, 113, 117, 105, 99, 107, 32, 98, 114, 111, 119, 110, 32, 102, 111, 120, 32, 106, 117, 109, 112, 115, 32, 111, 118, 101, 114, 32, 116, 104, 101, 32, 108, 97, 122, 121, 32, 100, 111, 103]⟩))) = ⟨#[102, 55, 98, 99, 56, 51, 102, 52, 51, 48, 53, 51, 56, 52, 50, 52, 98, 49, 51, 50, 57, 56, 101, 54, 97, 97, 54, 102, 98, 49, 52, 51, 101, 102, 52, 100, 53, 57, 97, 49, 52, 57, 52, 54, 49, 55, 53, 57, 57, 55, 52, 55, 57, 100, 98, 99, 50, 100, 49, 97, 51, 99, 100, 56]⟩ := by kernel_rfl

end Go.Proofs.YtnpgdjckhkmiiaaDoor
