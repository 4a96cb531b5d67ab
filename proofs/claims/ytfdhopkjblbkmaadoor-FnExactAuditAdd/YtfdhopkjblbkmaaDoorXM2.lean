import Derived.Test.YtfdhopkjblbkmaaDoorXM1
import Derived.Deep.CutRange
import Derived.Deep.RegionWith
namespace Go.Proofs.YtfdhopkjblbkmaaDoor
open Go.RowKit

theorem conv_row (W : World) (M : List Int) (hM : B8 M) (n : Nat) (hn : M.length = n) (g cap : Nat) (hc : ∀ j, j < n → W.cell? ⟨g, j, none⟩ = some (.int .u8 (M.getD j 0))) :
    (convert 67 9 (.slice (some ⟨g, 0, none⟩) n cap)).run Tryd.prog W = .ok (.string (strI M)) W := by
  have hcells : ∀ j (hj : j < (toB M).length), W.cell? ((⟨g, 0, none⟩ : Addr).add j) = some (.int .u8 ((toB M)[j].toNat : Int)) := fun j hj => by
    have hj' : j < M.length := by rwa [toB_len] at hj
    rw [Addr.add_mid, Nat.zero_add, toB_get M hM j hj]
    exact hc j (by omega)
  have hcv := run_convert_bytes_back (P := Tryd.prog) W 67 9 5 ⟨g, 0, none⟩ cap (toB M) Tryd.underlying67 Tryd.underlying5 Tryd.underlying9 hcells
  rw [toB_len, hn] at hcv
  exact hcv

theorem hashBytes_two (W : World) (hw : Tabs W) (a b : ByteArray) (ha : a.size ≤ 4194304) (hb : b.size ≤ 4194304) :
    Calls Tryd.prog 56 #[.slice (some ⟨W.heap.size, 0, none⟩) 2 2] (W.alloc (.cells #[.string a, .string b] 9)) fun e w' => ∃ g cap, e = .returned (.slice (some ⟨g, 0, none⟩) 32 cap) ∧ Hid (∀ j, j < 32 → w'.cell? ⟨g, j, none⟩ = some (.int .u8 ((sha (bI a ++ bI b)).getD j 0))) ∧ Hid (W.grownBy w' none) := by
  refine (hashBytes_any (W.alloc (.cells #[.string a, .string b] 9)) (hw.grown (World.grownBy_alloc W _ none)) [a, b] W.heap.size 2 (fun j hj => ?_) ?_ (by simp)).mono ?_
  · have hj' : j < 2 := hj
    have hb := Blk.new W 9 [.string a, .string b]
    obtain rfl | rfl : j = 0 ∨ j = 1 := by omega
    · exact hb.cell rfl
    · exact hb.cell rfl
  · simp [catI, bI_len]; omega
  rintro e w1 ⟨g, cap, rfl, _, hc, hg⟩
  refine ⟨g, cap, rfl, Lib.hid fun j hj => ?_, Lib.hid (grown_trans (World.grownBy_alloc W _ none) hg)⟩
  have := hc j hj
  simpa [catI] using this

theorem hashShow32 (W : World) (L : List Int) (hL : B8 L) (hl : L.length = 32) (g cap : Nat) (hc : ∀ j, j < 32 → W.cell? ⟨g, j, none⟩ = some (.int .u8 (L.getD j 0))) :
    Calls Tryd.prog 55 #[.slice (some ⟨g, 0, none⟩) 32 cap] W fun e w' => e = .returned (.string (strI (hexL L))) ∧ W.grownBy w' none := by
  have h := hashShow_walk W L hL (by omega) g cap (fun j hj => hc j (by omega)) (by omega) (by omega)
  rw [hl] at h
  exact h

/-- the key as it is laid into its block -/
def keyI (k : List Int) : List Int := if 64 < k.length then sha k else k
def macI (k m : List Int) : List Int := sha (padK (keyI k) 92 ++ sha (padK (keyI k) 54 ++ m))

end Go.Proofs.YtfdhopkjblbkmaaDoor

namespace Go.Proofs.YtfdhopkjblbkmaaDoor
open Go.RowKit

/-- the key as the document's model lays it into its block -/
def keyS (k : List Int) : List Int := if 64 < k.length then shaS k else k
def macS (k m : List Int) : List Int := shaS (padK (keyS k) 92 ++ shaS (padK (keyS k) 54 ++ m))
theorem shaS_b (m : List Int) : B8 (shaS m) := out4_b _
theorem bI_app (a b : ByteArray) : bI (a ++ b) = bI a ++ bI b := by simp [bI]

end Go.Proofs.YtfdhopkjblbkmaaDoor

namespace Go.Proofs.YtfdhopkjblbkmaaDoor
open Go.RowKit

theorem B8.app {a b : List Int} (ha : B8 a) (hb : B8 b) : B8 (a ++ b) := fun x hx => by
  rcases List.mem_append.1 hx with h | h
  · exact ha x h
  · exact hb x h
theorem key_same (k : List Int) (hk : B8 k) : keyS k = keyI k := by unfold keyS keyI; rw [sha_same k hk]
theorem key_b (k : List Int) (hk : B8 k) : B8 (keyI k) := by
  unfold keyI; split
  · exact sha_b k
  · exact hk
theorem mac_same (k m : List Int) (hk : B8 k) (hm : B8 m) : macS k m = macI k m := by
  have h5 : B8 (padK (keyI k) 54) := maskT_b _ (key_b k hk) 54 (by decide) (by decide) 64
  have h9 : B8 (padK (keyI k) 92) := maskT_b _ (key_b k hk) 92 (by decide) (by decide) 64
  unfold macS macI
  rw [key_same k hk, sha_same _ (B8.app h5 hm), sha_same _ (B8.app h9 (sha_b _))]

end Go.Proofs.YtfdhopkjblbkmaaDoor
