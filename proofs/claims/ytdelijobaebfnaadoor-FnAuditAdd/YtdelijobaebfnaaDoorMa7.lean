import Derived.Test.YtdelijobaebfnaaDoorXE1
import Derived.Lib.BufferWrite
import Derived.Deep.CutRange
import Derived.Deep.RegionWith
namespace Go.Proofs.YtdelijobaebfnaaDoor
open Go.RowKit

/-- a key's block: its bytes and noughts behind them, each under the mask -/
def maskT (k : List Int) (mk : Int) (n : Nat) : List Int := (List.range n).map fun j => bits .xor .u8 (k.getD j 0) mk
def padK (k : List Int) (mk : Int) : List Int := maskT k mk 64
theorem maskT_succ (k : List Int) (mk : Int) (n : Nat) : maskT k mk (n + 1) = maskT k mk n ++ [bits .xor .u8 (k.getD n 0) mk] := by
  unfold maskT; rw [List.range_succ, List.map_append]; rfl
theorem maskT_len (k : List Int) (mk : Int) (n : Nat) : (maskT k mk n).length = n := by simp [maskT]
theorem padK_len (k : List Int) (mk : Int) : (padK k mk).length = 64 := maskT_len k mk 64
theorem maskT_b (k : List Int) (hk : B8 k) (mk : Int) (h0 : 0 ≤ mk) (h1 : mk < 256) (n : Nat) : B8 (maskT k mk n) := fun x hx => by
  obtain ⟨j, _, rfl⟩ := List.mem_map.1 hx
  have hb : 0 ≤ k.getD j 0 ∧ k.getD j 0 < 256 := by
    by_cases hj : j < k.length
    · have := hk k[j] (List.getElem_mem hj); simpa [hj] using this
    · have : k[j]? = none := List.getElem?_eq_none (by omega)
      simp [this]
  rw [u8_xor _ _ hb.1 hb.2 h0 h1]
  have : (k.getD j 0).toNat ^^^ mk.toNat < 2 ^ 8 := Nat.xor_lt_two_pow (by omega) (by omega)
  omega

theorem mask_step (m : List Int) (mk : Int) (L : List Int) (k : Nat) (hk : k < L.length) : (u8s (maskT m mk k ++ L.drop k)).set k (.int .u8 (bits .xor .u8 (m.getD k 0) mk)) = u8s (maskT m mk (k + 1) ++ L.drop (k + 1)) := by
  rw [maskT_succ, List.drop_eq_getElem_cons hk]
  unfold u8s
  rw [← List.map_set, List.set_append_right _ _ (by rw [maskT_len]; omega), maskT_len, Nat.sub_self, List.set_cons_zero]
  simp
/-- the world behind 'copy' of a string into a block of 64 noughts -/
def padW (w : World) (s : ByteArray) : World := (w.alloc (.cells (u8s (List.replicate 64 0)).toArray 95)).setRow w.heap.size (u8s (bI s ++ List.replicate (64 - s.size) 0)).toArray
theorem padL (n : Nat) (s : ByteArray) : (u8s (List.replicate n 0)).toArray.toList.take 0 ++ Lib.byteCells s.data.toList ++ (u8s (List.replicate n 0)).toArray.toList.drop (0 + s.size) = u8s (bI s ++ List.replicate (n - s.size) 0) := by
  simp [Lib.byteCells, bI, u8s, List.map_replicate, List.drop_replicate]
theorem run_padW (w : World) (s : ByteArray) (hs : s.size ≤ 64) : (Builtin.copy_ #[22, 9] 3 #[.slice (some ⟨w.heap.size, 0, none⟩) 64 64, .string s]).run Tryd.prog (w.alloc (.cells (u8s (List.replicate 64 0)).toArray 95)) = .ok (goInt s.size) (padW w s) := by
  have hrun := Lib.run_copy_row_string (P := Tryd.prog) (w.alloc (.cells (u8s (List.replicate 64 0)).toArray 95)) 22 9 3 5 w.heap.size 0 64 64 s (u8s (List.replicate 64 0)).toArray 95 Tryd.underlying22 (by kernel_rfl) (Blk.new w 95 (u8s (List.replicate 64 0))) hs (by simpa using hs)
  rw [hrun, padW, padL 64 s]
theorem padW_blk (w : World) (s : ByteArray) (_hs : s.size ≤ 64) : Blk (padW w s) w.heap.size 95 (u8s (bI s ++ List.replicate (64 - s.size) 0)) := by
  show _ = _
  exact setRow_heap _ w.heap.size _ _ 95 _ (Blk.new w 95 (u8s (List.replicate 64 0)))
theorem padW_grown (w : World) (s : ByteArray) : w.grownBy (padW w s) none := grown_new (grown_setRow (grown_alloc (grown_refl w (some w.heap.size)) _) _) (Nat.le_refl _)

end Go.Proofs.YtdelijobaebfnaaDoor
namespace Go.Proofs.YtdelijobaebfnaaDoor
open Go.RowKit

theorem conv_row (W : World) (M : List Int) (hM : B8 M) (n : Nat) (hn : M.length = n) (g cap : Nat) (hc : ∀ j, j < n → W.cell? ⟨g, j, none⟩ = some (.int .u8 (M.getD j 0))) :
    (convert 22 9 (.slice (some ⟨g, 0, none⟩) n cap)).run Tryd.prog W = .ok (.string (strI M)) W := by
  have hcells : ∀ j (hj : j < (toB M).length), W.cell? ((⟨g, 0, none⟩ : Addr).add j) = some (.int .u8 ((toB M)[j].toNat : Int)) := fun j hj => by
    have hj' : j < M.length := by rwa [toB_len] at hj
    rw [Addr.add_mid, Nat.zero_add, toB_get M hM j hj]
    exact hc j (by omega)
  have hcv := run_convert_bytes_back (P := Tryd.prog) W 22 9 5 ⟨g, 0, none⟩ cap (toB M) Tryd.underlying22 Tryd.underlying5 Tryd.underlying9 hcells
  rw [toB_len, hn] at hcv
  exact hcv

theorem hashBytes_two (W : World) (hw : Tabs W) (a b : ByteArray) (ha : a.size ≤ 4194304) (hb : b.size ≤ 4194304) :
    Calls Tryd.prog 32 #[.slice (some ⟨W.heap.size, 0, none⟩) 2 2] (W.alloc (.cells #[.string a, .string b] 9)) fun e w' => ∃ g cap, e = .returned (.slice (some ⟨g, 0, none⟩) 32 cap) ∧ Hid (∀ j, j < 32 → w'.cell? ⟨g, j, none⟩ = some (.int .u8 ((sha (bI a ++ bI b)).getD j 0))) ∧ Hid (W.grownBy w' none) := by
  refine (hashBytes_any (W.alloc (.cells #[.string a, .string b] 9)) (hw.grown (World.grownBy_alloc W _ none)) [a, b] W.heap.size 2 (fun j hj => ?_) ?_ (by simp)).mono ?_
  · have hj' : j < 2 := hj
    have hb := Blk.new W 9 [.string a, .string b]
    obtain rfl | rfl : j = 0 ∨ j = 1 := by omega
    · exact hb.cell rfl
    · exact hb.cell rfl
  · simp [catI, bI_len]; omega
  rintro e w1 ⟨g, cap, rfl, _, hc, hg⟩
  refine ⟨g, cap, rfl, Lib.hid fun j hj => ?_, Lib.hid (grown_trans (World.grownBy_alloc W _ none) hg)⟩
  have := hc j hj
  simpa [catI] using this

theorem hashShow32 (W : World) (L : List Int) (hL : B8 L) (hl : L.length = 32) (g cap : Nat) (hc : ∀ j, j < 32 → W.cell? ⟨g, j, none⟩ = some (.int .u8 (L.getD j 0))) :
    Calls Tryd.prog 31 #[.slice (some ⟨g, 0, none⟩) 32 cap] W fun e w' => e = .returned (.string (strI (hexL L))) ∧ W.grownBy w' none := by
  have h := hashShow_walk W L hL (by omega) g cap (fun j hj => hc j (by omega)) (by omega) (by omega)
  rw [hl] at h
  exact h

/-- the key as it is laid into its block -/
def keyI (k : List Int) : List Int := if 64 < k.length then sha k else k
def macI (k m : List Int) : List Int := sha (padK (keyI k) 92 ++ sha (padK (keyI k) 54 ++ m))

end Go.Proofs.YtdelijobaebfnaaDoor

namespace Go.Proofs.YtdelijobaebfnaaDoor
open Go.RowKit

/-- the key as the document's model lays it into its block -/
def keyS (k : List Int) : List Int := if 64 < k.length then shaS k else k
def macS (k m : List Int) : List Int := shaS (padK (keyS k) 92 ++ shaS (padK (keyS k) 54 ++ m))
theorem shaS_b (m : List Int) : B8 (shaS m) := out4_b _
theorem bI_app (a b : ByteArray) : bI (a ++ b) = bI a ++ bI b := by simp [bI]

end Go.Proofs.YtdelijobaebfnaaDoor

namespace Go.Proofs.YtdelijobaebfnaaDoor
open Go.RowKit

theorem B8.app {a b : List Int} (ha : B8 a) (hb : B8 b) : B8 (a ++ b) := fun x hx => by
  rcases List.mem_append.1 hx with h | h
  · exact ha x h
  · exact hb x h
theorem key_same (k : List Int) (hk : B8 k) : keyS k = keyI k := by unfold keyS keyI; rw [sha_same k hk]
theorem key_b (k : List Int) (hk : B8 k) : B8 (keyI k) := by
  unfold keyI; split
  · exact sha_b k
  · exact hk
theorem mac_same (k m : List Int) (hk : B8 k) (hm : B8 m) : macS k m = macI k m := by
  have h5 : B8 (padK (keyI k) 54) := maskT_b _ (key_b k hk) 54 (by decide) (by decide) 64
  have h9 : B8 (padK (keyI k) 92) := maskT_b _ (key_b k hk) 92 (by decide) (by decide) 64
  unfold macS macI
  rw [key_same k hk, sha_same _ (B8.app h5 hm), sha_same _ (B8.app h9 (sha_b _))]

end Go.Proofs.YtdelijobaebfnaaDoor
