import Derived.Test.YtfdhopkjblbkmaaDoorXE1
import Derived.Lib.BufferWrite
namespace Go.Proofs.YtfdhopkjblbkmaaDoor
open Go.RowKit

/-- a key's block: its bytes and noughts behind them, each under the mask -/
def maskT (k : List Int) (mk : Int) (n : Nat) : List Int := (List.range n).map fun j => bits .xor .u8 (k.getD j 0) mk
def padK (k : List Int) (mk : Int) : List Int := maskT k mk 64
theorem maskT_succ (k : List Int) (mk : Int) (n : Nat) : maskT k mk (n + 1) = maskT k mk n ++ [bits .xor .u8 (k.getD n 0) mk] := by
  unfold maskT; rw [List.range_succ, List.map_append]; rfl
theorem maskT_len (k : List Int) (mk : Int) (n : Nat) : (maskT k mk n).length = n := by simp [maskT]
theorem padK_len (k : List Int) (mk : Int) : (padK k mk).length = 64 := maskT_len k mk 64
theorem maskT_b (k : List Int) (hk : B8 k) (mk : Int) (h0 : 0 ≤ mk) (h1 : mk < 256) (n : Nat) : B8 (maskT k mk n) := fun x hx => by
  obtain ⟨j, _, rfl⟩ := List.mem_map.1 hx
  have hb : 0 ≤ k.getD j 0 ∧ k.getD j 0 < 256 := by
    by_cases hj : j < k.length
    · have := hk k[j] (List.getElem_mem hj); simpa [hj] using this
    · have : k[j]? = none := List.getElem?_eq_none (by omega)
      simp [this]
  rw [u8_xor _ _ hb.1 hb.2 h0 h1]
  have : (k.getD j 0).toNat ^^^ mk.toNat < 2 ^ 8 := Nat.xor_lt_two_pow (by omega) (by omega)
  omega

theorem mask_step (m : List Int) (mk : Int) (L : List Int) (k : Nat) (hk : k < L.length) : (u8s (maskT m mk k ++ L.drop k)).set k (.int .u8 (bits .xor .u8 (m.getD k 0) mk)) = u8s (maskT m mk (k + 1) ++ L.drop (k + 1)) := by
  rw [maskT_succ, List.drop_eq_getElem_cons hk]
  unfold u8s
  rw [← List.map_set, List.set_append_right _ _ (by rw [maskT_len]; omega), maskT_len, Nat.sub_self, List.set_cons_zero]
  simp
/-- the world behind 'copy' of a string into a block of 64 noughts -/
def padW (w : World) (s : ByteArray) : World := (w.alloc (.cells (u8s (List.replicate 64 0)).toArray 109)).setRow w.heap.size (u8s (bI s ++ List.replicate (64 - s.size) 0)).toArray
theorem padL (n : Nat) (s : ByteArray) : (u8s (List.replicate n 0)).toArray.toList.take 0 ++ Lib.byteCells s.data.toList ++ (u8s (List.replicate n 0)).toArray.toList.drop (0 + s.size) = u8s (bI s ++ List.replicate (n - s.size) 0) := by
  simp [Lib.byteCells, bI, u8s, List.map_replicate, List.drop_replicate]
theorem run_padW (w : World) (s : ByteArray) (hs : s.size ≤ 64) : (Builtin.copy_ #[67, 9] 3 #[.slice (some ⟨w.heap.size, 0, none⟩) 64 64, .string s]).run Tryd.prog (w.alloc (.cells (u8s (List.replicate 64 0)).toArray 109)) = .ok (goInt s.size) (padW w s) := by
  have hrun := Lib.run_copy_row_string (P := Tryd.prog) (w.alloc (.cells (u8s (List.replicate 64 0)).toArray 109)) 67 9 3 5 w.heap.size 0 64 64 s (u8s (List.replicate 64 0)).toArray 109 Tryd.underlying67 (by kernel_rfl) (Blk.new w 109 (u8s (List.replicate 64 0))) hs (by simpa using hs)
  rw [hrun, padW, padL 64 s]
theorem padW_blk (w : World) (s : ByteArray) (_hs : s.size ≤ 64) : Blk (padW w s) w.heap.size 109 (u8s (bI s ++ List.replicate (64 - s.size) 0)) := by
  show _ = _
  exact setRow_heap _ w.heap.size _ _ 109 _ (Blk.new w 109 (u8s (List.replicate 64 0)))
theorem padW_grown (w : World) (s : ByteArray) : w.grownBy (padW w s) none := grown_new (grown_setRow (grown_alloc (grown_refl w (some w.heap.size)) _) _) (Nat.le_refl _)

end Go.Proofs.YtfdhopkjblbkmaaDoor
