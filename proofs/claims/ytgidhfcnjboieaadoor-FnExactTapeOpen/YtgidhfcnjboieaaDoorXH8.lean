import Derived.Test.YtgidhfcnjboieaaDoorT0
import Derived.Test.YtgidhfcnjboieaaDoorXH7
namespace Go.Proofs.YtgidhfcnjboieaaDoor
open Go.RowKit

def H0 : List Int := [1779033703, 3144134277, 1013904242, 2773480762, 1359893119, 2600822924, 528734635, 1541459225]
def K0 : List Int := [1116352408, 1899447441, 3049323471, 3921009573, 961987163, 1508970993, 2453635748, 2870763221, 3624381080, 310598401, 607225278, 1426881987, 1925078388, 2162078206, 2614888103, 3248222580, 3835390401, 4022224774, 264347078, 604807628, 770255983, 1249150122, 1555081692, 1996064986, 2554220882, 2821834349, 2952996808, 3210313671, 3336571891, 3584528711, 113926993, 338241895, 666307205, 773529912, 1294757372, 1396182291, 1695183700, 1986661051, 2177026350, 2456956037, 2730485921, 2820302411, 3259730800, 3345764771, 3516065817, 3600352804, 4094571909, 275423344, 430227734, 506948616, 659060556, 883997877, 958139571, 1322822218, 1537002063, 1747873779, 1955562222, 2024104815, 2227730452, 2361852424, 2428436474, 2756734187, 3204031479, 3329325298]

/-- the two tables as the program's text lays them -/
structure Tabs (w : World) : Prop where
  hs : ∀ j, j < 8 → w.cell? ⟨1, j, none⟩ = some (.int .u32 (H0.getD j 0))
  ks : ∀ k, k < 64 → w.cell? ⟨5, k, none⟩ = some (.int .u32 (K0.getD k 0))
theorem Tabs.grown {w w' : World} (h : Tabs w) (hg : w.grownBy w' none) : Tabs w' :=
  ⟨fun j hj => hg.cell (h.hs j hj) (by simp), fun k hk => hg.cell (h.ks k hk) (by simp)⟩

/-- the sum of bytes, as bytes -/
def sha (m : List Int) : List Int := sumI K0 H0 m
theorem out4_b (T : List Int) : B8 (out4 T) := fun x hx => by
  obtain ⟨c, _, hc⟩ := List.mem_flatMap.1 hx
  simp only [word4, List.mem_cons, List.not_mem_nil, or_false] at hc
  rcases hc with rfl | rfl | rfl | rfl <;> omega
theorem sha_b (m : List Int) : B8 (sha m) := out4_b _
theorem fillTo_len8 (n z : Nat) : (fillTo n z 8).length = z + 9 := fillTo_len n z 8
theorem padI_len (m : List Int) : (padI m).length % 64 = 0 := by
  unfold padI
  rw [List.length_append, fillTo_len8]; omega
theorem sha_len (m : List Int) : (sha m).length = 32 := by
  unfold sha sumI
  rw [out4_len, blocksTo_len _ _ _ rfl]

theorem hashBytes_any (w : World) (hw : Tabs w) (ss : List ByteArray) (tb cp : Nat)
    (hss : ∀ j, j < ss.length → w.cell? ⟨tb, j, none⟩ = some (.string (ss.getD j ByteArray.empty))) (hlen : (catI ss).length < 1152921504606846976) (hsl : ss.length < 1152921504606846976) :
    Calls Tryd.prog 85 #[.slice (some ⟨tb, 0, none⟩) ss.length cp] w fun e w' => ∃ g cap, e = .returned (.slice (some ⟨g, 0, none⟩) 32 cap) ∧ w.heap.size ≤ g ∧ (∀ j, j < 32 → w'.cell? ⟨g, j, none⟩ = some (.int .u8 ((sha (catI ss)).getD j 0))) ∧ w.grownBy w' none := by
  refine (hashBytes_walk w K0 _ _ _ _ _ _ _ _ ss tb cp (some ⟨tb, 0, none⟩) (fun _ => rfl) hss hlen hsl (hw.hs 0 (by decide)) (hw.hs 1 (by decide)) (hw.hs 2 (by decide)) (hw.hs 3 (by decide)) (hw.hs 4 (by decide)) (hw.hs 5 (by decide)) (hw.hs 6 (by decide)) (hw.hs 7 (by decide)) hw.ks).mono ?_
  rintro e w' ⟨v, rfl, hown, hg⟩
  obtain ⟨hxl, hcase⟩ := hown
  rcases hcase with ⟨_, h0⟩ | ⟨g, cap, cur, rfl, hg2, hblk, hn2, hc2, hcs, htk⟩
  · omega
  refine ⟨g, cap, rfl, hg2, fun j hj => ?_, hg⟩
  rw [cell_of_row w' g j cur 5 (0, 0) hblk]
  have hj' : j < (sha (catI ss)).length := by rw [sha_len]; exact hj
  have h1 := u8s_get hj'
  have htk' : cur.toList.take (32 * 1) = u8s (sha (catI ss)) := htk
  rw [← htk', List.getElem?_take, if_pos (by omega)] at h1
  simpa using h1

theorem bI_strI (M : List Int) (h : B8 M) : bI (strI M) = M := by
  unfold bI strI toB
  apply List.ext_getElem?
  intro j
  simp only [List.getElem?_map]
  cases hq : M[j]? with
  | none => simp
  | some x =>
    have := h x (List.mem_of_getElem? hq)
    simp; omega
set_option maxRecDepth 100000 in
set_option maxHeartbeats 400000 in
theorem HashSum_any (w : World) (hw : Tabs w) (s : ByteArray) (hs : s.size ≤ 4194304) :
    Calls Tryd.prog 72 #[.string s] w fun e w' => e = .returned (.string (strI (hexL (sha (bI s))))) ∧ w.grownBy w' none := by
  have HW := Lib.hid hw
  clear hw
  go_enter Tryd.func72, Tryd.ntmps72
  go_wp2_with fail
  refine (hashBytes_any (w.alloc (.cells #[.string s] 9)) (HW.out.grown (World.grownBy_alloc w _ none)) [s] w.heap.size 1 (fun j hj => ?_) ?_ (by simp)).mono ?_
  · obtain rfl : j = 0 := by simpa using hj
    exact (Blk.new w 9 [.string s]).cell rfl
  · simp [catI, bI_len]; omega
  rintro e w1 ⟨g, cap, rfl, hg1, hc, hg⟩
  have HC := Lib.hid hc
  have HG := Lib.hid hg
  clear hc hg
  have hsh := hashShow_walk w1 (sha (bI s)) (sha_b _) (by rw [sha_len]; decide) g cap (fun j hj => by rw [sha_len] at hj; have := HC.out j hj; simpa [catI] using this) (by rw [sha_len]; decide) (by rw [sha_len]; decide)
  rw [sha_len] at hsh
  have HSH := Lib.hid hsh
  clear hsh
  go_wp2_with fail
  refine HSH.out.mono ?_
  rintro e w2 ⟨rfl, hg2⟩
  go_wp2
  go_ret
  exact ⟨rfl, grown_trans (grown_trans (World.grownBy_alloc w _ none) HG.out) hg2⟩

end Go.Proofs.YtgidhfcnjboieaaDoor
