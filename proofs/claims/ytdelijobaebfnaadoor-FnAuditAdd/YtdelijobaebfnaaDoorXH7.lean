import Derived.Test.YtdelijobaebfnaaDoorMa1
import Derived.Test.YtdelijobaebfnaaDoorXH5
import Derived.Deep.AppendLies
import Derived.Laws.IdiomStrings
namespace Go.Proofs.YtdelijobaebfnaaDoor
open Go.RowKit

def hexD (q : Nat) : Int := [48, 49, 50, 51, 52, 53, 54, 55, 56, 57, 97, 98, 99, 100, 101, 102].getD q 0
def hex2 (c : Int) : List Int := [hexD (c / 16).toNat, hexD (c % 16).toNat]
def hexL (L : List Int) : List Int := L.flatMap hex2
/-- numbers that are bytes -/
def B8 (M : List Int) : Prop := ∀ x ∈ M, 0 ≤ x ∧ x < 256

theorem toB_get (M : List Int) (h : B8 M) (j : Nat) (hj : j < (toB M).length) : ((toB M)[j].toNat : Int) = M.getD j 0 := by
  have hj' : j < M.length := by simpa [toB] using hj
  have := h M[j] (List.getElem_mem hj')
  simp [toB, hj']
  omega
theorem toB_len (M : List Int) : (toB M).length = M.length := by simp [toB]
theorem hexL_len : ∀ (L : List Int), (hexL L).length = 2 * L.length
  | [] => rfl
  | x :: T => by
    rw [show hexL (x :: T) = hex2 x ++ hexL T from by simp [hexL], List.length_append, hexL_len T, List.length_cons]
    show 2 + _ = _
    omega
theorem hexL_take (T : List Int) (k : Nat) (hk : k < T.length) : hexL (T.take (k + 1)) = hexL (T.take k) ++ hex2 (T.getD k 0) := by
  unfold hexL
  rw [List.take_succ_eq_append_getElem hk, List.flatMap_append]
  congr 1
  simp [hk]
theorem hexD_b (q : Nat) : 0 ≤ hexD q ∧ hexD q < 256 := by
  by_cases h : q < 16
  · have all : ∀ q : Fin 16, 0 ≤ hexD q.val ∧ hexD q.val < 256 := by decide
    exact all ⟨q, h⟩
  · have : [(48 : Int), 49, 50, 51, 52, 53, 54, 55, 56, 57, 97, 98, 99, 100, 101, 102][q]? = none := List.getElem?_eq_none (by simp; omega)
    simp [hexD, this]
theorem hexL_b (L : List Int) : B8 (hexL L) := fun x hx => by
  obtain ⟨c, _, hc⟩ := List.mem_flatMap.1 hx
  simp only [hex2, List.mem_cons, List.not_mem_nil, or_false] at hc
  rcases hc with rfl | rfl <;> exact hexD_b _

theorem run_fig (k : IntKind) (hk : k = .u8) (q : Nat) (hq : q < 16) (w : World) : (Instr.index 9 (.string ⟨#[48, 49, 50, 51, 52, 53, 54, 55, 56, 57, 97, 98, 99, 100, 101, 102]⟩) (.int k q)).run Tryd.prog w = .ok (.int .u8 (hexD q)) w := by
  subst hk
  have all : ∀ q : Fin 16, ((⟨#[48, 49, 50, 51, 52, 53, 54, 55, 56, 57, 97, 98, 99, 100, 101, 102]⟩ : ByteArray)[q.val]?).map (fun b => (b.toNat : Int)) = some (hexD q.val) := by decide
  have := all ⟨q, hq⟩
  obtain ⟨b, hb, hb2⟩ := Option.map_eq_some_iff.1 this
  simp only at hb
  simp [Instr.index, run_underlying Tryd.underlying9, asIntOf, hb, hb2]

set_option maxRecDepth 100000 in
set_option maxHeartbeats 1000000 in
theorem hashShow_walk (w : World) (L : List Int) (hL : B8 L) (hlen : L.length < 1152921504606846976) (g cap : Nat) (hc : ∀ j, j < L.length → w.cell? ⟨g, j, none⟩ = some (.int .u8 (L.getD j 0))) (hpos : 0 < L.length) (hbig : 2 * L.length ≤ 140737488355328) :
    Calls Tryd.prog 31 #[.slice (some ⟨g, 0, none⟩) L.length cap] w fun e w' => e = .returned (.string ⟨(toB (hexL L)).toArray⟩) ∧ w.grownBy w' none := by
  have HC := Lib.hid hc
  have HL := Lib.hid hL
  clear hc hL
  obtain ⟨i5, hi5, hz0, hz1, hz2⟩ := info_parts info5
  have hgs := World.block_lt_of_cell? w _ (HC.out 0 hpos)
  have hmk : ∀ W : World, (Instr.makeSlice 22 (.int .i64 0) (.int .i64 (2 * (L.length : Int)))).run Tryd.prog W = .ok (.slice (some ⟨W.heap.size, 0, none⟩) 0 (2 * L.length)) (W.alloc (.cells (madeCells #[.int .u8 0] (2 * L.length)) 5)) := fun W => by
    have := run_make (P := Tryd.prog) W 22 5 i5 (.int .u8 0) Tryd.underlying22 hi5 hz0 .i64 .i64 0 (2 * (L.length : Int)) (by omega) (by omega) (by rw [hz2]; omega) (by omega)
    rw [this, hz1, show (2 * (L.length : Int)).toNat = 2 * L.length from by omega]
    simp [Value.cells]
  go_enter Tryd.func31, Tryd.ntmps31
  go_wp2
  go_loopw [3, 12] (fun v i wr => ∃ k : Nat, k ≤ L.length ∧ i = .int .i64 k ∧ wr.ownsRow w.heap.size 5 1 v (2 * k) (u8s (hexL (L.take k))) ∧ w.grownBy wr none) (fun _ i _ => L.length - (intOf i).toNat)
  case atStart =>
    exact ⟨0, Nat.zero_le _, rfl, World.ownsRow_made w _ (2 * L.length) (Nat.le_refl _) (by unfold maxLen; omega) (by simp [madeCells]), grown_alloc (grown_refl _ _) _⟩
  case round =>
    obtain ⟨k, hk, rfl, hown, hgr⟩ := hrel
    by_cases hlt : k < L.length
    · obtain ⟨c, hcx⟩ : ∃ c, c = L.getD k 0 := ⟨_, rfl⟩
      have hcb : 0 ≤ c ∧ c < 256 := by rw [hcx]; have := HL.out L[k] (List.getElem_mem hlt); simpa [hlt] using this
      obtain ⟨hc0, hc1⟩ := hcb
      have d0 : wr.cell? ⟨g, k, none⟩ = some (.int .u8 c) := by rw [hcx]; exact hgr.cell (HC.out k hlt) (by simp)
      obtain ⟨q1, hq1⟩ : ∃ q, q = (c / 16).toNat := ⟨_, rfl⟩
      obtain ⟨q2, hq2⟩ : ∃ q, q = (c % 16).toNat := ⟨_, rfl⟩
      have e1 : c / 16 = (q1 : Int) := by omega
      have e2 : bits .and .u8 c 15 = (q2 : Int) := by
        rw [u8_and c 15 hc0 hc1 (by decide) (by decide), show (15 : Int).toNat = 15 from rfl, nat_mask4]; omega
      have l1 : q1 < 16 := by omega
      have l2 : q2 < 16 := by omega
      have f1 := run_fig .u8 rfl q1 l1
      have f2 := run_fig .u8 rfl q2 l2
      have HX := Lib.hid (And.intro hcx (And.intro hq1 hq2))
      have HOWN := Lib.hid hown
      have HGR := Lib.hid hgr
      have hwz : w.heap.size ≤ wr.heap.size := hgr.size
      clear hcx hq1 hq2 hown hgr
      go_wp2
      go_region_law (refine step_append_lies _ (by rfl) _ _ 22 (by rfl) w.heap.size 5 i5 (.int .u8 0) 1 1 Tryd.underlying22 hi5 hz0 hz1 hz2 rfl (by decide) _ _ _ (by rfl) (HOWN.out.alloc _) ⟨wr.heap.size, 0, none⟩ 2 2 (u8s [hexD q1, hexD q2]) (by rfl) rfl (news_new wr 5 (u8s [hexD q1, hexD q2])) (u8s_one _) (by decide) (by unfold maxLen; omega) (by omega) (by simp; omega) (wr.heap.size + 1) (by simp) ?_; intro g2 cap2 w1 hown1 hgrow hat hlt1)
      all_goals
        have HO := Lib.hid hown1
        have HW := Lib.hid hgrow
        clear hown1 hgrow hat hlt1
        go_wp2
        go_roundw
        case rel =>
          refine ⟨k + 1, by omega, by go_num, ?_, grown_own (grown_drew (grown_alloc HGR.out _)) HW.out (fun q hq => (HOWN.out.lt q hq).1)⟩
          obtain ⟨hcx, hq1, hq2⟩ := HX.out
          have := HO.out
          rw [← List.map_append, show [hexD q1, hexD q2] = hex2 (L.getD k 0) from by rw [hq1, hq2, hcx]; rfl, ← hexL_take _ k hlt] at this
          exact this
        case measure => simp [intOf]; omega
    · obtain rfl : k = L.length := by omega
      rw [List.take_length] at hown
      obtain ⟨hxl, hcase⟩ := hown
      rcases hcase with ⟨_, h0⟩ | ⟨g2, cap2, cur, rfl, hg2, hblk, hn2, hc2, hcs, htk⟩
      · omega
      have hcells : ∀ j (hj : j < (toB (hexL L)).length), wr.cell? ((⟨g2, 0, none⟩ : Addr).add j) = some (.int .u8 ((toB (hexL L))[j].toNat : Int)) := fun j hj => by
        rw [Addr.add_mid, Nat.zero_add, toB_get _ (hexL_b L) j hj, cell_of_row wr g2 j cur 5 (0, 0) hblk]
        have hj' : j < (hexL L).length := by rwa [toB_len] at hj
        have h1 := u8s_get hj'
        rw [← htk, List.getElem?_take] at h1
        split at h1
        · simpa using h1
        · cases h1
      have hcv := run_convert_bytes_back (P := Tryd.prog) wr 22 9 5 ⟨g2, 0, none⟩ cap2 (toB (hexL L)) Tryd.underlying22 Tryd.underlying5 Tryd.underlying9 hcells
      rw [toB_len, hexL_len] at hcv
      have HGR := Lib.hid hgr
      clear hcells hblk htk hgr
      go_wp2
      go_ret
      exact ⟨rfl, HGR.out⟩

end Go.Proofs.YtdelijobaebfnaaDoor

namespace Go.Proofs.YtdelijobaebfnaaDoor
open Go.RowKit

def H0 : List Int := [1779033703, 3144134277, 1013904242, 2773480762, 1359893119, 2600822924, 528734635, 1541459225]
def K0 : List Int := [1116352408, 1899447441, 3049323471, 3921009573, 961987163, 1508970993, 2453635748, 2870763221, 3624381080, 310598401, 607225278, 1426881987, 1925078388, 2162078206, 2614888103, 3248222580, 3835390401, 4022224774, 264347078, 604807628, 770255983, 1249150122, 1555081692, 1996064986, 2554220882, 2821834349, 2952996808, 3210313671, 3336571891, 3584528711, 113926993, 338241895, 666307205, 773529912, 1294757372, 1396182291, 1695183700, 1986661051, 2177026350, 2456956037, 2730485921, 2820302411, 3259730800, 3345764771, 3516065817, 3600352804, 4094571909, 275423344, 430227734, 506948616, 659060556, 883997877, 958139571, 1322822218, 1537002063, 1747873779, 1955562222, 2024104815, 2227730452, 2361852424, 2428436474, 2756734187, 3204031479, 3329325298]

/-- the two tables as the program's text lays them -/
structure Tabs (w : World) : Prop where
  hs : ∀ j, j < 8 → w.cell? ⟨1, j, none⟩ = some (.int .u32 (H0.getD j 0))
  ks : ∀ k, k < 64 → w.cell? ⟨2, k, none⟩ = some (.int .u32 (K0.getD k 0))
theorem Tabs.grown {w w' : World} (h : Tabs w) (hg : w.grownBy w' none) : Tabs w' :=
  ⟨fun j hj => hg.cell (h.hs j hj) (by simp), fun k hk => hg.cell (h.ks k hk) (by simp)⟩

/-- the sum of bytes, as bytes -/
def sha (m : List Int) : List Int := sumI K0 H0 m
theorem out4_b (T : List Int) : B8 (out4 T) := fun x hx => by
  obtain ⟨c, _, hc⟩ := List.mem_flatMap.1 hx
  simp only [word4, List.mem_cons, List.not_mem_nil, or_false] at hc
  rcases hc with rfl | rfl | rfl | rfl <;> omega
theorem sha_b (m : List Int) : B8 (sha m) := out4_b _
theorem fillTo_len8 (n z : Nat) : (fillTo n z 8).length = z + 9 := fillTo_len n z 8
theorem padI_len (m : List Int) : (padI m).length % 64 = 0 := by
  unfold padI
  rw [List.length_append, fillTo_len8]; omega
theorem sha_len (m : List Int) : (sha m).length = 32 := by
  unfold sha sumI
  rw [out4_len, blocksTo_len _ _ _ rfl]

theorem hashBytes_any (w : World) (hw : Tabs w) (ss : List ByteArray) (tb cp : Nat)
    (hss : ∀ j, j < ss.length → w.cell? ⟨tb, j, none⟩ = some (.string (ss.getD j ByteArray.empty))) (hlen : (catI ss).length < 1152921504606846976) (hsl : ss.length < 1152921504606846976) :
    Calls Tryd.prog 32 #[.slice (some ⟨tb, 0, none⟩) ss.length cp] w fun e w' => ∃ g cap, e = .returned (.slice (some ⟨g, 0, none⟩) 32 cap) ∧ w.heap.size ≤ g ∧ (∀ j, j < 32 → w'.cell? ⟨g, j, none⟩ = some (.int .u8 ((sha (catI ss)).getD j 0))) ∧ w.grownBy w' none := by
  refine (hashBytes_walk w K0 _ _ _ _ _ _ _ _ ss tb cp (some ⟨tb, 0, none⟩) (fun _ => rfl) hss hlen hsl (hw.hs 0 (by decide)) (hw.hs 1 (by decide)) (hw.hs 2 (by decide)) (hw.hs 3 (by decide)) (hw.hs 4 (by decide)) (hw.hs 5 (by decide)) (hw.hs 6 (by decide)) (hw.hs 7 (by decide)) hw.ks).mono ?_
  rintro e w' ⟨v, rfl, hown, hg⟩
  obtain ⟨hxl, hcase⟩ := hown
  rcases hcase with ⟨_, h0⟩ | ⟨g, cap, cur, rfl, hg2, hblk, hn2, hc2, hcs, htk⟩
  · omega
  refine ⟨g, cap, rfl, hg2, fun j hj => ?_, hg⟩
  rw [cell_of_row w' g j cur 5 (0, 0) hblk]
  have hj' : j < (sha (catI ss)).length := by rw [sha_len]; exact hj
  have h1 := u8s_get hj'
  have htk' : cur.toList.take (32 * 1) = u8s (sha (catI ss)) := htk
  rw [← htk', List.getElem?_take, if_pos (by omega)] at h1
  simpa using h1

theorem bI_strI (M : List Int) (h : B8 M) : bI (strI M) = M := by
  unfold bI strI toB
  apply List.ext_getElem?
  intro j
  simp only [List.getElem?_map]
  cases hq : M[j]? with
  | none => simp
  | some x =>
    have := h x (List.mem_of_getElem? hq)
    simp; omega
set_option maxRecDepth 100000 in
set_option maxHeartbeats 400000 in
theorem HashSum_any (w : World) (hw : Tabs w) (s : ByteArray) (hs : s.size ≤ 4194304) :
    Calls Tryd.prog 12 #[.string s] w fun e w' => e = .returned (.string (strI (hexL (sha (bI s))))) ∧ w.grownBy w' none := by
  have HW := Lib.hid hw
  clear hw
  go_enter Tryd.func12, Tryd.ntmps12
  go_wp2_with fail
  refine (hashBytes_any (w.alloc (.cells #[.string s] 9)) (HW.out.grown (World.grownBy_alloc w _ none)) [s] w.heap.size 1 (fun j hj => ?_) ?_ (by simp)).mono ?_
  · obtain rfl : j = 0 := by simpa using hj
    exact (Blk.new w 9 [.string s]).cell rfl
  · simp [catI, bI_len]; omega
  rintro e w1 ⟨g, cap, rfl, hg1, hc, hg⟩
  have HC := Lib.hid hc
  have HG := Lib.hid hg
  clear hc hg
  have hsh := hashShow_walk w1 (sha (bI s)) (sha_b _) (by rw [sha_len]; decide) g cap (fun j hj => by rw [sha_len] at hj; have := HC.out j hj; simpa [catI] using this) (by rw [sha_len]; decide) (by rw [sha_len]; decide)
  rw [sha_len] at hsh
  have HSH := Lib.hid hsh
  clear hsh
  go_wp2_with fail
  refine HSH.out.mono ?_
  rintro e w2 ⟨rfl, hg2⟩
  go_wp2
  go_ret
  exact ⟨rfl, grown_trans (grown_trans (World.grownBy_alloc w _ none) HG.out) hg2⟩

end Go.Proofs.YtdelijobaebfnaaDoor
