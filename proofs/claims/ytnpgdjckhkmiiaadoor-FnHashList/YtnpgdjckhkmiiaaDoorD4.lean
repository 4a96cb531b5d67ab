import Derived.Test.YtnpgdjckhkmiiaaDoorD2
import Derived.Test.YtnpgdjckhkmiiaaDoorQ3
namespace Go.Proofs.YtnpgdjckhkmiiaaDoor
open Go.RowKit

def five : List ByteArray := [⟨#[]⟩, ⟨#[97]⟩, ⟨#[49, 58]⟩, ⟨#[97, 98]⟩, ⟨#[51, 58, 97, 98, 99]⟩]
theorem five_cell (w : World) : ∀ j, j < five.length → (w.alloc (.cells #[.string ⟨#[]⟩, .string ⟨#[97]⟩, .string ⟨#[49, 58]⟩, .string ⟨#[97, 98]⟩, .string ⟨#[51, 58, 97, 98, 99]⟩] 9)).cell? ⟨w.heap.size, j, none⟩ = some (.string (five.getD j ByteArray.empty)) := fun j hj => by
  have hb := Blk.new w 9 [.string ⟨#[]⟩, .string ⟨#[97]⟩, .string ⟨#[49, 58]⟩, .string ⟨#[97, 98]⟩, .string ⟨#[51, 58, 97, 98, 99]⟩]
  have hj' : j < 5 := hj
  obtain rfl | rfl | rfl | rfl | rfl : j = 0 ∨ j = 1 ∨ j = 2 ∨ j = 3 ∨ j = 4 := by omega
  all_goals exact hb.cell rfl
theorem five_mem (j : Nat) (hj : j < five.length) : five.getD j ByteArray.empty ∈ five := by
  rw [show five.getD j ByteArray.empty = five[j] from by simp [hj]]
  exact List.getElem_mem hj

set_option maxRecDepth 100000 in
set_option maxHeartbeats 1000000 in
theorem drawList_any (w : World) (ao : Option Addr) (n cap : Nat) (hn : n ≤ 1048576) (hcap : n ≤ cap) (hc : Came w ao n) :
    Calls Tryd.prog 15 #[.slice ao n cap] w fun e w' => ∃ v ss, e = .returned v ∧ Row w' w.heap.size v (strs ss) ∧ ss.length ≤ 4 ∧ (∀ s ∈ ss, s ∈ five) ∧ w.grownBy w' none := by
  have HO := Lib.hid (open_any w ao n cap hn hcap hc)
  obtain ⟨i9, hi9, hz0, hz1, hz2⟩ := info_parts info9
  clear hc
  go_enter Tryd.func15, Tryd.ntmps15
  go_wp2_with fail
  refine HO.out.mono ?_
  rintro e w1 ⟨rfl, ⟨n', hr1⟩, hg1⟩
  have hrb := hr1.lt
  obtain ⟨rb, hrbe⟩ : ∃ rb, rb = w.heap.size := ⟨_, rfl⟩
  rw [← hrbe] at hr1 hrb ⊢
  have HRB := Lib.hid hrbe
  have HG1 := Lib.hid hg1
  have HC1 := Lib.hid hr1.2
  have HP := Lib.hid (pick_any (w1.alloc (.cells #[] 9)) rb ao n' cap _ (hr1.kept (World.grownBy_alloc w1 _ none)) (by omega) 5 (by decide) (by decide))
  clear hr1 hg1 HO hrbe
  go_wp2_with fail
  refine HP.out.mono ?_
  rintro e w2 ⟨x, rfl, hx0, hx1, hr2, hg2⟩
  obtain ⟨m, rfl⟩ := Int.eq_ofNat_of_zero_le hx0
  have HR2 := Lib.hid hr2
  have HG2 := Lib.hid (show w.grownBy w2 none from grown_into (grown_alloc HG1.out _) hg2 (by have := HRB.out; omega))
  have HROW := Lib.hid (show Row w2 w1.heap.size (.slice (some ⟨w1.heap.size, 0, none⟩) 0 0) (strs []) from ((Row.lit w1 9 []).kept hg2 (by intro k hk; simp [Value.ownBlock] at hk; subst hk; simp; omega)))
  have HG12 := Lib.hid (show w1.grownBy w2 (some rb) from grown_trans (grown_widen (World.grownBy_alloc w1 _ none)) hg2)
  clear hr2 hg2 HP HG1
  go_wp2
  go_loopw [4, 5] (fun v i wr => ∃ (k : Nat) (ss : List ByteArray), i = .int .i64 k ∧ ss.length + k = m ∧ Row wr w1.heap.size v (strs ss) ∧ (∀ s ∈ ss, s ∈ five) ∧ (∃ p, p < 100 ∧ p = 1 + ss.length ∧ Rd wr rb ao n' cap p) ∧ w.grownBy wr none ∧ w1.grownBy wr (some rb)) (fun _ i _ => (intOf i).toNat)
  case atStart => exact ⟨m, [], rfl, by simp, HROW.out, by simp, ⟨1, by omega, rfl, HR2.out⟩, HG2.out, HG12.out⟩
  case round =>
    obtain ⟨k, ss, rfl, hk, hrow, hin, ⟨p, hp, hpe, hrd⟩, hg, hg12⟩ := hrel
    have HGA := Lib.hid hg12
    have hsz1 := hg12.size
    clear hg12
    have HROW := Lib.hid hrow
    have HIN := Lib.hid hin
    have HG := Lib.hid hg
    have hlt := hrd.lt
    by_cases hk0 : 0 < k
    · have hkI : (0 : Int) < k := by omega
      have HF := Lib.hid (of_any (wr.alloc (.cells #[.string ⟨#[]⟩, .string ⟨#[97]⟩, .string ⟨#[49, 58]⟩, .string ⟨#[97, 98]⟩, .string ⟨#[51, 58, 97, 98, 99]⟩] 9)) rb ao n' cap p (hrd.kept (World.grownBy_alloc wr _ none)) (by omega) wr.heap.size (by omega) five (by decide) (by decide) 5 (five_cell wr))
      clear hrow hin hg hrd
      go_wp2_with fail
      refine HF.out.mono ?_
      rintro e w3 ⟨j, hj, rfl, hr3, hg3⟩
      have hmem := five_mem j hj
      generalize five.getD j ByteArray.empty = s at hmem ⊢
      have HG3 := Lib.hid (show w.grownBy w3 none from grown_into (grown_alloc HG.out _) hg3 (by have := HRB.out; omega))
      have HR3 := Lib.hid ((HROW.out.alloc _).kept hg3 (fun q hq e => by have := (HROW.out.lt q hq).1; cases e; omega))
      have HRD3 := Lib.hid hr3
      have HGB := Lib.hid (show w1.grownBy w3 (some rb) from grown_trans (grown_trans HGA.out (grown_widen (World.grownBy_alloc wr _ none))) hg3)
      have hsz3 := HGB.out.size
      have hw3 := hr3.lt
      have hMEM := Lib.hid hmem
      have hl : (strs ss).length = ss.length := by simp [strs]
      have HLEN := Lib.hid hl
      clear hr3 hg3 HF hj hmem HROW hl
      go_wp2_with (at_builtin; refine wpList_append_row rfl _ _ 29 rfl 9 i9 (.string ⟨#[]⟩) 16 Tryd.underlying29 hi9 hz0 hz1 hz2 rfl w1.heap.size _ (strs ss) rfl (HR3.out.alloc _) ⟨w3.heap.size, 0, none⟩ 1 1 (strs [s]) rfl rfl (news_new _ 9 (strs [s])) (strs_one _) (by rw [HLEN.out]; unfold maxLen; omega) (by rw [HLEN.out]; omega) (by simp; omega) ?_; intro v1 w4 hrow1 hg4)
      go_roundw
      case rel =>
        have hne : ∀ q, Value.ownBlock _ = some q → w1.heap.size ≤ q := fun q hq => (HR3.out.lt q hq).1
        refine ⟨k - 1, ss ++ [s], by congr 1; omega, by simp; omega, by have := hrow1.out; simpa [strs] using this, ?_, ⟨p + 1, by omega, by simp; omega, ?_⟩, ?_⟩
        · intro y hy
          rcases List.mem_append.1 hy with hy | hy
          · exact HIN.out y hy
          · simp at hy; subst hy; exact hMEM.out
        · have hgc : w1.grownBy _ (some rb) := grown_own (grown_trans HGB.out (grown_widen (World.grownBy_alloc w3 _ none))) hg4.out hne
          refine ⟨(HRD3.out.1.alloc _).kept hg4.out (fun e => ?_), HC1.out.kept hgc (fun k hk => by cases hk; rfl)⟩
          have := hne rb e.symm; omega
        · exact ⟨grown_own (grown_alloc HG3.out _) hg4.out (fun q hq => by have := hne q hq; have := HRB.out; omega), grown_own (grown_trans HGB.out (grown_widen (World.grownBy_alloc w3 _ none))) hg4.out hne⟩
      case measure => simp [intOf]; omega
    · obtain rfl : k = 0 := by omega
      clear hrow hin hg hrd
      go_wp2
      go_ret
      exact ⟨_, ss, rfl, HROW.out.base (by have := HRB.out; omega), by omega, HIN.out, HG.out⟩

end Go.Proofs.YtnpgdjckhkmiiaaDoor
