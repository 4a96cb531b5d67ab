import Derived.Test.YtnpgdjckhkmiiaaDoorD2
namespace Go.Proofs.YtnpgdjckhkmiiaaDoor
open Go.RowKit

def two : List ByteArray := [⟨#[109]⟩, ⟨#[116, 101, 120, 116]⟩]
theorem two_size : ∀ j, j < two.length → (two.getD j ByteArray.empty).size ≤ 4 := by decide
theorem two_cell (w : World) : ∀ j, j < two.length → (w.alloc (.cells #[.string ⟨#[109]⟩, .string ⟨#[116, 101, 120, 116]⟩] 9)).cell? ⟨w.heap.size, j, none⟩ = some (.string (two.getD j ByteArray.empty)) := fun j hj => by
  have hb := Blk.new w 9 [.string ⟨#[109]⟩, .string ⟨#[116, 101, 120, 116]⟩]
  have hj' : j < 2 := hj
  obtain rfl | rfl : j = 0 ∨ j = 1 := by omega
  all_goals exact hb.cell rfl
theorem two_is : ∀ j, j < two.length → bI (two.getD j ByteArray.empty) = [109] ∨ bI (two.getD j ByteArray.empty) = [116, 101, 120, 116] := by decide
def six : List Nat := [0, 3, 63, 64, 65, 100]
theorem six_cell (w : World) : ∀ j, j < 6 → (w.alloc (.cells #[.int .i64 0, .int .i64 3, .int .i64 63, .int .i64 64, .int .i64 65, .int .i64 100] 3)).cell? ⟨w.heap.size, j, none⟩ = some (.int .i64 ((six.getD j 0 : Nat) : Int)) := fun j hj => by
  have hb := Blk.new w 3 [.int .i64 0, .int .i64 3, .int .i64 63, .int .i64 64, .int .i64 65, .int .i64 100]
  obtain rfl | rfl | rfl | rfl | rfl | rfl : j = 0 ∨ j = 1 ∨ j = 2 ∨ j = 3 ∨ j = 4 ∨ j = 5 := by omega
  all_goals exact hb.cell rfl
theorem six_is : ∀ j, j < 6 → six.getD j 0 ∈ [0, 3, 63, 64, 65, 100] ∧ six.getD j 0 ≤ 100 := by decide

set_option maxRecDepth 100000 in
set_option maxHeartbeats 1000000 in
theorem drawMac_any (w : World) (ao : Option Addr) (n cap : Nat) (hn : n ≤ 1048576) (hcap : n ≤ cap) (hc : Came w ao n) :
    Calls Tryd.prog 12 #[.slice ao n cap] w fun e w' => ∃ k t N c l, e = .returned (.tuple #[.string k, .string t]) ∧ N ∈ [0, 3, 63, 64, 65, 100] ∧ c < 40 ∧ (l = [109] ∨ l = [116, 101, 120, 116]) ∧ bI k = repI N [107] ∧ bI t = repI c l ∧ k.size ≤ 1000 ∧ t.size ≤ 1000 ∧ w.grownBy w' none := by
  have HO := Lib.hid (open_any w ao n cap hn hcap hc)
  clear hc
  go_enter Tryd.func12, Tryd.ntmps12
  go_wp2_with fail
  refine HO.out.mono ?_
  rintro e w1 ⟨rfl, ⟨n', hr1⟩, hg1⟩
  have hrb := hr1.lt
  obtain ⟨rb, hrbe⟩ : ∃ rb, rb = w.heap.size := ⟨_, rfl⟩
  rw [← hrbe] at hr1 hrb ⊢
  have HRB := Lib.hid hrbe
  have HG1 := Lib.hid hg1
  have HC6 := Lib.hid (six_cell w1)
  have HP := Lib.hid (pick_any (w1.alloc (.cells #[.int .i64 0, .int .i64 3, .int .i64 63, .int .i64 64, .int .i64 65, .int .i64 100] 3)) rb ao n' cap _ (hr1.kept (World.grownBy_alloc w1 _ none)) (by omega) 6 (by decide) (by decide))
  clear hr1 hg1 HO hrbe
  go_wp2_with fail
  refine HP.out.mono ?_
  rintro e w2 ⟨x, rfl, hx0, hx1, hr2, hg2⟩
  obtain ⟨j, rfl⟩ := Int.eq_ofNat_of_zero_le hx0
  have hj6 : j < 6 := by omega
  have d2 := hg2.cell (HC6.out j hj6) (by simp; omega)
  obtain ⟨hN, hN100⟩ := six_is j hj6
  have HG2 := Lib.hid (show w.grownBy w2 none from grown_into (grown_alloc HG1.out _) hg2 (by have := HRB.out; omega))
  generalize six.getD j 0 = N at d2 hN hN100
  have HR2 := Lib.hid hr2
  have HN := Lib.hid hN
  have HM := Lib.hid (many_any w2 ⟨#[107]⟩ N (by decide) (by omega))
  clear hr2 hg2 HP HC6 HG1 hN
  go_wp2_with fail
  refine HM.out.mono ?_
  rintro e w3 ⟨k, rfl, hk, rfl⟩
  have hk' : bI k = repI N [107] := hk
  have hks : k.size ≤ 1000 := by
    have := congrArg List.length hk'
    rw [bI_len, repI_len] at this
    simp at this
    omega
  have HK := Lib.hid hk'
  have hlt := HR2.out.lt
  have HF := Lib.hid (of_any (w3.alloc (.cells #[.string ⟨#[109]⟩, .string ⟨#[116, 101, 120, 116]⟩] 9)) rb ao n' cap _ (HR2.out.kept (World.grownBy_alloc w3 _ none)) (by omega) w3.heap.size (by omega) two (by decide) (by decide) 2 (two_cell w3))
  clear hk hk' HM d2
  go_wp2_with fail
  refine HF.out.mono ?_
  rintro e w4 ⟨i, hi, rfl, hr4, hg4⟩
  have hsz := two_size i hi
  have his := two_is i hi
  generalize two.getD i ByteArray.empty = s at hsz his ⊢
  have HIS := Lib.hid his
  have HG4 := Lib.hid (show w.grownBy w4 none from grown_into (grown_alloc HG2.out _) hg4 (by have := HRB.out; omega))
  have HP5 := Lib.hid (pick_any w4 rb ao n' cap _ hr4 (by omega) 40 (by decide) (by decide))
  clear hr4 hg4 HF hi his HG2
  go_wp2_with fail
  refine HP5.out.mono ?_
  rintro e w5 ⟨x, rfl, hx0, hx1, hr5, hg5⟩
  obtain ⟨c, rfl⟩ := Int.eq_ofNat_of_zero_le hx0
  have HG5 := Lib.hid (show w.grownBy w5 none from grown_into HG4.out hg5 (by have := HRB.out; omega))
  have HM := Lib.hid (many_any w5 s c (by omega) (by omega))
  clear hr5 hg5 HP5 HG4
  go_wp2_with fail
  refine HM.out.mono ?_
  rintro e w6 ⟨t, rfl, ht, rfl⟩
  have hts : t.size ≤ 1000 := by
    have := congrArg List.length ht
    rw [bI_len, repI_len, bI_len] at this
    have h2 : c * s.size ≤ 40 * 4 := Nat.mul_le_mul (by omega) hsz
    omega
  have HT := Lib.hid ht
  clear ht HM
  go_wp2
  go_ret2
  exact ⟨k, t, N, c, bI s, rfl, HN.out, by omega, HIS.out, HK.out, HT.out, hks, hts, HG5.out⟩

end Go.Proofs.YtnpgdjckhkmiiaaDoor
