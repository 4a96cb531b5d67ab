import Derived.Test.YtnpgdjckhkmiiaaDoorD1
namespace Go.Proofs.YtnpgdjckhkmiiaaDoor
open Go.RowKit

/-- the bytes that came in, as a law reads them -/
def Came (w : World) (ao : Option Addr) (n : Nat) : Prop := n = 0 ∨ ∃ ab o, ao = some ⟨ab, o, none⟩ ∧ ∀ j, j < n → ∃ x : Int, 0 ≤ x ∧ x < 256 ∧ w.cell? ⟨ab, o + j, none⟩ = some (.int .u8 x)
theorem Came.kept {w w' : World} {ao : Option Addr} {n : Nat} (h : Came w ao n) (hg : w.grownBy w' none) : Came w' ao n := by
  rcases h with h | ⟨ab, o, rfl, h⟩
  · exact .inl h
  · refine .inr ⟨ab, o, rfl, fun j hj => ?_⟩
    obtain ⟨x, h0, h1, hx⟩ := h j hj
    exact ⟨x, h0, h1, hg.cell hx (by simp)⟩
theorem Rd.kept {w w' : World} {rb : Nat} {ao : Option Addr} {n cap p : Nat} (h : Rd w rb ao n cap p) (hg : w.grownBy w' none) : Rd w' rb ao n cap p :=
  ⟨h.1.kept hg (by simp), h.2.kept hg (fun k hk => by cases hk)⟩
theorem Rd.lt {w : World} {rb : Nat} {ao : Option Addr} {n cap p : Nat} (h : Rd w rb ao n cap p) : rb < w.heap.size := h.1.lt

def four : List ByteArray := [⟨#[97]⟩, ⟨#[97, 98, 99]⟩, ⟨#[0]⟩, ⟨#[120, 121, 122]⟩]
theorem four_size : ∀ j, j < four.length → (four.getD j ByteArray.empty).size ≤ 3 := by decide
theorem four_cell (w : World) : ∀ j, j < four.length → (w.alloc (.cells #[.string ⟨#[97]⟩, .string ⟨#[97, 98, 99]⟩, .string ⟨#[0]⟩, .string ⟨#[120, 121, 122]⟩] 9)).cell? ⟨w.heap.size, j, none⟩ = some (.string (four.getD j ByteArray.empty)) := fun j hj => by
  have hb := Blk.new w 9 [.string ⟨#[97]⟩, .string ⟨#[97, 98, 99]⟩, .string ⟨#[0]⟩, .string ⟨#[120, 121, 122]⟩]
  have hj' : j < 4 := hj
  obtain rfl | rfl | rfl | rfl : j = 0 ∨ j = 1 ∨ j = 2 ∨ j = 3 := by omega
  all_goals exact hb.cell rfl

set_option maxRecDepth 100000 in
set_option maxHeartbeats 1000000 in
theorem drawSum_any (w : World) (ao : Option Addr) (n cap : Nat) (hn : n ≤ 1048576) (hcap : n ≤ cap) (hc : Came w ao n) :
    Calls Tryd.prog 9 #[.slice ao n cap] w fun e w' => ∃ r, e = .returned (.string r) ∧ r.size ≤ 1000 ∧ w.grownBy w' none := by
  have HO := Lib.hid (open_any w ao n cap hn hcap hc)
  clear hc
  go_enter Tryd.func9, Tryd.ntmps9
  go_wp2_with fail
  refine HO.out.mono ?_
  rintro e w1 ⟨rfl, ⟨n', hr1⟩, hg1⟩
  have hrb := hr1.lt
  obtain ⟨rb, hrbe⟩ : ∃ rb, rb = w.heap.size := ⟨_, rfl⟩
  rw [← hrbe] at hr1 hrb ⊢
  have HRB := Lib.hid hrbe
  have HF := Lib.hid (of_any (w1.alloc (.cells #[.string ⟨#[97]⟩, .string ⟨#[97, 98, 99]⟩, .string ⟨#[0]⟩, .string ⟨#[120, 121, 122]⟩] 9)) rb ao n' cap 0 (hr1.kept (World.grownBy_alloc w1 _ none)) (by omega) w1.heap.size (by omega) four (by decide) (by decide) 4 (four_cell w1))
  have HG1 := Lib.hid hg1
  clear hr1 hg1 HO hrbe
  go_wp2_with fail
  refine HF.out.mono ?_
  rintro e w2 ⟨j, hj, rfl, hr2, hg2⟩
  have hsz := four_size j hj
  generalize four.getD j ByteArray.empty = s at hsz ⊢
  have HG2 := Lib.hid (show w.grownBy w2 none from grown_into (grown_alloc HG1.out _) hg2 (by have := HRB.out; omega))
  have HP3 := Lib.hid (pick_any w2 rb ao n' cap _ hr2 (by omega) 30 (by decide) (by decide))
  clear hr2 hg2 HF hj HG1
  go_wp2_with fail
  refine HP3.out.mono ?_
  rintro e w3 ⟨x3, rfl, h30, h31, hr3, hg3⟩
  have HG3 := Lib.hid (show w.grownBy w3 none from grown_into HG2.out hg3 (by have := HRB.out; omega))
  have HP4 := Lib.hid (pick_any w3 rb ao n' cap _ hr3 (by omega) 80 (by decide) (by decide))
  clear hr3 hg3 HP3 HG2
  go_wp2_with fail
  refine HP4.out.mono ?_
  rintro e w4 ⟨x4, rfl, h40, h41, hr4, hg4⟩
  have HG4 := Lib.hid (show w.grownBy w4 none from grown_into HG3.out hg4 (by have := HRB.out; omega))
  have hb4 := Blk.new w4 3 [.int .i64 x3, .int .i64 0, .int .i64 55, .int .i64 56, .int .i64 64, .int .i64 x4]
  have hlt4 := hr4.lt
  have HB4 := Lib.hid (show ∀ j, j < 6 → ∃ v : Nat, v ≤ 100 ∧ (w4.alloc (.cells #[.int .i64 x3, .int .i64 0, .int .i64 55, .int .i64 56, .int .i64 64, .int .i64 x4] 3)).cell? ⟨w4.heap.size, j, none⟩ = some (.int .i64 v) from fun j hj => by
    obtain rfl | rfl | rfl | rfl | rfl | rfl : j = 0 ∨ j = 1 ∨ j = 2 ∨ j = 3 ∨ j = 4 ∨ j = 5 := by omega
    · exact ⟨x3.toNat, by omega, by rw [Int.toNat_of_nonneg h30]; exact hb4.cell rfl⟩
    · exact ⟨0, by omega, hb4.cell rfl⟩
    · exact ⟨55, by omega, hb4.cell rfl⟩
    · exact ⟨56, by omega, hb4.cell rfl⟩
    · exact ⟨64, by omega, hb4.cell rfl⟩
    · exact ⟨x4.toNat, by omega, by rw [Int.toNat_of_nonneg h40]; exact hb4.cell rfl⟩)
  have HP5 := Lib.hid (pick_any (w4.alloc (.cells #[.int .i64 x3, .int .i64 0, .int .i64 55, .int .i64 56, .int .i64 64, .int .i64 x4] 3)) rb ao n' cap _ (hr4.kept (World.grownBy_alloc w4 _ none)) (by omega) 6 (by decide) (by decide))
  clear hr4 hg4 HP4 HG3 hb4
  go_wp2_with fail
  refine HP5.out.mono ?_
  rintro e w5 ⟨x5, rfl, h50, h51, hr5, hg5⟩
  have HG5 := Lib.hid (show w.grownBy w5 none from grown_into (grown_alloc HG4.out _) hg5 (by have := HRB.out; omega))
  obtain ⟨j, rfl⟩ := Int.eq_ofNat_of_zero_le h50
  obtain ⟨v, hv, hcv⟩ := HB4.out j (by omega)
  have d5 := hg5.cell hcv (by simp; omega)
  have HM := Lib.hid (many_any w5 s v (by omega) (by omega))
  clear hr5 hg5 HP5 HG4 HB4 hcv
  go_wp2_with fail
  refine HM.out.mono ?_
  rintro e w6 ⟨r, rfl, hr, rfl⟩
  have hrs : r.size ≤ 1000 := by
    have := congrArg List.length hr
    rw [bI_len, repI_len, bI_len] at this
    have h2 : v * s.size ≤ 100 * 3 := Nat.mul_le_mul hv hsz
    omega
  clear hr d5
  go_wp2
  go_ret
  exact ⟨r, rfl, hrs, HG5.out⟩

end Go.Proofs.YtnpgdjckhkmiiaaDoor
