/- Numbers, by the program: strconv.Atoi off the shelf, and what is written again. -/
import Derived.Test.YtecekbhkombnnaaGreatDoorNM
import Derived.Test.YtecekbhkombnnaaGreatDoorYQP
import Derived.Shelf.Strconv.AtoiAll
namespace Go.Proofs.YtecekbhkombnnaaGreatDoor
open Go.RowKit

shelf_lay LaysC.n172 Nm 172 at Tryz as Tryz.laysAtoi

/-- the library's two errors are there -/
def ErrC (w : World) : Prop := (∃ te pe, w.cell? ⟨3, 0, none⟩ = some (.iface te pe)) ∧ (∃ te pe, w.cell? ⟨4, 0, none⟩ = some (.iface te pe))
theorem ErrC.grown {w w' : World} (h : ErrC w) (hg : w.grownBy w' none) : ErrC w' := by
  obtain ⟨⟨t1, p1, h1⟩, t2, p2, h2⟩ := h
  exact ⟨⟨t1, p1, hg.cell h1 (by simp)⟩, t2, p2, hg.cell h2 (by simp)⟩
/-- how strconv.Atoi ends -/
def AtoiE (e : Ending) (s : ByteArray) : Prop :=
  (∃ n : Int, e = .returned (.tuple #[.int .i64 n, .nilIface]) ∧ Lib.atoiAll s.data.toList = .ok n) ∨
  (∃ (n : Int) (t : TypeId) (p : Option Addr), e = .returned (.tuple #[.int .i64 n, .iface t (.pointer p)]) ∧ ∀ m : Int, Lib.atoiAll s.data.toList ≠ .ok m)
theorem atoi_any (w : World) (s : ByteArray) (hs : s.size ≤ 1048576) (hE : ErrC w) : Calls Tryz.prog 73 #[.string s] w fun e w' => AtoiE e s ∧ w.grownBy w' none := by
  obtain ⟨⟨t1, p1, h1⟩, t2, p2, h2⟩ := hE
  cases h : Lib.atoiAll s.data.toList with
  | ok v =>
    refine (Any.strconv_Atoi_ok Tryz.laysAtoi s (by omega) v h w).mono ?_
    rintro e w' ⟨rfl, hw⟩
    refine ⟨.inl ⟨v, rfl, h⟩, ?_⟩
    rcases hw with rfl | ⟨t, rfl⟩
    · exact grown_refl _ _
    · exact grown_of_below (Lib.bytesWorld_below _ _ _) none
  | «syntax» =>
    refine (Any.strconv_Atoi_syntax Tryz.laysAtoi s (by omega) h _ w h1 (.inr ⟨_, _, rfl⟩)).mono ?_
    rintro e w' ⟨N, rfl, -, -, hb⟩
    exact ⟨.inr ⟨_, _, _, rfl, fun m e => by rw [h] at e; cases e⟩, grown_of_below hb none⟩
  | range =>
    refine (Any.strconv_Atoi_range Tryz.laysAtoi s (by omega) h _ w h2 (.inr ⟨_, _, rfl⟩)).mono ?_
    rintro e w' ⟨N, rfl, -, -, hb⟩
    exact ⟨.inr ⟨_, _, _, rfl, fun m e => by rw [h] at e; cases e⟩, grown_of_below hb none⟩

/-- how a call ends that reads a number -/
def DecE (e : Ending) (s : ByteArray) : Prop := ∃ n b, e = .returned (.tuple #[.int .i64 n, .bool b]) ∧ DecIs s n b
theorem dec_no {s : ByteArray} (h : ∀ m : Int, Lib.atoiAll s.data.toList ≠ .ok m) : DecIs s 0 false := .inr ⟨rfl, rfl, fun m h0 h1 e => h m (by rw [e, decI_list]; exact atoi_itoa m h0 h1)⟩

set_option maxRecDepth 100000 in
set_option maxHeartbeats 4000000 in
theorem idec_any (w : World) (s : ByteArray) (hs : s.size ≤ 1048576) (hE : ErrC w) (hP : Pow w) : Calls Tryz.prog 46 #[.string s] w fun e w' => DecE e s ∧ w.grownBy w' none := by
  have HA := Lib.hid (atoi_any w s hs hE)
  have HP := Lib.hid (fun (V : World) (hV : w.grownBy V none) => hP.grown hV)
  clear hP hE
  go_enter Tryz.func46, Tryz.ntmps46
  go_wp2_with fail
  refine HA.out.mono ?_
  rintro e w1 ⟨he, hg⟩
  have HG := Lib.hid hg
  clear hg HA
  rcases he with ⟨n, rfl, ha⟩ | ⟨n, t, p, rfl, ha⟩
  · obtain ⟨b0, b1⟩ := Lib.atoiAll_bounds ha
    have HAT := Lib.hid ha
    have HI := Lib.hid ((itoa_any n (by omega) (by omega) w1 (HP.out w1 HG.out)).mono (R' := fun e w' => e = .returned (.string (decI n)) ∧ w1.grownBy w' none) (fun e w' ⟨q, k, os, hw⟩ => ⟨q, by rw [hw]; exact grown_of_below (Lib.below_grow w1.heap.size w1 (Nat.le_refl _) k os) none⟩))
    obtain ⟨S, hS⟩ : ∃ S, decI n = S := ⟨_, rfl⟩
    rw [hS] at HI
    have HSE := Lib.hid hS
    clear ha hS
    go_wp2_with fail
    refine HI.out.mono ?_
    rintro e w2 ⟨rfl, hg⟩
    have HG2 := Lib.hid (grown_trans HG.out hg)
    clear hg HI
    by_cases hq : S.toList = s.toList
    · have hqb : (S.toList == s.toList) = true := by rw [beq_iff_eq]; exact hq
      have HD := Lib.hid (show DecIs s n true from .inl ⟨rfl, by
        rw [HSE.out]
        rw [ByteArray.toList_eq, ByteArray.toList_eq] at hq
        exact (bytes_ext hq).symm, by omega, by omega⟩)
      clear hq
      go_wp2
      go_ret2
      exact ⟨⟨_, _, rfl, HD.out⟩, HG2.out⟩
    · have hqb : (S.toList == s.toList) = false := by rw [beq_eq_false_iff_ne]; exact hq
      have HD := Lib.hid (show DecIs s 0 false from .inr ⟨rfl, rfl, fun m h0 h1 e => hq (by
        have h2 := HAT.out
        rw [e, decI_list, atoi_itoa m h0 h1] at h2
        injection h2 with h2
        rw [← HSE.out, e, h2])⟩)
      clear hq
      go_wp2
      go_ret2
      exact ⟨⟨_, _, rfl, HD.out⟩, HG2.out⟩
  · have HD := Lib.hid (dec_no ha)
    clear ha
    go_wp2
    go_ret2
    exact ⟨⟨_, _, rfl, HD.out⟩, HG.out⟩
end Go.Proofs.YtecekbhkombnnaaGreatDoor
