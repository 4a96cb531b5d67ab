/- Numbers of at most six figures, by the document. -/
import Derived.Test.YtecekbhkombnnaaGreatDoorNR
namespace Go.Proofs.YtecekbhkombnnaaGreatDoor
open Go.RowKit

theorem num_no {s : ByteArray} (h : ∀ m : Int, -999999 ≤ m → m ≤ 999999 → s ≠ decI m) : NumIs s 0 false := .inr ⟨rfl, rfl, h⟩
/-- how a call ends that reads a number -/
def NumE (e : Ending) (s : ByteArray) : Prop := ∃ n b, e = .returned (.tuple #[.int .i64 n, .bool b]) ∧ NumIs s n b
theorem decN_zero : decN 0 = ⟨#[48]⟩ := by
  unfold decN
  rw [dec_one 0 (by omega)]
  rfl
/-- a stroke and figures -/
theorem neg_join (s : ByteArray) (n : Nat) (h : NegT s) (e : s.extract 1 s.size = decN n) (h0 : n ≠ 0) : s = decI (-(n : Int)) := by
  obtain ⟨h1, h2⟩ := h
  have hl : (decI (-(n : Int))).data.toList = 45 :: Lib.decDigits n := by
    rw [decI_list]; unfold Lib.itoa; rw [if_pos (by omega), show (-(n : Int)).natAbs = n by omega]
  apply bytes_ext
  rw [hl, ← decN_list, ← e, extract_list]
  have h3 := dataB_get s 0 (by omega)
  have h4 : s[0] = (45 : UInt8) := UInt8.toNat_inj.1 h2
  rw [h4] at h3
  have hsz : s.data.toList.length = s.size := by simp
  cases hd : s.data.toList with
  | nil => rw [hd] at h3; cases h3
  | cons a r =>
    rw [hd] at h3 hsz
    have h5 : a = 45 := Option.some.inj h3
    rw [h5]
    show 45 :: r = 45 :: List.take (s.size - 1) r
    rw [List.take_of_length_le]
    rw [List.length_cons] at hsz
    omega
theorem pow_lt6 (n k : Nat) (h : n < 10 ^ k) (hk : k < 6) : n ≤ 99999 := by
  have := Nat.pow_le_pow_right (n := 10) (by decide) (show k ≤ 5 by omega)
  have e : (10 : Nat) ^ 5 = 100000 := by decide
  omega
theorem pow_lt7 (n k : Nat) (h : n < 10 ^ k) (hk : k ≤ 6) : n ≤ 999999 := by
  have := Nat.pow_le_pow_right (n := 10) (by decide) (show k ≤ 6 by omega)
  have e : (10 : Nat) ^ 6 = 1000000 := by decide
  omega

set_option maxRecDepth 100000 in
set_option maxHeartbeats 8000000 in
theorem snum_pos (w : World) (s : ByteArray) (hs : s.size ≤ 1048576) (hng : ¬ NegT s) : Calls Tryz.prog 44 #[.string s] w fun e w' => NumE e s ∧ w' = w := by
  obtain ⟨D, hD⟩ : ∃ D, s = D := ⟨_, rfl⟩
  have HSP := Lib.hid (show ∀ m : Int, s = decI m → D = decN m.natAbs ∧ 0 ≤ m from fun m e => by
    rcases neg_split s m e with ⟨h, -⟩ | ⟨-, h, h2⟩
    · exact absurd h hng
    · exact ⟨by rw [← hD]; exact h, h2⟩)
  have HJN := Lib.hid (show ∀ n : Nat, D = decN n → s = decI (n : Int) from fun n e => by rw [decI_nat, hD]; exact e)
  subst hD
  have HR1 := Lib.hid (fun (h : ¬ (1 ≤ s.size ∧ s.size ≤ 6)) => show NumIs s 0 false from num_no fun m h0 h1 e => h (by
    have h2 := (HSP.out m e).1
    rw [h2]
    exact ⟨decN_size1 _, decN_size6 _ (by omega)⟩))
  have HR2 := Lib.hid (fun (h : ∃ hz : 1 < s.size, (s[0]'(by omega)).toNat = 48) => show NumIs s 0 false from num_no fun m h0 h1 e => by
    obtain ⟨hz, h48⟩ := h
    have h2 := (HSP.out m e).1
    have hp : 0 < m.natAbs := by
      rcases Nat.eq_zero_or_pos m.natAbs with h3 | h3
      · rw [h3, decN_zero] at h2; rw [h2] at hz; exact absurd hz (by decide)
      · exact h3
    have h3 := dataB_get s 0 (by omega)
    obtain ⟨c, l, hc, h49⟩ := dec_head m.natAbs hp
    rw [show s.data.toList = c :: l by rw [h2, decN_list, hc]] at h3
    rw [← Option.some.inj h3] at h48
    omega)
  have HR4 := Lib.hid (fun (k : Nat) (hk : k < s.size) (h : s[k].toNat < 48 ∨ 57 < s[k].toNat) => show NumIs s 0 false from num_no fun m h0 h1 e => by
    have h2 := (HSP.out m e).1
    have h3 := List.mem_of_getElem? (dataB_get s k hk)
    rw [show s.data.toList = Lib.decDigits m.natAbs by rw [h2, decN_list]] at h3
    have := dec_figure _ _ h3
    omega)
  have HNG := Lib.hid hng
  by_cases a1 : (1 : Int) ≤ s.size
  case neg =>
    have z1 : ¬ (1 : Int) < s.size := by omega
    have HN := Lib.hid (HR1.out (fun h => a1 (by omega)))
    clear HR1 HR2 HR4 HNG
    go_enter Tryz.func44, Tryz.ntmps44
    go_wp2_with (first | (go_at_call 34; go_in))
    go_ret2
    exact ⟨⟨_, _, rfl, HN.out⟩, rfl⟩
  have a1n : 0 < s.size := by omega
  obtain ⟨x0, hx0⟩ : ∃ x : Nat, s[0].toNat = x := ⟨_, rfl⟩
  have HX0 := Lib.hid hx0
  by_cases z1 : (1 : Int) < s.size
  · have hx45 : ¬ (x0 : Int) = 45 := fun h => HNG.out ⟨by omega, by rw [hx0]; omega⟩
    have hx45b : ((x0 : Int) == 45) = false := by rw [beq_eq_false_iff_ne]; exact hx45
    clear hx45
    by_cases a6 : (s.size : Int) ≤ 6
    case neg =>
      have HN := Lib.hid (HR1.out (fun h => a6 (by omega)))
      clear HR1 HR2 HR4 HNG
      go_enter Tryz.func44, Tryz.ntmps44
      go_wp2_with (first | (go_at_call 34; go_in))
      go_ret2
      exact ⟨⟨_, _, rfl, HN.out⟩, rfl⟩
    by_cases l0 : (x0 : Int) = 48
    case pos =>
      have l0b : ((x0 : Int) == 48) = true := by rw [beq_iff_eq]; exact l0
      have HN := Lib.hid (HR2.out ⟨by omega, by rw [HX0.out]; omega⟩)
      clear HR1 HR2 HR4 HNG
      clear l0
      go_enter Tryz.func44, Tryz.ntmps44
      go_wp2_with (first | (go_at_call 34; go_in))
      go_ret2
      exact ⟨⟨_, _, rfl, HN.out⟩, rfl⟩
    have l0b : ((x0 : Int) == 48) = false := by rw [beq_eq_false_iff_ne]; exact l0
    have HL := Lib.hid (show 1 < s.size → (s[0]'(by omega)).toNat ≠ 48 from fun _ => by rw [HX0.out]; omega)
    clear l0
    clear HR1 HR2 HNG
    go_enter Tryz.func44, Tryz.ntmps44
    go_wp2_with (first | (go_at_call 34; go_in))
    go_loop [6, 7] (fun v i => ∃ k n : Nat, k ≤ s.size ∧ i = .int .i64 k ∧ v = .int .i64 n ∧ Hid (n < 10 ^ k ∧ (1 ≤ k → Lib.decDigits n = s.data.toList.take k) ∧ (k = 0 → n = 0))) (fun _ i => s.size - (intOf i).toNat)
    case atStart => exact ⟨0, 0, Nat.zero_le _, rfl, rfl, Lib.hid ⟨by decide, fun h => absurd h (by decide), fun _ => rfl⟩⟩
    case round =>
      obtain ⟨k, n, hk, rfl, rfl, HI⟩ := hrel
      by_cases hlt : k < s.size
      · have hkI : (k : Int) < s.size := by omega
        have hn5 : n ≤ 99999 := pow_lt6 n k HI.out.1 (by omega)
        have hn0I : (0 : Int) ≤ n := by omega
        have hn5I : (n : Int) ≤ 99999 := by omega
        obtain ⟨x, hx⟩ : ∃ x : Nat, s[k].toNat = x := ⟨_, rfl⟩
        have HX := Lib.hid hx
        by_cases c1 : (x : Int) < 48
        · have HN := Lib.hid (HR4.out k hlt (by rw [HX.out]; omega))
          go_wp2
          go_ret2
          exact ⟨⟨_, _, rfl, HN.out⟩, rfl⟩
        by_cases c2 : (57 : Int) < (x : Int)
        · have HN := Lib.hid (HR4.out k hlt (by rw [HX.out]; omega))
          go_wp2
          go_ret2
          exact ⟨⟨_, _, rfl, HN.out⟩, rfl⟩
        have c1' : (48 : Int) ≤ x := by omega
        have c2' : (x : Int) ≤ 57 := by omega
        have e1 : IntKind.u8.wrap ((x : Int) - 48) = (x : Int) - 48 := by rw [IntKind.wrap_u8']; omega
        have e2 : IntKind.i64.wrap ((x : Int) - 48) = (x : Int) - 48 := by rw [IntKind.wrap_i64]; omega
        have HST := Lib.hid (show n * 10 + (x - 48) < 10 ^ (k + 1) ∧ (1 ≤ k + 1 → Lib.decDigits (n * 10 + (x - 48)) = s.data.toList.take (k + 1)) ∧ (k + 1 = 0 → n * 10 + (x - 48) = 0) from ⟨by rw [Nat.pow_succ]; have := HI.out.1; omega, fun _ => dec_step s k n x hlt HX.out (by omega) (by omega) HI.out.2.1 HI.out.2.2 HL.out, fun h => by omega⟩)
        go_wp2
        exact ⟨⟨k + 1, n * 10 + (x - 48), by omega, by go_num, by first | rfl | (congr 1; omega), HST⟩, by simp [intOf]; omega⟩
      · obtain rfl : k = s.size := by omega
        have hn6 : n ≤ 999999 := pow_lt7 n s.size HI.out.1 (by omega)
        have hn0I : (0 : Int) ≤ n := by omega
        have hn6I : (n : Int) ≤ 999999 := by omega
        have HDN := Lib.hid (show s = decN n from bytes_ext (by
          rw [decN_list, HI.out.2.1 (by omega), List.take_of_length_le (by simp)]))
        have HN := Lib.hid (show NumIs s (n : Int) true from .inl ⟨rfl, HJN.out n HDN.out, by omega, by omega⟩)
        go_wp2
        go_ret2
        exact ⟨⟨_, _, rfl, HN.out⟩, rfl⟩
  · have HL := Lib.hid (show 1 < s.size → (s[0]'(by omega)).toNat ≠ 48 from fun h => absurd h (by omega))
    have a6 : (s.size : Int) ≤ 6 := by omega
    clear HR1 HR2 HNG
    go_enter Tryz.func44, Tryz.ntmps44
    go_wp2_with (first | (go_at_call 34; go_in))
    go_loop [6, 7] (fun v i => ∃ k n : Nat, k ≤ s.size ∧ i = .int .i64 k ∧ v = .int .i64 n ∧ Hid (n < 10 ^ k ∧ (1 ≤ k → Lib.decDigits n = s.data.toList.take k) ∧ (k = 0 → n = 0))) (fun _ i => s.size - (intOf i).toNat)
    case atStart => exact ⟨0, 0, Nat.zero_le _, rfl, rfl, Lib.hid ⟨by decide, fun h => absurd h (by decide), fun _ => rfl⟩⟩
    case round =>
      obtain ⟨k, n, hk, rfl, rfl, HI⟩ := hrel
      by_cases hlt : k < s.size
      · have hkI : (k : Int) < s.size := by omega
        have hn5 : n ≤ 99999 := pow_lt6 n k HI.out.1 (by omega)
        have hn0I : (0 : Int) ≤ n := by omega
        have hn5I : (n : Int) ≤ 99999 := by omega
        obtain ⟨x, hx⟩ : ∃ x : Nat, s[k].toNat = x := ⟨_, rfl⟩
        have HX := Lib.hid hx
        by_cases c1 : (x : Int) < 48
        · have HN := Lib.hid (HR4.out k hlt (by rw [HX.out]; omega))
          go_wp2
          go_ret2
          exact ⟨⟨_, _, rfl, HN.out⟩, rfl⟩
        by_cases c2 : (57 : Int) < (x : Int)
        · have HN := Lib.hid (HR4.out k hlt (by rw [HX.out]; omega))
          go_wp2
          go_ret2
          exact ⟨⟨_, _, rfl, HN.out⟩, rfl⟩
        have c1' : (48 : Int) ≤ x := by omega
        have c2' : (x : Int) ≤ 57 := by omega
        have e1 : IntKind.u8.wrap ((x : Int) - 48) = (x : Int) - 48 := by rw [IntKind.wrap_u8']; omega
        have e2 : IntKind.i64.wrap ((x : Int) - 48) = (x : Int) - 48 := by rw [IntKind.wrap_i64]; omega
        have HST := Lib.hid (show n * 10 + (x - 48) < 10 ^ (k + 1) ∧ (1 ≤ k + 1 → Lib.decDigits (n * 10 + (x - 48)) = s.data.toList.take (k + 1)) ∧ (k + 1 = 0 → n * 10 + (x - 48) = 0) from ⟨by rw [Nat.pow_succ]; have := HI.out.1; omega, fun _ => dec_step s k n x hlt HX.out (by omega) (by omega) HI.out.2.1 HI.out.2.2 HL.out, fun h => by omega⟩)
        go_wp2
        exact ⟨⟨k + 1, n * 10 + (x - 48), by omega, by go_num, by first | rfl | (congr 1; omega), HST⟩, by simp [intOf]; omega⟩
      · obtain rfl : k = s.size := by omega
        have hn6 : n ≤ 999999 := pow_lt7 n s.size HI.out.1 (by omega)
        have hn0I : (0 : Int) ≤ n := by omega
        have hn6I : (n : Int) ≤ 999999 := by omega
        have HDN := Lib.hid (show s = decN n from bytes_ext (by
          rw [decN_list, HI.out.2.1 (by omega), List.take_of_length_le (by simp)]))
        have HN := Lib.hid (show NumIs s (n : Int) true from .inl ⟨rfl, HJN.out n HDN.out, by omega, by omega⟩)
        go_wp2
        go_ret2
        exact ⟨⟨_, _, rfl, HN.out⟩, rfl⟩

set_option maxRecDepth 100000 in
set_option maxHeartbeats 8000000 in
theorem snum_neg (w : World) (s : ByteArray) (hs : s.size ≤ 1048576) (hng : NegT s) : Calls Tryz.prog 44 #[.string s] w fun e w' => NumE e s ∧ w' = w := by
  have hsz := hng.1
  have hszI : (1 : Int) < s.size := by omega
  have hszJ : (1 : Int) ≤ s.size := by omega
  obtain ⟨D, hD⟩ : ∃ D, s.extract 1 s.size = D := ⟨_, rfl⟩
  have HDE := Lib.hid hD
  have a1 : (1 : Int) ≤ D.size := by
    have hds : D.size = s.size - 1 := by rw [← hD, ByteArray.size_extract]; omega
    omega
  have HSP := Lib.hid (show ∀ m : Int, s = decI m → D = decN m.natAbs ∧ m ≠ 0 from fun m e => by
    rcases neg_split s m e with ⟨-, h, h2⟩ | ⟨h, -⟩
    · exact ⟨by rw [← hD]; exact h, by omega⟩
    · exact absurd hng h)
  have HJN := Lib.hid (show ∀ n : Nat, D = decN n → n ≠ 0 → s = decI (-(n : Int)) from fun n e h0 => neg_join s n hng (by rw [hD]; exact e) h0)
  obtain ⟨x0, hx0⟩ : ∃ x : Nat, s[0].toNat = x := ⟨_, rfl⟩
  have hx45 : (x0 : Int) = 45 := by have := hng.2; omega
  have hx45b : ((x0 : Int) == 45) = true := by rw [beq_iff_eq]; exact hx45
  clear hx45 hng
  have HR1 := Lib.hid (fun (h : ¬ (1 ≤ D.size ∧ D.size ≤ 6)) => show NumIs s 0 false from num_no fun m h0 h1 e => h (by
    have h2 := (HSP.out m e).1
    rw [h2]
    exact ⟨decN_size1 _, decN_size6 _ (by omega)⟩))
  have HR2 := Lib.hid (fun (h : ∃ hz : 1 < D.size, (D[0]'(by omega)).toNat = 48) => show NumIs s 0 false from num_no fun m h0 h1 e => by
    obtain ⟨hz, h48⟩ := h
    have h2 := (HSP.out m e).1
    have hp : 0 < m.natAbs := by
      rcases Nat.eq_zero_or_pos m.natAbs with h3 | h3
      · rw [h3, decN_zero] at h2; rw [h2] at hz; exact absurd hz (by decide)
      · exact h3
    have h3 := dataB_get D 0 (by omega)
    obtain ⟨c, l, hc, h49⟩ := dec_head m.natAbs hp
    rw [show D.data.toList = c :: l by rw [h2, decN_list, hc]] at h3
    rw [← Option.some.inj h3] at h48
    omega)
  have HR4 := Lib.hid (fun (k : Nat) (hk : k < D.size) (h : D[k].toNat < 48 ∨ 57 < D[k].toNat) => show NumIs s 0 false from num_no fun m h0 h1 e => by
    have h2 := (HSP.out m e).1
    have h3 := List.mem_of_getElem? (dataB_get D k hk)
    rw [show D.data.toList = Lib.decDigits m.natAbs by rw [h2, decN_list]] at h3
    have := dec_figure _ _ h3
    omega)
  have HR3 := Lib.hid (fun (h : D = decN 0) => show NumIs s 0 false from num_no fun m h0 h1 e => by
    obtain ⟨h2, h3⟩ := HSP.out m e
    rw [h] at h2
    have := decN_inj (a := 0) (b := m.natAbs) (by omega) (by omega) h2
    omega)
  have HZ := Lib.hid (show (D.toList == [48]) = true ↔ D = decN 0 from by
    rw [decN_zero, beq_iff_eq, ByteArray.toList_eq]
    exact ⟨fun h => bytes_ext h, fun h => by rw [h]⟩)
  by_cases a6 : (D.size : Int) ≤ 6
  case neg =>
    have HN := Lib.hid (HR1.out (fun h => a6 (by omega)))
    clear HR1 HR2 HR4 HR3 HZ
    go_enter Tryz.func44, Tryz.ntmps44
    go_wp2_with (first | (go_at_call 34; go_in))
    go_ret2
    exact ⟨⟨_, _, rfl, HN.out⟩, rfl⟩
  have a1n : 0 < D.size := by omega
  obtain ⟨y0, hy0⟩ : ∃ x : Nat, D[0].toNat = x := ⟨_, rfl⟩
  have HX0 := Lib.hid hy0
  by_cases hz : D = decN 0
  case pos =>
    have hzb : (D.toList == [48]) = true := HZ.out.2 hz
    have HN := Lib.hid (HR3.out hz)
    have z1 : ¬ (1 : Int) < D.size := by rw [hz, decN_zero]; decide
    clear HR1 HR2 HR4 HR3 HZ hz
    go_enter Tryz.func44, Tryz.ntmps44
    go_wp2_with (first | (go_at_call 34; go_in))
    go_ret2
    exact ⟨⟨_, _, rfl, HN.out⟩, rfl⟩
  have hzb : (D.toList == [48]) = false := by
    rw [Bool.eq_false_iff]; exact fun h => hz (HZ.out.1 h)
  have HNZ := Lib.hid hz
  clear hz
  by_cases z1 : (1 : Int) < D.size
  · by_cases l0 : (y0 : Int) = 48
    case pos =>
      have l0b : ((y0 : Int) == 48) = true := by rw [beq_iff_eq]; exact l0
      have HN := Lib.hid (HR2.out ⟨by omega, by rw [HX0.out]; omega⟩)
      clear HR1 HR2 HR4 HR3 HZ
      clear l0
      go_enter Tryz.func44, Tryz.ntmps44
      go_wp2_with (first | (go_at_call 34; go_in))
      go_ret2
      exact ⟨⟨_, _, rfl, HN.out⟩, rfl⟩
    have l0b : ((y0 : Int) == 48) = false := by rw [beq_eq_false_iff_ne]; exact l0
    have HL := Lib.hid (show 1 < D.size → (D[0]'(by omega)).toNat ≠ 48 from fun _ => by rw [HX0.out]; omega)
    clear l0
    clear HR1 HR2 HR3 HZ
    go_enter Tryz.func44, Tryz.ntmps44
    go_wp2_with (first | (go_at_call 34; go_in))
    go_loop [6, 7] (fun v i => ∃ k n : Nat, k ≤ D.size ∧ i = .int .i64 k ∧ v = .int .i64 n ∧ Hid (n < 10 ^ k ∧ (1 ≤ k → Lib.decDigits n = D.data.toList.take k) ∧ (k = 0 → n = 0))) (fun _ i => D.size - (intOf i).toNat)
    case atStart => exact ⟨0, 0, Nat.zero_le _, rfl, rfl, Lib.hid ⟨by decide, fun h => absurd h (by decide), fun _ => rfl⟩⟩
    case round =>
      obtain ⟨k, n, hk, rfl, rfl, HI⟩ := hrel
      by_cases hlt : k < D.size
      · have hkI : (k : Int) < D.size := by omega
        have hn5 : n ≤ 99999 := pow_lt6 n k HI.out.1 (by omega)
        have hn0I : (0 : Int) ≤ n := by omega
        have hn5I : (n : Int) ≤ 99999 := by omega
        obtain ⟨x, hx⟩ : ∃ x : Nat, D[k].toNat = x := ⟨_, rfl⟩
        have HX := Lib.hid hx
        by_cases c1 : (x : Int) < 48
        · have HN := Lib.hid (HR4.out k hlt (by rw [HX.out]; omega))
          go_wp2
          go_ret2
          exact ⟨⟨_, _, rfl, HN.out⟩, rfl⟩
        by_cases c2 : (57 : Int) < (x : Int)
        · have HN := Lib.hid (HR4.out k hlt (by rw [HX.out]; omega))
          go_wp2
          go_ret2
          exact ⟨⟨_, _, rfl, HN.out⟩, rfl⟩
        have c1' : (48 : Int) ≤ x := by omega
        have c2' : (x : Int) ≤ 57 := by omega
        have e1 : IntKind.u8.wrap ((x : Int) - 48) = (x : Int) - 48 := by rw [IntKind.wrap_u8']; omega
        have e2 : IntKind.i64.wrap ((x : Int) - 48) = (x : Int) - 48 := by rw [IntKind.wrap_i64]; omega
        have HST := Lib.hid (show n * 10 + (x - 48) < 10 ^ (k + 1) ∧ (1 ≤ k + 1 → Lib.decDigits (n * 10 + (x - 48)) = D.data.toList.take (k + 1)) ∧ (k + 1 = 0 → n * 10 + (x - 48) = 0) from ⟨by rw [Nat.pow_succ]; have := HI.out.1; omega, fun _ => dec_step D k n x hlt HX.out (by omega) (by omega) HI.out.2.1 HI.out.2.2 HL.out, fun h => by omega⟩)
        go_wp2
        exact ⟨⟨k + 1, n * 10 + (x - 48), by omega, by go_num, by first | rfl | (congr 1; omega), HST⟩, by simp [intOf]; omega⟩
      · obtain rfl : k = D.size := by omega
        have hn6 : n ≤ 999999 := pow_lt7 n D.size HI.out.1 (by omega)
        have hn0I : (0 : Int) ≤ n := by omega
        have hn6I : (n : Int) ≤ 999999 := by omega
        have HDN := Lib.hid (show D = decN n from bytes_ext (by
          rw [decN_list, HI.out.2.1 (by omega), List.take_of_length_le (by simp)]))
        have hn1 : n ≠ 0 := fun h => HNZ.out (by rw [← h]; exact HDN.out)
        have HN := Lib.hid (show NumIs s (-(n : Int)) true from .inl ⟨rfl, HJN.out n HDN.out hn1, by omega, by omega⟩)
        clear hn1
        go_wp2
        go_ret2
        exact ⟨⟨_, _, rfl, HN.out⟩, rfl⟩
  · have HL := Lib.hid (show 1 < D.size → (D[0]'(by omega)).toNat ≠ 48 from fun h => absurd h (by omega))
    clear HR1 HR2 HR3 HZ
    go_enter Tryz.func44, Tryz.ntmps44
    go_wp2_with (first | (go_at_call 34; go_in))
    go_loop [6, 7] (fun v i => ∃ k n : Nat, k ≤ D.size ∧ i = .int .i64 k ∧ v = .int .i64 n ∧ Hid (n < 10 ^ k ∧ (1 ≤ k → Lib.decDigits n = D.data.toList.take k) ∧ (k = 0 → n = 0))) (fun _ i => D.size - (intOf i).toNat)
    case atStart => exact ⟨0, 0, Nat.zero_le _, rfl, rfl, Lib.hid ⟨by decide, fun h => absurd h (by decide), fun _ => rfl⟩⟩
    case round =>
      obtain ⟨k, n, hk, rfl, rfl, HI⟩ := hrel
      by_cases hlt : k < D.size
      · have hkI : (k : Int) < D.size := by omega
        have hn5 : n ≤ 99999 := pow_lt6 n k HI.out.1 (by omega)
        have hn0I : (0 : Int) ≤ n := by omega
        have hn5I : (n : Int) ≤ 99999 := by omega
        obtain ⟨x, hx⟩ : ∃ x : Nat, D[k].toNat = x := ⟨_, rfl⟩
        have HX := Lib.hid hx
        by_cases c1 : (x : Int) < 48
        · have HN := Lib.hid (HR4.out k hlt (by rw [HX.out]; omega))
          go_wp2
          go_ret2
          exact ⟨⟨_, _, rfl, HN.out⟩, rfl⟩
        by_cases c2 : (57 : Int) < (x : Int)
        · have HN := Lib.hid (HR4.out k hlt (by rw [HX.out]; omega))
          go_wp2
          go_ret2
          exact ⟨⟨_, _, rfl, HN.out⟩, rfl⟩
        have c1' : (48 : Int) ≤ x := by omega
        have c2' : (x : Int) ≤ 57 := by omega
        have e1 : IntKind.u8.wrap ((x : Int) - 48) = (x : Int) - 48 := by rw [IntKind.wrap_u8']; omega
        have e2 : IntKind.i64.wrap ((x : Int) - 48) = (x : Int) - 48 := by rw [IntKind.wrap_i64]; omega
        have HST := Lib.hid (show n * 10 + (x - 48) < 10 ^ (k + 1) ∧ (1 ≤ k + 1 → Lib.decDigits (n * 10 + (x - 48)) = D.data.toList.take (k + 1)) ∧ (k + 1 = 0 → n * 10 + (x - 48) = 0) from ⟨by rw [Nat.pow_succ]; have := HI.out.1; omega, fun _ => dec_step D k n x hlt HX.out (by omega) (by omega) HI.out.2.1 HI.out.2.2 HL.out, fun h => by omega⟩)
        go_wp2
        exact ⟨⟨k + 1, n * 10 + (x - 48), by omega, by go_num, by first | rfl | (congr 1; omega), HST⟩, by simp [intOf]; omega⟩
      · obtain rfl : k = D.size := by omega
        have hn6 : n ≤ 999999 := pow_lt7 n D.size HI.out.1 (by omega)
        have hn0I : (0 : Int) ≤ n := by omega
        have hn6I : (n : Int) ≤ 999999 := by omega
        have HDN := Lib.hid (show D = decN n from bytes_ext (by
          rw [decN_list, HI.out.2.1 (by omega), List.take_of_length_le (by simp)]))
        have hn1 : n ≠ 0 := fun h => HNZ.out (by rw [← h]; exact HDN.out)
        have HN := Lib.hid (show NumIs s (-(n : Int)) true from .inl ⟨rfl, HJN.out n HDN.out hn1, by omega, by omega⟩)
        clear hn1
        go_wp2
        go_ret2
        exact ⟨⟨_, _, rfl, HN.out⟩, rfl⟩

theorem snum_any (w : World) (s : ByteArray) (hs : s.size ≤ 1048576) : Calls Tryz.prog 44 #[.string s] w fun e w' => NumE e s ∧ w' = w := by
  by_cases h : NegT s
  · exact snum_neg w s hs h
  · exact snum_pos w s hs h
end Go.Proofs.YtecekbhkombnnaaGreatDoor
