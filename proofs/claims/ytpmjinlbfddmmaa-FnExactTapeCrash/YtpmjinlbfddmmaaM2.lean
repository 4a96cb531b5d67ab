/- Users: how they lie, and how much they are. -/
import Derived.Test.YtpmjinlbfddmmaaM1
namespace Go.Proofs.Ytpmjinlbfddmmaa
open Go.RowKit

/-- a user's two cells, and the roles behind them, in blocks from base on -/
def Two (w : World) (base b o : Nat) (u : ByteArray × List ByteArray) (ar : Option Addr) (cr : Nat) : Prop :=
  w.cell? ⟨b, o, none⟩ = some (.string u.1) ∧ w.cell? ⟨b, o + 1, none⟩ = some (.slice ar u.2.length cr) ∧ Lies w base ar u.2
theorem Two.kept {w w' : World} {base b o : Nat} {u : ByteArray × List ByteArray} {ar : Option Addr} {cr : Nat} {row : Option Nat} (h : Two w base b o u ar cr) (hg : w.grownBy w' row) (hb : some b ≠ row) (hr : ∀ q, row = some q → q < base) : Two w' base b o u ar cr :=
  ⟨hg.cell h.1 hb, hg.cell h.2.1 hb, h.2.2.kept hg hr⟩
/-- a list of users lies behind an address, in blocks from base on -/
def ULies (w : World) (base : Nat) (ao : Option Addr) (us : List (ByteArray × List ByteArray)) : Prop := us.length = 0 ∨ ∃ ab o, ao = some ⟨ab, o, none⟩ ∧ base ≤ ab ∧ ∀ j (h : j < us.length), ∃ ar cr, Two w base ab (o + j * 2) us[j] ar cr
theorem ULies.kept {w w' : World} {base : Nat} {ao : Option Addr} {us : List (ByteArray × List ByteArray)} {row : Option Nat} (h : ULies w base ao us) (hg : w.grownBy w' row) (hr : ∀ q, row = some q → q < base) : ULies w' base ao us := by
  rcases h with h | ⟨ab, o, rfl, hb, h⟩
  · exact .inl h
  · refine .inr ⟨ab, o, rfl, hb, fun j hj => ?_⟩
    obtain ⟨ar, cr, h2⟩ := h j hj
    exact ⟨ar, cr, h2.kept hg (fun e => by have := hr ab e.symm; omega) hr⟩
theorem ULies.grown {w w' : World} {base : Nat} {ao : Option Addr} {us : List (ByteArray × List ByteArray)} (h : ULies w base ao us) (hg : w.grownBy w' none) : ULies w' base ao us := h.kept hg (fun q e => by cases e)

/-- how much a user is, and users -/
def uB (u : ByteArray × List ByteArray) : Nat := u.1.size + (u.2.length + bulkS u.2)
def bulkU : List (ByteArray × List ByteArray) → Nat
  | [] => 0
  | u :: us => uB u + bulkU us
theorem bulkU_take (us : List (ByteArray × List ByteArray)) : ∀ j (h : j < us.length), bulkU (us.take (j + 1)) = bulkU (us.take j) + uB us[j] := by
  induction us with
  | nil => intro j h; simp at h
  | cons s ss ih =>
    intro j h
    cases j with
    | zero => simp [bulkU]
    | succ j => simp [bulkU, ih j (by simpa using h), Nat.add_assoc]
theorem bulkU_le (us : List (ByteArray × List ByteArray)) (j : Nat) : bulkU (us.take j) ≤ bulkU us := by
  induction us generalizing j with
  | nil => simp [bulkU]
  | cons s ss ih =>
    cases j with
    | zero => simp [bulkU]
    | succ j => simp [bulkU]; exact ih j
theorem bulkU_at (us : List (ByteArray × List ByteArray)) (j : Nat) (h : j < us.length) : uB us[j] ≤ bulkU us := by
  have h1 := bulkU_take us j h
  have h2 := bulkU_le us (j + 1)
  omega
theorem bulkS_at (ss : List ByteArray) (s : ByteArray) (h : s ∈ ss) : s.size ≤ bulkS ss := by
  induction ss with
  | nil => cases h
  | cons x xs ih =>
    rcases List.mem_cons.1 h with rfl | h
    · simp [bulkS]
    · have := ih h
      simp [bulkS]; omega
def USz (us : List (ByteArray × List ByteArray)) : Prop := ∀ u ∈ us, u.1.size ≤ 9223372036854775807 ∧ u.2.length ≤ 9223372036854775807 ∧ ∀ s ∈ u.2, s.size ≤ 9223372036854775807

set_option maxRecDepth 100000 in
set_option maxHeartbeats 1000000 in
theorem szUser_any (w : World) (u : ByteArray × List ByteArray) (ar : Option Addr) (cr : Nat) (hl : Lies w 0 ar u.2) (h1 : u.1.size ≤ 9223372036854775807) (h2 : u.2.length ≤ 9223372036854775807) (h3 : ∀ s ∈ u.2, s.size ≤ 9223372036854775807) (M : Nat) (hM : M ≤ 1048576) :
    Calls Try.prog 45 #[.agg #[.string u.1, .slice ar u.2.length cr], .int .i64 (M : Int)] w fun e w' => ∃ r : Int, e = .returned (.int .i64 r) ∧ Left M (uB u) r ∧ w.grownBy w' none := by
  have HGA := Lib.hid (show w.grownBy (w.alloc (Obj.cells #[Value.string u.1, .slice ar u.2.length cr] 67)) none from grown_alloc (grown_refl _ _) _)
  have HS := Lib.hid (fun (B : Nat) (hB : B ≤ 1048576) => szS_any (w.alloc (Obj.cells #[Value.string u.1, .slice ar u.2.length cr] 67)) ar cr u.2 (hl.kept HGA.out (fun q e => by cases e)) h2 h3 B hB)
  have HU := Lib.hid (show uB u = u.1.size + (u.2.length + bulkS u.2) from rfl)
  clear hl h3
  rw [HU.out]
  by_cases hneg : (M : Int) < u.1.size
  · go_enter Try.func45, Try.ntmps45
    go_wp2
    go_ret
    exact ⟨-1, rfl, .inl ⟨rfl, by omega⟩, HGA.out⟩
  obtain ⟨B, hB⟩ : ∃ B : Nat, (B : Int) = (M : Int) - u.1.size := ⟨M - u.1.size, by omega⟩
  have HB := Lib.hid hB
  have HC := Lib.hid (HS.out B (by omega))
  rw [HB.out] at HC
  go_enter Try.func45, Try.ntmps45
  go_wp2_with fail
  refine HC.out.mono ?_
  rintro e w1 ⟨r, rfl, hr, rfl⟩
  rcases hr with ⟨rfl, hr⟩ | ⟨hr0, hr⟩
  · have HN := Lib.hid (show M < u.1.size + (u.2.length + bulkS u.2) from by have := HB.out; omega)
    clear hr
    go_wp2
    go_ret
    exact ⟨-1, rfl, .inl ⟨rfl, HN.out⟩, HGA.out⟩
  · have HN := Lib.hid (show r + ((u.1.size + (u.2.length + bulkS u.2) : Nat) : Int) = M from by have := HB.out; omega)
    have hr' : ¬ r < 0 := by omega
    clear hr
    go_wp2
    go_ret
    exact ⟨r, rfl, .inr ⟨hr0, HN.out⟩, HGA.out⟩

set_option maxRecDepth 100000 in
set_option maxHeartbeats 1000000 in
theorem szUsers_any (w : World) (us : List (ByteArray × List ByteArray)) (ao : Option Addr) (cap : Nat) (hl : ULies w 0 ao us) (hn : us.length ≤ 9223372036854775807) (hz : USz us) (W0 : World) (hW0 : w.grownBy W0 none) (M : Nat) (hM : M ≤ 1048576) :
    Calls Try.prog 18 #[.slice ao us.length cap, .int .i64 (M : Int)] W0 fun e w' => ∃ r : Int, e = .returned (.int .i64 r) ∧ Left M (us.length + bulkU us) r ∧ W0.grownBy w' none := by
  have HP := Lib.hid hl
  have HZ := Lib.hid hz
  have HW := Lib.hid hW0
  clear hl hz hW0
  by_cases hbig : (M : Int) < us.length
  · go_enter Try.func18, Try.ntmps18
    go_wp2
    go_ret
    exact ⟨-1, rfl, .inl ⟨rfl, by omega⟩, grown_refl _ _⟩
  have hb' : (us.length : Int) ≤ M := by omega
  clear hbig
  go_enter Try.func18, Try.ntmps18
  go_wp2
  go_loopw [1, 5] (fun b i wr => ∃ k B : Nat, k ≤ us.length ∧ i = .int .i64 k ∧ b = .int .i64 B ∧ Hid (B + us.length + bulkU (us.take k) = M) ∧ W0.grownBy wr none) (fun _ i _ => us.length - (intOf i).toNat)
  case atStart => exact ⟨0, M - us.length, Nat.zero_le _, rfl, by congr 1; omega, Lib.hid (by simp [bulkU]; omega), grown_refl _ _⟩
  case round =>
    obtain ⟨k, B, hk, rfl, rfl, HB, hg⟩ := hrel
    have HG := Lib.hid hg
    clear hg
    have hB : B ≤ 1048576 := by have := HB.out; omega
    by_cases hlt : k < us.length
    · rcases HP.out with h0 | ⟨b, o, rfl, -, hc⟩
      · omega
      have HGW := Lib.hid (grown_trans HW.out HG.out)
      obtain ⟨ar, cr, ht⟩ := hc k hlt
      obtain ⟨d0, d1, hls⟩ := ht.kept HGW.out (by simp) (fun q e => by cases e)
      obtain ⟨z1, z2, z3⟩ := HZ.out us[k] (List.getElem_mem hlt)
      have HST := Lib.hid (bulkU_take us k hlt)
      generalize us[k] = u at d0 d1 hls z1 z2 z3 HST
      have HCA := Lib.hid (szUser_any wr u ar cr hls z1 z2 z3 B hB)
      have hkI : (k : Int) < us.length := by omega
      clear hc ht hls z3
      go_wp2_with fail
      refine HCA.out.mono ?_
      rintro e w1 ⟨r, rfl, hr, hg1⟩
      have HR := Lib.hid hr
      have HG1 := Lib.hid (grown_trans HG.out hg1)
      clear hr HCA d0 d1 hg1
      rcases HR.out with ⟨rfl, hneg⟩ | ⟨hr0, hre⟩
      · have HNG := Lib.hid (show M < us.length + bulkU us from by have h1 := HB.out; have h2 := HST.out; have h3 := bulkU_le us (k + 1); omega)
        go_wp2
        go_ret
        exact ⟨-1, rfl, .inl ⟨rfl, HNG.out⟩, HG1.out⟩
      · obtain ⟨R, rfl⟩ := Int.eq_ofNat_of_zero_le hr0
        have HRE := Lib.hid (show R + uB u = B from by omega)
        clear hre
        go_wp2
        go_roundw
        case rel => exact ⟨k + 1, R, by omega, by go_num, rfl, Lib.hid (by rw [HST.out]; have h1 := HB.out; have h2 := HRE.out; omega), HG1.out⟩
        case measure => simp [intOf]; omega
    · obtain rfl : k = us.length := by omega
      go_wp2
      go_ret
      refine ⟨B, rfl, .inr ⟨by omega, ?_⟩, HG.out⟩
      have := HB.out
      rw [List.take_length] at this
      omega
end Go.Proofs.Ytpmjinlbfddmmaa
