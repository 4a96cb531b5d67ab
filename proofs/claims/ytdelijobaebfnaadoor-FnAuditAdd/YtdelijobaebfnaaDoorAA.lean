/- Audits: what is asked of an entry; the document's small checks. -/
import Derived.Test.YtdelijobaebfnaaDoorMa6
import Derived.Test.YtdelijobaebfnaaDoorXQ2
namespace Go.Proofs.YtdelijobaebfnaaDoor
open Go.RowKit

/-- a text that may be a detail -/
def DetOk (s : ByteArray) : Prop := s.size ≤ 160 ∧ ∀ j (h : j < s.size), 32 ≤ s[j].toNat ∧ s[j].toNat ≤ 126
/-- an entry that is ok by itself -/
def EntOk (ten wha det : ByteArray) : Prop := NameOk ten ∧ NameOk wha ∧ DetOk det
/-- the sum of an entry behind another one -/
def sumE (before : ByteArray) (n : Nat) (ten wha det : ByteArray) : ByteArray := strI (hexL (sha (encI [before, decS n, ten, wha, det])))
/-- the sum of the last entry -/
def lastE (es : List AE) : Nat → ByteArray
  | 0 => ⟨#[]⟩
  | i + 1 => (es[i]?.map (·.sum)).getD ⟨#[]⟩
theorem lastE_at (es : List AE) (i : Nat) (h : i < es.length) : lastE es (i + 1) = es[i].sum := by
  show (es[i]?.map (·.sum)).getD ⟨#[]⟩ = es[i].sum
  rw [List.getElem?_eq_getElem h]
  rfl
def StepP (es : List AE) (i : Nat) (e : AE) : Prop := e.seq = ((i : Int) + 1) ∧ EntOk e.ten e.wha e.det ∧ e.sum = sumE (lastE es i) (i + 1) e.ten e.wha e.det
/-- an audit that is whole -/
def AuditP (es : List AE) : Prop := es.length ≤ 200 ∧ ∀ i (h : i < es.length), StepP es i es[i]

set_option maxRecDepth 100000 in
set_option maxHeartbeats 8000000 in
theorem sdet_any (w : World) (s : ByteArray) (hs : s.size ≤ 1048576) : Calls Tryd.prog 48 #[.string s] w fun e w' => Says e (DetOk s) ∧ w' = w := by
  go_enter Tryd.func48, Tryd.ntmps48
  go_wp2
  go_loop [3] (fun i => ∃ k : Nat, k ≤ s.size ∧ i = .int .i64 k ∧ Hid (∀ j (h : j < s.size), j < k → 32 ≤ s[j].toNat ∧ s[j].toNat ≤ 126)) (fun i => s.size - (intOf i).toNat)
  case atStart => exact ⟨0, Nat.zero_le _, rfl, Lib.hid fun j _ h => absurd h (Nat.not_lt_zero _)⟩
  case round =>
    obtain ⟨k, hk, rfl, HA⟩ := hrel
    by_cases hlt : k < s.size
    · have hkI : (k : Int) < s.size := by omega
      obtain ⟨x, hx⟩ : ∃ x : Nat, s[k].toNat = x := ⟨_, rfl⟩
      have HX := Lib.hid hx
      have HNO := Lib.hid (fun hb : ¬ (32 ≤ x ∧ x ≤ 126) => show Says (.returned (.bool false)) (DetOk s) from .no fun h => hb (by have := h.2 k hlt; rwa [HX.out] at this))
      have HGO := Lib.hid (fun hb : 32 ≤ x ∧ x ≤ 126 => show ∀ j (h : j < s.size), j < k + 1 → 32 ≤ s[j].toNat ∧ s[j].toNat ≤ 126 from fun j h hj => by
        by_cases e : j = k
        · subst e; rw [HX.out]; exact hb
        · exact HA.out j h (by omega))
      by_cases a1 : (x : Int) < 32
      · have HN := Lib.hid (HNO.out (fun h => by omega))
        go_wp2
        go_ret
        exact ⟨HN.out, rfl⟩
      · by_cases a2 : (126 : Int) < (x : Int)
        · have HN := Lib.hid (HNO.out (fun h => by omega))
          go_wp2
          go_ret
          exact ⟨HN.out, rfl⟩
        · have HY := Lib.hid (HGO.out ⟨by omega, by omega⟩)
          go_wp2
          exact ⟨⟨k + 1, by omega, by go_num, HY⟩, by simp [intOf]; omega⟩
    · obtain rfl : k = s.size := by omega
      by_cases h64 : (s.size : Int) ≤ 160
      · have HD := Lib.hid (show Says (.returned (.bool true)) (DetOk s) from .yes ⟨by omega, fun j h => HA.out j h h⟩)
        go_wp2
        go_ret
        exact ⟨HD.out, rfl⟩
      · have HD := Lib.hid (show Says (.returned (.bool false)) (DetOk s) from .no (fun h => h64 (by have := h.1; omega)))
        go_wp2
        go_ret
        exact ⟨HD.out, rfl⟩

set_option maxRecDepth 100000 in
set_option maxHeartbeats 8000000 in
theorem sentok_any (w : World) (n : Int) (ten wha det sum : ByteArray) (h1 : ten.size ≤ 1048576) (h2 : wha.size ≤ 1048576) (h3 : det.size ≤ 1048576) : Calls Tryd.prog 26 #[.agg #[.int .i64 n, .string ten, .string wha, .string det, .string sum]] w fun e w' => Says e (EntOk ten wha det) ∧ w.grownBy w' none := by
  obtain ⟨W, hW⟩ : ∃ W, w.alloc (Obj.cells #[Value.int .i64 n, .string ten, .string wha, .string det, .string sum] 28) = W := ⟨_, rfl⟩
  obtain ⟨B, hB⟩ : ∃ x, w.heap.size = x := ⟨_, rfl⟩
  have HG := Lib.hid (show w.grownBy W none from by rw [← hW]; exact grown_alloc (grown_refl _ _) _)
  have HBB := Lib.hid (show Blk W B 28 [.int .i64 n, .string ten, .string wha, .string det, .string sum] from by rw [← hW, ← hB]; exact Blk.new w 28 _)
  have HW := Lib.hid hW
  have HBE := Lib.hid hB
  have c2 : W.cell? ⟨B, 2, none⟩ = some (.string wha) := HBB.out.cell rfl
  have c3 : W.cell? ⟨B, 3, none⟩ = some (.string det) := HBB.out.cell rfl
  have H1 := Lib.hid (nameOkS_any W ten h1)
  have H2 := Lib.hid (nameOkS_any W wha h2)
  have H3 := Lib.hid (sdet_any W det h3)
  clear hW hB h1 h2 h3
  go_enter Tryd.func26, Tryd.ntmps26
  go_wp2_with fail
  rw [HW.out, HBE.out]
  refine H1.out.mono ?_
  rintro e wx ⟨⟨b1, rfl, hb1⟩, hw⟩
  have hw := hw.symm
  subst hw
  have K1 := Lib.hid hb1
  clear hb1
  cases b1
  case false =>
    have HD := Lib.hid (show Says (.returned (.bool false)) (EntOk ten wha det) from .no (fun h => by have := K1.out.2 h.1; cases this))
    go_wp2
    go_ret
    exact ⟨HD.out, HG.out⟩
  go_wp2_with fail
  refine H2.out.mono ?_
  rintro e wx ⟨⟨b2, rfl, hb2⟩, hw⟩
  have hw := hw.symm
  subst hw
  have K2 := Lib.hid hb2
  clear hb2
  cases b2
  case false =>
    have HD := Lib.hid (show Says (.returned (.bool false)) (EntOk ten wha det) from .no (fun h => by have := K2.out.2 h.2.1; cases this))
    go_wp2
    go_ret
    exact ⟨HD.out, HG.out⟩
  go_wp2_with fail
  refine H3.out.mono ?_
  rintro e wx ⟨⟨b3, rfl, hb3⟩, hw⟩
  have hw := hw.symm
  subst hw
  have HD := Lib.hid (show Says (.returned (.bool b3)) (EntOk ten wha det) from ⟨b3, rfl, fun e => ⟨K1.out.1 (by first | trivial | rfl), K2.out.1 (by first | trivial | rfl), hb3.1 e⟩, fun h => hb3.2 h.2.2⟩)
  clear hb3
  go_wp2
  go_ret
  exact ⟨HD.out, HG.out⟩

set_option maxRecDepth 100000 in
set_option maxHeartbeats 8000000 in
theorem slast_any (w : World) (es : List AE) (i cap : Nat) (ao : Option Addr) (base : Nat) (hl : ELies w base ao es) (hi : i ≤ es.length) (hn : es.length ≤ 1048576) : Calls Tryd.prog 28 #[.slice ao i cap] w fun e w' => e = .returned (.string (lastE es i)) ∧ w' = w := by
  cases i with
  | zero =>
    have HE := Lib.hid (show lastE es 0 = ⟨#[]⟩ from rfl)
    rw [HE.out]
    clear hl
    go_enter Tryd.func28, Tryd.ntmps28
    go_wp2
    go_ret
    exact ⟨rfl, rfl⟩
  | succ k =>
    rcases hl with h | ⟨ab, o, rfl, -, hc⟩
    · omega
    have c4 := (hc k (by omega)).2.2.2.2
    have HE := Lib.hid (lastE_at es k (by omega))
    obtain ⟨S, hS⟩ : ∃ S, es[k].sum = S := ⟨_, rfl⟩
    rw [HE.out, hS]
    rw [hS] at c4
    have k0 : ¬ (((k + 1 : Nat) : Int) = 0) := by omega
    have k0b : (((k + 1 : Nat) : Int) == 0) = false := by rw [beq_eq_false_iff_ne]; exact k0
    have kI : (k : Int) ≤ 1048576 := by omega
    clear hc hS HE hi hn
    go_enter Tryd.func28, Tryd.ntmps28
    go_wp2
    go_ret
    exact ⟨rfl, rfl⟩
end Go.Proofs.YtdelijobaebfnaaDoor
