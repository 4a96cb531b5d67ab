/- Audits: what is asked of an entry; the document's small checks. -/
import Derived.Test.YtdelijobaebfnaaDoorMv6
import Derived.Test.YtdelijobaebfnaaDoorMv7
import Derived.Test.YtdelijobaebfnaaDoorMv5
namespace Go.Proofs.YtdelijobaebfnaaDoor
open Go.RowKit

/-- a list of texts, each with its length ahead of it -/
def encI (ss : List ByteArray) : List Int := ss.flatMap fun s => bI (decS s.size) ++ 58 :: bI s
theorem encI_take (ss : List ByteArray) (k : Nat) (hk : k < ss.length) : encI (ss.take (k + 1)) = encI (ss.take k) ++ (bI (decS (ss.getD k ByteArray.empty).size) ++ 58 :: bI (ss.getD k ByteArray.empty)) := by
  unfold encI
  rw [List.take_succ_eq_append_getElem hk, List.flatMap_append]
  congr 1
  simp [hk]
theorem encI_le (ss : List ByteArray) (k : Nat) : (encI (ss.take k)).length ≤ (encI ss).length := by
  have : encI ss = encI (ss.take k) ++ encI (ss.drop k) := by simp [encI, ← List.flatMap_append]
  rw [this]; simp

set_option maxRecDepth 100000 in
set_option maxHeartbeats 2000000 in
theorem specList_walk (w : World) (ss : List ByteArray) (tb cp : Nat) (ta : Option Addr) (hta : 0 < ss.length → ta = some ⟨tb, 0, none⟩)
    (hss : ∀ j, j < ss.length → w.cell? ⟨tb, j, none⟩ = some (.string (ss.getD j ByteArray.empty))) (hlen : (encI ss).length ≤ 4194304) (hsl : ss.length ≤ 4194304) :
    Calls Tryd.prog 49 #[.slice ta ss.length cp] w fun e w' => e = .returned (.string (strI (hexL (sha (encI ss))))) ∧ w.grownBy w' none := by
  have HSS := Lib.hid hss
  have HTA := Lib.hid hta
  clear hss hta
  go_enter Tryd.func49, Tryd.ntmps49
  go_wp2
  go_loopw [3, 4] (fun o i wr => ∃ (k : Nat) (O : ByteArray), k ≤ ss.length ∧ i = .int .i64 k ∧ o = .string O ∧ Hid (bI O = encI (ss.take k)) ∧ w.grownBy wr none) (fun _ i _ => ss.length - (intOf i).toNat)
  case atStart => exact ⟨0, ⟨#[]⟩, Nat.zero_le _, rfl, rfl, Lib.hid rfl, grown_refl _ _⟩
  case round =>
    obtain ⟨k, O, hk, rfl, rfl, HO, hg⟩ := hrel
    have HG := Lib.hid hg
    clear hg
    by_cases hlt : k < ss.length
    · obtain ⟨s, hs⟩ : ∃ s, s = ss.getD k ByteArray.empty := ⟨_, rfl⟩
      have hta := HTA.out (by omega)
      subst hta
      have d0 : wr.cell? ⟨tb, k, none⟩ = some (.string s) := by rw [hs]; exact HG.out.cell (HSS.out k hlt) (by simp)
      have henc : encI (ss.take (k + 1)) = bI O ++ (bI (decS s.size) ++ 58 :: bI s) := by rw [hs, HO.out]; exact encI_take ss k hlt
      have hle := encI_le ss (k + 1)
      rw [henc] at hle
      simp only [List.length_append, List.length_cons, bI_len] at hle
      obtain ⟨D, hD⟩ : ∃ D, D = decS s.size := ⟨_, rfl⟩
      rw [← hD] at henc hle
      have HDW := Lib.hid (show ∀ W, Calls Tryd.prog 50 #[.int .i64 (s.size : Int)] W fun e w' => e = .returned (.string D) ∧ W.grownBy w' none from fun W => by rw [hD]; exact dec_walk s.size W (by omega))
      have HDA := Lib.hid (HDW.out wr.drew)
      have HENC := Lib.hid henc
      have hkI : (k : Int) < ss.length := by omega
      have l1 : ¬ 9223372036854775807 < O.size + D.size := by omega
      have h58 : (⟨#[58]⟩ : ByteArray).size = 1 := rfl
      have l2 : ¬ 9223372036854775807 < O.size + D.size + 1 := by omega
      have l2' : ¬ 9223372036854775807 < (O ++ D).size + (⟨#[58]⟩ : ByteArray).size := by rw [ByteArray.size_append, h58]; omega
      have l3 : ¬ 9223372036854775807 < O.size + D.size + 1 + s.size := by omega
      have l3' : ¬ 9223372036854775807 < (O ++ D ++ ⟨#[58]⟩).size + s.size := by rw [ByteArray.size_append, ByteArray.size_append, h58]; omega
      clear hs hD henc hle HDW h58
      go_wp2_with fail
      go_region_with (
        go_at_call 50
        refine HDA.out.mono ?_
        rintro e w1 ⟨rfl, hg1⟩
        have d1 := hg1.cell d0 (by simp)
        have HG1 := Lib.hid (show w.grownBy w1 none from grown_trans HG.out (grown_undrew hg1))
        clear hg1)
      all_goals
        go_wp2
        go_roundw
        case rel =>
          refine ⟨k + 1, _, by omega, by go_num, rfl, Lib.hid ?_, HG1.out⟩
          rw [HENC.out, bI_app, bI_app, bI_app]
          simp [bI]
        case measure => simp [intOf]; omega
    · obtain rfl : k = ss.length := by omega
      have hO : bI O = encI ss := by have := HO.out; rwa [List.take_length] at this
      have hOs : O.size ≤ 4194304 := by have := congrArg List.length hO; rw [bI_len] at this; omega
      have HS := Lib.hid (specHashSum_any wr O hOs)
      have HO2 := Lib.hid hO
      clear hO
      go_wp2_with fail
      refine HS.out.mono ?_
      rintro e w1 ⟨rfl, hg1⟩
      have HG1 := Lib.hid (grown_trans HG.out hg1)
      clear hg1
      go_wp2
      go_ret
      refine ⟨?_, HG1.out⟩
      rw [sha_same _ (bI_b O), HO2.out]
      rfl

end Go.Proofs.YtdelijobaebfnaaDoor
namespace Go.Proofs.YtdelijobaebfnaaDoor
open Go.RowKit

/-- a text that may be a detail -/
def DetOk (s : ByteArray) : Prop := s.size ≤ 160 ∧ ∀ j (h : j < s.size), 32 ≤ s[j].toNat ∧ s[j].toNat ≤ 126
/-- an entry that is ok by itself -/
def EntOk (ten wha det : ByteArray) : Prop := NameOk ten ∧ NameOk wha ∧ DetOk det
/-- the sum of an entry behind another one -/
def sumE (before : ByteArray) (n : Nat) (ten wha det : ByteArray) : ByteArray := strI (hexL (sha (encI [before, decS n, ten, wha, det])))
/-- the sum of the last entry -/
def lastE (es : List AE) : Nat → ByteArray
  | 0 => ⟨#[]⟩
  | i + 1 => (es[i]?.map (·.sum)).getD ⟨#[]⟩
theorem lastE_at (es : List AE) (i : Nat) (h : i < es.length) : lastE es (i + 1) = es[i].sum := by
  show (es[i]?.map (·.sum)).getD ⟨#[]⟩ = es[i].sum
  rw [List.getElem?_eq_getElem h]
  rfl
def StepP (es : List AE) (i : Nat) (e : AE) : Prop := e.seq = ((i : Int) + 1) ∧ EntOk e.ten e.wha e.det ∧ e.sum = sumE (lastE es i) (i + 1) e.ten e.wha e.det
/-- an audit that is whole -/
def AuditP (es : List AE) : Prop := es.length ≤ 200 ∧ ∀ i (h : i < es.length), StepP es i es[i]

set_option maxRecDepth 100000 in
set_option maxHeartbeats 8000000 in
theorem sdet_any (w : World) (s : ByteArray) (hs : s.size ≤ 1048576) : Calls Tryd.prog 48 #[.string s] w fun e w' => Says e (DetOk s) ∧ w' = w := by
  go_enter Tryd.func48, Tryd.ntmps48
  go_wp2
  go_loop [3] (fun i => ∃ k : Nat, k ≤ s.size ∧ i = .int .i64 k ∧ Hid (∀ j (h : j < s.size), j < k → 32 ≤ s[j].toNat ∧ s[j].toNat ≤ 126)) (fun i => s.size - (intOf i).toNat)
  case atStart => exact ⟨0, Nat.zero_le _, rfl, Lib.hid fun j _ h => absurd h (Nat.not_lt_zero _)⟩
  case round =>
    obtain ⟨k, hk, rfl, HA⟩ := hrel
    by_cases hlt : k < s.size
    · have hkI : (k : Int) < s.size := by omega
      obtain ⟨x, hx⟩ : ∃ x : Nat, s[k].toNat = x := ⟨_, rfl⟩
      have HX := Lib.hid hx
      have HNO := Lib.hid (fun hb : ¬ (32 ≤ x ∧ x ≤ 126) => show Says (.returned (.bool false)) (DetOk s) from .no fun h => hb (by have := h.2 k hlt; rwa [HX.out] at this))
      have HGO := Lib.hid (fun hb : 32 ≤ x ∧ x ≤ 126 => show ∀ j (h : j < s.size), j < k + 1 → 32 ≤ s[j].toNat ∧ s[j].toNat ≤ 126 from fun j h hj => by
        by_cases e : j = k
        · subst e; rw [HX.out]; exact hb
        · exact HA.out j h (by omega))
      by_cases a1 : (x : Int) < 32
      · have HN := Lib.hid (HNO.out (fun h => by omega))
        go_wp2
        go_ret
        exact ⟨HN.out, rfl⟩
      · by_cases a2 : (126 : Int) < (x : Int)
        · have HN := Lib.hid (HNO.out (fun h => by omega))
          go_wp2
          go_ret
          exact ⟨HN.out, rfl⟩
        · have HY := Lib.hid (HGO.out ⟨by omega, by omega⟩)
          go_wp2
          exact ⟨⟨k + 1, by omega, by go_num, HY⟩, by simp [intOf]; omega⟩
    · obtain rfl : k = s.size := by omega
      by_cases h64 : (s.size : Int) ≤ 160
      · have HD := Lib.hid (show Says (.returned (.bool true)) (DetOk s) from .yes ⟨by omega, fun j h => HA.out j h h⟩)
        go_wp2
        go_ret
        exact ⟨HD.out, rfl⟩
      · have HD := Lib.hid (show Says (.returned (.bool false)) (DetOk s) from .no (fun h => h64 (by have := h.1; omega)))
        go_wp2
        go_ret
        exact ⟨HD.out, rfl⟩

set_option maxRecDepth 100000 in
set_option maxHeartbeats 8000000 in
theorem sentok_any (w : World) (n : Int) (ten wha det sum : ByteArray) (h1 : ten.size ≤ 1048576) (h2 : wha.size ≤ 1048576) (h3 : det.size ≤ 1048576) : Calls Tryd.prog 26 #[.agg #[.int .i64 n, .string ten, .string wha, .string det, .string sum]] w fun e w' => Says e (EntOk ten wha det) ∧ w.grownBy w' none := by
  obtain ⟨W, hW⟩ : ∃ W, w.alloc (Obj.cells #[Value.int .i64 n, .string ten, .string wha, .string det, .string sum] 28) = W := ⟨_, rfl⟩
  obtain ⟨B, hB⟩ : ∃ x, w.heap.size = x := ⟨_, rfl⟩
  have HG := Lib.hid (show w.grownBy W none from by rw [← hW]; exact grown_alloc (grown_refl _ _) _)
  have HBB := Lib.hid (show Blk W B 28 [.int .i64 n, .string ten, .string wha, .string det, .string sum] from by rw [← hW, ← hB]; exact Blk.new w 28 _)
  have HW := Lib.hid hW
  have HBE := Lib.hid hB
  have c2 : W.cell? ⟨B, 2, none⟩ = some (.string wha) := HBB.out.cell rfl
  have c3 : W.cell? ⟨B, 3, none⟩ = some (.string det) := HBB.out.cell rfl
  have H1 := Lib.hid (nameOkS_any W ten h1)
  have H2 := Lib.hid (nameOkS_any W wha h2)
  have H3 := Lib.hid (sdet_any W det h3)
  clear hW hB h1 h2 h3
  go_enter Tryd.func26, Tryd.ntmps26
  go_wp2_with fail
  rw [HW.out, HBE.out]
  refine H1.out.mono ?_
  rintro e wx ⟨⟨b1, rfl, hb1⟩, hw⟩
  have hw := hw.symm
  subst hw
  have K1 := Lib.hid hb1
  clear hb1
  cases b1
  case false =>
    have HD := Lib.hid (show Says (.returned (.bool false)) (EntOk ten wha det) from .no (fun h => by have := K1.out.2 h.1; cases this))
    go_wp2
    go_ret
    exact ⟨HD.out, HG.out⟩
  go_wp2_with fail
  refine H2.out.mono ?_
  rintro e wx ⟨⟨b2, rfl, hb2⟩, hw⟩
  have hw := hw.symm
  subst hw
  have K2 := Lib.hid hb2
  clear hb2
  cases b2
  case false =>
    have HD := Lib.hid (show Says (.returned (.bool false)) (EntOk ten wha det) from .no (fun h => by have := K2.out.2 h.2.1; cases this))
    go_wp2
    go_ret
    exact ⟨HD.out, HG.out⟩
  go_wp2_with fail
  refine H3.out.mono ?_
  rintro e wx ⟨⟨b3, rfl, hb3⟩, hw⟩
  have hw := hw.symm
  subst hw
  have HD := Lib.hid (show Says (.returned (.bool b3)) (EntOk ten wha det) from ⟨b3, rfl, fun e => ⟨K1.out.1 (by first | trivial | rfl), K2.out.1 (by first | trivial | rfl), hb3.1 e⟩, fun h => hb3.2 h.2.2⟩)
  clear hb3
  go_wp2
  go_ret
  exact ⟨HD.out, HG.out⟩

set_option maxRecDepth 100000 in
set_option maxHeartbeats 8000000 in
theorem slast_any (w : World) (es : List AE) (i cap : Nat) (ao : Option Addr) (base : Nat) (hl : ELies w base ao es) (hi : i ≤ es.length) (hn : es.length ≤ 1048576) : Calls Tryd.prog 28 #[.slice ao i cap] w fun e w' => e = .returned (.string (lastE es i)) ∧ w' = w := by
  cases i with
  | zero =>
    have HE := Lib.hid (show lastE es 0 = ⟨#[]⟩ from rfl)
    rw [HE.out]
    clear hl
    go_enter Tryd.func28, Tryd.ntmps28
    go_wp2
    go_ret
    exact ⟨rfl, rfl⟩
  | succ k =>
    rcases hl with h | ⟨ab, o, rfl, -, hc⟩
    · omega
    have c4 := (hc k (by omega)).2.2.2.2
    have HE := Lib.hid (lastE_at es k (by omega))
    obtain ⟨S, hS⟩ : ∃ S, es[k].sum = S := ⟨_, rfl⟩
    rw [HE.out, hS]
    rw [hS] at c4
    have k0 : ¬ (((k + 1 : Nat) : Int) = 0) := by omega
    have k0b : (((k + 1 : Nat) : Int) == 0) = false := by rw [beq_eq_false_iff_ne]; exact k0
    have kI : (k : Int) ≤ 1048576 := by omega
    clear hc hS HE hi hn
    go_enter Tryd.func28, Tryd.ntmps28
    go_wp2
    go_ret
    exact ⟨rfl, rfl⟩
end Go.Proofs.YtdelijobaebfnaaDoor
