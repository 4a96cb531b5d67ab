/- Where the record of a piece begins; strings.Cut at a newline. -/
import Derived.Test.YtgidhfcnjboieaaDoorT1
import Derived.Lib.IndexLaws
import Derived.Shelf.Strings.Search2
import Derived.Shelf.Lay
import Derived.Ground.NamesProg
namespace Go.Proofs.YtgidhfcnjboieaaDoor
open Go.RowKit

/-- where the first newline is; -1 -/
def nlAt (p : ByteArray) : Int := Lib.indexByte p.data.toList 10
/-- what stands behind the first newline -/
def recT (p : ByteArray) : ByteArray := if 0 ≤ nlAt p then p.extract ((nlAt p).toNat + 1) p.size else ⟨#[]⟩
theorem nl_ge (p : ByteArray) : -1 ≤ nlAt p := Lib.indexByte_ge _ _
theorem data_get (p : ByteArray) (k : Nat) (h : k < p.size) : p.data.toList[k]? = some p[k] := by
  have h2 : k < p.data.size := h
  rw [Array.getElem?_toList, Array.getElem?_eq_getElem h2]
  rfl
theorem nl_some (p : ByteArray) (k : Nat) (h : nlAt p = k) : ∃ hk : k < p.size, p[k].toNat = 10 ∧ ∀ j (hj : j < p.size), j < k → p[j].toNat ≠ 10 := by
  obtain ⟨h1, h2⟩ := Lib.indexByte_some h
  have hk : k < p.size := by
    have := (List.getElem?_eq_some_iff.1 h1).1
    simpa using this
  rw [data_get p k hk] at h1
  refine ⟨hk, by rw [Option.some.inj h1]; rfl, fun j hj hjk e => h2 j hjk ?_⟩
  rw [data_get p j hj]
  exact congrArg some (UInt8.toNat_inj.1 (by rw [e]; rfl))
theorem nl_none (p : ByteArray) (h : nlAt p = -1) : ∀ j (hj : j < p.size), p[j].toNat ≠ 10 := fun j hj e => by
  refine Lib.indexByte_none h j ?_
  rw [data_get p j hj]
  exact congrArg some (UInt8.toNat_inj.1 (by rw [e]; rfl))
theorem nl_at (p : ByteArray) (k : Nat) (hk : k < p.size) (h1 : p[k].toNat = 10) (h2 : ∀ j (hj : j < p.size), j < k → p[j].toNat ≠ 10) : nlAt p = k := by
  have hg := nl_ge p
  rcases (show nlAt p < 0 ∨ 0 ≤ nlAt p by omega) with h | h
  · exact absurd h1 (nl_none p (by omega) k hk)
  · obtain ⟨o, ho⟩ : ∃ o : Nat, nlAt p = o := ⟨(nlAt p).toNat, by omega⟩
    obtain ⟨hk2, h3, h4⟩ := nl_some p o ho
    rcases Nat.lt_trichotomy o k with hh | hh | hh
    · exact absurd h3 (h2 o hk2 hh)
    · rw [ho, hh]
    · exact absurd h1 (h4 k hk hh)
theorem nl_no (p : ByteArray) (h : ∀ j (hj : j < p.size), p[j].toNat ≠ 10) : nlAt p = -1 := by
  have hg := nl_ge p
  rcases (show nlAt p < 0 ∨ 0 ≤ nlAt p by omega) with h2 | h2
  · omega
  · obtain ⟨o, ho⟩ : ∃ o : Nat, nlAt p = o := ⟨(nlAt p).toNat, by omega⟩
    obtain ⟨hk2, h3, h4⟩ := nl_some p o ho
    exact absurd h3 (h o hk2)
theorem recT_at (p : ByteArray) (k : Nat) (h : nlAt p = k) : recT p = p.extract (k + 1) p.size := by
  unfold recT
  rw [h, if_pos (by omega)]
  rfl
theorem recT_none (p : ByteArray) (h : nlAt p = -1) : recT p = ⟨#[]⟩ := by
  unfold recT
  rw [h, if_neg (by omega)]
theorem recT_size (p : ByteArray) : (recT p).size ≤ p.size := by
  unfold recT
  split
  · rw [ByteArray.size_extract]; omega
  · exact Nat.zero_le _
theorem piece_nl (s : ByteArray) : 0 ≤ nlAt (pieceT s) := by
  have hg := nl_ge (pieceT s)
  rcases (show nlAt (pieceT s) < 0 ∨ 0 ≤ nlAt (pieceT s) by omega) with h | h
  · exfalso
    have hn := Lib.indexByte_none (show nlAt (pieceT s) = -1 by omega)
    have hm : (10 : UInt8) ∈ (pieceT s).data.toList := by
      unfold pieceT
      simp [ByteArray.data_append]
    obtain ⟨k, hk, e⟩ := List.mem_iff_getElem.1 hm
    exact hn k (by rw [List.getElem?_eq_getElem hk, e])
  · exact h
/-- whether a piece is whole -/
def wholeB (p : ByteArray) : Bool := decide (0 ≤ nlAt p) && (decide ((recT p).size ≤ 2000) && ((pieceT (recT p)).toList == p.toList))
theorem whole_some (p : ByteArray) (h : 0 ≤ nlAt p) : wholeB p = (decide ((recT p).size ≤ 2000) && ((pieceT (recT p)).toList == p.toList)) := by
  unfold wholeB
  rw [decide_eq_true h, Bool.true_and]
theorem whole_any (p : ByteArray) : wholeB p = (decide ((recT p).size ≤ 2000) && ((pieceT (recT p)).toList == p.toList)) := by
  by_cases h : 0 ≤ nlAt p
  · exact whole_some p h
  · have e : ((pieceT (recT p)).toList == p.toList) = false := by
      rw [beq_eq_false_iff_ne, ByteArray.toList_eq, ByteArray.toList_eq]
      intro he
      have h2 := piece_nl (recT p)
      unfold nlAt at h2 h
      rw [he] at h2
      exact h h2
    unfold wholeB
    rw [e, decide_eq_false h]
    simp

shelf_lay Lays.n219 Nm 219 at Tryd as Tryd.laysIndex

set_option maxRecDepth 100000 in
set_option maxHeartbeats 4000000 in
theorem cutlite_any (w : World) (p : ByteArray) (hs : p.size ≤ 1048576) : Calls Tryd.prog 71 #[.string p, .string ⟨#[10]⟩] w fun e w' => ∃ a b, e = .returned (.tuple #[.string a, .string (recT p), .bool b]) ∧ w.grownBy w' none := by
  have HI := Lib.hid (Any.stringslite_Index_one Tryd.laysIndex p 10 w)
  have hge := nl_ge p
  rcases (show nlAt p < 0 ∨ 0 ≤ nlAt p by omega) with h | h
  · have hn : Lib.indexByte p.data.toList 10 = -1 := by have : nlAt p = -1 := by omega
                                                        exact this
    have HR := Lib.hid (recT_none p hn)
    have HC := Lib.hid (show Calls Tryd.prog 83 #[.string p, .string ⟨#[10]⟩] w (fun e w' => e = .returned (.int .i64 (-1)) ∧ w' = w) from HI.out.mono fun e w' q => by rw [hn] at q; exact q)
    clear h hge hn HI
    go_enter Tryd.func71, Tryd.ntmps71
    go_wp2_with fail
    refine HC.out.mono ?_
    rintro e w1 ⟨rfl, hw⟩
    have hw := hw.symm
    subst hw
    go_wp2
    go_ret3
    exact ⟨_, _, by rw [HR.out]; rfl, grown_refl _ _⟩
  · obtain ⟨k, hk⟩ : ∃ k : Nat, nlAt p = k := ⟨(nlAt p).toNat, by omega⟩
    obtain ⟨hk2, -, -⟩ := nl_some p k hk
    have HR := Lib.hid (recT_at p k hk)
    have HC := Lib.hid (show Calls Tryd.prog 83 #[.string p, .string ⟨#[10]⟩] w (fun e w' => e = .returned (.int .i64 (k : Int)) ∧ w' = w) from HI.out.mono fun e w' q => by
      have hk' : Lib.indexByte p.data.toList 10 = (k : Int) := hk
      rw [hk'] at q; exact q)
    have c2 : (k : Int) ≤ p.size := by omega
    have c4 : (k : Int) + 1 ≤ p.size := by omega
    have c5 : IntKind.i64.wrap ((k : Int) + 1) = (k : Int) + 1 := by rw [IntKind.wrap_i64]; omega
    clear h hge hk HI
    go_enter Tryd.func71, Tryd.ntmps71
    go_wp2_with fail
    refine HC.out.mono ?_
    rintro e w1 ⟨rfl, hw⟩
    have hw := hw.symm
    subst hw
    go_wp2
    go_region
    go_wp2
    go_ret3
    exact ⟨_, _, by rw [HR.out]; rfl, grown_drew (grown_refl _ _)⟩
set_option maxRecDepth 100000 in
set_option maxHeartbeats 4000000 in
theorem cut_any (w : World) (p : ByteArray) (hs : p.size ≤ 1048576) : Calls Tryd.prog 54 #[.string p, .string ⟨#[10]⟩] w fun e w' => ∃ a b, e = .returned (.tuple #[.string a, .string (recT p), .bool b]) ∧ w.grownBy w' none := by
  have HC := Lib.hid (cutlite_any w p hs)
  go_enter Tryd.func54, Tryd.ntmps54
  go_wp2_with fail
  refine HC.out.mono ?_
  rintro e w1 ⟨a, b, rfl, hg⟩
  have HG := Lib.hid hg
  clear hg HC
  go_wp2
  go_ret3
  exact ⟨a, b, rfl, HG.out⟩
end Go.Proofs.YtgidhfcnjboieaaDoor
