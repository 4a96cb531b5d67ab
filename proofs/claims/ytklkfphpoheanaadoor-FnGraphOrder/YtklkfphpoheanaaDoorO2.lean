/- impl.GraphOrder. -/
import Derived.Test.YtklkfphpoheanaaDoorO1
import Derived.Test.YtklkfphpoheanaaDoorS1
namespace Go.Proofs.YtklkfphpoheanaaDoor
open Go.RowKit

/-- what GraphOrder is to answer -/
def OrdSpec (n : Int) (E : List (Int × Int)) (L : List Int) (b : Bool) : Prop :=
  (¬ OkG n E ∧ L = [] ∧ b = false) ∨ (OkG n E ∧ ∃ D, Chain (adj E) n.toNat D ∧ (∀ k, freeB (adj E) n.toNat D k = false) ∧ ((D.length < n.toNat ∧ L = [] ∧ b = false) ∨ (n.toNat ≤ D.length ∧ L = D ∧ b = true)))
theorem OrdSpec.one {n : Int} {E : List (Int × Int)} {L L' : List Int} {b b' : Bool} (h : OrdSpec n E L b) (h' : OrdSpec n E L' b') : L = L' ∧ b = b' := by
  rcases h with ⟨h1, rfl, rfl⟩ | ⟨h1, D, hc, hf, h2⟩
  · rcases h' with ⟨_, rfl, rfl⟩ | ⟨h1', _⟩
    · exact ⟨rfl, rfl⟩
    · exact absurd h1' h1
  · rcases h' with ⟨h1', _⟩ | ⟨_, D', hc', hf', h2'⟩
    · exact absurd h1 h1'
    · obtain rfl := hc.one hc' hf hf'
      rcases h2 with ⟨a, rfl, rfl⟩ | ⟨a, rfl, rfl⟩ <;> rcases h2' with ⟨a', rfl, rfl⟩ | ⟨a', rfl, rfl⟩
      · exact ⟨rfl, rfl⟩
      · omega
      · omega
      · exact ⟨rfl, rfl⟩
theorem OrdSpec.len {n : Int} {E : List (Int × Int)} {L : List Int} {b : Bool} (h : OrdSpec n E L b) : L.length ≤ 16 := by
  rcases h with ⟨_, rfl, _⟩ | ⟨h1, D, hc, _, ⟨_, rfl, _⟩ | ⟨_, rfl, _⟩⟩
  · simp
  · simp
  · have := hc.len
    have := h1.2.1
    omega

set_option maxRecDepth 100000 in
set_option maxHeartbeats 1000000 in
theorem GraphOrder_any (w : World) (n : Int) (ao : Option Addr) (cap : Nat) (E : List (Int × Int)) (hE : NLies w ao E) (hl : E.length ≤ 1048576) :
    Calls Tryd.prog 7 #[.int .i64 n, .slice ao E.length cap] w fun e w' => ∃ v b L, e = .returned (.tuple #[v, .bool b]) ∧ Row w' w.heap.size v (ints L) ∧ OrdSpec n E L b ∧ w.grownBy w' none := by
  have hO : Calls Tryd.prog 23 #[.int .i64 n, .slice ao E.length cap] w fun e w' => ∃ A b, e = .returned (.tuple #[.agg (gCells n A).toArray, .bool b]) ∧ A.length = 16 ∧ (b = true ↔ OkG n E) ∧ (b = true → A = adj E) ∧ w.grownBy w' none := by
    by_cases h : 0 ≤ n ∧ n ≤ 16
    · refine (graphOf_yes w n h.1 h.2 ao cap E hE hl).mono ?_
      rintro e w' ⟨A, b, rfl, h16, hb, hA, hg⟩
      exact ⟨A, b, rfl, h16, ⟨fun e => ⟨h.1, h.2, hb.1 e⟩, fun e => hb.2 e.2.2⟩, hA, hg⟩
    · refine (graphOf_no w n (by omega) ao E.length cap).mono ?_
      rintro e w' ⟨rfl, hg⟩
      exact ⟨_, false, rfl, rfl, ⟨(fun h => by cases h), fun e => absurd ⟨e.1, e.2.1⟩ h⟩, (fun h => by cases h), hg⟩
  have HO := Lib.hid hO
  clear hE hO
  go_enter Tryd.func7, Tryd.ntmps7
  go_wp2_with fail
  refine HO.out.mono ?_
  rintro e w1 ⟨A, b, rfl, hA16, hb, hA, hg1⟩
  have HG1 := Lib.hid hg1
  have hs1 := hg1.size
  have HI := Lib.hid (show (Tryd.prog.info? 49).map (·.size) = some (gCells n A).length from by rw [gCells_len, hA16]; exact info52)
  have HLL := Lib.hid (show (gCells 0 (List.replicate 16 0)).length = (gCells n A).length from by rw [gCells_len, gCells_len, hA16]; rfl)
  have HB0 := Lib.hid (Blk.new w1 49 (gCells 0 (List.replicate 16 0)))
  have HBB := Lib.hid hb
  have HAA := Lib.hid hA
  clear hg1 HO hb hA
  cases b
  · have HNO := Lib.hid (show ¬ OkG n E from fun h => by have := HBB.out.2 h; cases this)
    go_wp2_with (first | ((with_reducible refine wpList_store_blk ?_ 49 (.tmp 6) (.tmp 13) ?_ w1.heap.size (gCells n A) (gCells 0 (List.replicate 16 0)) 49 ?_ ?_ ?_ ?_ ?_ ?_ ?_); exact rfl; exact rfl; exact HB0.out; exact HI.out; exact HLL.out; exact gCells_one _ _; exact rfl; exact rfl; intro w2 HB2 HG2))
    go_ret2
    exact ⟨_, _, [], rfl, Row.nil _ _, .inl ⟨HNO.out, rfl, rfl⟩, grown_into (grown_alloc HG1.out _) HG2.out hs1⟩
  · have hok := HBB.out.1 rfl
    have HOK := Lib.hid hok
    have hAA := HAA.out rfl
    obtain ⟨m, rfl⟩ := Int.eq_ofNat_of_zero_le hok.1
    have hm16 : m ≤ 16 := by have := hok.2.1; omega
    have HORD := Lib.hid (fun W => order_any W m A hm16 hA16 (by rw [hAA]; exact adj_in m hm16 E hok.2.2))
    have HAE := Lib.hid hAA
    clear hok hAA HAA HBB
    go_wp2_with (first | ((with_reducible refine wpList_store_blk ?_ 49 (.tmp 6) (.tmp 13) ?_ w1.heap.size (gCells m A) (gCells 0 (List.replicate 16 0)) 49 ?_ ?_ ?_ ?_ ?_ ?_ ?_); exact rfl; exact rfl; exact HB0.out; exact HI.out; exact HLL.out; exact gCells_one _ _; exact rfl; exact rfl; intro w2 HB2 HG2) | ((with_reducible refine wpList_load_blk_if 49 (.tmp 6) ?_ ?_ w1.heap.size (gCells m A) 49 ?_ _ Tryd.underlying49 ?_ ?_ ?_ ?_); exact rfl; exact rfl; exact HB2.out; exact rfl; exact HI.out; exact rfl))
    refine (HORD.out w2).mono ?_
    rintro e w3 ⟨v, D, rfl, hrow, hch, hfin, hg3⟩
    have HGW := Lib.hid (show w.grownBy w2 none from grown_into (grown_alloc HG1.out _) HG2.out hs1)
    have hs2 := HGW.out.size
    have HG3 := Lib.hid (grown_trans HGW.out hg3)
    have HRW := Lib.hid (hrow.base hs2)
    rw [HAE.out] at hch hfin
    have HCH := Lib.hid hch
    have HFI := Lib.hid hfin
    have hDl := hch.len
    obtain ⟨ta, gq, cq, hvq, -⟩ := row_ints hrow
    subst hvq
    clear hrow hch hfin hg3 HORD HB2 HG2
    by_cases hlt : (D.length : Int) < (m : Int)
    · go_wp2
      go_ret2
      exact ⟨_, _, [], rfl, Row.nil _ _, .inr ⟨HOK.out, D, HCH.out, HFI.out, .inl ⟨by simp; omega, rfl, rfl⟩⟩, HG3.out⟩
    · have hge : (m : Int) ≤ (D.length : Int) := by omega
      go_wp2
      go_ret2
      exact ⟨_, _, D, rfl, HRW.out, .inr ⟨HOK.out, D, HCH.out, HFI.out, .inr ⟨by simp; omega, rfl, rfl⟩⟩, HG3.out⟩

end Go.Proofs.YtklkfphpoheanaaDoor
