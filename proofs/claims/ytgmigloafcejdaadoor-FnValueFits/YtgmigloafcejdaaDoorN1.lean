/- The program's look for what is unknown. -/
import Derived.Test.YtgmigloafcejdaaDoorK9
namespace Go.Proofs.YtgmigloafcejdaaDoor
open Go.RowKit

/-- where the first one is of which something does not hold -/
def Found (ks : List VT) (r : Int) : Prop := 0 ≤ r ↔ ¬ KnownK ks

set_option maxRecDepth 100000 in
set_option maxHeartbeats 1000000 in
theorem indexF_any (w : World) (A : Nat → Prop) (ks : List VT) (ao : Option Addr) (c : Nat) (hkl : ks.length ≤ 1048576) (xs : Nat → Value) (hp : KidsA w A ao ks.length xs)
    (ih : ∀ (j : Nat) (k : VT), ks[j]? = some k → ∀ W : World, w.grownBy W none → Calls Tryd.prog 26 #[xs j] W fun e w' => Says e (¬ Known k) ∧ W.grownBy w' none)
    (W : World) (hW : w.grownBy W none) :
    Calls Tryd.prog 84 #[.slice ao ks.length c, .func (.func 26) #[] #[]] W fun e w' => ∃ r : Int, e = .returned (.int .i64 r) ∧ Found ks r ∧ W.grownBy w' none := by
  obtain ⟨b, rfl, -, hc⟩ := hp
  have HC := Lib.hid hc
  have HI := Lib.hid ih
  have HW := Lib.hid hW
  clear hc ih hW
  go_enter Tryd.func84, Tryd.ntmps84
  go_wp2
  go_loopw [8] (fun i wr => ∃ k : Nat, k ≤ ks.length ∧ i = .int .i64 k ∧ Hid (∀ (j : Nat) (t : VT), ks[j]? = some t → j < k → Known t) ∧ W.grownBy wr none) (fun i _ => ks.length - (intOf i).toNat)
  case atStart => exact ⟨0, Nat.zero_le _, rfl, Lib.hid (fun j _ _ h => absurd h (Nat.not_lt_zero _)), grown_refl _ _⟩
  case round =>
    obtain ⟨k, hk, rfl, HA, hg⟩ := hrel
    have HG := Lib.hid hg
    clear hg
    by_cases hlt : k < ks.length
    · have HGW := Lib.hid (grown_trans HW.out HG.out)
      have d0 := HGW.out.cell (HC.out k hlt) (by simp)
      have hkk : ks[k]? = some ks[k] := by simp [hlt]
      have HCA := Lib.hid (HI.out k ks[k] hkk wr HGW.out)
      have HKK := Lib.hid hkk
      have hkI : (k : Int) < ks.length := by omega
      obtain ⟨x, hx⟩ : ∃ x, x = xs k := ⟨_, rfl⟩
      rw [← hx] at d0 HCA
      clear hkk hx
      go_wp2_with fail
      refine HCA.out.mono ?_
      rintro e w1 ⟨⟨bq, rfl, hb⟩, hg1⟩
      have HG1 := Lib.hid (grown_trans HG.out hg1)
      have HB := Lib.hid hb
      clear hg1 HCA hb d0
      cases bq
      · go_wp2
        go_roundw
        case rel => exact ⟨k + 1, by omega, by go_num, Lib.hid (fun j t hj hjk => by
          by_cases e : j = k
          · subst e
            rw [HKK.out] at hj
            cases hj
            apply Classical.byContradiction
            intro hh
            have := HB.out.2 hh
            cases this
          · exact HA.out j t hj (by omega)), HG1.out⟩
        case measure => simp [intOf]; omega
      · have HD := Lib.hid (show Found ks (k : Int) from ⟨fun _ h => HB.out.1 rfl ((knownK_iff ks).1 h k _ HKK.out), fun _ => by omega⟩)
        go_wp2
        go_ret
        exact ⟨_, rfl, HD.out, HG1.out⟩
    · obtain rfl : k = ks.length := by omega
      have HD := Lib.hid (show Found ks (-1) from ⟨fun h => by omega, fun h => absurd ((knownK_iff ks).2 (fun j t hj => HA.out j t hj (List.getElem?_eq_some_iff.1 hj).1)) h⟩)
      go_wp2
      go_ret
      exact ⟨_, rfl, HD.out, HG.out⟩

set_option maxRecDepth 100000 in
set_option maxHeartbeats 1000000 in
theorem containsF_any (w : World) (A : Nat → Prop) (ks : List VT) (ao : Option Addr) (c : Nat) (hkl : ks.length ≤ 1048576) (xs : Nat → Value) (hp : KidsA w A ao ks.length xs)
    (ih : ∀ (j : Nat) (k : VT), ks[j]? = some k → ∀ W : World, w.grownBy W none → Calls Tryd.prog 26 #[xs j] W fun e w' => Says e (¬ Known k) ∧ W.grownBy w' none)
    (W : World) (hW : w.grownBy W none) :
    Calls Tryd.prog 48 #[.agg #[.slice ao ks.length c]] W fun e w' => Says e (¬ KnownK ks) ∧ W.grownBy w' none := by
  have HGA := Lib.hid (show W.grownBy (W.alloc (Obj.cells #[Value.slice ao ks.length c] 78)) none from grown_alloc (grown_refl _ _) _)
  have HIX := Lib.hid (indexF_any w A ks ao c hkl xs hp ih _ (grown_trans hW HGA.out))
  clear hp ih hW
  have HCF := Lib.hid (show Calls Tryd.prog 71 #[.slice ao ks.length c, .func (.func 26) #[] #[]] (W.alloc (Obj.cells #[Value.slice ao ks.length c] 78)) fun e w' => Says e (¬ KnownK ks) ∧ W.grownBy w' none from by
    go_enter Tryd.func71, Tryd.ntmps71
    go_wp2_with fail
    refine HIX.out.mono ?_
    rintro e w1 ⟨r, rfl, hr, hg1⟩
    have HG1 := Lib.hid (grown_trans HGA.out hg1)
    have HD := Lib.hid (show Says (.returned (.bool (decide ((0 : Int) ≤ r)))) (¬ KnownK ks) from ⟨_, rfl, by rw [decide_eq_true_eq]; exact hr⟩)
    clear hg1 hr HIX
    go_wp2
    go_ret
    exact ⟨HD.out, HG1.out⟩)
  go_enter Tryd.func48, Tryd.ntmps48
  go_wp2_with fail
  refine HCF.out.mono ?_
  rintro e w1 ⟨⟨b, rfl, hb⟩, hg1⟩
  have HD := Lib.hid (show Says (.returned (.bool b)) (¬ KnownK ks) from ⟨b, rfl, hb⟩)
  have HG1 := Lib.hid hg1
  clear hb hg1
  go_wp2
  go_ret
  exact ⟨HD.out, HG1.out⟩
end Go.Proofs.YtgmigloafcejdaaDoor
