/- The document's values: all parts. -/
import Derived.Test.YtgmigloafcejdaaGreatDoorU6
import Derived.Test.YtgmigloafcejdaaGreatDoorU4
namespace Go.Proofs.YtgmigloafcejdaaGreatDoor
open Go.RowKit

theorem plain_any (W : World) (base : Nat) (s n : Int) (t : ByteArray) (ns : List ByteArray) (nk : Nat) (an ak : Option Addr) (cn ck : Nat) (hl : Lies W base an ns) (hnl : ns.length ≤ 1048576) (hsl : ∀ s ∈ ns, s.size ≤ 1048576) (ht : t.size ≤ 1048576) (hnk : nk ≤ 1048576) :
    Calls Tryz.prog 73 #[.agg #[.int .i64 s, .int .i64 n, .string t, .slice an ns.length cn, .slice ak nk ck]] W fun e w' => Says e (Plain s n t ns nk) ∧ W.grownBy w' none := by
  by_cases hs : 1 ≤ s ∧ s ≤ 7
  · have : s = 1 ∨ s = 2 ∨ s = 3 ∨ s = 4 ∨ s = 5 ∨ s = 6 ∨ s = 7 := by omega
    rcases this with rfl | rfl | rfl | rfl | rfl | rfl | rfl
    · exact plain_1 W n t ns nk an ak cn ck hnl
    · exact plain_2 W n t ns nk an ak cn ck hnl
    · exact plain_3 W n t ns nk an ak cn ck hnl
    · exact plain_4 W n t ns nk an ak cn ck hnl ht
    · exact plain_5 W n t ns nk an ak cn ck hnl hnk
    · exact plain_6 W base n t ns nk an ak cn ck hl hnl hsl
    · exact plain_7 W n t ns nk an ak cn ck hnl
  · exact plain_x W s n t ns nk an ak cn ck hnl hs

mutual
/-- all parts are ok, and none is too deep -/
def Parts : VT → Nat → Prop
  | .node s n t ns ks, d => Plain s n t ns ks.length ∧ d ≤ 3 ∧ PartsK ks (d + 1)
def PartsK : List VT → Nat → Prop
  | [], _ => True
  | k :: ks, d => Parts k d ∧ PartsK ks d
end
theorem partsK_iff (ks : List VT) (d : Nat) : PartsK ks d ↔ ∀ (j : Nat) (k : VT), ks[j]? = some k → Parts k d := by
  induction ks with
  | nil => simp [PartsK]
  | cons a ks ih =>
    rw [PartsK, ih]
    constructor
    · rintro ⟨h1, h2⟩ j k hj
      cases j with
      | zero => simp at hj; subst hj; exact h1
      | succ j => exact h2 j k (by simpa using hj)
    · intro h
      exact ⟨h 0 a rfl, fun j k hj => h (j + 1) k (by simpa using hj)⟩
theorem bulkS_mem {ss : List ByteArray} {s : ByteArray} (h : s ∈ ss) : s.size ≤ bulkS ss := by
  induction ss with
  | nil => cases h
  | cons a ss ih =>
    rw [bulkS]
    rcases List.mem_cons.1 h with rfl | h
    · omega
    · have := ih h; omega
end Go.Proofs.YtgmigloafcejdaaGreatDoor

namespace Go.Proofs.YtgmigloafcejdaaGreatDoor
open Go.RowKit

set_option maxRecDepth 100000 in
set_option maxHeartbeats 1000000 in
theorem parts_any (w : World) (base : Nat) (T : VT) (cs : List Value) (h : VIn w base T cs) : bulk T ≤ 1048576 → ∀ (d : Nat), d ≤ 4 → ∀ W : World, w.grownBy W none → Calls Tryz.prog 38 #[.agg cs.toArray, .int .i64 (d : Int)] W fun e w' => Says e (Parts T d) ∧ W.grownBy w' none := by
  induction h with
  | @mk s n t ns ks an ak cn ck CS hn hp hk hcn hck ht hcl hkl hsl hs1 hs2 hn1 hn2 ih =>
    intro hbu d hd W hW
    rw [bulk] at hbu
    have HI := Lib.hid (fun j k (hj : ks[j]? = some k) (X : World) (hX : w.grownBy X none) (h3 : d ≤ 3) => ih j k hj (by have := bulk_kid hj; omega) (d + 1) (by omega) X hX)
    have HPT := Lib.hid (show Parts (.node s n t ns ks) d ↔ Plain s n t ns ks.length ∧ d ≤ 3 ∧ ∀ (j : Nat) (k : VT), ks[j]? = some k → Parts k (d + 1) from by rw [Parts, partsK_iff])
    obtain ⟨p, hp0⟩ : ∃ p : Prop, p = Parts (.node s n t ns ks) d := ⟨_, rfl⟩
    rw [← hp0]
    rw [← hp0] at HPT
    have HPL := Lib.hid (fun (X : World) (hX : w.grownBy X none) => plain_any X base s n t ns ks.length an ak cn ck (hn.kept hX (fun q e => by cases e)) (by omega) (fun x hx => by have := bulkS_mem hx; omega) (by omega) (by omega))
    have HP := Lib.hid hp
    have HW := Lib.hid hW
    have HBA := Lib.hid (Blk.new W 27 [.int .i64 s, .int .i64 n, .string t, .slice an ns.length cn, .slice ak ks.length ck])
    have HGA := Lib.hid (show W.grownBy (W.alloc (Obj.cells #[Value.int .i64 s, .int .i64 n, .string t, .slice an ns.length cn, .slice ak ks.length ck] 27)) none from grown_alloc (grown_refl _ _) _)
    have hkm : ks.length ≤ 1048576 := by omega
    clear hn hp hk ih hsl hW hbu hp0
    go_enter Tryz.func38, Tryz.ntmps38
    go_wp2_with fail
    refine (HPL.out _ (grown_trans HW.out HGA.out)).mono ?_
    rintro e w1 ⟨⟨b, rfl, hb⟩, hg1⟩
    have HB1 := Lib.hid (HBA.out.kept hg1 (by simp))
    have HG1 := Lib.hid (grown_trans HGA.out hg1)
    have HPB := Lib.hid hb
    clear hb hg1 HPL HBA HGA
    cases b
    · have HD := Lib.hid (show Says (.returned (.bool false)) p from .no (fun h => by have := HPB.out.2 (HPT.out.1 h).1; cases this))
      go_wp2
      go_ret
      exact ⟨HD.out, HG1.out⟩
    by_cases h3 : (3 : Int) < (d : Int)
    · have HD := Lib.hid (show Says (.returned (.bool false)) p from .no (fun h => by have := (HPT.out.1 h).2.1; omega))
      go_wp2
      go_ret
      exact ⟨HD.out, HG1.out⟩
    have hd3 : d ≤ 3 := by omega
    go_wp2
    go_loopw [5] (fun i wr => ∃ k : Nat, k ≤ ks.length ∧ i = .int .i64 k ∧ Hid (∀ (j : Nat) (t : VT), ks[j]? = some t → j < k → Parts t (d + 1)) ∧ Blk wr W.heap.size 27 [.int .i64 s, .int .i64 n, .string t, .slice an ns.length cn, .slice ak ks.length ck] ∧ W.grownBy wr none) (fun i _ => ks.length - (intOf i).toNat)
    case atStart => exact ⟨0, Nat.zero_le _, rfl, Lib.hid fun j _ _ h => absurd h (Nat.not_lt_zero _), HB1.out, HG1.out⟩
    case round =>
      obtain ⟨k, hk, rfl, HA, hb, hg⟩ := hrel
      have HB := Lib.hid hb
      have HG := Lib.hid hg
      have d4 : wr.cell? ⟨W.heap.size, 4, none⟩ = some (.slice ak ks.length ck) := hb.cell rfl
      clear hb hg
      by_cases hlt : k < ks.length
      · rcases HP.out with h0 | ⟨b, o, rfl, -, hc⟩
        · omega
        have HGW := Lib.hid (grown_trans HW.out HG.out)
        obtain ⟨c0, c1, c2, c3, c4, hcs, e0, e1, e2, e3, e4⟩ := (hc k hlt).kept HGW.out (by simp)
        have hkk : ks[k]? = some ks[k] := by simp [hlt]
        have HCA := Lib.hid (HI.out k ks[k] hkk wr HGW.out hd3)
        rw [hcs, show ((d + 1 : Nat) : Int) = (d : Int) + 1 from by omega] at HCA
        have HKK := Lib.hid hkk
        have hkI : (k : Int) < ks.length := by omega
        clear hc hcs hkk
        go_wp2_with fail
        refine HCA.out.mono ?_
        rintro e w2 ⟨⟨bq, rfl, hbq⟩, hg2⟩
        have HB2 := Lib.hid (HB.out.kept hg2 (by simp))
        have HG2 := Lib.hid (grown_trans HG.out hg2)
        have HBQ := Lib.hid hbq
        clear hg2 HCA d4 e0 e1 e2 e3 e4 HB hbq
        cases bq
        · have HN := Lib.hid (show Says (.returned (.bool false)) p from .no (fun h => by
            have := HBQ.out.2 ((HPT.out.1 h).2.2 k _ HKK.out)
            cases this))
          go_wp2
          go_ret
          exact ⟨HN.out, HG2.out⟩
        · go_wp2
          go_roundw
          case rel => exact ⟨k + 1, by omega, by go_num, Lib.hid (fun j T hj hjk => by
            by_cases e : j = k
            · subst e
              rw [HKK.out] at hj
              cases hj
              exact HBQ.out.1 (by simp)
            · exact HA.out j T hj (by omega)), HB2.out, HG2.out⟩
          case measure => simp [intOf]; omega
      · obtain rfl : k = ks.length := by omega
        have HN := Lib.hid (show Says (.returned (.bool true)) p from .yes (HPT.out.2 ⟨HPB.out.1 (by simp), hd3, fun j k hj => HA.out j k hj (by
          apply Classical.byContradiction
          intro hh
          rw [List.getElem?_eq_none (by omega)] at hj
          cases hj)⟩))
        go_wp2
        go_ret
        exact ⟨HN.out, HG.out⟩

/-- a value that is ok -/
def OkT (T : VT) : Prop := Parts T 1 ∧ count T ≤ 16

set_option maxRecDepth 100000 in
set_option maxHeartbeats 1000000 in
theorem specOk_any (w : World) (base : Nat) (T : VT) (cs : List Value) (h : VIn w base T cs) (hbu : bulk T ≤ 1048576) : Calls Tryz.prog 14 #[.agg cs.toArray] w fun e w' => Says e (OkT T) ∧ w.grownBy w' none := by
  have HPA := Lib.hid (fun (X : World) (hX : w.grownBy X none) => parts_any w base T cs h hbu 1 (by decide) X hX)
  have HCO := Lib.hid (fun (X : World) (hX : w.grownBy X none) => count_any w base T cs h hbu X hX)
  have hcl := count_le T
  obtain ⟨s, n, t, an, ln, cn, ak, lk, ck, hcs⟩ := h.shape
  subst hcs
  obtain ⟨c, hc⟩ : ∃ c, c = count T := ⟨_, rfl⟩
  rw [← hc] at hcl HCO
  have HC := Lib.hid hc
  clear h hc
  have HBA := Lib.hid (Blk.new w 27 [.int .i64 s, .int .i64 n, .string t, .slice an ln cn, .slice ak lk ck])
  have HGA := Lib.hid (show w.grownBy (w.alloc (Obj.cells #[Value.int .i64 s, .int .i64 n, .string t, .slice an ln cn, .slice ak lk ck] 27)) none from grown_alloc (grown_refl _ _) _)
  go_enter Tryz.func14, Tryz.ntmps14
  go_wp2_with fail
  refine (HPA.out _ HGA.out).mono ?_
  rintro e w1 ⟨⟨b, rfl, hb⟩, hg1⟩
  have HG1 := Lib.hid (grown_trans HGA.out hg1)
  have HB1 := Lib.hid (HBA.out.kept hg1 (by simp))
  have HPB := Lib.hid hb
  have d0 : w1.cell? ⟨w.heap.size, 0, none⟩ = some (.int .i64 s) := HB1.out.cell rfl
  have d1 : w1.cell? ⟨w.heap.size, 1, none⟩ = some (.int .i64 n) := HB1.out.cell rfl
  have d2 : w1.cell? ⟨w.heap.size, 2, none⟩ = some (.string t) := HB1.out.cell rfl
  have d3 : w1.cell? ⟨w.heap.size, 3, none⟩ = some (.slice an ln cn) := HB1.out.cell rfl
  have d4 : w1.cell? ⟨w.heap.size, 4, none⟩ = some (.slice ak lk ck) := HB1.out.cell rfl
  clear hb hg1 HPA HBA HGA
  cases b
  · have HD := Lib.hid (show Says (.returned (.bool false)) (OkT T) from .no (fun h => by have := HPB.out.2 h.1; cases this))
    go_wp2
    go_ret
    exact ⟨HD.out, HG1.out⟩
  go_wp2_with fail
  refine (HCO.out w1 HG1.out).mono ?_
  rintro e w2 ⟨rfl, hg2⟩
  have HG2 := Lib.hid (grown_trans HG1.out hg2)
  clear hg2 HCO d0 d1 d2 d3 d4 HB1
  have HD := Lib.hid (show Says (.returned (.bool (decide ((c : Int) ≤ 16)))) (OkT T) from ⟨_, rfl, by
    rw [decide_eq_true_eq]
    have h1 := HC.out
    exact ⟨fun h => ⟨HPB.out.1 (by simp), by omega⟩, fun h => by have := h.2; omega⟩⟩)
  go_wp2
  go_ret
  exact ⟨HD.out, HG2.out⟩
end Go.Proofs.YtgmigloafcejdaaGreatDoor
