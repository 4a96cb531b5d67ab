/- The document's count of parts, and what is known. -/
import Derived.Test.YtgmigloafcejdaaGreatDoorU2
namespace Go.Proofs.YtgmigloafcejdaaGreatDoor
open Go.RowKit

mutual
/-- how many parts a value has -/
def count : VT → Nat
  | .node _ _ _ _ ks => 1 + countK ks
def countK : List VT → Nat
  | [] => 0
  | k :: ks => count k + countK ks
end
mutual
theorem count_le : ∀ T : VT, count T ≤ 1 + bulk T
  | .node s n t ns ks => by
    rw [count, bulk]
    have := countK_le ks
    omega
theorem countK_le : ∀ ks : List VT, countK ks ≤ ks.length + bulkK ks
  | [] => by simp [countK]
  | k :: ks => by
    rw [countK, bulkK]
    have := count_le k
    have := countK_le ks
    simp
    omega
end
theorem countK_take (ks : List VT) : ∀ j (h : j < ks.length), countK (ks.take (j + 1)) = countK (ks.take j) + count ks[j] := by
  induction ks with
  | nil => intro j h; simp at h
  | cons s ss ih =>
    intro j h
    cases j with
    | zero => simp [countK]
    | succ j => simp [countK, ih j (by simpa using h), Nat.add_assoc]
theorem countK_pre (ss : List VT) (j : Nat) : countK (ss.take j) ≤ countK ss := by
  induction ss generalizing j with
  | nil => simp [countK]
  | cons s ss ih =>
    cases j with
    | zero => simp [countK]
    | succ j => simp [countK]; exact ih j

set_option maxRecDepth 100000 in
set_option maxHeartbeats 1000000 in
theorem count_any (w : World) (base : Nat) (T : VT) (cs : List Value) (h : VIn w base T cs) : bulk T ≤ 1048576 → ∀ W : World, w.grownBy W none → Calls Tryz.prog 39 #[.agg cs.toArray] W fun e w' => e = .returned (.int .i64 (count T : Int)) ∧ W.grownBy w' none := by
  induction h with
  | @mk s n t ns ks an ak cn ck CS hn hp hk hcn hck ht hcl hkl hsl hs1 hs2 hn1 hn2 ih =>
    intro hbu W hW
    have HCT := Lib.hid (show count (.node s n t ns ks) = 1 + countK ks from by rw [count])
    have hcl2 : countK ks ≤ 1048576 := by have := countK_le ks; rw [bulk] at hbu; omega
    have HI := Lib.hid (fun j k (hj : ks[j]? = some k) (X : World) (hX : w.grownBy X none) => ih j k hj (by have := bulk_kid hj; rw [bulk] at hbu; omega) X hX)
    rw [bulk] at hbu
    rw [HCT.out]
    have HP := Lib.hid hp
    have HW := Lib.hid hW
    have HBA := Lib.hid (Blk.new W 27 [.int .i64 s, .int .i64 n, .string t, .slice an ns.length cn, .slice ak ks.length ck])
    have HGA := Lib.hid (show W.grownBy (W.alloc (Obj.cells #[Value.int .i64 s, .int .i64 n, .string t, .slice an ns.length cn, .slice ak ks.length ck] 27)) none from grown_alloc (grown_refl _ _) _)
    have hkm : ks.length ≤ 1048576 := by omega
    clear hn hp hk ih hsl hW hbu
    go_enter Tryz.func39, Tryz.ntmps39
    go_wp2
    go_loopw [3, 4] (fun b i wr => ∃ k : Nat, k ≤ ks.length ∧ i = .int .i64 k ∧ b = .int .i64 ((1 + countK (ks.take k) : Nat) : Int) ∧ Blk wr W.heap.size 27 [.int .i64 s, .int .i64 n, .string t, .slice an ns.length cn, .slice ak ks.length ck] ∧ W.grownBy wr none) (fun _ i _ => ks.length - (intOf i).toNat)
    case atStart => exact ⟨0, Nat.zero_le _, rfl, by simp [countK], HBA.out, HGA.out⟩
    case round =>
      obtain ⟨k, hk, rfl, rfl, hb, hg⟩ := hrel
      have HB := Lib.hid hb
      have HG := Lib.hid hg
      have d4 : wr.cell? ⟨W.heap.size, 4, none⟩ = some (.slice ak ks.length ck) := hb.cell rfl
      clear hb hg
      by_cases hlt : k < ks.length
      · rcases HP.out with h0 | ⟨b, o, rfl, -, hc⟩
        · omega
        have HGW := Lib.hid (grown_trans HW.out HG.out)
        obtain ⟨c0, c1, c2, c3, c4, hcs, e0, e1, e2, e3, e4⟩ := (hc k hlt).kept HGW.out (by simp)
        have HCA := Lib.hid (HI.out k ks[k] (by simp [hlt]) wr HGW.out)
        rw [hcs] at HCA
        obtain ⟨cN, hcN⟩ : ∃ c, c = 1 + countK (ks.take k) := ⟨_, rfl⟩
        have HST := Lib.hid (countK_take ks k hlt)
        have hpre := countK_pre ks (k + 1)
        have hcc : cN + count ks[k] ≤ 1048577 := by rw [HST.out] at hpre; omega
        obtain ⟨cK, hcK⟩ : ∃ c, c = count ks[k] := ⟨_, rfl⟩
        rw [← hcK] at HCA hcc
        rw [← hcN]
        have HN := Lib.hid hcN
        have HKK := Lib.hid hcK
        have hkI : (k : Int) < ks.length := by omega
        clear hc hcs hcN hcK hpre
        go_wp2_with fail
        refine HCA.out.mono ?_
        rintro e w1 ⟨rfl, hg1⟩
        have HB1 := Lib.hid (HB.out.kept hg1 (by simp))
        have HG1 := Lib.hid (grown_trans HG.out hg1)
        clear hg1 HCA d4 e0 e1 e2 e3 e4 HB
        go_wp2
        go_roundw
        case rel => exact ⟨k + 1, by omega, by go_num, by rw [HST.out, ← HKK.out]; congr 1; have := HN.out; omega, HB1.out, HG1.out⟩
        case measure => simp [intOf]; omega
      · obtain rfl : k = ks.length := by omega
        go_wp2
        go_ret
        exact ⟨by rw [List.take_length]; rfl, HG.out⟩

mutual
/-- nothing in a value is unknown -/
def Known : VT → Prop
  | .node s _ _ _ ks => s ≠ 7 ∧ KnownK ks
def KnownK : List VT → Prop
  | [] => True
  | k :: ks => Known k ∧ KnownK ks
end
theorem knownK_iff (ks : List VT) : KnownK ks ↔ ∀ (j : Nat) (k : VT), ks[j]? = some k → Known k := by
  induction ks with
  | nil => simp [KnownK]
  | cons a ks ih =>
    rw [KnownK, ih]
    constructor
    · rintro ⟨h1, h2⟩ j k hj
      cases j with
      | zero => simp at hj; subst hj; exact h1
      | succ j => exact h2 j k (by simpa using hj)
    · intro h
      exact ⟨h 0 a rfl, fun j k hj => h (j + 1) k (by simpa using hj)⟩

end Go.Proofs.YtgmigloafcejdaaGreatDoor
