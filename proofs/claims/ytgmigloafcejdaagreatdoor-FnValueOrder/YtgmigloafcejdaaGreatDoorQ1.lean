/- Which of two values comes first: the plain reckoning, and the small functions that it leans on. -/
import Derived.Test.YtgmigloafcejdaaGreatDoorK9
import Derived.Lib.Bytealg
namespace Go.Proofs.YtgmigloafcejdaaGreatDoor
open Go.RowKit Go.Extern

def firstI (b : Bool) : Int := if b then 1 else -1
def cmpI (a b : Int) : Int := if a == b then 0 else firstI (decide (a < b))
def cmpS (a b : ByteArray) : Int := if a.toList == b.toList then 0 else firstI (Op.bytesLess a.toList b.toList)
mutual
/-- 1, if the first comes ahead of the second; -1, if behind it; 0, if they are the same -/
def cmpT : VT → VT → Int
  | .node s n t ns ks, .node s' n' t' ns' ks' =>
    if s == s' then (if n == n' then (if t.toList == t'.toList then cmpK (s == 6) ks ks' ns ns' else firstI (Op.bytesLess t.toList t'.toList)) else firstI (decide (n < n'))) else firstI (decide (s < s'))
def cmpK (o : Bool) : List VT → List VT → List ByteArray → List ByteArray → Int
  | [], [], _, _ => 0
  | [], _ :: _, _, _ => 1
  | _ :: _, [], _, _ => -1
  | k :: ks, k' :: ks', ns, ns' =>
    if o && !((ns.headD ByteArray.empty).toList == (ns'.headD ByteArray.empty).toList) then firstI (Op.bytesLess (ns.headD ByteArray.empty).toList (ns'.headD ByteArray.empty).toList)
    else if cmpT k k' == 0 then cmpK o ks ks' ns.tail ns'.tail else cmpT k k'
end
/-- from a place on -/
def cmpAt (o : Bool) (ks ks' : List VT) (ns ns' : List ByteArray) (i : Nat) : Int := cmpK o (ks.drop i) (ks'.drop i) (ns.drop i) (ns'.drop i)
theorem headD_drop (ns : List ByteArray) (i : Nat) : (ns.drop i).headD ByteArray.empty = ns.getD i ByteArray.empty := by
  rw [List.headD_eq_head?_getD, List.head?_drop, List.getD_eq_getElem?_getD]
theorem cmpAt_step (o : Bool) (ks ks' : List VT) (ns ns' : List ByteArray) (i : Nat) (h : i < ks.length) (h' : i < ks'.length) :
    cmpAt o ks ks' ns ns' i = if o && !((ns.getD i ByteArray.empty).toList == (ns'.getD i ByteArray.empty).toList) then firstI (Op.bytesLess (ns.getD i ByteArray.empty).toList (ns'.getD i ByteArray.empty).toList)
      else if cmpT ks[i] ks'[i] == 0 then cmpAt o ks ks' ns ns' (i + 1) else cmpT ks[i] ks'[i] := by
  unfold cmpAt
  rw [List.drop_eq_getElem_cons h, List.drop_eq_getElem_cons h', cmpK, headD_drop, headD_drop, List.tail_drop, List.tail_drop]
theorem cmpAt_end (o : Bool) (ks ks' : List VT) (ns ns' : List ByteArray) (i : Nat) (hi : i ≤ ks.length) (hi' : i ≤ ks'.length) (h : i = ks.length ∨ i = ks'.length) :
    cmpAt o ks ks' ns ns' i = cmpI (ks.length : Int) (ks'.length : Int) := by
  unfold cmpAt cmpI
  rcases h with h | h
  · subst h
    rw [List.drop_length]
    by_cases e : ks.length = ks'.length
    · rw [e, List.drop_length]
      simp [cmpK]
    · have : ks.length < ks'.length := by omega
      rw [List.drop_eq_getElem_cons this, cmpK]
      have h1 : ((ks.length : Int) == (ks'.length : Int)) = false := by rw [beq_eq_false_iff_ne]; omega
      have h2 : decide ((ks.length : Int) < (ks'.length : Int)) = true := by rw [decide_eq_true_eq]; omega
      rw [h1, h2]
      rfl
  · subst h
    rw [List.drop_length]
    by_cases e : ks'.length = ks.length
    · rw [e, List.drop_length]
      simp [cmpK]
    · have : ks'.length < ks.length := by omega
      rw [List.drop_eq_getElem_cons this, cmpK]
      have h1 : ((ks.length : Int) == (ks'.length : Int)) = false := by rw [beq_eq_false_iff_ne]; omega
      have h2 : decide ((ks.length : Int) < (ks'.length : Int)) = false := by rw [decide_eq_false_iff_not]; omega
      rw [h1, h2]
      rfl
theorem cmpAt_zero (o : Bool) (ks ks' : List VT) (ns ns' : List ByteArray) : cmpAt o ks ks' ns ns' 0 = cmpK o ks ks' ns ns' := by
  unfold cmpAt
  simp
theorem firstI_pm (b : Bool) : firstI b = 1 ∨ firstI b = -1 := by cases b <;> simp [firstI]
theorem cmpI_small (a b : Int) : -1 ≤ cmpI a b ∧ cmpI a b ≤ 1 := by
  unfold cmpI
  split
  · omega
  · rcases firstI_pm (decide (a < b)) with h | h <;> rw [h] <;> omega
mutual
theorem cmpT_small : ∀ a b : VT, -1 ≤ cmpT a b ∧ cmpT a b ≤ 1
  | .node s n t ns ks, .node s' n' t' ns' ks' => by
    rw [cmpT]
    split
    · split
      · split
        · exact cmpK_small _ _ _ _ _
        · rcases firstI_pm (Op.bytesLess t.toList t'.toList) with h | h <;> rw [h] <;> omega
      · rcases firstI_pm (decide (n < n')) with h | h <;> rw [h] <;> omega
    · rcases firstI_pm (decide (s < s')) with h | h <;> rw [h] <;> omega
theorem cmpK_small (o : Bool) : ∀ (ks ks' : List VT) (ns ns' : List ByteArray), -1 ≤ cmpK o ks ks' ns ns' ∧ cmpK o ks ks' ns ns' ≤ 1
  | [], [], _, _ => by rw [cmpK]; omega
  | [], _ :: _, _, _ => by rw [cmpK]; omega
  | _ :: _, [], _, _ => by rw [cmpK]; omega
  | k :: ks, k' :: ks', ns, ns' => by
    rw [cmpK]
    split
    · rcases firstI_pm (Op.bytesLess (ns.headD ByteArray.empty).toList (ns'.headD ByteArray.empty).toList) with h | h <;> rw [h] <;> omega
    · split
      · exact cmpK_small o ks ks' ns.tail ns'.tail
      · exact cmpT_small k k'
end

theorem less_irrefl : ∀ a : List UInt8, Op.bytesLess a a = false
  | [] => rfl
  | x :: a => by
    rw [Op.bytesLess, less_irrefl a]
    simp [UInt8.lt_irrefl x]
theorem compare_less : ∀ a b : List UInt8, Lib.compareBytes a b = -(if a == b then 0 else firstI (Op.bytesLess a b))
  | [], [] => rfl
  | [], _ :: _ => rfl
  | _ :: _, [] => rfl
  | x :: a, y :: b => by
    rw [Lib.compareBytes, Op.bytesLess]
    by_cases hxy : x = y
    · subst hxy
      rw [if_neg (UInt8.lt_irrefl x), if_neg (UInt8.lt_irrefl x), compare_less a b]
      simp [UInt8.lt_irrefl x]
    · have h1 : (x :: a == y :: b) = false := by rw [beq_eq_false_iff_ne]; intro h; cases h; exact hxy rfl
      have h2 : (x == y) = false := by rw [beq_eq_false_iff_ne]; exact hxy
      rw [h1, h2]
      by_cases hlt : x < y
      · simp [hlt, firstI]
      · have : y < x := UInt8.lt_of_le_of_ne (UInt8.not_lt.1 hlt) (Ne.symm hxy)
        simp [hlt, this, firstI]

set_option maxHeartbeats 1000000 in
theorem first_any (w : World) (b : Bool) : Calls Tryz.prog 78 #[.bool b] w fun e w' => e = .returned (.int .i64 (firstI b)) ∧ w' = w := by
  cases b
  · go_enter Tryz.func78, Tryz.ntmps78
    go_wp2
    go_ret
    exact ⟨rfl, rfl⟩
  · go_enter Tryz.func78, Tryz.ntmps78
    go_wp2
    go_ret
    exact ⟨rfl, rfl⟩

set_option maxHeartbeats 1000000 in
theorem isNaN_any (w : World) (n : Int) : Calls Tryz.prog 109 #[.int .i64 n] w fun e w' => e = .returned (.bool false) ∧ w' = w := by
  go_enter Tryz.func109, Tryz.ntmps109
  go_wp2
  go_ret
  exact ⟨rfl, rfl⟩

set_option maxHeartbeats 1000000 in
theorem intCmp_any (w : World) (x y : Int) : Calls Tryz.prog 76 #[.int .i64 x, .int .i64 y] w fun e w' => e = .returned (.int .i64 (-(cmpI x y))) ∧ w' = w := by
  have HN := Lib.hid (isNaN_any w)
  obtain ⟨r, hr⟩ : ∃ r, r = -(cmpI x y) := ⟨_, rfl⟩
  rw [← hr]
  have HR := Lib.hid hr
  clear hr
  by_cases h1 : x < y
  · have HE := Lib.hid (show r = -1 from by rw [HR.out, cmpI, if_neg (by rw [beq_iff_eq]; omega), decide_eq_true h1]; rfl)
    rw [HE.out]
    go_enter Tryz.func76, Tryz.ntmps76
    go_wp2_with (first | (go_at_call 109; refine (HN.out _).mono ?_; rintro e w1 ⟨rfl, hw⟩; have hw := hw.symm; subst hw))
    go_ret
    exact ⟨rfl, rfl⟩
  by_cases h2 : y < x
  · have HE := Lib.hid (show r = 1 from by rw [HR.out, cmpI, if_neg (by rw [beq_iff_eq]; omega), decide_eq_false h1]; rfl)
    rw [HE.out]
    go_enter Tryz.func76, Tryz.ntmps76
    go_wp2_with (first | (go_at_call 109; refine (HN.out _).mono ?_; rintro e w1 ⟨rfl, hw⟩; have hw := hw.symm; subst hw))
    go_ret
    exact ⟨rfl, rfl⟩
  · have HE := Lib.hid (show r = 0 from by rw [HR.out, cmpI, if_pos (by rw [beq_iff_eq]; omega)]; rfl)
    rw [HE.out]
    go_enter Tryz.func76, Tryz.ntmps76
    go_wp2_with (first | (go_at_call 109; refine (HN.out _).mono ?_; rintro e w1 ⟨rfl, hw⟩; have hw := hw.symm; subst hw))
    go_ret
    exact ⟨rfl, rfl⟩

set_option maxHeartbeats 1000000 in
theorem strCmp_any (w : World) (a b : ByteArray) : Calls Tryz.prog 77 #[.string a, .string b] w fun e w' => e = .returned (.int .i64 (-(cmpS a b))) ∧ w' = w := by
  have h67 := @run_callFunc_extern Tryz.prog 128 _ BytealgCompare.compare Tryz.func128 (by kernel_rfl) (by kernel_rfl) (by kernel_rfl) (by kernel_rfl)
  have hrun := Lib.run_compareString (P := Tryz.prog) a b
  have he : Lib.compareBytes a.data.toList b.data.toList = -(cmpS a b) := by
    rw [compare_less, cmpS, ByteArray.toList_eq, ByteArray.toList_eq]
  rw [he] at hrun
  obtain ⟨r, hr⟩ : ∃ r, r = -(cmpS a b) := ⟨_, rfl⟩
  rw [← hr] at hrun ⊢
  clear he hr
  go_enter Tryz.func77, Tryz.ntmps77
  go_wp2
  go_ret
  exact ⟨rfl, rfl⟩

/-- the first of three that is not 0 -/
def orI (x y z : Int) : Int := if x == 0 then (if y == 0 then z else y) else x

set_option maxRecDepth 100000 in
set_option maxHeartbeats 1000000 in
theorem or_any (w : World) (g : Nat) (x y z : Int) (hb : Blk w g 3 [.int .i64 x, .int .i64 y, .int .i64 z]) : Calls Tryz.prog 75 #[.slice (some ⟨g, 0, none⟩) 3 3] w fun e w' => e = .returned (.int .i64 (orI x y z)) ∧ w' = w := by
  have d0 : w.cell? ⟨g, 0, none⟩ = some (.int .i64 x) := hb.cell rfl
  have d1 : w.cell? ⟨g, 1, none⟩ = some (.int .i64 y) := hb.cell rfl
  have d2 : w.cell? ⟨g, 2, none⟩ = some (.int .i64 z) := hb.cell rfl
  obtain ⟨r, hr⟩ : ∃ r, r = orI x y z := ⟨_, rfl⟩
  rw [← hr]
  have HR := Lib.hid hr
  clear hr hb
  by_cases hx : x = 0
  · subst hx
    by_cases hy : y = 0
    · subst hy
      by_cases hz : z = 0
      · subst hz
        have HE := Lib.hid (show r = 0 from by rw [HR.out]; rfl)
        rw [HE.out]
        go_enter Tryz.func75, Tryz.ntmps75
        go_wp2
        refine wp_loop_rounds 4 ?_
        iterate 4 (rw [rounds_succ]; go_wp2)
        go_ret
        exact ⟨rfl, rfl⟩
      · have HE := Lib.hid (show r = z from by rw [HR.out]; rfl)
        rw [HE.out]
        go_enter Tryz.func75, Tryz.ntmps75
        go_wp2
        refine wp_loop_rounds 3 ?_
        iterate 3 (rw [rounds_succ]; go_wp2)
        go_ret
        exact ⟨rfl, rfl⟩
    · have HE := Lib.hid (show r = y from by rw [HR.out]; unfold orI; rw [if_pos (by rfl), if_neg (by rw [beq_iff_eq]; exact hy)])
      rw [HE.out]
      go_enter Tryz.func75, Tryz.ntmps75
      go_wp2
      refine wp_loop_rounds 2 ?_
      iterate 2 (rw [rounds_succ]; go_wp2)
      go_ret
      exact ⟨rfl, rfl⟩
  · have HE := Lib.hid (show r = x from by rw [HR.out]; unfold orI; rw [if_neg (by rw [beq_iff_eq]; exact hx)])
    rw [HE.out]
    go_enter Tryz.func75, Tryz.ntmps75
    go_wp2
    refine wp_loop_rounds 1 ?_
    rw [rounds_succ]
    go_wp2
    go_ret
    exact ⟨rfl, rfl⟩
end Go.Proofs.YtgmigloafcejdaaGreatDoor
