/- Values that are the same: as the laws compare them. -/
import Derived.Test.YtgmigloafcejdaaDoorY3
import Derived.Test.YtgmigloafcejdaaDoorZB
namespace Go.Proofs.YtgmigloafcejdaaDoor
open Go.RowKit

mutual
/-- two values are the same -/
def SameT : VT → VT → Prop
  | .node s n t ns ks, .node s' n' t' ns' ks' => s = s' ∧ n = n' ∧ (t.toList == t'.toList) = true ∧ SameN ns ns' ∧ SameK ks ks'
def SameK : List VT → List VT → Prop
  | [], [] => True
  | k :: ks, k' :: ks' => SameT k k' ∧ SameK ks ks'
  | [], _ :: _ => False
  | _ :: _, [] => False
end
theorem sameK_iff : ∀ (ks ks' : List VT), SameK ks ks' ↔ ks.length = ks'.length ∧ ∀ (j : Nat) (k k' : VT), ks[j]? = some k → ks'[j]? = some k' → SameT k k'
  | [], [] => by simp [SameK]
  | [], _ :: _ => by simp [SameK]
  | _ :: _, [] => by simp [SameK]
  | a :: ks, a' :: ks' => by
    rw [SameK, sameK_iff ks ks']
    constructor
    · rintro ⟨h1, h2, h3⟩
      refine ⟨by simp [h2], fun j k k' hj hj' => ?_⟩
      cases j with
      | zero => simp at hj hj'; subst hj; subst hj'; exact h1
      | succ j => exact h3 j k k' (by simpa using hj) (by simpa using hj')
    · rintro ⟨h2, h3⟩
      exact ⟨h3 0 a a' rfl rfl, by simpa using h2, fun j k k' hj hj' => h3 (j + 1) k k' (by simpa using hj) (by simpa using hj')⟩

set_option maxRecDepth 100000 in
set_option maxHeartbeats 2000000 in
theorem wsTexts_len (W : World) (ns ns' : List ByteArray) (an an' : Option Addr) (cn cn' : Nat) (hl : ¬ ns.length = ns'.length) : Calls Tryd.prog 31 #[.slice an ns.length cn, .slice an' ns'.length cn'] W fun e w' => Says e (SameN ns ns') ∧ W.grownBy w' none := by
  have HD := Lib.hid (show Says (.returned (.bool false)) (SameN ns ns') from .no (fun h => hl h.1))
  go_enter Tryd.func31, Tryd.ntmps31
  go_wp2
  go_ret
  exact ⟨HD.out, grown_refl _ _⟩

set_option maxRecDepth 100000 in
set_option maxHeartbeats 2000000 in
theorem wsTexts_m (W : World) (b1 b2 : Nat) (ns ns' : List ByteArray) (an an' : Option Addr) (cn cn' : Nat) (hn : Lies W b1 an ns) (hn' : Lies W b2 an' ns') (m : Nat) (HM1 : Hid (ns.length = m)) (HM2 : Hid (ns'.length = m)) (hm : m ≤ 1048576) :
    Calls Tryd.prog 31 #[.slice an m cn, .slice an' m cn'] W fun e w' => Says e (SameN ns ns') ∧ W.grownBy w' none := by
  have HL := Lib.hid hn
  have HL' := Lib.hid hn'
  obtain ⟨p, hpp⟩ : ∃ p : Prop, p = SameN ns ns' := ⟨_, rfl⟩
  rw [← hpp]
  have HPP := Lib.hid (show p ↔ ∀ j, j < m → ((ns.getD j ByteArray.empty).toList == (ns'.getD j ByteArray.empty).toList) = true from by
    rw [hpp, SameN, HM1.out, HM2.out]
    exact ⟨fun h => h.2, fun h => ⟨rfl, h⟩⟩)
  clear hn hn' hpp
  go_enter Tryd.func31, Tryd.ntmps31
  go_wp2
  go_loopw [5] (fun i wr => ∃ k : Nat, k ≤ m ∧ i = .int .i64 k ∧ Hid (∀ j, j < k → ((ns.getD j ByteArray.empty).toList == (ns'.getD j ByteArray.empty).toList) = true) ∧ W.grownBy wr none) (fun i _ => m - (intOf i).toNat)
  case atStart => exact ⟨0, Nat.zero_le _, rfl, Lib.hid (fun j h => absurd h (Nat.not_lt_zero _)), grown_refl _ _⟩
  case round =>
    obtain ⟨k, hk, rfl, HA, hg⟩ := hrel
    have HG := Lib.hid hg
    clear hg
    by_cases hlm : k < m
    case neg =>
      have hkI : ¬ (k : Int) < m := by omega
      have HD := Lib.hid (show Says (.returned (.bool true)) p from .yes (HPP.out.2 (fun j hj => HA.out j (by omega))))
      go_wp2
      go_ret
      exact ⟨HD.out, HG.out⟩
    have hkI : (k : Int) < m := by omega
    rcases HL.out with h0 | ⟨ab, q, rfl, -, hm1⟩
    · have := HM1.out; omega
    rcases HL'.out with h0 | ⟨ab', q', rfl, -, hm2⟩
    · have := HM2.out; omega
    have HX := Lib.hid (hm1 k (by have := HM1.out; omega))
    have HY := Lib.hid (hm2 k (by have := HM2.out; omega))
    clear hm1 hm2
    obtain ⟨x, hx⟩ : ∃ x, x = ns.getD k ByteArray.empty := ⟨_, rfl⟩
    obtain ⟨y, hy⟩ : ∃ y, y = ns'.getD k ByteArray.empty := ⟨_, rfl⟩
    rw [← hx] at HX
    rw [← hy] at HY
    have HXE := Lib.hid hx
    have HYE := Lib.hid hy
    clear hx hy
    cases hxy : (x.toList == y.toList)
    · have HXY := Lib.hid hxy
      have HD := Lib.hid (show Says (.returned (.bool false)) p from .no (fun h => by
        have := HPP.out.1 h k hlm
        rw [← HXE.out, ← HYE.out, HXY.out] at this
        cases this))
      go_wp2
      refine wp_still (by kernel_rfl) (by kernel_rfl) (fun wx => W.grownBy wx none) (grown_drew HG.out) ?_
      intro wy hgy
      have HGY := Lib.hid hgy
      have nx : wy.cell? ⟨ab, q + k, none⟩ = some (.string x) := hgy.cell HX.out (by simp)
      have ny : wy.cell? ⟨ab', q' + k, none⟩ = some (.string y) := hgy.cell HY.out (by simp)
      clear hgy
      iterate 9 ((with_reducible refine wpStill_step ?_); intro K hK; replace hK := Lib.hid hK; go_simp; (with_reducible refine hK.out _ ?_); clear hK K)
      refine wpStill_nil ?_
      clear nx ny hxy
      go_wp2
      go_ret
      exact ⟨HD.out, HGY.out⟩
    · have HXY := Lib.hid hxy
      go_wp2
      refine wp_still (by kernel_rfl) (by kernel_rfl) (fun wx => W.grownBy wx none) (grown_drew HG.out) ?_
      intro wy hgy
      have HGY := Lib.hid hgy
      have nx : wy.cell? ⟨ab, q + k, none⟩ = some (.string x) := hgy.cell HX.out (by simp)
      have ny : wy.cell? ⟨ab', q' + k, none⟩ = some (.string y) := hgy.cell HY.out (by simp)
      clear hgy
      iterate 9 ((with_reducible refine wpStill_step ?_); intro K hK; replace hK := Lib.hid hK; go_simp; (with_reducible refine hK.out _ ?_); clear hK K)
      refine wpStill_nil ?_
      clear nx ny hxy
      go_wp2
      go_roundw
      case rel => exact ⟨k + 1, by omega, by go_num, Lib.hid (fun j hj => by
        by_cases e : j = k
        · subst e
          rw [← HXE.out, ← HYE.out]
          exact HXY.out
        · exact HA.out j (by omega)), HGY.out⟩
      case measure => simp [intOf]; omega

theorem wsTexts_any (W : World) (b1 b2 : Nat) (ns ns' : List ByteArray) (an an' : Option Addr) (cn cn' : Nat) (hn : Lies W b1 an ns) (hn' : Lies W b2 an' ns') (hm : ns.length ≤ 1048576) :
    Calls Tryd.prog 31 #[.slice an ns.length cn, .slice an' ns'.length cn'] W fun e w' => Says e (SameN ns ns') ∧ W.grownBy w' none := by
  by_cases h : ns.length = ns'.length
  · have := wsTexts_m W b1 b2 ns ns' an an' cn cn' hn hn' ns.length (Lib.hid rfl) (Lib.hid h.symm) hm
    rw [← h]
    exact this
  · exact wsTexts_len W ns ns' an an' cn cn' h

set_option maxRecDepth 100000 in
set_option maxHeartbeats 4000000 in
theorem ws_len (w : World) (b1 b2 : Nat) (s n s' n' : Int) (t t' : ByteArray) (ns ns' : List ByteArray) (ks ks' : List VT) (an ak an' ak' : Option Addr) (cn ck cn' ck' : Nat) (hl : ¬ ks.length = ks'.length)
    (hn : Lies w b1 an ns) (hn' : Lies w b2 an' ns') (hnl : ns.length ≤ 1048576)
    (W : World) (hW : w.grownBy W none) :
    Calls Tryd.prog 14 #[.agg #[.int .i64 s, .int .i64 n, .string t, .slice an ns.length cn, .slice ak ks.length ck], .agg #[.int .i64 s', .int .i64 n', .string t', .slice an' ns'.length cn', .slice ak' ks'.length ck']] W fun e w' => Says e (SameT (.node s n t ns ks) (.node s' n' t' ns' ks')) ∧ W.grownBy w' none := by
  obtain ⟨p, hpp⟩ : ∃ p : Prop, p = SameT (.node s n t ns ks) (.node s' n' t' ns' ks') := ⟨_, rfl⟩
  rw [← hpp]
  have HPP := Lib.hid (show p ↔ s = s' ∧ n = n' ∧ (t.toList == t'.toList) = true ∧ SameN ns ns' ∧ SameK ks ks' from by rw [hpp, SameT])
  have HGX := Lib.hid (show W.grownBy ((W.alloc (Obj.cells #[Value.int .i64 s, .int .i64 n, .string t, .slice an ns.length cn, .slice ak ks.length ck] 26)).alloc (Obj.cells #[Value.int .i64 s', .int .i64 n', .string t', .slice an' ns'.length cn', .slice ak' ks'.length ck'] 26)) none from grown_alloc (grown_alloc (grown_refl _ _) _) _)
  have HBA := Lib.hid (show Blk ((W.alloc (Obj.cells #[Value.int .i64 s, .int .i64 n, .string t, .slice an ns.length cn, .slice ak ks.length ck] 26)).alloc (Obj.cells #[Value.int .i64 s', .int .i64 n', .string t', .slice an' ns'.length cn', .slice ak' ks'.length ck'] 26)) W.heap.size 26 [.int .i64 s, .int .i64 n, .string t, .slice an ns.length cn, .slice ak ks.length ck] from (Blk.new W 26 _).alloc _)
  have HBB := Lib.hid (show Blk ((W.alloc (Obj.cells #[Value.int .i64 s, .int .i64 n, .string t, .slice an ns.length cn, .slice ak ks.length ck] 26)).alloc (Obj.cells #[Value.int .i64 s', .int .i64 n', .string t', .slice an' ns'.length cn', .slice ak' ks'.length ck'] 26)) (W.heap.size + 1) 26 [.int .i64 s', .int .i64 n', .string t', .slice an' ns'.length cn', .slice ak' ks'.length ck'] from by
    have := Blk.new (W.alloc (Obj.cells #[Value.int .i64 s, .int .i64 n, .string t, .slice an ns.length cn, .slice ak ks.length ck] 26)) 26 [.int .i64 s', .int .i64 n', .string t', .slice an' ns'.length cn', .slice ak' ks'.length ck']
    simpa using this)
  have HEN := Lib.hid (wsTexts_any ((W.alloc (Obj.cells #[Value.int .i64 s, .int .i64 n, .string t, .slice an ns.length cn, .slice ak ks.length ck] 26)).alloc (Obj.cells #[Value.int .i64 s', .int .i64 n', .string t', .slice an' ns'.length cn', .slice ak' ks'.length ck'] 26)) b1 b2 ns ns' an an' cn cn' (hn.kept (grown_trans hW HGX.out) (fun q e => by cases e)) (hn'.kept (grown_trans hW HGX.out) (fun q e => by cases e)) hnl)
  have HW := Lib.hid hW
  clear hn hn' hW hpp
  by_cases hs : s = s'
  case neg =>
    have HD := Lib.hid (show Says (.returned (.bool false)) p from .no (fun h => hs (HPP.out.1 h).1))
    go_enter Tryd.func14, Tryd.ntmps14
    go_wp2
    go_ret
    exact ⟨HD.out, HGX.out⟩
  subst hs
  by_cases hnn : n = n'
  case neg =>
    have HD := Lib.hid (show Says (.returned (.bool false)) p from .no (fun h => hnn (HPP.out.1 h).2.1))
    go_enter Tryd.func14, Tryd.ntmps14
    go_wp2
    go_ret
    exact ⟨HD.out, HGX.out⟩
  subst hnn
  cases ht : (t.toList == t'.toList)
  · have HTT := Lib.hid ht
    have HD := Lib.hid (show Says (.returned (.bool false)) p from .no (fun h => by have := (HPP.out.1 h).2.2.1; rw [HTT.out] at this; cases this))
    go_enter Tryd.func14, Tryd.ntmps14
    go_wp2
    go_ret
    exact ⟨HD.out, HGX.out⟩
  have HTT := Lib.hid ht
  go_enter Tryd.func14, Tryd.ntmps14
  go_wp2_with fail
  refine HEN.out.mono ?_
  rintro e w1 ⟨⟨b, rfl, hb⟩, hg1⟩
  have HG1 := Lib.hid (grown_trans HGX.out hg1)
  have HA1 := Lib.hid (HBA.out.kept hg1 (by simp))
  have HB1 := Lib.hid (HBB.out.kept hg1 (by simp))
  have HSB := Lib.hid hb
  have d4 : w1.cell? ⟨W.heap.size, 4, none⟩ = some (.slice ak ks.length ck) := HA1.out.cell rfl
  have e4 : w1.cell? ⟨W.heap.size + 1, 4, none⟩ = some (.slice ak' ks'.length ck') := HB1.out.cell rfl
  clear hb hg1 HEN ht
  have HD := Lib.hid (show Says (.returned (.bool false)) p from .no (fun h => hl ((sameK_iff ks ks').1 (HPP.out.1 h).2.2.2.2).1))
  cases b
  · go_wp2
    go_ret
    exact ⟨HD.out, HG1.out⟩
  · go_wp2
    go_ret
    exact ⟨HD.out, HG1.out⟩

set_option maxRecDepth 100000 in
set_option maxHeartbeats 4000000 in
theorem ws_m (w : World) (b1 b2 : Nat) (s n s' n' : Int) (t t' : ByteArray) (ns ns' : List ByteArray) (ks ks' : List VT) (an ak an' ak' : Option Addr) (cn ck cn' ck' : Nat)
    (hn : Lies w b1 an ns) (hn' : Lies w b2 an' ns') (hnl : ns.length ≤ 1048576)
    (CS CS' : Nat → List Value) (m : Nat) (HM1 : Hid (ks.length = m)) (HM2 : Hid (ks'.length = m)) (hm : m ≤ 1048576)
    (hp : ks.length = 0 ∨ ∃ b o, ak = some ⟨b, o, none⟩ ∧ b1 ≤ b ∧ ∀ j, j < ks.length → Five w b (o + j * 5) (CS j))
    (hp' : ks'.length = 0 ∨ ∃ b o, ak' = some ⟨b, o, none⟩ ∧ b2 ≤ b ∧ ∀ j, j < ks'.length → Five w b (o + j * 5) (CS' j))
    (ih : ∀ (j : Nat) (k k' : VT), ks[j]? = some k → ks'[j]? = some k' → ∀ W : World, w.grownBy W none → Calls Tryd.prog 14 #[.agg (CS j).toArray, .agg (CS' j).toArray] W fun e w' => Says e (SameT k k') ∧ W.grownBy w' none)
    (W : World) (hW : w.grownBy W none) :
    Calls Tryd.prog 14 #[.agg #[.int .i64 s, .int .i64 n, .string t, .slice an ns.length cn, .slice ak m ck], .agg #[.int .i64 s', .int .i64 n', .string t', .slice an' ns'.length cn', .slice ak' m ck']] W fun e w' => Says e (SameT (.node s n t ns ks) (.node s' n' t' ns' ks')) ∧ W.grownBy w' none := by
  obtain ⟨p, hpp⟩ : ∃ p : Prop, p = SameT (.node s n t ns ks) (.node s' n' t' ns' ks') := ⟨_, rfl⟩
  rw [← hpp]
  have HPP := Lib.hid (show p ↔ s = s' ∧ n = n' ∧ (t.toList == t'.toList) = true ∧ SameN ns ns' ∧ SameK ks ks' from by rw [hpp, SameT])
  have HGX := Lib.hid (show W.grownBy ((W.alloc (Obj.cells #[Value.int .i64 s, .int .i64 n, .string t, .slice an ns.length cn, .slice ak m ck] 26)).alloc (Obj.cells #[Value.int .i64 s', .int .i64 n', .string t', .slice an' ns'.length cn', .slice ak' m ck'] 26)) none from grown_alloc (grown_alloc (grown_refl _ _) _) _)
  have HBA := Lib.hid (show Blk ((W.alloc (Obj.cells #[Value.int .i64 s, .int .i64 n, .string t, .slice an ns.length cn, .slice ak m ck] 26)).alloc (Obj.cells #[Value.int .i64 s', .int .i64 n', .string t', .slice an' ns'.length cn', .slice ak' m ck'] 26)) W.heap.size 26 [.int .i64 s, .int .i64 n, .string t, .slice an ns.length cn, .slice ak m ck] from (Blk.new W 26 _).alloc _)
  have HBB := Lib.hid (show Blk ((W.alloc (Obj.cells #[Value.int .i64 s, .int .i64 n, .string t, .slice an ns.length cn, .slice ak m ck] 26)).alloc (Obj.cells #[Value.int .i64 s', .int .i64 n', .string t', .slice an' ns'.length cn', .slice ak' m ck'] 26)) (W.heap.size + 1) 26 [.int .i64 s', .int .i64 n', .string t', .slice an' ns'.length cn', .slice ak' m ck'] from by
    have := Blk.new (W.alloc (Obj.cells #[Value.int .i64 s, .int .i64 n, .string t, .slice an ns.length cn, .slice ak m ck] 26)) 26 [.int .i64 s', .int .i64 n', .string t', .slice an' ns'.length cn', .slice ak' m ck']
    simpa using this)
  have HEN := Lib.hid (wsTexts_any ((W.alloc (Obj.cells #[Value.int .i64 s, .int .i64 n, .string t, .slice an ns.length cn, .slice ak m ck] 26)).alloc (Obj.cells #[Value.int .i64 s', .int .i64 n', .string t', .slice an' ns'.length cn', .slice ak' m ck'] 26)) b1 b2 ns ns' an an' cn cn' (hn.kept (grown_trans hW HGX.out) (fun q e => by cases e)) (hn'.kept (grown_trans hW HGX.out) (fun q e => by cases e)) hnl)
  have HW := Lib.hid hW
  have HP := Lib.hid hp
  have HP' := Lib.hid hp'
  have HI := Lib.hid ih
  clear hn hn' hW hpp hp hp' ih
  by_cases hs : s = s'
  case neg =>
    have HD := Lib.hid (show Says (.returned (.bool false)) p from .no (fun h => hs (HPP.out.1 h).1))
    go_enter Tryd.func14, Tryd.ntmps14
    go_wp2
    go_ret
    exact ⟨HD.out, HGX.out⟩
  subst hs
  by_cases hnn : n = n'
  case neg =>
    have HD := Lib.hid (show Says (.returned (.bool false)) p from .no (fun h => hnn (HPP.out.1 h).2.1))
    go_enter Tryd.func14, Tryd.ntmps14
    go_wp2
    go_ret
    exact ⟨HD.out, HGX.out⟩
  subst hnn
  cases ht : (t.toList == t'.toList)
  · have HTT := Lib.hid ht
    have HD := Lib.hid (show Says (.returned (.bool false)) p from .no (fun h => by have := (HPP.out.1 h).2.2.1; rw [HTT.out] at this; cases this))
    go_enter Tryd.func14, Tryd.ntmps14
    go_wp2
    go_ret
    exact ⟨HD.out, HGX.out⟩
  have HTT := Lib.hid ht
  go_enter Tryd.func14, Tryd.ntmps14
  go_wp2_with fail
  refine HEN.out.mono ?_
  rintro e w1 ⟨⟨b, rfl, hb⟩, hg1⟩
  have HG1 := Lib.hid (grown_trans HGX.out hg1)
  have HA1 := Lib.hid (HBA.out.kept hg1 (by simp))
  have HB1 := Lib.hid (HBB.out.kept hg1 (by simp))
  have HSB := Lib.hid hb
  have d4 : w1.cell? ⟨W.heap.size, 4, none⟩ = some (.slice ak m ck) := HA1.out.cell rfl
  have e4 : w1.cell? ⟨W.heap.size + 1, 4, none⟩ = some (.slice ak' m ck') := HB1.out.cell rfl
  clear hb hg1 HEN ht
  cases b
  · have HD := Lib.hid (show Says (.returned (.bool false)) p from .no (fun h => by have := HSB.out.2 (HPP.out.1 h).2.2.2.1; cases this))
    go_wp2
    go_ret
    exact ⟨HD.out, HG1.out⟩
  have HPQ := Lib.hid (show p ↔ ∀ (j : Nat) (k k' : VT), ks[j]? = some k → ks'[j]? = some k' → SameT k k' from by
    rw [HPP.out, sameK_iff]
    exact ⟨fun h => h.2.2.2.2.2, fun h => ⟨trivial, trivial, HTT.out, HSB.out.1 rfl, HM1.out.trans HM2.out.symm, h⟩⟩)
  go_wp2
  clear d4 e4
  go_loopw [5] (fun i wr => ∃ k : Nat, k ≤ m ∧ i = .int .i64 k ∧ Hid (∀ (j : Nat) (u u' : VT), ks[j]? = some u → ks'[j]? = some u' → j < k → SameT u u') ∧ Blk wr W.heap.size 26 [.int .i64 s, .int .i64 n, .string t, .slice an ns.length cn, .slice ak m ck] ∧ Blk wr (W.heap.size + 1) 26 [.int .i64 s, .int .i64 n, .string t', .slice an' ns'.length cn', .slice ak' m ck'] ∧ W.grownBy wr none) (fun i _ => m - (intOf i).toNat)
  case atStart => exact ⟨0, Nat.zero_le _, rfl, Lib.hid (fun j _ _ _ _ h => absurd h (Nat.not_lt_zero _)), HA1.out, HB1.out, HG1.out⟩
  case round =>
    obtain ⟨k, hk, rfl, HFK, hba, hbb, hg⟩ := hrel
    have HA := Lib.hid hba
    have HB := Lib.hid hbb
    have HG := Lib.hid hg
    have d4 : wr.cell? ⟨W.heap.size, 4, none⟩ = some (.slice ak m ck) := hba.cell rfl
    clear hba hbb hg
    by_cases hlm : k < m
    case neg =>
      have hkI : ¬ (k : Int) < m := by omega
      have HD := Lib.hid (show Says (.returned (.bool true)) p from .yes (HPQ.out.2 (fun j u u' hj hj' => HFK.out j u u' hj hj' (by have := (List.getElem?_eq_some_iff.1 hj).1; have := HM1.out; omega))))
      go_wp2
      go_ret
      exact ⟨HD.out, HG.out⟩
    have hlt : k < ks.length := by have := HM1.out; omega
    have hlt' : k < ks'.length := by have := HM2.out; omega
    have hkI : (k : Int) < m := by omega
    rcases HP.out with h0 | ⟨b, o, rfl, -, hc⟩
    · omega
    rcases HP'.out with h0 | ⟨b', o', rfl, -, hc'⟩
    · omega
    have HFV := Lib.hid (hc k hlt)
    have HFV' := Lib.hid (hc' k hlt')
    clear hc hc'
    have HREC := Lib.hid (fun (X : World) (hX : w.grownBy X none) => HI.out k ks[k] ks'[k] (by simp [hlt]) (by simp [hlt']) X hX)
    have HKK := Lib.hid (show ks[k]? = some ks[k] from by simp [hlt])
    have HKK' := Lib.hid (show ks'[k]? = some ks'[k] from by simp [hlt'])
    obtain ⟨u, hu⟩ : ∃ u, u = ks[k] := ⟨_, rfl⟩
    obtain ⟨u', hu'⟩ : ∃ u, u = ks'[k] := ⟨_, rfl⟩
    rw [← hu] at HREC HKK
    rw [← hu'] at HREC HKK'
    clear hu hu' hlt hlt'
    go_wp2
    refine wp_still_tail 10 (by kernel_rfl) (by kernel_rfl) (fun wx => W.grownBy wx none ∧ Blk wx W.heap.size 26 [.int .i64 s, .int .i64 n, .string t, .slice an ns.length cn, .slice (some ⟨b, o, none⟩) m ck] ∧ Blk wx (W.heap.size + 1) 26 [.int .i64 s, .int .i64 n, .string t', .slice an' ns'.length cn', .slice (some ⟨b', o', none⟩) m ck']) ⟨grown_drew HG.out, Blk.drew HA.out, Blk.drew HB.out⟩ ?_
    rintro wy ⟨hgy, hay, hby⟩
    have HGY := Lib.hid hgy
    have HAY := Lib.hid hay
    have HBY := Lib.hid hby
    have HGZ := Lib.hid (grown_trans HW.out hgy)
    obtain ⟨c0, c1, c2, c3, c4, hcs, f0, f1, f2, f3, f4⟩ := HFV.out.kept HGZ.out (by simp)
    obtain ⟨g0, g1, g2, g3, g4, hcs', h0, h1, h2, h3, h4⟩ := HFV'.out.kept HGZ.out (by simp)
    have q4 : wy.cell? ⟨W.heap.size, 4, none⟩ = some (.slice (some ⟨b, o, none⟩) m ck) := hay.cell rfl
    have r4 : wy.cell? ⟨W.heap.size + 1, 4, none⟩ = some (.slice (some ⟨b', o', none⟩) m ck') := hby.cell rfl
    have HCA := Lib.hid (HREC.out wy HGZ.out)
    rw [hcs, hcs'] at HCA
    clear hgy hay hby hcs hcs' d4
    simp only [List.take_succ_cons, List.take_zero, List.drop_succ_cons, List.drop_zero]
    iterate 10 ((with_reducible refine wpStill_step ?_); intro K hK; replace hK := Lib.hid hK; go_simp; (with_reducible refine hK.out _ ?_); clear hK K)
    refine wpStill_nil ?_
    clear f0 f1 f2 f3 f4 h0 h1 h2 h3 h4 q4 r4
    go_wp2_with fail
    refine HCA.out.mono ?_
    rintro e w3 ⟨⟨bq, rfl, hbq⟩, hg3⟩
    have HG3 := Lib.hid (grown_trans HGY.out hg3)
    have HA3 := Lib.hid (HAY.out.kept hg3 (by simp))
    have HB3 := Lib.hid (HBY.out.kept hg3 (by simp))
    have HBQ := Lib.hid hbq
    clear hg3 HCA hbq
    cases bq
    · have HD := Lib.hid (show Says (.returned (.bool false)) p from .no (fun h => by
        have := HBQ.out.2 (HPQ.out.1 h k u u' HKK.out HKK'.out)
        cases this))
      go_wp2
      go_ret
      exact ⟨HD.out, HG3.out⟩
    · go_wp2
      go_roundw
      case rel => exact ⟨k + 1, by omega, by go_num, Lib.hid (fun j v v' hj hj' hjk => by
        by_cases e : j = k
        · subst e
          rw [HKK.out] at hj
          rw [HKK'.out] at hj'
          cases hj
          cases hj'
          exact HBQ.out.1 (by simp)
        · exact HFK.out j v v' hj hj' (by omega)), HA3.out, HB3.out, HG3.out⟩
      case measure => simp [intOf]; omega

theorem wsValue_any (w : World) (b1 : Nat) (T : VT) (cs : List Value) (h : VIn w b1 T cs) : ∀ (b2 : Nat) (T' : VT) (cs' : List Value), VIn w b2 T' cs' → bulk T ≤ 1048576 → ∀ W : World, w.grownBy W none →
    Calls Tryd.prog 14 #[.agg cs.toArray, .agg cs'.toArray] W fun e w' => Says e (SameT T T') ∧ W.grownBy w' none := by
  induction h with
  | @mk s n t ns ks an ak cn ck CS hn hp hk hcn hck ht hcl hkl hsl hs1 hs2 hn1 hn2 ih =>
    intro b2 T' cs' h' hbu W hW
    rw [bulk] at hbu
    cases h' with
    | @mk s' n' t' ns' ks' an' ak' cn' ck' CS' hn' hp' hk' hcn' hck' ht' hcl' hkl' hsl' hs1' hs2' hn1' hn2' =>
      by_cases hl : ks.length = ks'.length
      · have hm := ws_m w b1 b2 s n s' n' t t' ns ns' ks ks' an ak an' ak' cn ck cn' ck' hn hn' (by omega) CS CS' ks.length (Lib.hid rfl) (Lib.hid hl.symm) (by omega) hp hp'
          (fun j k k' hj hj' Y hY => ih j k hj b2 k' (CS' j) (hk' j k' hj') (by have := bulk_kid hj; omega) Y hY) W hW
        rw [← hl]
        exact hm
      · exact ws_len w b1 b2 s n s' n' t t' ns ns' ks ks' an ak an' ak' cn ck cn' ck' hl hn hn' (by omega) W hW

mutual
/-- a value that is ok fits itself -/
theorem fits_self : ∀ T : VT, Fits T T
  | .node s n t ns ks => by
    rw [Fits]
    exact .inr ⟨rfl, rfl, by simp, fun _ => ⟨rfl, fun j _ => by simp⟩, fitsK_self ks⟩
theorem fitsK_self : ∀ ks : List VT, FitsK ks ks
  | [] => by rw [FitsK]; trivial
  | k :: ks => by rw [FitsK]; exact ⟨fits_self k, fitsK_self ks⟩
end
mutual
/-- what is known fits just what is the same -/
theorem fits_same : ∀ (T T' : VT) (d : Nat), Parts T d → Parts T' d → Known T' → (Fits T T' ↔ SameT T T')
  | .node s n t ns ks, .node s' n' t' ns' ks', d, hd, hd', hK => by
    rw [Fits, SameT]
    rw [Known] at hK
    rw [Parts] at hd hd'
    have hk := fitsK_same ks ks' (d + 1) hd.2.2 hd'.2.2 hK.2
    constructor
    · rintro (h | ⟨h1, h2, h3, h4, h5⟩)
      · exact absurd h hK.1
      · refine ⟨h1, h2, h3, ?_, hk.1 h5⟩
        by_cases h6 : s = 6
        · exact h4 h6
        · have e1 := hd.1.1 h6
          have e2 := hd'.1.1 (fun e => h6 (h1.trans e))
          exact ⟨by omega, fun j hj => by omega⟩
    · rintro ⟨h1, h2, h3, h4, h5⟩
      exact .inr ⟨h1, h2, h3, fun _ => h4, hk.2 h5⟩
theorem fitsK_same : ∀ (ks ks' : List VT) (d : Nat), PartsK ks d → PartsK ks' d → KnownK ks' → (FitsK ks ks' ↔ SameK ks ks')
  | [], [], _, _, _, _ => by rw [FitsK, SameK]
  | [], _ :: _, _, _, _, _ => by rw [FitsK, SameK]
  | _ :: _, [], _, _, _, _ => by rw [FitsK, SameK]
  | k :: ks, k' :: ks', d, hd, hd', hK => by
    rw [FitsK, SameK]
    rw [PartsK] at hd hd'
    rw [KnownK] at hK
    rw [fits_same k k' d hd.1 hd'.1 hK.1, fitsK_same ks ks' d hd.2 hd'.2 hK.2]
end
end Go.Proofs.YtgmigloafcejdaaDoor

namespace Go.Proofs.YtgmigloafcejdaaDoor
open Go.RowKit

set_option maxRecDepth 100000 in
set_option maxHeartbeats 8000000 in
theorem draw_any (w : World) (ao : Option Addr) (n cap : Nat) (hn : n ≤ 1048576) (hcap : n ≤ cap) (hc : n = 0 ∨ ∃ ab o, ao = some ⟨ab, o, none⟩ ∧ ∀ j, j < n → ∃ x : Int, 0 ≤ x ∧ x < 256 ∧ w.cell? ⟨ab, o + j, none⟩ = some (.int .u8 x)) :
    Calls Tryd.prog 8 #[.slice ao n cap] w fun e w' => ∃ (T T' : VT) (cs cs' : List Value), e = .returned (.tuple #[.agg cs.toArray, .agg cs'.toArray]) ∧ VIn w' 0 T cs ∧ VIn w' 0 T' cs' ∧ bulk T ≤ 9000 ∧ bulk T' ≤ 9000 ∧ w.grownBy w' none := by
  have HG := Lib.hid (show w.grownBy ((w.alloc (Obj.cells #[Value.int .i64 0, .int .i64 0, .string ⟨#[]⟩, .slice none 0 0, .slice none 0 0] 26)).alloc (Obj.cells #[Value.int .i64 0, .int .i64 0, .string ⟨#[]⟩, .slice none 0 0, .slice none 0 0] 26)) none from grown_alloc (grown_alloc (grown_refl _ _) _) _)
  have HB := Lib.hid (show Blk ((w.alloc (Obj.cells #[Value.int .i64 0, .int .i64 0, .string ⟨#[]⟩, .slice none 0 0, .slice none 0 0] 26)).alloc (Obj.cells #[Value.int .i64 0, .int .i64 0, .string ⟨#[]⟩, .slice none 0 0, .slice none 0 0] 26)) w.heap.size 26 [.int .i64 0, .int .i64 0, .string ⟨#[]⟩, .slice none 0 0, .slice none 0 0] from (Blk.new w 26 [.int .i64 0, .int .i64 0, .string ⟨#[]⟩, .slice none 0 0, .slice none 0 0]).alloc _)
  have HC := Lib.hid (show Blk ((w.alloc (Obj.cells #[Value.int .i64 0, .int .i64 0, .string ⟨#[]⟩, .slice none 0 0, .slice none 0 0] 26)).alloc (Obj.cells #[Value.int .i64 0, .int .i64 0, .string ⟨#[]⟩, .slice none 0 0, .slice none 0 0] 26)) (w.heap.size + 1) 26 [.int .i64 0, .int .i64 0, .string ⟨#[]⟩, .slice none 0 0, .slice none 0 0] from by
    have := Blk.new (w.alloc (Obj.cells #[Value.int .i64 0, .int .i64 0, .string ⟨#[]⟩, .slice none 0 0, .slice none 0 0] 26)) 26 [.int .i64 0, .int .i64 0, .string ⟨#[]⟩, .slice none 0 0, .slice none 0 0]
    simpa using this)
  have HZ := Lib.hid (show ((w.alloc (Obj.cells #[Value.int .i64 0, .int .i64 0, .string ⟨#[]⟩, .slice none 0 0, .slice none 0 0] 26)).alloc (Obj.cells #[Value.int .i64 0, .int .i64 0, .string ⟨#[]⟩, .slice none 0 0, .slice none 0 0] 26)).heap.size = w.heap.size + 2 from by simp)
  have HO := Lib.hid (open_any ((w.alloc (Obj.cells #[Value.int .i64 0, .int .i64 0, .string ⟨#[]⟩, .slice none 0 0, .slice none 0 0] 26)).alloc (Obj.cells #[Value.int .i64 0, .int .i64 0, .string ⟨#[]⟩, .slice none 0 0, .slice none 0 0] 26)) ao n cap hn hcap (by
    rcases hc with h | ⟨ab, o, h, hx⟩
    · exact .inl h
    · refine .inr ⟨ab, o, h, fun j hj => ?_⟩
      obtain ⟨x, h0, h1, h2⟩ := hx j hj
      exact ⟨x, h0, h1, HG.out.cell h2 (by simp)⟩))
  clear hc
  go_enter Tryd.func8, Tryd.ntmps8
  go_wp2_with fail
  generalize (w.alloc (Obj.cells #[Value.int .i64 0, .int .i64 0, .string ⟨#[]⟩, .slice none 0 0, .slice none 0 0] 26)).alloc (Obj.cells #[Value.int .i64 0, .int .i64 0, .string ⟨#[]⟩, .slice none 0 0, .slice none 0 0] 26) = W1 at HG HB HC HZ HO ⊢
  refine HO.out.mono ?_
  rintro e w2 ⟨rfl, ⟨n', hrd⟩, hg2⟩
  have HB2 := Lib.hid (HB.out.kept hg2 (by simp))
  have HC2 := Lib.hid (HC.out.kept hg2 (by simp))
  have HG2 := Lib.hid (grown_trans HG.out hg2)
  have HTW := Lib.hid (two_any W1.heap.size ao n' cap w2 0 hrd (by omega))
  have HW2 := Lib.hid (show W1.heap.size < w2.heap.size from hrd.lt)
  clear HG HB HC HO hrd hg2
  go_wp2_with fail
  refine HTW.out.mono ?_
  rintro e w3 ⟨T, T', cs, cs', rfl, hv, hv', hb, hb', hg3⟩
  obtain ⟨s, m, t, ns, ks, an, ak, cn, ck, -, rfl, -, -⟩ := hv.shp
  obtain ⟨s', m', t', ns', ks', an', ak', cn', ck', -, rfl, -, -⟩ := hv'.shp
  have HB3 := Lib.hid (HB2.out.kept hg3 (by have := HZ.out; simp; omega))
  have HC3 := Lib.hid (HC2.out.kept hg3 (by have := HZ.out; simp; omega))
  have HG3 := Lib.hid (grown_own HG2.out hg3 (fun q hq => by have := HZ.out; cases hq; omega))
  have HV := Lib.hid hv
  have HV' := Lib.hid hv'
  have honeA : ∀ v ∈ ([.int .i64 s, .int .i64 m, .string t, .slice an ns.length cn, .slice ak ks.length ck] : List Value), v.oneCell' = true := by intro v hv; simp at hv; rcases hv with rfl | rfl | rfl | rfl | rfl <;> rfl
  have honeB : ∀ v ∈ ([.int .i64 s', .int .i64 m', .string t', .slice an' ns'.length cn', .slice ak' ks'.length ck'] : List Value), v.oneCell' = true := by intro v hv; simp at hv; rcases hv with rfl | rfl | rfl | rfl | rfl <;> rfl
  have HOA := Lib.hid honeA
  have HOB := Lib.hid honeB
  clear honeA honeB hv hv' hg3 HB2 HC2 HG2 HTW
  go_wp2_with (first | ((with_reducible refine wpList_store_blk ?_ 26 (.tmp 2) (.tmp 7) ?_ w.heap.size [.int .i64 s, .int .i64 m, .string t, .slice an ns.length cn, .slice ak ks.length ck] [.int .i64 0, .int .i64 0, .string ⟨#[]⟩, .slice none 0 0, .slice none 0 0] 26 ?_ ?_ ?_ ?_ ?_ ?_ ?_); exact rfl; exact rfl; exact HB3.out; exact info26s; exact rfl; exact HOA.out; exact rfl; exact rfl; intro w4 HB4 HG4) | ((with_reducible refine wpList_store_blk ?_ 26 (.tmp 3) (.tmp 8) ?_ (w.heap.size + 1) [.int .i64 s', .int .i64 m', .string t', .slice an' ns'.length cn', .slice ak' ks'.length ck'] [.int .i64 0, .int .i64 0, .string ⟨#[]⟩, .slice none 0 0, .slice none 0 0] 26 ?_ ?_ ?_ ?_ ?_ ?_ ?_); exact rfl; exact rfl; exact (HC3.out.kept HG4.out (by simp)); exact info26s; exact rfl; exact HOB.out; exact rfl; exact rfl; intro w5 HC5 HG5))
  have hwz := HZ.out
  have hw2 := HW2.out
  exact ⟨rfl, _, results_two Tryd.results8 _ w5 w.heap.size (w.heap.size + 1) 26 _ _ _ (HB4.out.kept HG5.out (by simp)) HC5.out Tryd.underlying26 rfl info26s info26s rfl rfl, T, T', [.int .i64 s, .int .i64 m, .string t, .slice an ns.length cn, .slice ak ks.length ck], [.int .i64 s', .int .i64 m', .string t', .slice an' ns'.length cn', .slice ak' ks'.length ck'], rfl, ((HV.out.kept HG4.out (fun q hq => by cases hq; omega)).kept HG5.out (fun q hq => by cases hq; omega)).base (Nat.zero_le _), ((HV'.out.kept HG4.out (fun q hq => by cases hq; omega)).kept HG5.out (fun q hq => by cases hq; omega)).base (Nat.zero_le _), hb, hb', grown_into (grown_into HG3.out HG4.out (Nat.le_refl _)) HG5.out (by omega)⟩

theorem ok_unknown : OkT (.node 7 0 ⟨#[]⟩ [] []) := by
  refine ⟨?_, by rw [count]; simp [countK]⟩
  rw [Parts]
  refine ⟨⟨fun _ => rfl, fun _ => rfl, .inl ⟨.inr rfl, rfl, rfl⟩⟩, by omega, by rw [PartsK]; trivial⟩
theorem fits_unknown : ∀ T : VT, Fits T (.node 7 0 ⟨#[]⟩ [] [])
  | .node _ _ _ _ _ => by rw [Fits]; exact .inl rfl
theorem Says.iff {e : Ending} {p : Prop} (h : Says e p) : ∃ b : Bool, e = .returned (.bool b) ∧ (b = true ↔ p) := h
theorem Tab.kept0 {w w' : World} (h : Tab w) (hg : w.grownBy w' none) : Tab w' := ⟨fun j hj => hg.cell (h.1 j hj) (by simp), hg.cell h.2 (by simp)⟩

set_option maxRecDepth 100000 in
set_option maxHeartbeats 8000000 in
theorem fits_walk (w : World) (hT : Tab w) (ao : Option Addr) (n cap : Nat) (hcap : n ≤ cap) (hc : n = 0 ∨ ∃ ab o, ao = some ⟨ab, o, none⟩ ∧ ∀ j, j < n → ∃ x : Int, 0 ≤ x ∧ x < 256 ∧ w.cell? ⟨ab, o + j, none⟩ = some (.int .u8 x)) :
    Calls Tryd.prog 3 #[.slice ao n cap] w fun e w' => e = .returned (.bool true) ∧ w.grownBy w' none := by
  by_cases hn : (n : Int) > 1048576
  · clear hc hT
    go_enter Tryd.func3, Tryd.ntmps3
    go_wp2
    go_ret
    exact ⟨rfl, grown_refl _ _⟩
  have hn' : (n : Int) ≤ 1048576 := by omega
  have HD := Lib.hid (draw_any w ao n cap (by omega) hcap hc)
  have HT := Lib.hid hT
  clear hn hc hT
  go_enter Tryd.func3, Tryd.ntmps3
  go_wp2_with fail
  refine HD.out.mono ?_
  rintro e w1 ⟨T, T', cs, cs', rfl, hv, hv', hb, hb', hg1⟩
  obtain ⟨s, m, t, ns, ks, an, ak, cn, ck, -, rfl, -, -⟩ := hv.shp
  obtain ⟨s', m', t', ns', ks', an', ak', cn', ck', -, rfl, -, -⟩ := hv'.shp
  have hal : w1.grownBy ((w1.alloc (Obj.cells #[Value.int .i64 s, .int .i64 m, .string t, .slice an ns.length cn, .slice ak ks.length ck] 26)).alloc (Obj.cells #[Value.int .i64 s', .int .i64 m', .string t', .slice an' ns'.length cn', .slice ak' ks'.length ck'] 26)) none := grown_alloc (grown_alloc (grown_refl _ _) _) _
  have HV := Lib.hid (hv.grown hal)
  have HV' := Lib.hid (hv'.grown hal)
  have HA2 := Lib.hid (show Blk ((w1.alloc (Obj.cells #[Value.int .i64 s, .int .i64 m, .string t, .slice an ns.length cn, .slice ak ks.length ck] 26)).alloc (Obj.cells #[Value.int .i64 s', .int .i64 m', .string t', .slice an' ns'.length cn', .slice ak' ks'.length ck'] 26)) w1.heap.size 26 [.int .i64 s, .int .i64 m, .string t, .slice an ns.length cn, .slice ak ks.length ck] from (Blk.new w1 26 [.int .i64 s, .int .i64 m, .string t, .slice an ns.length cn, .slice ak ks.length ck]).alloc _)
  have HB2 := Lib.hid (show Blk ((w1.alloc (Obj.cells #[Value.int .i64 s, .int .i64 m, .string t, .slice an ns.length cn, .slice ak ks.length ck] 26)).alloc (Obj.cells #[Value.int .i64 s', .int .i64 m', .string t', .slice an' ns'.length cn', .slice ak' ks'.length ck'] 26)) (w1.heap.size + 1) 26 [.int .i64 s', .int .i64 m', .string t', .slice an' ns'.length cn', .slice ak' ks'.length ck'] from by
    have := Blk.new (w1.alloc (Obj.cells #[Value.int .i64 s, .int .i64 m, .string t, .slice an ns.length cn, .slice ak ks.length ck] 26)) 26 [.int .i64 s', .int .i64 m', .string t', .slice an' ns'.length cn', .slice ak' ks'.length ck']
    simpa using this)
  have HG2 := Lib.hid (grown_trans hg1 hal)
  have HT2 := Lib.hid (HT.out.kept0 HG2.out)
  have hbu : bulk T ≤ 1048576 := by omega
  have hbu' : bulk T' ≤ 1048576 := by omega
  clear hv hv' hb hb' hg1 hal HD HT
  go_wp2_with fail
  generalize (w1.alloc (Obj.cells #[Value.int .i64 s, .int .i64 m, .string t, .slice an ns.length cn, .slice ak ks.length ck] 26)).alloc (Obj.cells #[Value.int .i64 s', .int .i64 m', .string t', .slice an' ns'.length cn', .slice ak' ks'.length ck'] 26) = w2 at HV HV' HA2 HB2 HG2 HT2 ⊢
  obtain ⟨ab, hab⟩ : ∃ ab, ab = w1.heap.size := ⟨_, rfl⟩
  obtain ⟨bb, hbb⟩ : ∃ bb, bb = w1.heap.size + 1 := ⟨_, rfl⟩
  rw [← hbb] at HB2 ⊢
  rw [← hab] at HA2 ⊢
  clear hab hbb
  have HW2 := Lib.hid (grown_refl w2 none)
  refine (implFits w2 0 0 T T' _ _ HV.out HV'.out hbu hbu' HT2.out w2 HW2.out).mono ?_
  rintro e w3 ⟨⟨f, rfl, hf⟩, hg3⟩
  have HA3 := Lib.hid (HA2.out.kept hg3 (by simp))
  have HB3 := Lib.hid (HB2.out.kept hg3 (by simp))
  have HG3 := Lib.hid (grown_trans HG2.out hg3)
  have HW3 := Lib.hid hg3
  clear hg3 HA2 HB2 HG2 HW2
  have x0 : w3.cell? ⟨ab, 0, none⟩ = some (.int .i64 s) := HA3.out.cell rfl
  have x1 : w3.cell? ⟨ab, 1, none⟩ = some (.int .i64 m) := HA3.out.cell rfl
  have x2 : w3.cell? ⟨ab, 2, none⟩ = some (.string t) := HA3.out.cell rfl
  have x3 : w3.cell? ⟨ab, 3, none⟩ = some (.slice an ns.length cn) := HA3.out.cell rfl
  have x4 : w3.cell? ⟨ab, 4, none⟩ = some (.slice ak ks.length ck) := HA3.out.cell rfl
  have y0 : w3.cell? ⟨bb, 0, none⟩ = some (.int .i64 s') := HB3.out.cell rfl
  have y1 : w3.cell? ⟨bb, 1, none⟩ = some (.int .i64 m') := HB3.out.cell rfl
  have y2 : w3.cell? ⟨bb, 2, none⟩ = some (.string t') := HB3.out.cell rfl
  have y3 : w3.cell? ⟨bb, 3, none⟩ = some (.slice an' ns'.length cn') := HB3.out.cell rfl
  have y4 : w3.cell? ⟨bb, 4, none⟩ = some (.slice ak' ks'.length ck') := HB3.out.cell rfl
  go_wp2_with fail
  refine (implKnown_any w2 0 T' _ HV'.out hbu' HT2.out w3 HW3.out).mono ?_
  rintro e w4 ⟨⟨k, rfl, hk⟩, hg4⟩
  have HA4 := Lib.hid (HA3.out.kept hg4 (by simp))
  have HB4 := Lib.hid (HB3.out.kept hg4 (by simp))
  have HG4 := Lib.hid (grown_trans HG3.out hg4)
  have HW4 := Lib.hid (grown_trans HW3.out hg4)
  clear x0 x1 x2 x3 x4 y0 y1 y2 y3 y4 hg4 HA3 HB3 HG3 HW3
  have x0 : w4.cell? ⟨ab, 0, none⟩ = some (.int .i64 s) := HA4.out.cell rfl
  have x1 : w4.cell? ⟨ab, 1, none⟩ = some (.int .i64 m) := HA4.out.cell rfl
  have x2 : w4.cell? ⟨ab, 2, none⟩ = some (.string t) := HA4.out.cell rfl
  have x3 : w4.cell? ⟨ab, 3, none⟩ = some (.slice an ns.length cn) := HA4.out.cell rfl
  have x4 : w4.cell? ⟨ab, 4, none⟩ = some (.slice ak ks.length ck) := HA4.out.cell rfl
  have y0 : w4.cell? ⟨bb, 0, none⟩ = some (.int .i64 s') := HB4.out.cell rfl
  have y1 : w4.cell? ⟨bb, 1, none⟩ = some (.int .i64 m') := HB4.out.cell rfl
  have y2 : w4.cell? ⟨bb, 2, none⟩ = some (.string t') := HB4.out.cell rfl
  have y3 : w4.cell? ⟨bb, 3, none⟩ = some (.slice an' ns'.length cn') := HB4.out.cell rfl
  have y4 : w4.cell? ⟨bb, 4, none⟩ = some (.slice ak' ks'.length ck') := HB4.out.cell rfl
  go_wp2_with fail
  refine (specFits w2 0 0 T T' _ _ HV.out HV'.out hbu hbu' w4 HW4.out).mono ?_
  rintro e w5 ⟨⟨f2, rfl, hf2⟩, hg5⟩
  have HA5 := Lib.hid (HA4.out.kept hg5 (by simp))
  have HB5 := Lib.hid (HB4.out.kept hg5 (by simp))
  have HG5 := Lib.hid (grown_trans HG4.out hg5)
  have HW5 := Lib.hid (grown_trans HW4.out hg5)
  clear x0 x1 x2 x3 x4 y0 y1 y2 y3 y4 hg5 HA4 HB4 HG4 HW4
  obtain rfl : f = f2 := by rw [Bool.eq_iff_iff, hf, hf2]
  have hff : (f != f) = false := by simp
  have x0 : w5.cell? ⟨ab, 0, none⟩ = some (.int .i64 s) := HA5.out.cell rfl
  have x1 : w5.cell? ⟨ab, 1, none⟩ = some (.int .i64 m) := HA5.out.cell rfl
  have x2 : w5.cell? ⟨ab, 2, none⟩ = some (.string t) := HA5.out.cell rfl
  have x3 : w5.cell? ⟨ab, 3, none⟩ = some (.slice an ns.length cn) := HA5.out.cell rfl
  have x4 : w5.cell? ⟨ab, 4, none⟩ = some (.slice ak ks.length ck) := HA5.out.cell rfl
  have y0 : w5.cell? ⟨bb, 0, none⟩ = some (.int .i64 s') := HB5.out.cell rfl
  have y1 : w5.cell? ⟨bb, 1, none⟩ = some (.int .i64 m') := HB5.out.cell rfl
  have y2 : w5.cell? ⟨bb, 2, none⟩ = some (.string t') := HB5.out.cell rfl
  have y3 : w5.cell? ⟨bb, 3, none⟩ = some (.slice an' ns'.length cn') := HB5.out.cell rfl
  have y4 : w5.cell? ⟨bb, 4, none⟩ = some (.slice ak' ks'.length ck') := HB5.out.cell rfl
  go_wp2_with fail
  refine (specKnown_any w5 0 T' _ (HV'.out.grown HW5.out) hbu').mono ?_
  rintro e w6 ⟨⟨k2, rfl, hk2⟩, hg6⟩
  have HA6 := Lib.hid (HA5.out.kept hg6 (by simp))
  have HB6 := Lib.hid (HB5.out.kept hg6 (by simp))
  have HG6 := Lib.hid (grown_trans HG5.out hg6)
  have HW6 := Lib.hid (grown_trans HW5.out hg6)
  clear x0 x1 x2 x3 x4 y0 y1 y2 y3 y4 hg6 HA5 HB5 HG5 HW5
  obtain rfl : k = k2 := by rw [Bool.eq_iff_iff, hk, hk2]
  have hkk : (k != k) = false := by simp
  have x0 : w6.cell? ⟨ab, 0, none⟩ = some (.int .i64 s) := HA6.out.cell rfl
  have x1 : w6.cell? ⟨ab, 1, none⟩ = some (.int .i64 m) := HA6.out.cell rfl
  have x2 : w6.cell? ⟨ab, 2, none⟩ = some (.string t) := HA6.out.cell rfl
  have x3 : w6.cell? ⟨ab, 3, none⟩ = some (.slice an ns.length cn) := HA6.out.cell rfl
  have x4 : w6.cell? ⟨ab, 4, none⟩ = some (.slice ak ks.length ck) := HA6.out.cell rfl
  have y0 : w6.cell? ⟨bb, 0, none⟩ = some (.int .i64 s') := HB6.out.cell rfl
  have y1 : w6.cell? ⟨bb, 1, none⟩ = some (.int .i64 m') := HB6.out.cell rfl
  have y2 : w6.cell? ⟨bb, 2, none⟩ = some (.string t') := HB6.out.cell rfl
  have y3 : w6.cell? ⟨bb, 3, none⟩ = some (.slice an' ns'.length cn') := HB6.out.cell rfl
  have y4 : w6.cell? ⟨bb, 4, none⟩ = some (.slice ak' ks'.length ck') := HB6.out.cell rfl
  go_wp2_with fail
  refine (specOk_any w6 0 T _ (HV.out.grown HW6.out) hbu).mono ?_
  rintro e w7 ⟨⟨o, rfl, ho⟩, hg7⟩
  have HA7 := Lib.hid (HA6.out.kept hg7 (by simp))
  have HB7 := Lib.hid (HB6.out.kept hg7 (by simp))
  have HG7 := Lib.hid (grown_trans HG6.out hg7)
  have HW7 := Lib.hid (grown_trans HW6.out hg7)
  clear x0 x1 x2 x3 x4 y0 y1 y2 y3 y4 hg7 HA6 HB6 HG6 HW6
  have HF := Lib.hid hf
  have HK := Lib.hid hk
  have HO := Lib.hid ho
  clear hf hk ho hf2 hk2 hff hkk
  cases o with
  | false =>
    obtain rfl : f = false := by
      cases f with
      | false => rfl
      | true => exact absurd (HO.out.2 (HF.out.1 (by first | trivial | rfl)).1) (by simp)
    have HG := Lib.hid HG7.out
    clear HA7 HB7 HW7
    go_wp2
    go_ret
    exact ⟨rfl, HG.out⟩
  | true =>
    have x0 : w7.cell? ⟨ab, 0, none⟩ = some (.int .i64 s) := HA7.out.cell rfl
    have x1 : w7.cell? ⟨ab, 1, none⟩ = some (.int .i64 m) := HA7.out.cell rfl
    have x2 : w7.cell? ⟨ab, 2, none⟩ = some (.string t) := HA7.out.cell rfl
    have x3 : w7.cell? ⟨ab, 3, none⟩ = some (.slice an ns.length cn) := HA7.out.cell rfl
    have x4 : w7.cell? ⟨ab, 4, none⟩ = some (.slice ak ks.length ck) := HA7.out.cell rfl
    have y0 : w7.cell? ⟨bb, 0, none⟩ = some (.int .i64 s') := HB7.out.cell rfl
    have y1 : w7.cell? ⟨bb, 1, none⟩ = some (.int .i64 m') := HB7.out.cell rfl
    have y2 : w7.cell? ⟨bb, 2, none⟩ = some (.string t') := HB7.out.cell rfl
    have y3 : w7.cell? ⟨bb, 3, none⟩ = some (.slice an' ns'.length cn') := HB7.out.cell rfl
    have y4 : w7.cell? ⟨bb, 4, none⟩ = some (.slice ak' ks'.length ck') := HB7.out.cell rfl
    go_wp2_with fail
    refine (specOk_any w7 0 T' _ (HV'.out.grown HW7.out) hbu').mono ?_
    rintro e w8 ⟨⟨o2, rfl, ho2⟩, hg8⟩
    have HA8 := Lib.hid (HA7.out.kept hg8 (by simp))
    have HB8 := Lib.hid (HB7.out.kept hg8 (by simp))
    have HG8 := Lib.hid (grown_trans HG7.out hg8)
    have HW8 := Lib.hid (grown_trans HW7.out hg8)
    clear x0 x1 x2 x3 x4 y0 y1 y2 y3 y4 hg8 HA7 HB7 HG7 HW7
    have HO2 := Lib.hid ho2
    clear ho2
    cases o2 with
    | false =>
      obtain rfl : f = false := by
        cases f with
        | false => rfl
        | true => exact absurd (HO2.out.2 (HF.out.1 (by first | trivial | rfl)).2.1) (by simp)
      have HG := Lib.hid HG8.out
      clear HA8 HB8 HW8
      go_wp2
      go_ret
      exact ⟨rfl, HG.out⟩
    | true =>
      have x0 : w8.cell? ⟨ab, 0, none⟩ = some (.int .i64 s) := HA8.out.cell rfl
      have x1 : w8.cell? ⟨ab, 1, none⟩ = some (.int .i64 m) := HA8.out.cell rfl
      have x2 : w8.cell? ⟨ab, 2, none⟩ = some (.string t) := HA8.out.cell rfl
      have x3 : w8.cell? ⟨ab, 3, none⟩ = some (.slice an ns.length cn) := HA8.out.cell rfl
      have x4 : w8.cell? ⟨ab, 4, none⟩ = some (.slice ak ks.length ck) := HA8.out.cell rfl
      have y0 : w8.cell? ⟨bb, 0, none⟩ = some (.int .i64 s') := HB8.out.cell rfl
      have y1 : w8.cell? ⟨bb, 1, none⟩ = some (.int .i64 m') := HB8.out.cell rfl
      have y2 : w8.cell? ⟨bb, 2, none⟩ = some (.string t') := HB8.out.cell rfl
      have y3 : w8.cell? ⟨bb, 3, none⟩ = some (.slice an' ns'.length cn') := HB8.out.cell rfl
      have y4 : w8.cell? ⟨bb, 4, none⟩ = some (.slice ak' ks'.length ck') := HB8.out.cell rfl
      go_wp2_with fail
      refine (implFits w2 0 0 T T _ _ HV.out HV.out hbu hbu HT2.out w8 HW8.out).mono ?_
      rintro e w9 ⟨⟨f3, rfl, hf3⟩, hg9⟩
      have HA9 := Lib.hid (HA8.out.kept hg9 (by simp))
      have HB9 := Lib.hid (HB8.out.kept hg9 (by simp))
      have HG9 := Lib.hid (grown_trans HG8.out hg9)
      have HW9 := Lib.hid (grown_trans HW8.out hg9)
      clear x0 x1 x2 x3 x4 y0 y1 y2 y3 y4 hg9 HA8 HB8 HG8 HW8
      obtain rfl : f3 = true := hf3.2 ⟨HO.out.1 (by first | trivial | rfl), HO.out.1 (by first | trivial | rfl), fits_self T⟩
      clear hf3
      have x0 : w9.cell? ⟨ab, 0, none⟩ = some (.int .i64 s) := HA9.out.cell rfl
      have x1 : w9.cell? ⟨ab, 1, none⟩ = some (.int .i64 m) := HA9.out.cell rfl
      have x2 : w9.cell? ⟨ab, 2, none⟩ = some (.string t) := HA9.out.cell rfl
      have x3 : w9.cell? ⟨ab, 3, none⟩ = some (.slice an ns.length cn) := HA9.out.cell rfl
      have x4 : w9.cell? ⟨ab, 4, none⟩ = some (.slice ak ks.length ck) := HA9.out.cell rfl
      have y0 : w9.cell? ⟨bb, 0, none⟩ = some (.int .i64 s') := HB9.out.cell rfl
      have y1 : w9.cell? ⟨bb, 1, none⟩ = some (.int .i64 m') := HB9.out.cell rfl
      have y2 : w9.cell? ⟨bb, 2, none⟩ = some (.string t') := HB9.out.cell rfl
      have y3 : w9.cell? ⟨bb, 3, none⟩ = some (.slice an' ns'.length cn') := HB9.out.cell rfl
      have y4 : w9.cell? ⟨bb, 4, none⟩ = some (.slice ak' ks'.length ck') := HB9.out.cell rfl
      go_wp2_with fail
      refine (implFits w2 0 0 T (.node 7 0 ⟨#[]⟩ [] []) _ [.int .i64 7, .int .i64 0, .string ⟨#[]⟩, .slice none 0 0, .slice none 0 0] HV.out ((VX.leaf w2 (fun _ => True) 7 0 ⟨#[]⟩ (by decide) (by omega) (by omega) (by omega) (by omega)).vin (fun b _ => Nat.zero_le _)) hbu (by rw [bulk]; show 0 + (0 + 0) + (0 + 0) ≤ 1048576; omega) HT2.out w9 HW9.out).mono ?_
      rintro e w10 ⟨⟨f4, rfl, hf4⟩, hg10⟩
      have HA10 := Lib.hid (HA9.out.kept hg10 (by simp))
      have HB10 := Lib.hid (HB9.out.kept hg10 (by simp))
      have HG10 := Lib.hid (grown_trans HG9.out hg10)
      have HW10 := Lib.hid (grown_trans HW9.out hg10)
      clear x0 x1 x2 x3 x4 y0 y1 y2 y3 y4 hg10 HA9 HB9 HG9 HW9
      obtain rfl : f4 = true := hf4.2 ⟨HO.out.1 (by first | trivial | rfl), ok_unknown, fits_unknown T⟩
      clear hf4
      cases k with
      | false =>
        have HG := Lib.hid HG10.out
        clear HA10 HB10 HW10
        go_wp2
        go_ret
        exact ⟨rfl, HG.out⟩
      | true =>
        have x0 : w10.cell? ⟨ab, 0, none⟩ = some (.int .i64 s) := HA10.out.cell rfl
        have x1 : w10.cell? ⟨ab, 1, none⟩ = some (.int .i64 m) := HA10.out.cell rfl
        have x2 : w10.cell? ⟨ab, 2, none⟩ = some (.string t) := HA10.out.cell rfl
        have x3 : w10.cell? ⟨ab, 3, none⟩ = some (.slice an ns.length cn) := HA10.out.cell rfl
        have x4 : w10.cell? ⟨ab, 4, none⟩ = some (.slice ak ks.length ck) := HA10.out.cell rfl
        have y0 : w10.cell? ⟨bb, 0, none⟩ = some (.int .i64 s') := HB10.out.cell rfl
        have y1 : w10.cell? ⟨bb, 1, none⟩ = some (.int .i64 m') := HB10.out.cell rfl
        have y2 : w10.cell? ⟨bb, 2, none⟩ = some (.string t') := HB10.out.cell rfl
        have y3 : w10.cell? ⟨bb, 3, none⟩ = some (.slice an' ns'.length cn') := HB10.out.cell rfl
        have y4 : w10.cell? ⟨bb, 4, none⟩ = some (.slice ak' ks'.length ck') := HB10.out.cell rfl
        go_wp2_with fail
        refine (wsValue_any w2 0 T _ HV.out 0 T' _ HV'.out hbu w10 HW10.out).mono ?_
        rintro e w11 ⟨⟨q, rfl, hq⟩, hg11⟩
        have HA11 := Lib.hid (HA10.out.kept hg11 (by simp))
        have HB11 := Lib.hid (HB10.out.kept hg11 (by simp))
        have HG11 := Lib.hid (grown_trans HG10.out hg11)
        have HW11 := Lib.hid (grown_trans HW10.out hg11)
        clear x0 x1 x2 x3 x4 y0 y1 y2 y3 y4 hg11 HA10 HB10 HG10 HW10
        obtain rfl : f = q := by
          rw [Bool.eq_iff_iff, HF.out, hq]
          have hkt := HK.out.1 (by first | trivial | rfl)
          have h1 := HO.out.1 (by first | trivial | rfl)
          rw [← fits_same T T' 1 h1.1 hkt.1.1 hkt.2]
          exact ⟨fun h => h.2.2, fun h => ⟨h1, hkt.1, h⟩⟩
        have hff : (f == f) = true := by simp
        clear hq
        have HG := Lib.hid HG11.out
        clear HA11 HB11 HW11
        go_wp2
        go_ret
        exact ⟨rfl, HG.out⟩

end Go.Proofs.YtgmigloafcejdaaDoor
