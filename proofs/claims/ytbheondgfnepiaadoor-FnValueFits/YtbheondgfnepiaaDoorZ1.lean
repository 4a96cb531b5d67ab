/- Values that are the same: as the laws compare them. -/
import Derived.Test.YtbheondgfnepiaaDoorY3
namespace Go.Proofs.YtbheondgfnepiaaDoor
open Go.RowKit

mutual
/-- two values are the same -/
def SameT : VT → VT → Prop
  | .node s n t ns ks, .node s' n' t' ns' ks' => s = s' ∧ n = n' ∧ (t.toList == t'.toList) = true ∧ SameN ns ns' ∧ SameK ks ks'
def SameK : List VT → List VT → Prop
  | [], [] => True
  | k :: ks, k' :: ks' => SameT k k' ∧ SameK ks ks'
  | [], _ :: _ => False
  | _ :: _, [] => False
end
theorem sameK_iff : ∀ (ks ks' : List VT), SameK ks ks' ↔ ks.length = ks'.length ∧ ∀ (j : Nat) (k k' : VT), ks[j]? = some k → ks'[j]? = some k' → SameT k k'
  | [], [] => by simp [SameK]
  | [], _ :: _ => by simp [SameK]
  | _ :: _, [] => by simp [SameK]
  | a :: ks, a' :: ks' => by
    rw [SameK, sameK_iff ks ks']
    constructor
    · rintro ⟨h1, h2, h3⟩
      refine ⟨by simp [h2], fun j k k' hj hj' => ?_⟩
      cases j with
      | zero => simp at hj hj'; subst hj; subst hj'; exact h1
      | succ j => exact h3 j k k' (by simpa using hj) (by simpa using hj')
    · rintro ⟨h2, h3⟩
      exact ⟨h3 0 a a' rfl rfl, by simpa using h2, fun j k k' hj hj' => h3 (j + 1) k k' (by simpa using hj) (by simpa using hj')⟩

set_option maxRecDepth 100000 in
set_option maxHeartbeats 2000000 in
theorem wsTexts_len (W : World) (ns ns' : List ByteArray) (an an' : Option Addr) (cn cn' : Nat) (hl : ¬ ns.length = ns'.length) : Calls Tryd.prog 28 #[.slice an ns.length cn, .slice an' ns'.length cn'] W fun e w' => Says e (SameN ns ns') ∧ W.grownBy w' none := by
  have HD := Lib.hid (show Says (.returned (.bool false)) (SameN ns ns') from .no (fun h => hl h.1))
  go_enter Tryd.func28, Tryd.ntmps28
  go_wp2
  go_ret
  exact ⟨HD.out, grown_refl _ _⟩

set_option maxRecDepth 100000 in
set_option maxHeartbeats 2000000 in
theorem wsTexts_m (W : World) (b1 b2 : Nat) (ns ns' : List ByteArray) (an an' : Option Addr) (cn cn' : Nat) (hn : Lies W b1 an ns) (hn' : Lies W b2 an' ns') (m : Nat) (HM1 : Hid (ns.length = m)) (HM2 : Hid (ns'.length = m)) (hm : m ≤ 1048576) :
    Calls Tryd.prog 28 #[.slice an m cn, .slice an' m cn'] W fun e w' => Says e (SameN ns ns') ∧ W.grownBy w' none := by
  have HL := Lib.hid hn
  have HL' := Lib.hid hn'
  obtain ⟨p, hpp⟩ : ∃ p : Prop, p = SameN ns ns' := ⟨_, rfl⟩
  rw [← hpp]
  have HPP := Lib.hid (show p ↔ ∀ j, j < m → ((ns.getD j ByteArray.empty).toList == (ns'.getD j ByteArray.empty).toList) = true from by
    rw [hpp, SameN, HM1.out, HM2.out]
    exact ⟨fun h => h.2, fun h => ⟨rfl, h⟩⟩)
  clear hn hn' hpp
  go_enter Tryd.func28, Tryd.ntmps28
  go_wp2
  go_loopw [5] (fun i wr => ∃ k : Nat, k ≤ m ∧ i = .int .i64 k ∧ Hid (∀ j, j < k → ((ns.getD j ByteArray.empty).toList == (ns'.getD j ByteArray.empty).toList) = true) ∧ W.grownBy wr none) (fun i _ => m - (intOf i).toNat)
  case atStart => exact ⟨0, Nat.zero_le _, rfl, Lib.hid (fun j h => absurd h (Nat.not_lt_zero _)), grown_refl _ _⟩
  case round =>
    obtain ⟨k, hk, rfl, HA, hg⟩ := hrel
    have HG := Lib.hid hg
    clear hg
    by_cases hlm : k < m
    case neg =>
      have hkI : ¬ (k : Int) < m := by omega
      have HD := Lib.hid (show Says (.returned (.bool true)) p from .yes (HPP.out.2 (fun j hj => HA.out j (by omega))))
      go_wp2
      go_ret
      exact ⟨HD.out, HG.out⟩
    have hkI : (k : Int) < m := by omega
    rcases HL.out with h0 | ⟨ab, q, rfl, -, hm1⟩
    · have := HM1.out; omega
    rcases HL'.out with h0 | ⟨ab', q', rfl, -, hm2⟩
    · have := HM2.out; omega
    have HX := Lib.hid (hm1 k (by have := HM1.out; omega))
    have HY := Lib.hid (hm2 k (by have := HM2.out; omega))
    clear hm1 hm2
    obtain ⟨x, hx⟩ : ∃ x, x = ns.getD k ByteArray.empty := ⟨_, rfl⟩
    obtain ⟨y, hy⟩ : ∃ y, y = ns'.getD k ByteArray.empty := ⟨_, rfl⟩
    rw [← hx] at HX
    rw [← hy] at HY
    have HXE := Lib.hid hx
    have HYE := Lib.hid hy
    clear hx hy
    cases hxy : (x.toList == y.toList)
    · have HXY := Lib.hid hxy
      have HD := Lib.hid (show Says (.returned (.bool false)) p from .no (fun h => by
        have := HPP.out.1 h k hlm
        rw [← HXE.out, ← HYE.out, HXY.out] at this
        cases this))
      go_wp2
      refine wp_still (by kernel_rfl) (by kernel_rfl) (fun wx => W.grownBy wx none) (grown_drew HG.out) ?_
      intro wy hgy
      have HGY := Lib.hid hgy
      have nx : wy.cell? ⟨ab, q + k, none⟩ = some (.string x) := hgy.cell HX.out (by simp)
      have ny : wy.cell? ⟨ab', q' + k, none⟩ = some (.string y) := hgy.cell HY.out (by simp)
      clear hgy
      iterate 9 ((with_reducible refine wpStill_step ?_); intro K hK; replace hK := Lib.hid hK; go_simp; (with_reducible refine hK.out _ ?_); clear hK K)
      refine wpStill_nil ?_
      clear nx ny hxy
      go_wp2
      go_ret
      exact ⟨HD.out, HGY.out⟩
    · have HXY := Lib.hid hxy
      go_wp2
      refine wp_still (by kernel_rfl) (by kernel_rfl) (fun wx => W.grownBy wx none) (grown_drew HG.out) ?_
      intro wy hgy
      have HGY := Lib.hid hgy
      have nx : wy.cell? ⟨ab, q + k, none⟩ = some (.string x) := hgy.cell HX.out (by simp)
      have ny : wy.cell? ⟨ab', q' + k, none⟩ = some (.string y) := hgy.cell HY.out (by simp)
      clear hgy
      iterate 9 ((with_reducible refine wpStill_step ?_); intro K hK; replace hK := Lib.hid hK; go_simp; (with_reducible refine hK.out _ ?_); clear hK K)
      refine wpStill_nil ?_
      clear nx ny hxy
      go_wp2
      go_roundw
      case rel => exact ⟨k + 1, by omega, by go_num, Lib.hid (fun j hj => by
        by_cases e : j = k
        · subst e
          rw [← HXE.out, ← HYE.out]
          exact HXY.out
        · exact HA.out j (by omega)), HGY.out⟩
      case measure => simp [intOf]; omega

theorem wsTexts_any (W : World) (b1 b2 : Nat) (ns ns' : List ByteArray) (an an' : Option Addr) (cn cn' : Nat) (hn : Lies W b1 an ns) (hn' : Lies W b2 an' ns') (hm : ns.length ≤ 1048576) :
    Calls Tryd.prog 28 #[.slice an ns.length cn, .slice an' ns'.length cn'] W fun e w' => Says e (SameN ns ns') ∧ W.grownBy w' none := by
  by_cases h : ns.length = ns'.length
  · have := wsTexts_m W b1 b2 ns ns' an an' cn cn' hn hn' ns.length (Lib.hid rfl) (Lib.hid h.symm) hm
    rw [← h]
    exact this
  · exact wsTexts_len W ns ns' an an' cn cn' h

set_option maxRecDepth 100000 in
set_option maxHeartbeats 4000000 in
theorem ws_len (w : World) (b1 b2 : Nat) (s n s' n' : Int) (t t' : ByteArray) (ns ns' : List ByteArray) (ks ks' : List VT) (an ak an' ak' : Option Addr) (cn ck cn' ck' : Nat) (hl : ¬ ks.length = ks'.length)
    (hn : Lies w b1 an ns) (hn' : Lies w b2 an' ns') (hnl : ns.length ≤ 1048576)
    (W : World) (hW : w.grownBy W none) :
    Calls Tryd.prog 11 #[.agg #[.int .i64 s, .int .i64 n, .string t, .slice an ns.length cn, .slice ak ks.length ck], .agg #[.int .i64 s', .int .i64 n', .string t', .slice an' ns'.length cn', .slice ak' ks'.length ck']] W fun e w' => Says e (SameT (.node s n t ns ks) (.node s' n' t' ns' ks')) ∧ W.grownBy w' none := by
  obtain ⟨p, hpp⟩ : ∃ p : Prop, p = SameT (.node s n t ns ks) (.node s' n' t' ns' ks') := ⟨_, rfl⟩
  rw [← hpp]
  have HPP := Lib.hid (show p ↔ s = s' ∧ n = n' ∧ (t.toList == t'.toList) = true ∧ SameN ns ns' ∧ SameK ks ks' from by rw [hpp, SameT])
  have HGX := Lib.hid (show W.grownBy ((W.alloc (Obj.cells #[Value.int .i64 s, .int .i64 n, .string t, .slice an ns.length cn, .slice ak ks.length ck] 26)).alloc (Obj.cells #[Value.int .i64 s', .int .i64 n', .string t', .slice an' ns'.length cn', .slice ak' ks'.length ck'] 26)) none from grown_alloc (grown_alloc (grown_refl _ _) _) _)
  have HBA := Lib.hid (show Blk ((W.alloc (Obj.cells #[Value.int .i64 s, .int .i64 n, .string t, .slice an ns.length cn, .slice ak ks.length ck] 26)).alloc (Obj.cells #[Value.int .i64 s', .int .i64 n', .string t', .slice an' ns'.length cn', .slice ak' ks'.length ck'] 26)) W.heap.size 26 [.int .i64 s, .int .i64 n, .string t, .slice an ns.length cn, .slice ak ks.length ck] from (Blk.new W 26 _).alloc _)
  have HBB := Lib.hid (show Blk ((W.alloc (Obj.cells #[Value.int .i64 s, .int .i64 n, .string t, .slice an ns.length cn, .slice ak ks.length ck] 26)).alloc (Obj.cells #[Value.int .i64 s', .int .i64 n', .string t', .slice an' ns'.length cn', .slice ak' ks'.length ck'] 26)) (W.heap.size + 1) 26 [.int .i64 s', .int .i64 n', .string t', .slice an' ns'.length cn', .slice ak' ks'.length ck'] from by
    have := Blk.new (W.alloc (Obj.cells #[Value.int .i64 s, .int .i64 n, .string t, .slice an ns.length cn, .slice ak ks.length ck] 26)) 26 [.int .i64 s', .int .i64 n', .string t', .slice an' ns'.length cn', .slice ak' ks'.length ck']
    simpa using this)
  have HEN := Lib.hid (wsTexts_any ((W.alloc (Obj.cells #[Value.int .i64 s, .int .i64 n, .string t, .slice an ns.length cn, .slice ak ks.length ck] 26)).alloc (Obj.cells #[Value.int .i64 s', .int .i64 n', .string t', .slice an' ns'.length cn', .slice ak' ks'.length ck'] 26)) b1 b2 ns ns' an an' cn cn' (hn.kept (grown_trans hW HGX.out) (fun q e => by cases e)) (hn'.kept (grown_trans hW HGX.out) (fun q e => by cases e)) hnl)
  have HW := Lib.hid hW
  clear hn hn' hW hpp
  by_cases hs : s = s'
  case neg =>
    have HD := Lib.hid (show Says (.returned (.bool false)) p from .no (fun h => hs (HPP.out.1 h).1))
    go_enter Tryd.func11, Tryd.ntmps11
    go_wp2
    go_ret
    exact ⟨HD.out, HGX.out⟩
  subst hs
  by_cases hnn : n = n'
  case neg =>
    have HD := Lib.hid (show Says (.returned (.bool false)) p from .no (fun h => hnn (HPP.out.1 h).2.1))
    go_enter Tryd.func11, Tryd.ntmps11
    go_wp2
    go_ret
    exact ⟨HD.out, HGX.out⟩
  subst hnn
  cases ht : (t.toList == t'.toList)
  · have HTT := Lib.hid ht
    have HD := Lib.hid (show Says (.returned (.bool false)) p from .no (fun h => by have := (HPP.out.1 h).2.2.1; rw [HTT.out] at this; cases this))
    go_enter Tryd.func11, Tryd.ntmps11
    go_wp2
    go_ret
    exact ⟨HD.out, HGX.out⟩
  have HTT := Lib.hid ht
  go_enter Tryd.func11, Tryd.ntmps11
  go_wp2_with fail
  refine HEN.out.mono ?_
  rintro e w1 ⟨⟨b, rfl, hb⟩, hg1⟩
  have HG1 := Lib.hid (grown_trans HGX.out hg1)
  have HA1 := Lib.hid (HBA.out.kept hg1 (by simp))
  have HB1 := Lib.hid (HBB.out.kept hg1 (by simp))
  have HSB := Lib.hid hb
  have d4 : w1.cell? ⟨W.heap.size, 4, none⟩ = some (.slice ak ks.length ck) := HA1.out.cell rfl
  have e4 : w1.cell? ⟨W.heap.size + 1, 4, none⟩ = some (.slice ak' ks'.length ck') := HB1.out.cell rfl
  clear hb hg1 HEN ht
  have HD := Lib.hid (show Says (.returned (.bool false)) p from .no (fun h => hl ((sameK_iff ks ks').1 (HPP.out.1 h).2.2.2.2).1))
  cases b
  · go_wp2
    go_ret
    exact ⟨HD.out, HG1.out⟩
  · go_wp2
    go_ret
    exact ⟨HD.out, HG1.out⟩

set_option maxRecDepth 100000 in
set_option maxHeartbeats 4000000 in
theorem ws_m (w : World) (b1 b2 : Nat) (s n s' n' : Int) (t t' : ByteArray) (ns ns' : List ByteArray) (ks ks' : List VT) (an ak an' ak' : Option Addr) (cn ck cn' ck' : Nat)
    (hn : Lies w b1 an ns) (hn' : Lies w b2 an' ns') (hnl : ns.length ≤ 1048576)
    (CS CS' : Nat → List Value) (m : Nat) (HM1 : Hid (ks.length = m)) (HM2 : Hid (ks'.length = m)) (hm : m ≤ 1048576)
    (hp : ks.length = 0 ∨ ∃ b o, ak = some ⟨b, o, none⟩ ∧ b1 ≤ b ∧ ∀ j, j < ks.length → Five w b (o + j * 5) (CS j))
    (hp' : ks'.length = 0 ∨ ∃ b o, ak' = some ⟨b, o, none⟩ ∧ b2 ≤ b ∧ ∀ j, j < ks'.length → Five w b (o + j * 5) (CS' j))
    (ih : ∀ (j : Nat) (k k' : VT), ks[j]? = some k → ks'[j]? = some k' → ∀ W : World, w.grownBy W none → Calls Tryd.prog 11 #[.agg (CS j).toArray, .agg (CS' j).toArray] W fun e w' => Says e (SameT k k') ∧ W.grownBy w' none)
    (W : World) (hW : w.grownBy W none) :
    Calls Tryd.prog 11 #[.agg #[.int .i64 s, .int .i64 n, .string t, .slice an ns.length cn, .slice ak m ck], .agg #[.int .i64 s', .int .i64 n', .string t', .slice an' ns'.length cn', .slice ak' m ck']] W fun e w' => Says e (SameT (.node s n t ns ks) (.node s' n' t' ns' ks')) ∧ W.grownBy w' none := by
  obtain ⟨p, hpp⟩ : ∃ p : Prop, p = SameT (.node s n t ns ks) (.node s' n' t' ns' ks') := ⟨_, rfl⟩
  rw [← hpp]
  have HPP := Lib.hid (show p ↔ s = s' ∧ n = n' ∧ (t.toList == t'.toList) = true ∧ SameN ns ns' ∧ SameK ks ks' from by rw [hpp, SameT])
  have HGX := Lib.hid (show W.grownBy ((W.alloc (Obj.cells #[Value.int .i64 s, .int .i64 n, .string t, .slice an ns.length cn, .slice ak m ck] 26)).alloc (Obj.cells #[Value.int .i64 s', .int .i64 n', .string t', .slice an' ns'.length cn', .slice ak' m ck'] 26)) none from grown_alloc (grown_alloc (grown_refl _ _) _) _)
  have HBA := Lib.hid (show Blk ((W.alloc (Obj.cells #[Value.int .i64 s, .int .i64 n, .string t, .slice an ns.length cn, .slice ak m ck] 26)).alloc (Obj.cells #[Value.int .i64 s', .int .i64 n', .string t', .slice an' ns'.length cn', .slice ak' m ck'] 26)) W.heap.size 26 [.int .i64 s, .int .i64 n, .string t, .slice an ns.length cn, .slice ak m ck] from (Blk.new W 26 _).alloc _)
  have HBB := Lib.hid (show Blk ((W.alloc (Obj.cells #[Value.int .i64 s, .int .i64 n, .string t, .slice an ns.length cn, .slice ak m ck] 26)).alloc (Obj.cells #[Value.int .i64 s', .int .i64 n', .string t', .slice an' ns'.length cn', .slice ak' m ck'] 26)) (W.heap.size + 1) 26 [.int .i64 s', .int .i64 n', .string t', .slice an' ns'.length cn', .slice ak' m ck'] from by
    have := Blk.new (W.alloc (Obj.cells #[Value.int .i64 s, .int .i64 n, .string t, .slice an ns.length cn, .slice ak m ck] 26)) 26 [.int .i64 s', .int .i64 n', .string t', .slice an' ns'.length cn', .slice ak' m ck']
    simpa using this)
  have HEN := Lib.hid (wsTexts_any ((W.alloc (Obj.cells #[Value.int .i64 s, .int .i64 n, .string t, .slice an ns.length cn, .slice ak m ck] 26)).alloc (Obj.cells #[Value.int .i64 s', .int .i64 n', .string t', .slice an' ns'.length cn', .slice ak' m ck'] 26)) b1 b2 ns ns' an an' cn cn' (hn.kept (grown_trans hW HGX.out) (fun q e => by cases e)) (hn'.kept (grown_trans hW HGX.out) (fun q e => by cases e)) hnl)
  have HW := Lib.hid hW
  have HP := Lib.hid hp
  have HP' := Lib.hid hp'
  have HI := Lib.hid ih
  clear hn hn' hW hpp hp hp' ih
  by_cases hs : s = s'
  case neg =>
    have HD := Lib.hid (show Says (.returned (.bool false)) p from .no (fun h => hs (HPP.out.1 h).1))
    go_enter Tryd.func11, Tryd.ntmps11
    go_wp2
    go_ret
    exact ⟨HD.out, HGX.out⟩
  subst hs
  by_cases hnn : n = n'
  case neg =>
    have HD := Lib.hid (show Says (.returned (.bool false)) p from .no (fun h => hnn (HPP.out.1 h).2.1))
    go_enter Tryd.func11, Tryd.ntmps11
    go_wp2
    go_ret
    exact ⟨HD.out, HGX.out⟩
  subst hnn
  cases ht : (t.toList == t'.toList)
  · have HTT := Lib.hid ht
    have HD := Lib.hid (show Says (.returned (.bool false)) p from .no (fun h => by have := (HPP.out.1 h).2.2.1; rw [HTT.out] at this; cases this))
    go_enter Tryd.func11, Tryd.ntmps11
    go_wp2
    go_ret
    exact ⟨HD.out, HGX.out⟩
  have HTT := Lib.hid ht
  go_enter Tryd.func11, Tryd.ntmps11
  go_wp2_with fail
  refine HEN.out.mono ?_
  rintro e w1 ⟨⟨b, rfl, hb⟩, hg1⟩
  have HG1 := Lib.hid (grown_trans HGX.out hg1)
  have HA1 := Lib.hid (HBA.out.kept hg1 (by simp))
  have HB1 := Lib.hid (HBB.out.kept hg1 (by simp))
  have HSB := Lib.hid hb
  have d4 : w1.cell? ⟨W.heap.size, 4, none⟩ = some (.slice ak m ck) := HA1.out.cell rfl
  have e4 : w1.cell? ⟨W.heap.size + 1, 4, none⟩ = some (.slice ak' m ck') := HB1.out.cell rfl
  clear hb hg1 HEN ht
  cases b
  · have HD := Lib.hid (show Says (.returned (.bool false)) p from .no (fun h => by have := HSB.out.2 (HPP.out.1 h).2.2.2.1; cases this))
    go_wp2
    go_ret
    exact ⟨HD.out, HG1.out⟩
  have HPQ := Lib.hid (show p ↔ ∀ (j : Nat) (k k' : VT), ks[j]? = some k → ks'[j]? = some k' → SameT k k' from by
    rw [HPP.out, sameK_iff]
    exact ⟨fun h => h.2.2.2.2.2, fun h => ⟨trivial, trivial, HTT.out, HSB.out.1 rfl, HM1.out.trans HM2.out.symm, h⟩⟩)
  go_wp2
  clear d4 e4
  go_loopw [5] (fun i wr => ∃ k : Nat, k ≤ m ∧ i = .int .i64 k ∧ Hid (∀ (j : Nat) (u u' : VT), ks[j]? = some u → ks'[j]? = some u' → j < k → SameT u u') ∧ Blk wr W.heap.size 26 [.int .i64 s, .int .i64 n, .string t, .slice an ns.length cn, .slice ak m ck] ∧ Blk wr (W.heap.size + 1) 26 [.int .i64 s, .int .i64 n, .string t', .slice an' ns'.length cn', .slice ak' m ck'] ∧ W.grownBy wr none) (fun i _ => m - (intOf i).toNat)
  case atStart => exact ⟨0, Nat.zero_le _, rfl, Lib.hid (fun j _ _ _ _ h => absurd h (Nat.not_lt_zero _)), HA1.out, HB1.out, HG1.out⟩
  case round =>
    obtain ⟨k, hk, rfl, HFK, hba, hbb, hg⟩ := hrel
    have HA := Lib.hid hba
    have HB := Lib.hid hbb
    have HG := Lib.hid hg
    have d4 : wr.cell? ⟨W.heap.size, 4, none⟩ = some (.slice ak m ck) := hba.cell rfl
    clear hba hbb hg
    by_cases hlm : k < m
    case neg =>
      have hkI : ¬ (k : Int) < m := by omega
      have HD := Lib.hid (show Says (.returned (.bool true)) p from .yes (HPQ.out.2 (fun j u u' hj hj' => HFK.out j u u' hj hj' (by have := (List.getElem?_eq_some_iff.1 hj).1; have := HM1.out; omega))))
      go_wp2
      go_ret
      exact ⟨HD.out, HG.out⟩
    have hlt : k < ks.length := by have := HM1.out; omega
    have hlt' : k < ks'.length := by have := HM2.out; omega
    have hkI : (k : Int) < m := by omega
    rcases HP.out with h0 | ⟨b, o, rfl, -, hc⟩
    · omega
    rcases HP'.out with h0 | ⟨b', o', rfl, -, hc'⟩
    · omega
    have HFV := Lib.hid (hc k hlt)
    have HFV' := Lib.hid (hc' k hlt')
    clear hc hc'
    have HREC := Lib.hid (fun (X : World) (hX : w.grownBy X none) => HI.out k ks[k] ks'[k] (by simp [hlt]) (by simp [hlt']) X hX)
    have HKK := Lib.hid (show ks[k]? = some ks[k] from by simp [hlt])
    have HKK' := Lib.hid (show ks'[k]? = some ks'[k] from by simp [hlt'])
    obtain ⟨u, hu⟩ : ∃ u, u = ks[k] := ⟨_, rfl⟩
    obtain ⟨u', hu'⟩ : ∃ u, u = ks'[k] := ⟨_, rfl⟩
    rw [← hu] at HREC HKK
    rw [← hu'] at HREC HKK'
    clear hu hu' hlt hlt'
    go_wp2
    refine wp_still_tail 10 (by kernel_rfl) (by kernel_rfl) (fun wx => W.grownBy wx none ∧ Blk wx W.heap.size 26 [.int .i64 s, .int .i64 n, .string t, .slice an ns.length cn, .slice (some ⟨b, o, none⟩) m ck] ∧ Blk wx (W.heap.size + 1) 26 [.int .i64 s, .int .i64 n, .string t', .slice an' ns'.length cn', .slice (some ⟨b', o', none⟩) m ck']) ⟨grown_drew HG.out, Blk.drew HA.out, Blk.drew HB.out⟩ ?_
    rintro wy ⟨hgy, hay, hby⟩
    have HGY := Lib.hid hgy
    have HAY := Lib.hid hay
    have HBY := Lib.hid hby
    have HGZ := Lib.hid (grown_trans HW.out hgy)
    obtain ⟨c0, c1, c2, c3, c4, hcs, f0, f1, f2, f3, f4⟩ := HFV.out.kept HGZ.out (by simp)
    obtain ⟨g0, g1, g2, g3, g4, hcs', h0, h1, h2, h3, h4⟩ := HFV'.out.kept HGZ.out (by simp)
    have q4 : wy.cell? ⟨W.heap.size, 4, none⟩ = some (.slice (some ⟨b, o, none⟩) m ck) := hay.cell rfl
    have r4 : wy.cell? ⟨W.heap.size + 1, 4, none⟩ = some (.slice (some ⟨b', o', none⟩) m ck') := hby.cell rfl
    have HCA := Lib.hid (HREC.out wy HGZ.out)
    rw [hcs, hcs'] at HCA
    clear hgy hay hby hcs hcs' d4
    simp only [List.take_succ_cons, List.take_zero, List.drop_succ_cons, List.drop_zero]
    iterate 10 ((with_reducible refine wpStill_step ?_); intro K hK; replace hK := Lib.hid hK; go_simp; (with_reducible refine hK.out _ ?_); clear hK K)
    refine wpStill_nil ?_
    clear f0 f1 f2 f3 f4 h0 h1 h2 h3 h4 q4 r4
    go_wp2_with fail
    refine HCA.out.mono ?_
    rintro e w3 ⟨⟨bq, rfl, hbq⟩, hg3⟩
    have HG3 := Lib.hid (grown_trans HGY.out hg3)
    have HA3 := Lib.hid (HAY.out.kept hg3 (by simp))
    have HB3 := Lib.hid (HBY.out.kept hg3 (by simp))
    have HBQ := Lib.hid hbq
    clear hg3 HCA hbq
    cases bq
    · have HD := Lib.hid (show Says (.returned (.bool false)) p from .no (fun h => by
        have := HBQ.out.2 (HPQ.out.1 h k u u' HKK.out HKK'.out)
        cases this))
      go_wp2
      go_ret
      exact ⟨HD.out, HG3.out⟩
    · go_wp2
      go_roundw
      case rel => exact ⟨k + 1, by omega, by go_num, Lib.hid (fun j v v' hj hj' hjk => by
        by_cases e : j = k
        · subst e
          rw [HKK.out] at hj
          rw [HKK'.out] at hj'
          cases hj
          cases hj'
          exact HBQ.out.1 (by simp)
        · exact HFK.out j v v' hj hj' (by omega)), HA3.out, HB3.out, HG3.out⟩
      case measure => simp [intOf]; omega

theorem wsValue_any (w : World) (b1 : Nat) (T : VT) (cs : List Value) (h : VIn w b1 T cs) : ∀ (b2 : Nat) (T' : VT) (cs' : List Value), VIn w b2 T' cs' → bulk T ≤ 1048576 → ∀ W : World, w.grownBy W none →
    Calls Tryd.prog 11 #[.agg cs.toArray, .agg cs'.toArray] W fun e w' => Says e (SameT T T') ∧ W.grownBy w' none := by
  induction h with
  | @mk s n t ns ks an ak cn ck CS hn hp hk hcn hck ht hcl hkl hsl hs1 hs2 hn1 hn2 ih =>
    intro b2 T' cs' h' hbu W hW
    rw [bulk] at hbu
    cases h' with
    | @mk s' n' t' ns' ks' an' ak' cn' ck' CS' hn' hp' hk' hcn' hck' ht' hcl' hkl' hsl' hs1' hs2' hn1' hn2' =>
      by_cases hl : ks.length = ks'.length
      · have hm := ws_m w b1 b2 s n s' n' t t' ns ns' ks ks' an ak an' ak' cn ck cn' ck' hn hn' (by omega) CS CS' ks.length (Lib.hid rfl) (Lib.hid hl.symm) (by omega) hp hp'
          (fun j k k' hj hj' Y hY => ih j k hj b2 k' (CS' j) (hk' j k' hj') (by have := bulk_kid hj; omega) Y hY) W hW
        rw [← hl]
        exact hm
      · exact ws_len w b1 b2 s n s' n' t t' ns ns' ks ks' an ak an' ak' cn ck cn' ck' hl hn hn' (by omega) W hW

mutual
/-- a value that is ok fits itself -/
theorem fits_self : ∀ T : VT, Fits T T
  | .node s n t ns ks => by
    rw [Fits]
    exact .inr ⟨rfl, rfl, by simp, fun _ => ⟨rfl, fun j _ => by simp⟩, fitsK_self ks⟩
theorem fitsK_self : ∀ ks : List VT, FitsK ks ks
  | [] => by rw [FitsK]; trivial
  | k :: ks => by rw [FitsK]; exact ⟨fits_self k, fitsK_self ks⟩
end
mutual
/-- what is known fits just what is the same -/
theorem fits_same : ∀ (T T' : VT) (d : Nat), Parts T d → Parts T' d → Known T' → (Fits T T' ↔ SameT T T')
  | .node s n t ns ks, .node s' n' t' ns' ks', d, hd, hd', hK => by
    rw [Fits, SameT]
    rw [Known] at hK
    rw [Parts] at hd hd'
    have hk := fitsK_same ks ks' (d + 1) hd.2.2 hd'.2.2 hK.2
    constructor
    · rintro (h | ⟨h1, h2, h3, h4, h5⟩)
      · exact absurd h hK.1
      · refine ⟨h1, h2, h3, ?_, hk.1 h5⟩
        by_cases h6 : s = 6
        · exact h4 h6
        · have e1 := hd.1.1 h6
          have e2 := hd'.1.1 (fun e => h6 (h1.trans e))
          exact ⟨by omega, fun j hj => by omega⟩
    · rintro ⟨h1, h2, h3, h4, h5⟩
      exact .inr ⟨h1, h2, h3, fun _ => h4, hk.2 h5⟩
theorem fitsK_same : ∀ (ks ks' : List VT) (d : Nat), PartsK ks d → PartsK ks' d → KnownK ks' → (FitsK ks ks' ↔ SameK ks ks')
  | [], [], _, _, _, _ => by rw [FitsK, SameK]
  | [], _ :: _, _, _, _, _ => by rw [FitsK, SameK]
  | _ :: _, [], _, _, _, _ => by rw [FitsK, SameK]
  | k :: ks, k' :: ks', d, hd, hd', hK => by
    rw [FitsK, SameK]
    rw [PartsK] at hd hd'
    rw [KnownK] at hK
    rw [fits_same k k' d hd.1 hd'.1 hK.1, fitsK_same ks ks' d hd.2 hd'.2 hK.2]
end
end Go.Proofs.YtbheondgfnepiaaDoor
