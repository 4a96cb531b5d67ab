/- Which values fit: the program's. -/
import Derived.Test.YtgmigloafcejdaaDoorY1
namespace Go.Proofs.YtgmigloafcejdaaDoor
open Go.RowKit

set_option maxRecDepth 100000 in
set_option maxHeartbeats 2000000 in
theorem eqNames_len (W : World) (ns ns' : List ByteArray) (an an' : Option Addr) (cn cn' : Nat) (hl : ¬ ns.length = ns'.length) : Calls Tryd.prog 44 #[.slice an ns.length cn, .slice an' ns'.length cn'] W fun e w' => Says e (SameN ns ns') ∧ W.grownBy w' none := by
  have HD := Lib.hid (show Says (.returned (.bool false)) (SameN ns ns') from .no (fun h => hl h.1))
  go_enter Tryd.func44, Tryd.ntmps44
  go_wp2
  go_ret
  exact ⟨HD.out, grown_refl _ _⟩

set_option maxRecDepth 100000 in
set_option maxHeartbeats 2000000 in
theorem eqNames_m (W : World) (b1 b2 : Nat) (ns ns' : List ByteArray) (an an' : Option Addr) (cn cn' : Nat) (hn : Lies W b1 an ns) (hn' : Lies W b2 an' ns') (m : Nat) (HM1 : Hid (ns.length = m)) (HM2 : Hid (ns'.length = m)) (hm : m ≤ 1048576) :
    Calls Tryd.prog 44 #[.slice an m cn, .slice an' m cn'] W fun e w' => Says e (SameN ns ns') ∧ W.grownBy w' none := by
  have HL := Lib.hid hn
  have HL' := Lib.hid hn'
  obtain ⟨p, hpp⟩ : ∃ p : Prop, p = SameN ns ns' := ⟨_, rfl⟩
  rw [← hpp]
  have HPP := Lib.hid (show p ↔ ∀ j, j < m → ((ns.getD j ByteArray.empty).toList == (ns'.getD j ByteArray.empty).toList) = true from by
    rw [hpp, SameN, HM1.out, HM2.out]
    exact ⟨fun h => h.2, fun h => ⟨rfl, h⟩⟩)
  clear hn hn' hpp
  go_enter Tryd.func44, Tryd.ntmps44
  go_wp2
  go_loopw [13] (fun i wr => ∃ k : Nat, k ≤ m ∧ i = .int .i64 k ∧ Hid (∀ j, j < k → ((ns.getD j ByteArray.empty).toList == (ns'.getD j ByteArray.empty).toList) = true) ∧ W.grownBy wr none) (fun i _ => m - (intOf i).toNat)
  case atStart => exact ⟨0, Nat.zero_le _, rfl, Lib.hid (fun j h => absurd h (Nat.not_lt_zero _)), grown_refl _ _⟩
  case round =>
    obtain ⟨k, hk, rfl, HA, hg⟩ := hrel
    have HG := Lib.hid hg
    clear hg
    by_cases hlm : k < m
    case neg =>
      have hkI : ¬ (k : Int) < m := by omega
      have HD := Lib.hid (show Says (.returned (.bool true)) p from .yes (HPP.out.2 (fun j hj => HA.out j (by omega))))
      go_wp2
      go_ret
      exact ⟨HD.out, HG.out⟩
    have hkI : (k : Int) < m := by omega
    rcases HL.out with h0 | ⟨ab, q, rfl, -, hm1⟩
    · have := HM1.out; omega
    rcases HL'.out with h0 | ⟨ab', q', rfl, -, hm2⟩
    · have := HM2.out; omega
    have HX := Lib.hid (hm1 k (by have := HM1.out; omega))
    have HY := Lib.hid (hm2 k (by have := HM2.out; omega))
    clear hm1 hm2
    obtain ⟨x, hx⟩ : ∃ x, x = ns.getD k ByteArray.empty := ⟨_, rfl⟩
    obtain ⟨y, hy⟩ : ∃ y, y = ns'.getD k ByteArray.empty := ⟨_, rfl⟩
    rw [← hx] at HX
    rw [← hy] at HY
    have HXE := Lib.hid hx
    have HYE := Lib.hid hy
    clear hx hy
    cases hxy : (x.toList == y.toList)
    · have HXY := Lib.hid hxy
      have HD := Lib.hid (show Says (.returned (.bool false)) p from .no (fun h => by
        have := HPP.out.1 h k hlm
        rw [← HXE.out, ← HYE.out, HXY.out] at this
        cases this))
      go_wp2
      refine wp_still (by kernel_rfl) (by kernel_rfl) (fun wx => W.grownBy wx none) (grown_drew HG.out) ?_
      intro wy hgy
      have HGY := Lib.hid hgy
      have nx : wy.cell? ⟨ab, q + k, none⟩ = some (.string x) := hgy.cell HX.out (by simp)
      have ny : wy.cell? ⟨ab', q' + k, none⟩ = some (.string y) := hgy.cell HY.out (by simp)
      clear hgy
      iterate 9 ((with_reducible refine wpStill_step ?_); intro K hK; replace hK := Lib.hid hK; go_simp; (with_reducible refine hK.out _ ?_); clear hK K)
      refine wpStill_nil ?_
      clear nx ny hxy
      go_wp2
      go_ret
      exact ⟨HD.out, HGY.out⟩
    · have HXY := Lib.hid hxy
      go_wp2
      refine wp_still (by kernel_rfl) (by kernel_rfl) (fun wx => W.grownBy wx none) (grown_drew HG.out) ?_
      intro wy hgy
      have HGY := Lib.hid hgy
      have nx : wy.cell? ⟨ab, q + k, none⟩ = some (.string x) := hgy.cell HX.out (by simp)
      have ny : wy.cell? ⟨ab', q' + k, none⟩ = some (.string y) := hgy.cell HY.out (by simp)
      clear hgy
      iterate 9 ((with_reducible refine wpStill_step ?_); intro K hK; replace hK := Lib.hid hK; go_simp; (with_reducible refine hK.out _ ?_); clear hK K)
      refine wpStill_nil ?_
      clear nx ny hxy
      go_wp2
      go_roundw
      case rel => exact ⟨k + 1, by omega, by go_num, Lib.hid (fun j hj => by
        by_cases e : j = k
        · subst e
          rw [← HXE.out, ← HYE.out]
          exact HXY.out
        · exact HA.out j (by omega)), HGY.out⟩
      case measure => simp [intOf]; omega

theorem eqNames_any (W : World) (b1 b2 : Nat) (ns ns' : List ByteArray) (an an' : Option Addr) (cn cn' : Nat) (hn : Lies W b1 an ns) (hn' : Lies W b2 an' ns') (hm : ns.length ≤ 1048576) :
    Calls Tryd.prog 44 #[.slice an ns.length cn, .slice an' ns'.length cn'] W fun e w' => Says e (SameN ns ns') ∧ W.grownBy w' none := by
  by_cases h : ns.length = ns'.length
  · have := eqNames_m W b1 b2 ns ns' an an' cn cn' hn hn' ns.length (Lib.hid rfl) (Lib.hid h.symm) hm
    rw [← h]
    exact this
  · exact eqNames_len W ns ns' an an' cn cn' h

set_option maxRecDepth 100000 in
set_option maxHeartbeats 2000000 in
theorem eqKids_len (W : World) (ks ks' : List VT) (ak ak' : Option Addr) (ck ck' : Nat) (hl : ¬ ks.length = ks'.length) : Calls Tryd.prog 45 #[.slice ak ks.length ck, .slice ak' ks'.length ck', .func (.func 23) #[] #[]] W fun e w' => Says e (FitsK ks ks') ∧ W.grownBy w' none := by
  have HD := Lib.hid (show Says (.returned (.bool false)) (FitsK ks ks') from .no (fun h => hl ((fitsK_iff ks ks').1 h).1))
  go_enter Tryd.func45, Tryd.ntmps45
  go_wp2
  go_ret
  exact ⟨HD.out, grown_refl _ _⟩

set_option maxRecDepth 100000 in
set_option maxHeartbeats 2000000 in
theorem eqKids_m (w : World) (b1 b2 : Nat) (ks ks' : List VT) (ak ak' : Option Addr) (ck ck' : Nat) (CS CS' : Nat → List Value) (m : Nat) (HM1 : Hid (ks.length = m)) (HM2 : Hid (ks'.length = m)) (hm : m ≤ 1048576)
    (hp : ks.length = 0 ∨ ∃ b o, ak = some ⟨b, o, none⟩ ∧ b1 ≤ b ∧ ∀ j, j < ks.length → Five w b (o + j * 5) (CS j))
    (hp' : ks'.length = 0 ∨ ∃ b o, ak' = some ⟨b, o, none⟩ ∧ b2 ≤ b ∧ ∀ j, j < ks'.length → Five w b (o + j * 5) (CS' j))
    (hsh : ∀ (j : Nat) (k : VT), ks[j]? = some k → ∃ (s n : Int) (t : ByteArray) (an : Option Addr) (ln cn : Nat) (ak : Option Addr) (lk ck : Nat), CS j = [.int .i64 s, .int .i64 n, .string t, .slice an ln cn, .slice ak lk ck])
    (hsh' : ∀ (j : Nat) (k : VT), ks'[j]? = some k → ∃ (s n : Int) (t : ByteArray) (an : Option Addr) (ln cn : Nat) (ak : Option Addr) (lk ck : Nat), CS' j = [.int .i64 s, .int .i64 n, .string t, .slice an ln cn, .slice ak lk ck])
    (ih : ∀ (j : Nat) (k k' : VT), ks[j]? = some k → ks'[j]? = some k' → ∀ W : World, w.grownBy W none → Calls Tryd.prog 23 #[.agg (CS j).toArray, .agg (CS' j).toArray] W fun e w' => Says e (Fits k k') ∧ W.grownBy w' none)
    (W : World) (hW : w.grownBy W none) :
    Calls Tryd.prog 45 #[.slice ak m ck, .slice ak' m ck', .func (.func 23) #[] #[]] W fun e w' => Says e (FitsK ks ks') ∧ W.grownBy w' none := by
  have HP := Lib.hid hp
  have HP' := Lib.hid hp'
  have HSH := Lib.hid hsh
  have HSH' := Lib.hid hsh'
  have HI := Lib.hid ih
  have HW := Lib.hid hW
  obtain ⟨p, hpp⟩ : ∃ p : Prop, p = FitsK ks ks' := ⟨_, rfl⟩
  rw [← hpp]
  have HPP := Lib.hid (show p ↔ ∀ (j : Nat) (k k' : VT), ks[j]? = some k → ks'[j]? = some k' → Fits k k' from by
    rw [hpp, fitsK_iff]
    exact ⟨fun h => h.2, fun h => ⟨HM1.out.trans HM2.out.symm, h⟩⟩)
  clear hp hp' hsh hsh' ih hW hpp
  go_enter Tryd.func45, Tryd.ntmps45
  go_wp2
  go_loopw [17] (fun i wr => ∃ k : Nat, k ≤ m ∧ i = .int .i64 k ∧ Hid (∀ (j : Nat) (u u' : VT), ks[j]? = some u → ks'[j]? = some u' → j < k → Fits u u') ∧ W.grownBy wr none) (fun i _ => m - (intOf i).toNat)
  case atStart => exact ⟨0, Nat.zero_le _, rfl, Lib.hid (fun j _ _ _ _ h => absurd h (Nat.not_lt_zero _)), grown_refl _ _⟩
  case round =>
    obtain ⟨k, hk, rfl, HFK, hg⟩ := hrel
    have HG := Lib.hid hg
    clear hg
    by_cases hlm : k < m
    case neg =>
      have hkI : ¬ (k : Int) < m := by omega
      have HD := Lib.hid (show Says (.returned (.bool true)) p from .yes (HPP.out.2 (fun j u u' hj hj' => HFK.out j u u' hj hj' (by have := (List.getElem?_eq_some_iff.1 hj).1; have := HM1.out; omega))))
      go_wp2
      go_ret
      exact ⟨HD.out, HG.out⟩
    have hlt : k < ks.length := by have := HM1.out; omega
    have hlt' : k < ks'.length := by have := HM2.out; omega
    have hkI : (k : Int) < m := by omega
    rcases HP.out with h0 | ⟨b, o, rfl, -, hc⟩
    · omega
    rcases HP'.out with h0 | ⟨b', o', rfl, -, hc'⟩
    · omega
    have HGW := Lib.hid (grown_trans HW.out HG.out)
    obtain ⟨c0, c1, c2, c3, c4, hcs, d0, d1, d2, d3, d4⟩ := (hc k hlt).kept HGW.out (by simp)
    obtain ⟨s, n, t, an, ln, cn, ak2, lk, ck2, hcs2⟩ := HSH.out k ks[k] (by simp [hlt])
    have hcs3 := hcs.symm.trans hcs2
    simp only [List.cons.injEq, and_true] at hcs3
    obtain ⟨rfl, rfl, rfl, rfl, rfl⟩ := hcs3
    have HA1 := Lib.hid (show wr.grownBy (wr.alloc (Obj.cells #[Value.int .i64 s, .int .i64 n, .string t, .slice an ln cn, .slice ak2 lk ck2] 26)) none from grown_alloc (grown_refl _ _) _)
    obtain ⟨g0, g1, g2, g3, g4, hds, e0, e1, e2, e3, e4⟩ := (hc' k hlt').kept (grown_trans HGW.out HA1.out) (by simp)
    obtain ⟨s', n', t', an', ln', cn', ak2', lk', ck2', hds2⟩ := HSH'.out k ks'[k] (by simp [hlt'])
    have hds3 := hds.symm.trans hds2
    simp only [List.cons.injEq, and_true] at hds3
    obtain ⟨rfl, rfl, rfl, rfl, rfl⟩ := hds3
    have HA2 := Lib.hid (show wr.grownBy ((wr.alloc (Obj.cells #[Value.int .i64 s, .int .i64 n, .string t, .slice an ln cn, .slice ak2 lk ck2] 26)).alloc (Obj.cells #[Value.int .i64 s', .int .i64 n', .string t', .slice an' ln' cn', .slice ak2' lk' ck2'] 26)) none from grown_alloc (grown_alloc (grown_refl _ _) _) _)
    have HCA := Lib.hid (HI.out k ks[k] ks'[k] (by simp [hlt]) (by simp [hlt']) _ (grown_trans HGW.out HA2.out))
    rw [hcs, hds] at HCA
    have HKK := Lib.hid (show ks[k]? = some ks[k] from by simp [hlt])
    have HKK' := Lib.hid (show ks'[k]? = some ks'[k] from by simp [hlt'])
    obtain ⟨u, hu⟩ : ∃ u, u = ks[k] := ⟨_, rfl⟩
    obtain ⟨u', hu'⟩ : ∃ u, u = ks'[k] := ⟨_, rfl⟩
    rw [← hu] at HCA HKK
    rw [← hu'] at HCA HKK'
    clear hu hu' hlt hlt' hc hc' hcs hcs2 hds hds2
    go_wp2_with fail
    refine HCA.out.mono ?_
    rintro e w3 ⟨⟨bq, rfl, hbq⟩, hg3⟩
    have HG3 := Lib.hid (grown_trans (grown_trans HG.out HA2.out) hg3)
    have HBQ := Lib.hid hbq
    clear hg3 HCA hbq d0 d1 d2 d3 d4 e0 e1 e2 e3 e4
    cases bq
    · have HD := Lib.hid (show Says (.returned (.bool false)) p from .no (fun h => by
        have := HBQ.out.2 (HPP.out.1 h k u u' HKK.out HKK'.out)
        cases this))
      go_wp2
      go_ret
      exact ⟨HD.out, HG3.out⟩
    · go_wp2
      go_roundw
      case rel => exact ⟨k + 1, by omega, by go_num, Lib.hid (fun j v v' hj hj' hjk => by
        by_cases e : j = k
        · subst e
          rw [HKK.out] at hj
          rw [HKK'.out] at hj'
          cases hj
          cases hj'
          exact HBQ.out.1 (by simp)
        · exact HFK.out j v v' hj hj' (by omega)), HG3.out⟩
      case measure => simp [intOf]; omega

set_option maxRecDepth 100000 in
set_option maxHeartbeats 4000000 in
theorem implFits_7 (W : World) (s n s' n' : Int) (t t' : ByteArray) (ns ns' : List ByteArray) (ks ks' : List VT) (an ak an' ak' : Option Addr) (cn ck cn' ck' : Nat) (h : s' = 7) : Calls Tryd.prog 23 #[.agg #[.int .i64 s, .int .i64 n, .string t, .slice an ns.length cn, .slice ak ks.length ck], .agg #[.int .i64 s', .int .i64 n', .string t', .slice an' ns'.length cn', .slice ak' ks'.length ck']] W fun e w' => Says e (Fits (.node s n t ns ks) (.node s' n' t' ns' ks')) ∧ W.grownBy w' none := by
  subst h
  have HD := Lib.hid (show Says (.returned (.bool true)) (Fits (.node s n t ns ks) (.node 7 n' t' ns' ks')) from .yes (by rw [Fits]; exact .inl rfl))
  go_enter Tryd.func23, Tryd.ntmps23
  go_wp2
  go_ret
  exact ⟨HD.out, grown_alloc (grown_alloc (grown_refl _ _) _) _⟩

set_option maxRecDepth 100000 in
set_option maxHeartbeats 4000000 in
theorem implFits_node (w : World) (b1 b2 d : Nat) (s n s' n' : Int) (t t' : ByteArray) (ns ns' : List ByteArray) (ks ks' : List VT) (an ak an' ak' : Option Addr) (cn ck cn' ck' : Nat)
    (hn : Lies w b1 an ns) (hn' : Lies w b2 an' ns') (hnl : ns.length ≤ 1048576) (h7 : ¬ s' = 7)
    (hd : Parts (.node s n t ns ks) d) (hd' : Parts (.node s' n' t' ns' ks') d)
    (hek : ∀ W : World, w.grownBy W none → Calls Tryd.prog 45 #[.slice ak ks.length ck, .slice ak' ks'.length ck', .func (.func 23) #[] #[]] W fun e w' => Says e (FitsK ks ks') ∧ W.grownBy w' none)
    (W : World) (hW : w.grownBy W none) : Calls Tryd.prog 23 #[.agg #[.int .i64 s, .int .i64 n, .string t, .slice an ns.length cn, .slice ak ks.length ck], .agg #[.int .i64 s', .int .i64 n', .string t', .slice an' ns'.length cn', .slice ak' ks'.length ck']] W fun e w' => Says e (Fits (.node s n t ns ks) (.node s' n' t' ns' ks')) ∧ W.grownBy w' none := by
  obtain ⟨p, hpp⟩ : ∃ p : Prop, p = Fits (.node s n t ns ks) (.node s' n' t' ns' ks') := ⟨_, rfl⟩
  rw [← hpp]
  have HPP := Lib.hid (show p ↔ s = s' ∧ n = n' ∧ (t.toList == t'.toList) = true ∧ SameN ns ns' ∧ FitsK ks ks' from by
    rw [hpp, Fits]
    constructor
    · rintro (h | h)
      · exact absurd h h7
      · refine ⟨h.1, h.2.1, h.2.2.1, ?_, h.2.2.2.2⟩
        by_cases h6 : s = 6
        · exact h.2.2.2.1 h6
        · rw [Parts] at hd hd'
          have e1 := hd.1.1 h6
          have e2 := hd'.1.1 (fun e => h6 (h.1.trans e))
          exact ⟨by omega, fun j hj => by omega⟩
    · intro h
      exact .inr ⟨h.1, h.2.1, h.2.2.1, fun _ => h.2.2.2.1, h.2.2.2.2⟩)
  have h7b : (s' == 7) = false := by rw [beq_eq_false_iff_ne]; exact h7
  have HGX := Lib.hid (show W.grownBy ((W.alloc (Obj.cells #[Value.int .i64 s, .int .i64 n, .string t, .slice an ns.length cn, .slice ak ks.length ck] 26)).alloc (Obj.cells #[Value.int .i64 s', .int .i64 n', .string t', .slice an' ns'.length cn', .slice ak' ks'.length ck'] 26)) none from grown_alloc (grown_alloc (grown_refl _ _) _) _)
  have HBA := Lib.hid (show Blk ((W.alloc (Obj.cells #[Value.int .i64 s, .int .i64 n, .string t, .slice an ns.length cn, .slice ak ks.length ck] 26)).alloc (Obj.cells #[Value.int .i64 s', .int .i64 n', .string t', .slice an' ns'.length cn', .slice ak' ks'.length ck'] 26)) W.heap.size 26 [.int .i64 s, .int .i64 n, .string t, .slice an ns.length cn, .slice ak ks.length ck] from (Blk.new W 26 _).alloc _)
  have HBB := Lib.hid (show Blk ((W.alloc (Obj.cells #[Value.int .i64 s, .int .i64 n, .string t, .slice an ns.length cn, .slice ak ks.length ck] 26)).alloc (Obj.cells #[Value.int .i64 s', .int .i64 n', .string t', .slice an' ns'.length cn', .slice ak' ks'.length ck'] 26)) (W.heap.size + 1) 26 [.int .i64 s', .int .i64 n', .string t', .slice an' ns'.length cn', .slice ak' ks'.length ck'] from by
    have := Blk.new (W.alloc (Obj.cells #[Value.int .i64 s, .int .i64 n, .string t, .slice an ns.length cn, .slice ak ks.length ck] 26)) 26 [.int .i64 s', .int .i64 n', .string t', .slice an' ns'.length cn', .slice ak' ks'.length ck']
    simpa using this)
  have HEN := Lib.hid (eqNames_any ((W.alloc (Obj.cells #[Value.int .i64 s, .int .i64 n, .string t, .slice an ns.length cn, .slice ak ks.length ck] 26)).alloc (Obj.cells #[Value.int .i64 s', .int .i64 n', .string t', .slice an' ns'.length cn', .slice ak' ks'.length ck'] 26)) b1 b2 ns ns' an an' cn cn' (hn.kept (grown_trans hW HGX.out) (fun q e => by cases e)) (hn'.kept (grown_trans hW HGX.out) (fun q e => by cases e)) hnl)
  have HEK := Lib.hid hek
  have HW := Lib.hid hW
  clear hn hn' hd hd' hek hW hpp h7
  by_cases hs : s = s'
  case neg =>
    have HD := Lib.hid (show Says (.returned (.bool false)) p from .no (fun h => hs (HPP.out.1 h).1))
    go_enter Tryd.func23, Tryd.ntmps23
    go_wp2
    go_ret
    exact ⟨HD.out, HGX.out⟩
  subst hs
  by_cases hnn : n = n'
  case neg =>
    have HD := Lib.hid (show Says (.returned (.bool false)) p from .no (fun h => hnn (HPP.out.1 h).2.1))
    go_enter Tryd.func23, Tryd.ntmps23
    go_wp2
    go_ret
    exact ⟨HD.out, HGX.out⟩
  subst hnn
  cases ht : (t.toList == t'.toList)
  · have HTT := Lib.hid ht
    have HD := Lib.hid (show Says (.returned (.bool false)) p from .no (fun h => by have := (HPP.out.1 h).2.2.1; rw [HTT.out] at this; cases this))
    go_enter Tryd.func23, Tryd.ntmps23
    go_wp2
    go_ret
    exact ⟨HD.out, HGX.out⟩
  have HTT := Lib.hid ht
  go_enter Tryd.func23, Tryd.ntmps23
  go_wp2_with fail
  refine HEN.out.mono ?_
  rintro e w1 ⟨⟨b, rfl, hb⟩, hg1⟩
  have HG1 := Lib.hid (grown_trans HGX.out hg1)
  have HA1 := Lib.hid (HBA.out.kept hg1 (by simp))
  have HB1 := Lib.hid (HBB.out.kept hg1 (by simp))
  have HSB := Lib.hid hb
  have d4 : w1.cell? ⟨W.heap.size, 4, none⟩ = some (.slice ak ks.length ck) := HA1.out.cell rfl
  have e4 : w1.cell? ⟨W.heap.size + 1, 4, none⟩ = some (.slice ak' ks'.length ck') := HB1.out.cell rfl
  clear hb hg1 HEN ht
  cases b
  · have HD := Lib.hid (show Says (.returned (.bool false)) p from .no (fun h => by have := HSB.out.2 (HPP.out.1 h).2.2.2.1; cases this))
    go_wp2
    go_ret
    exact ⟨HD.out, HG1.out⟩
  go_wp2_with fail
  refine (HEK.out w1 (grown_trans HW.out HG1.out)).mono ?_
  rintro e w2 ⟨⟨b2, rfl, hb2⟩, hg2⟩
  have HG2 := Lib.hid (grown_trans HG1.out hg2)
  have HD := Lib.hid (show Says (.returned (.bool b2)) p from ⟨b2, rfl, by
    rw [hb2, HPP.out]
    exact ⟨fun h => ⟨(by first | trivial | rfl), (by first | trivial | rfl), HTT.out, HSB.out.1 (by simp), h⟩, fun h => h.2.2.2.2⟩⟩)
  clear hb2 hg2 d4 e4
  go_wp2
  go_ret
  exact ⟨HD.out, HG2.out⟩

theorem implFits_any (w : World) (b1 : Nat) (T : VT) (cs : List Value) (h : VIn w b1 T cs) : ∀ (b2 : Nat) (T' : VT) (cs' : List Value), VIn w b2 T' cs' → ∀ d : Nat, Parts T d → Parts T' d → ∀ W : World, w.grownBy W none →
    Calls Tryd.prog 23 #[.agg cs.toArray, .agg cs'.toArray] W fun e w' => Says e (Fits T T') ∧ W.grownBy w' none := by
  induction h with
  | @mk s n t ns ks an ak cn ck CS hn hp hk hcn hck ht hcl hkl hsl hs1 hs2 hn1 hn2 ih =>
    intro b2 T' cs' h' d hd hd' W hW
    cases h' with
    | @mk s' n' t' ns' ks' an' ak' cn' ck' CS' hn' hp' hk' hcn' hck' ht' hcl' hkl' hsl' hs1' hs2' hn1' hn2' =>
      by_cases h7 : s' = 7
      · exact implFits_7 W s n s' n' t t' ns ns' ks ks' an ak an' ak' cn ck cn' ck' h7
      have hnl : ns.length ≤ 5 := by
        rw [Parts] at hd
        rcases hd.1.2.2 with ⟨e, a, b⟩ | ⟨e, a, b⟩ | ⟨e, a, b⟩ | ⟨e, a, b, c⟩ | ⟨e, a, b⟩ | ⟨e, a, b, c, f⟩
        all_goals first | (have := hd.1.1 (by omega); omega) | omega
      refine implFits_node w b1 b2 d s n s' n' t t' ns ns' ks ks' an ak an' ak' cn ck cn' ck' hn hn' (by omega) h7 hd hd' (fun X hX => ?_) W hW
      by_cases hl : ks.length = ks'.length
      · have hm := eqKids_m w b1 b2 ks ks' ak ak' ck ck' CS CS' ks.length (Lib.hid rfl) (Lib.hid hl.symm) (by have := parts_len hd; omega) hp hp' (fun j k hj => (hk j k hj).shape) (fun j k hj => (hk' j k hj).shape)
          (fun j k k' hj hj' Y hY => ih j k hj b2 k' (CS' j) (hk' j k' hj') (d + 1) (parts_kids hd j k hj) (parts_kids hd' j k' hj') Y hY) X hX
        rw [← hl]
        exact hm
      · exact eqKids_len X ks ks' ak ak' ck ck' hl
end Go.Proofs.YtgmigloafcejdaaDoor
