/- Which values fit: the plain reckoning, and the document's. -/
import Derived.Test.YtgmigloafcejdaaDoorN2
namespace Go.Proofs.YtgmigloafcejdaaDoor
open Go.RowKit

theorem parts_names {n : Int} {t : ByteArray} {ns : List ByteArray} {ks : List VT} {d : Nat} (h : Parts (.node 6 n t ns ks) d) : ns.length = ks.length := by
  rw [Parts] at h
  rcases h.1.2.2 with h | h | h | h | h | h <;> first | (exact absurd h.1 (by decide)) | exact h.2.2.1.symm

def SameN (ns ns' : List ByteArray) : Prop := ns.length = ns'.length ∧ ∀ j, j < ns.length → ((ns.getD j ByteArray.empty).toList == (ns'.getD j ByteArray.empty).toList) = true
mutual
/-- a value is what another one says -/
def Fits : VT → VT → Prop
  | .node s n t ns ks, .node s' n' t' ns' ks' => s' = 7 ∨ (s = s' ∧ n = n' ∧ (t.toList == t'.toList) = true ∧ (s = 6 → SameN ns ns') ∧ FitsK ks ks')
def FitsK : List VT → List VT → Prop
  | [], [] => True
  | k :: ks, k' :: ks' => Fits k k' ∧ FitsK ks ks'
  | [], _ :: _ => False
  | _ :: _, [] => False
end
theorem fitsK_iff : ∀ (ks ks' : List VT), FitsK ks ks' ↔ ks.length = ks'.length ∧ ∀ (j : Nat) (k k' : VT), ks[j]? = some k → ks'[j]? = some k' → Fits k k'
  | [], [] => by simp [FitsK]
  | [], _ :: _ => by simp [FitsK]
  | _ :: _, [] => by simp [FitsK]
  | a :: ks, a' :: ks' => by
    rw [FitsK, fitsK_iff ks ks']
    constructor
    · rintro ⟨h1, h2, h3⟩
      refine ⟨by simp [h2], fun j k k' hj hj' => ?_⟩
      cases j with
      | zero => simp at hj hj'; subst hj; subst hj'; exact h1
      | succ j => exact h3 j k k' (by simpa using hj) (by simpa using hj')
    · rintro ⟨h2, h3⟩
      exact ⟨h3 0 a a' rfl rfl, by simpa using h2, fun j k k' hj hj' => h3 (j + 1) k k' (by simpa using hj) (by simpa using hj')⟩

set_option maxRecDepth 100000 in
set_option maxHeartbeats 4000000 in
theorem specFits_7 (W : World) (s n s' n' : Int) (t t' : ByteArray) (ns ns' : List ByteArray) (ks ks' : List VT) (an ak an' ak' : Option Addr) (cn ck cn' ck' : Nat) (h : s' = 7) : Calls Tryd.prog 27 #[.agg #[.int .i64 s, .int .i64 n, .string t, .slice an ns.length cn, .slice ak ks.length ck], .agg #[.int .i64 s', .int .i64 n', .string t', .slice an' ns'.length cn', .slice ak' ks'.length ck']] W fun e w' => Says e (Fits (.node s n t ns ks) (.node s' n' t' ns' ks')) ∧ W.grownBy w' none := by
  subst h
  have HD := Lib.hid (show Says (.returned (.bool true)) (Fits (.node s n t ns ks) (.node 7 n' t' ns' ks')) from .yes (by rw [Fits]; exact .inl rfl))
  go_enter Tryd.func27, Tryd.ntmps27
  go_wp2
  go_ret
  exact ⟨HD.out, grown_alloc (grown_alloc (grown_refl _ _) _) _⟩

set_option maxRecDepth 100000 in
set_option maxHeartbeats 4000000 in
theorem specFits_no (W : World) (s n s' n' : Int) (t t' : ByteArray) (ns ns' : List ByteArray) (ks ks' : List VT) (an ak an' ak' : Option Addr) (cn ck cn' ck' : Nat) (h7 : ¬ s' = 7) (h : ¬ (s = s' ∧ n = n' ∧ (t.toList == t'.toList) = true ∧ ks.length = ks'.length)) : Calls Tryd.prog 27 #[.agg #[.int .i64 s, .int .i64 n, .string t, .slice an ns.length cn, .slice ak ks.length ck], .agg #[.int .i64 s', .int .i64 n', .string t', .slice an' ns'.length cn', .slice ak' ks'.length ck']] W fun e w' => Says e (Fits (.node s n t ns ks) (.node s' n' t' ns' ks')) ∧ W.grownBy w' none := by
  have HD := Lib.hid (show Says (.returned (.bool false)) (Fits (.node s n t ns ks) (.node s' n' t' ns' ks')) from .no (fun hf => by
    rw [Fits] at hf
    rcases hf with hf | hf
    · exact h7 hf
    · exact h ⟨hf.1, hf.2.1, hf.2.2.1, ((fitsK_iff ks ks').1 hf.2.2.2.2).1⟩))
  have h7b : (s' == 7) = false := by rw [beq_eq_false_iff_ne]; exact h7
  by_cases hs : s = s'
  case neg =>
    clear h
    go_enter Tryd.func27, Tryd.ntmps27
    go_wp2
    go_ret
    exact ⟨HD.out, grown_alloc (grown_alloc (grown_refl _ _) _) _⟩
  subst hs
  by_cases hn : n = n'
  case neg =>
    clear h
    go_enter Tryd.func27, Tryd.ntmps27
    go_wp2
    go_ret
    exact ⟨HD.out, grown_alloc (grown_alloc (grown_refl _ _) _) _⟩
  subst hn
  cases ht : (t.toList == t'.toList)
  · clear h
    go_enter Tryd.func27, Tryd.ntmps27
    go_wp2
    go_ret
    exact ⟨HD.out, grown_alloc (grown_alloc (grown_refl _ _) _) _⟩
  have hl : ¬ ks.length = ks'.length := fun hl => h ⟨rfl, rfl, ht, hl⟩
  clear h
  go_enter Tryd.func27, Tryd.ntmps27
  go_wp2
  go_ret
  exact ⟨HD.out, grown_alloc (grown_alloc (grown_refl _ _) _) _⟩

set_option maxRecDepth 100000 in
set_option maxHeartbeats 4000000 in
theorem specFits_kids (w : World) (b1 b2 d : Nat) (s n : Int) (t t' : ByteArray) (ns ns' : List ByteArray) (ks ks' : List VT) (an ak an' ak' : Option Addr) (cn ck cn' ck' : Nat) (CS CS' : Nat → List Value) (m : Nat) (HM1 : Hid (ks.length = m)) (HM2 : Hid (ks'.length = m))
    (hn : Lies w b1 an ns) (hp : ks.length = 0 ∨ ∃ b o, ak = some ⟨b, o, none⟩ ∧ b1 ≤ b ∧ ∀ j, j < ks.length → Five w b (o + j * 5) (CS j))
    (hn' : Lies w b2 an' ns') (hp' : ks'.length = 0 ∨ ∃ b o, ak' = some ⟨b, o, none⟩ ∧ b2 ≤ b ∧ ∀ j, j < ks'.length → Five w b (o + j * 5) (CS' j))
    (hd : Parts (.node s n t ns ks) d) (hd' : Parts (.node s n t' ns' ks') d) (htt : (t.toList == t'.toList) = true) (h7 : ¬ s = 7)
    (ih : ∀ (j : Nat) (k k' : VT), ks[j]? = some k → ks'[j]? = some k' → ∀ W : World, w.grownBy W none → Calls Tryd.prog 27 #[.agg (CS j).toArray, .agg (CS' j).toArray] W fun e w' => Says e (Fits k k') ∧ W.grownBy w' none)
    (W : World) (hW : w.grownBy W none) :
    Calls Tryd.prog 27 #[.agg #[.int .i64 s, .int .i64 n, .string t, .slice an ns.length cn, .slice ak m ck], .agg #[.int .i64 s, .int .i64 n, .string t', .slice an' ns'.length cn', .slice ak' m ck']] W fun e w' => Says e (Fits (.node s n t ns ks) (.node s n t' ns' ks')) ∧ W.grownBy w' none := by
  have hl5 : m ≤ 5 := by have := parts_len hd; have := HM1.out; omega
  have HNL := Lib.hid (fun h : s = 6 => show ns.length = m from by subst h; rw [← HM1.out]; exact parts_names hd)
  have HNL' := Lib.hid (fun h : s = 6 => show ns'.length = m from by subst h; rw [← HM2.out]; exact parts_names hd')
  have HI := Lib.hid ih
  have HW := Lib.hid hW
  have HL := Lib.hid hn
  have HL' := Lib.hid hn'
  have HP := Lib.hid hp
  have HP' := Lib.hid hp'
  have h7b : (s == 7) = false := by rw [beq_eq_false_iff_ne]; exact h7
  obtain ⟨p, hpp⟩ : ∃ p : Prop, p = Fits (.node s n t ns ks) (.node s n t' ns' ks') := ⟨_, rfl⟩
  rw [← hpp]
  have HPP := Lib.hid (show p ↔ (s = 6 → SameN ns ns') ∧ ∀ (j : Nat) (k k' : VT), ks[j]? = some k → ks'[j]? = some k' → Fits k k' from by
    rw [hpp, Fits, fitsK_iff]
    constructor
    · rintro (h | h)
      · exact absurd h h7
      · exact ⟨h.2.2.2.1, h.2.2.2.2.2⟩
    · intro h
      exact .inr ⟨rfl, rfl, htt, h.1, HM1.out.trans HM2.out.symm, h.2⟩)
  have HGX := Lib.hid (show W.grownBy ((W.alloc (Obj.cells #[Value.int .i64 s, .int .i64 n, .string t, .slice an ns.length cn, .slice ak m ck] 26)).alloc (Obj.cells #[Value.int .i64 s, .int .i64 n, .string t', .slice an' ns'.length cn', .slice ak' m ck'] 26)) none from grown_alloc (grown_alloc (grown_refl _ _) _) _)
  have HBA := Lib.hid (show Blk ((W.alloc (Obj.cells #[Value.int .i64 s, .int .i64 n, .string t, .slice an ns.length cn, .slice ak m ck] 26)).alloc (Obj.cells #[Value.int .i64 s, .int .i64 n, .string t', .slice an' ns'.length cn', .slice ak' m ck'] 26)) W.heap.size 26 [.int .i64 s, .int .i64 n, .string t, .slice an ns.length cn, .slice ak m ck] from (Blk.new W 26 _).alloc _)
  have HBB := Lib.hid (show Blk ((W.alloc (Obj.cells #[Value.int .i64 s, .int .i64 n, .string t, .slice an ns.length cn, .slice ak m ck] 26)).alloc (Obj.cells #[Value.int .i64 s, .int .i64 n, .string t', .slice an' ns'.length cn', .slice ak' m ck'] 26)) (W.heap.size + 1) 26 [.int .i64 s, .int .i64 n, .string t', .slice an' ns'.length cn', .slice ak' m ck'] from by
    have := Blk.new (W.alloc (Obj.cells #[Value.int .i64 s, .int .i64 n, .string t, .slice an ns.length cn, .slice ak m ck] 26)) 26 [.int .i64 s, .int .i64 n, .string t', .slice an' ns'.length cn', .slice ak' m ck']
    simpa using this)
  clear hn hp hn' hp' hd hd' ih hW hpp h7
  go_enter Tryd.func27, Tryd.ntmps27
  go_wp2
  clear htt h7b
  go_loopw [5] (fun i wr => ∃ k : Nat, k ≤ m ∧ i = .int .i64 k ∧ Hid (∀ (j : Nat) (u u' : VT), ks[j]? = some u → ks'[j]? = some u' → j < k → Fits u u') ∧ Hid (s = 6 → ∀ j, j < k → ((ns.getD j ByteArray.empty).toList == (ns'.getD j ByteArray.empty).toList) = true) ∧ Blk wr W.heap.size 26 [.int .i64 s, .int .i64 n, .string t, .slice an ns.length cn, .slice ak m ck] ∧ Blk wr (W.heap.size + 1) 26 [.int .i64 s, .int .i64 n, .string t', .slice an' ns'.length cn', .slice ak' m ck'] ∧ W.grownBy wr none) (fun i _ => m - (intOf i).toNat)
  case atStart => exact ⟨0, Nat.zero_le _, rfl, Lib.hid (fun j _ _ _ _ h => absurd h (Nat.not_lt_zero _)), Lib.hid (fun _ j h => absurd h (Nat.not_lt_zero _)), HBA.out, HBB.out, HGX.out⟩
  case round =>
    obtain ⟨k, hk, rfl, HFK, HFN, hba, hbb, hg⟩ := hrel
    have HA := Lib.hid hba
    have HB := Lib.hid hbb
    have HG := Lib.hid hg
    have d4 : wr.cell? ⟨W.heap.size, 4, none⟩ = some (.slice ak m ck) := hba.cell rfl
    clear hba hbb hg HBA HBB HGX
    by_cases hlm : k < m
    case neg =>
      have hkI : ¬ (k : Int) < m := by omega
      have HD := Lib.hid (show Says (.returned (.bool true)) p from .yes (HPP.out.2 ⟨fun h6 => ⟨(HNL.out h6).trans (HNL'.out h6).symm, fun j hj => HFN.out h6 j (by have := HNL.out h6; omega)⟩, fun j u u' hj hj' => HFK.out j u u' hj hj' (by have := (List.getElem?_eq_some_iff.1 hj).1; have := HM1.out; omega)⟩))
      go_wp2
      go_ret
      exact ⟨HD.out, HG.out⟩
    have hlt : k < ks.length := by have := HM1.out; omega
    have hlt' : k < ks'.length := by have := HM2.out; omega
    have hkI : (k : Int) < m := by omega
    rcases HP.out with h0 | ⟨b, o, rfl, -, hc⟩
    · omega
    rcases HP'.out with h0 | ⟨b', o', rfl, -, hc'⟩
    · omega
    have HFV := Lib.hid (hc k hlt)
    have HFV' := Lib.hid (hc' k hlt')
    clear hc hc'
    have HREC := Lib.hid (fun (X : World) (hX : w.grownBy X none) => HI.out k ks[k] ks'[k] (by simp [hlt]) (by simp [hlt']) X hX)
    have HKK := Lib.hid (show ks[k]? = some ks[k] from by simp [hlt])
    have HKK' := Lib.hid (show ks'[k]? = some ks'[k] from by simp [hlt'])
    obtain ⟨u, hu⟩ : ∃ u, u = ks[k] := ⟨_, rfl⟩
    obtain ⟨u', hu'⟩ : ∃ u, u = ks'[k] := ⟨_, rfl⟩
    rw [← hu] at HREC HKK
    rw [← hu'] at HREC HKK'
    clear hu hu' hlt hlt'
    by_cases h6 : s = 6
    case neg =>
      have h6b : (s == 6) = false := by rw [beq_eq_false_iff_ne]; exact h6
      have H6 := Lib.hid h6
      clear h6
      go_wp2
      refine wp_still_tail 27 (by kernel_rfl) (by kernel_rfl) (fun wx => W.grownBy wx none ∧ Blk wx W.heap.size 26 [.int .i64 s, .int .i64 n, .string t, .slice an ns.length cn, .slice (some ⟨b, o, none⟩) m ck] ∧ Blk wx (W.heap.size + 1) 26 [.int .i64 s, .int .i64 n, .string t', .slice an' ns'.length cn', .slice (some ⟨b', o', none⟩) m ck']) ⟨grown_drew HG.out, Blk.drew HA.out, Blk.drew HB.out⟩ ?_
      rintro wy ⟨hgy, hay, hby⟩
      have HGY := Lib.hid hgy
      have HAY := Lib.hid hay
      have HBY := Lib.hid hby
      have HGZ := Lib.hid (grown_trans HW.out hgy)
      obtain ⟨c0, c1, c2, c3, c4, hcs, f0, f1, f2, f3, f4⟩ := HFV.out.kept HGZ.out (by simp)
      obtain ⟨g0, g1, g2, g3, g4, hcs', h0, h1, h2, h3, h4⟩ := HFV'.out.kept HGZ.out (by simp)
      have q0 : wy.cell? ⟨W.heap.size, 0, none⟩ = some (.int .i64 s) := hay.cell rfl
      have q3 : wy.cell? ⟨W.heap.size, 3, none⟩ = some (.slice an ns.length cn) := hay.cell rfl
      have q4 : wy.cell? ⟨W.heap.size, 4, none⟩ = some (.slice (some ⟨b, o, none⟩) m ck) := hay.cell rfl
      have r3 : wy.cell? ⟨W.heap.size + 1, 3, none⟩ = some (.slice an' ns'.length cn') := hby.cell rfl
      have r4 : wy.cell? ⟨W.heap.size + 1, 4, none⟩ = some (.slice (some ⟨b', o', none⟩) m ck') := hby.cell rfl
      have HCA := Lib.hid (HREC.out wy HGZ.out)
      rw [hcs, hcs'] at HCA
      clear hgy hay hby hcs hcs' d4
      simp only [List.take_succ_cons, List.take_zero, List.drop_succ_cons, List.drop_zero]
      iterate 27 ((with_reducible refine wpStill_step ?_); intro K hK; replace hK := Lib.hid hK; go_simp; (with_reducible refine hK.out _ ?_); clear hK K)
      refine wpStill_nil ?_
      clear f0 f1 f2 f3 f4 h0 h1 h2 h3 h4 q0 q3 q4 r3 r4
      go_wp2_with fail
      refine HCA.out.mono ?_
      rintro e w3 ⟨⟨bq, rfl, hbq⟩, hg3⟩
      have HG3 := Lib.hid (grown_trans HGY.out hg3)
      have HA3 := Lib.hid (HAY.out.kept hg3 (by simp))
      have HB3 := Lib.hid (HBY.out.kept hg3 (by simp))
      have HBQ := Lib.hid hbq
      clear hg3 HCA hbq
      cases bq
      · have HD := Lib.hid (show Says (.returned (.bool false)) p from .no (fun h => by
          have := HBQ.out.2 ((HPP.out.1 h).2 k u u' HKK.out HKK'.out)
          cases this))
        go_wp2
        go_ret
        exact ⟨HD.out, HG3.out⟩
      · go_wp2
        go_roundw
        case rel => exact ⟨k + 1, by omega, by go_num, Lib.hid (fun j v v' hj hj' hjk => by
          by_cases e : j = k
          · subst e
            rw [HKK.out] at hj
            rw [HKK'.out] at hj'
            cases hj
            cases hj'
            exact HBQ.out.1 (by simp)
          · exact HFK.out j v v' hj hj' (by omega)), Lib.hid (fun h => absurd h H6.out), HA3.out, HB3.out, HG3.out⟩
        case measure => simp [intOf]; omega
    have hnl := HNL.out h6
    have hnl' := HNL'.out h6
    subst h6
    rcases HL.out with h0 | ⟨ab, q, rfl, -, hm⟩
    · omega
    rcases HL'.out with h0 | ⟨ab', q', rfl, -, hm'⟩
    · omega
    have hkN : (k : Int) < ns.length := by omega
    have hkN' : (k : Int) < ns'.length := by omega
    have hkn : k < ns.length := by omega
    have HM := Lib.hid (hm k (by omega))
    have HM' := Lib.hid (hm' k (by omega))
    clear hm hm' hnl hnl'
    obtain ⟨x, hx⟩ : ∃ x, x = ns.getD k ByteArray.empty := ⟨_, rfl⟩
    obtain ⟨y, hy⟩ : ∃ y, y = ns'.getD k ByteArray.empty := ⟨_, rfl⟩
    rw [← hx] at HM
    rw [← hy] at HM'
    have HX := Lib.hid hx
    have HY := Lib.hid hy
    clear hx hy
    cases hxy : (x.toList == y.toList)
    · have HXY := Lib.hid hxy
      have HD := Lib.hid (show Says (.returned (.bool false)) p from .no (fun h => by
        have := ((HPP.out.1 h).1 rfl).2 k hkn
        rw [← HX.out, ← HY.out, HXY.out] at this
        cases this))
      go_wp2
      refine wp_still (by kernel_rfl) (by kernel_rfl) (fun wx => W.grownBy wx none ∧ Blk wx W.heap.size 26 [.int .i64 6, .int .i64 n, .string t, .slice (some ⟨ab, q, none⟩) ns.length cn, .slice (some ⟨b, o, none⟩) m ck] ∧ Blk wx (W.heap.size + 1) 26 [.int .i64 6, .int .i64 n, .string t', .slice (some ⟨ab', q', none⟩) ns'.length cn', .slice (some ⟨b', o', none⟩) m ck']) ⟨grown_drew HG.out, Blk.drew HA.out, Blk.drew HB.out⟩ ?_
      rintro wy ⟨hgy, hay, hby⟩
      have HGY := Lib.hid hgy
      have HGZ := Lib.hid (grown_trans HW.out hgy)
      have q0 : wy.cell? ⟨W.heap.size, 0, none⟩ = some (.int .i64 6) := hay.cell rfl
      have q3 : wy.cell? ⟨W.heap.size, 3, none⟩ = some (.slice (some ⟨ab, q, none⟩) ns.length cn) := hay.cell rfl
      have r3 : wy.cell? ⟨W.heap.size + 1, 3, none⟩ = some (.slice (some ⟨ab', q', none⟩) ns'.length cn') := hby.cell rfl
      have nx : wy.cell? ⟨ab, q + k, none⟩ = some (.string x) := HGZ.out.cell HM.out (by simp)
      have ny : wy.cell? ⟨ab', q' + k, none⟩ = some (.string y) := HGZ.out.cell HM'.out (by simp)
      clear hgy hay hby d4
      iterate 30 ((with_reducible refine wpStill_step ?_); intro K hK; replace hK := Lib.hid hK; go_simp; (with_reducible refine hK.out _ ?_); clear hK K)
      refine wpStill_nil ?_
      clear q0 q3 r3 nx ny hxy
      go_wp2
      go_ret
      exact ⟨HD.out, HGY.out⟩
    · have HXY := Lib.hid hxy
      go_wp2
      refine wp_still_tail 27 (by kernel_rfl) (by kernel_rfl) (fun wx => W.grownBy wx none ∧ Blk wx W.heap.size 26 [.int .i64 6, .int .i64 n, .string t, .slice (some ⟨ab, q, none⟩) ns.length cn, .slice (some ⟨b, o, none⟩) m ck] ∧ Blk wx (W.heap.size + 1) 26 [.int .i64 6, .int .i64 n, .string t', .slice (some ⟨ab', q', none⟩) ns'.length cn', .slice (some ⟨b', o', none⟩) m ck']) ⟨grown_drew HG.out, Blk.drew HA.out, Blk.drew HB.out⟩ ?_
      rintro wy ⟨hgy, hay, hby⟩
      have HGY := Lib.hid hgy
      have HAY := Lib.hid hay
      have HBY := Lib.hid hby
      have HGZ := Lib.hid (grown_trans HW.out hgy)
      obtain ⟨c0, c1, c2, c3, c4, hcs, f0, f1, f2, f3, f4⟩ := HFV.out.kept HGZ.out (by simp)
      obtain ⟨g0, g1, g2, g3, g4, hcs', h0, h1, h2, h3, h4⟩ := HFV'.out.kept HGZ.out (by simp)
      have q0 : wy.cell? ⟨W.heap.size, 0, none⟩ = some (.int .i64 6) := hay.cell rfl
      have q3 : wy.cell? ⟨W.heap.size, 3, none⟩ = some (.slice (some ⟨ab, q, none⟩) ns.length cn) := hay.cell rfl
      have q4 : wy.cell? ⟨W.heap.size, 4, none⟩ = some (.slice (some ⟨b, o, none⟩) m ck) := hay.cell rfl
      have r3 : wy.cell? ⟨W.heap.size + 1, 3, none⟩ = some (.slice (some ⟨ab', q', none⟩) ns'.length cn') := hby.cell rfl
      have r4 : wy.cell? ⟨W.heap.size + 1, 4, none⟩ = some (.slice (some ⟨b', o', none⟩) m ck') := hby.cell rfl
      have nx : wy.cell? ⟨ab, q + k, none⟩ = some (.string x) := HGZ.out.cell HM.out (by simp)
      have ny : wy.cell? ⟨ab', q' + k, none⟩ = some (.string y) := HGZ.out.cell HM'.out (by simp)
      have HCA := Lib.hid (HREC.out wy HGZ.out)
      rw [hcs, hcs'] at HCA
      clear hgy hay hby hcs hcs' d4
      simp only [List.take_succ_cons, List.take_zero, List.drop_succ_cons, List.drop_zero]
      iterate 27 ((with_reducible refine wpStill_step ?_); intro K hK; replace hK := Lib.hid hK; go_simp; (with_reducible refine hK.out _ ?_); clear hK K)
      refine wpStill_nil ?_
      clear nx ny hxy f0 f1 f2 f3 f4 h0 h1 h2 h3 h4 q0 q3 q4 r3 r4
      go_wp2_with fail
      refine HCA.out.mono ?_
      rintro e w3 ⟨⟨bq, rfl, hbq⟩, hg3⟩
      have HG3 := Lib.hid (grown_trans HGY.out hg3)
      have HA3 := Lib.hid (HAY.out.kept hg3 (by simp))
      have HB3 := Lib.hid (HBY.out.kept hg3 (by simp))
      have HBQ := Lib.hid hbq
      clear hg3 HCA hbq
      cases bq
      · have HD := Lib.hid (show Says (.returned (.bool false)) p from .no (fun h => by
          have := HBQ.out.2 ((HPP.out.1 h).2 k u u' HKK.out HKK'.out)
          cases this))
        go_wp2
        go_ret
        exact ⟨HD.out, HG3.out⟩
      · go_wp2
        go_roundw
        case rel => exact ⟨k + 1, by omega, by go_num, Lib.hid (fun j v v' hj hj' hjk => by
          by_cases e : j = k
          · subst e
            rw [HKK.out] at hj
            rw [HKK'.out] at hj'
            cases hj
            cases hj'
            exact HBQ.out.1 (by simp)
          · exact HFK.out j v v' hj hj' (by omega)), Lib.hid (fun _ j hj => by
          by_cases e : j = k
          · subst e
            rw [← HX.out, ← HY.out]
            exact HXY.out
          · exact HFN.out (by first | trivial | rfl) j (by omega)), HA3.out, HB3.out, HG3.out⟩
        case measure => simp [intOf]; omega

theorem specFits_any (w : World) (b1 : Nat) (T : VT) (cs : List Value) (h : VIn w b1 T cs) : ∀ (b2 : Nat) (T' : VT) (cs' : List Value), VIn w b2 T' cs' → ∀ d : Nat, Parts T d → Parts T' d → ∀ W : World, w.grownBy W none →
    Calls Tryd.prog 27 #[.agg cs.toArray, .agg cs'.toArray] W fun e w' => Says e (Fits T T') ∧ W.grownBy w' none := by
  induction h with
  | @mk s n t ns ks an ak cn ck CS hn hp hk hcn hck ht hcl hkl hsl hs1 hs2 hn1 hn2 ih =>
    intro b2 T' cs' h' d hd hd' W hW
    cases h' with
    | @mk s' n' t' ns' ks' an' ak' cn' ck' CS' hn' hp' hk' hcn' hck' ht' hcl' hkl' hsl' hs1' hs2' hn1' hn2' =>
      by_cases h7 : s' = 7
      · exact specFits_7 W s n s' n' t t' ns ns' ks ks' an ak an' ak' cn ck cn' ck' h7
      by_cases h : s = s' ∧ n = n' ∧ (t.toList == t'.toList) = true ∧ ks.length = ks'.length
      · obtain ⟨rfl, rfl, htt, hl⟩ := h
        have hm := specFits_kids w b1 b2 d s n t t' ns ns' ks ks' an ak an' ak' cn ck cn' ck' CS CS' ks.length (Lib.hid rfl) (Lib.hid hl.symm) hn hp hn' hp' hd hd' htt h7
          (fun j k k' hj hj' X hX => ih j k hj b2 k' (CS' j) (hk' j k' hj') (d + 1) (parts_kids hd j k hj) (parts_kids hd' j k' hj') X hX) W hW
        rw [← hl]
        exact hm
      · exact specFits_no W s n s' n' t t' ns ns' ks ks' an ak an' ak' cn ck cn' ck' h7 h
end Go.Proofs.YtgmigloafcejdaaDoor

