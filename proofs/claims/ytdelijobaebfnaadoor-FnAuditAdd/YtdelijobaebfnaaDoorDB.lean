/- Audits drawn: one spoilt. -/
import Derived.Test.YtdelijobaebfnaaDoorDA
namespace Go.Proofs.YtdelijobaebfnaaDoor
open Go.RowKit

def cellsE (e : AE) : List Value := [.int .i64 e.seq, .string e.ten, .string e.wha, .string e.det, .string e.sum]
theorem entsV_set (v : Value) (E : AE) (i : Nat) (hi : i < 5) : ∀ (M : List AE) (k : Nat) (hk : k < M.length), (cellsE M[k]).set i v = cellsE E → entsV (M.set k E) = (entsV M).set (k * 5 + i) v
  | [], _, hk, _ => by simp at hk
  | u :: us, 0, _, h => by
    show cellsE E ++ entsV us = (cellsE u ++ entsV us).set (0 * 5 + i) v
    rw [List.set_append_left _ _ (by simp [cellsE]; omega), Nat.zero_mul, Nat.zero_add, ← h]
    rfl
  | u :: us, k + 1, hk, h => by
    have := entsV_set v E i hi us k (by simpa using hk) h
    show cellsE u ++ entsV (us.set k E) = (cellsE u ++ entsV us).set ((k + 1) * 5 + i) v
    rw [List.set_append_right _ _ (by simp [cellsE]; omega), this]
    congr 2
    simp [cellsE]
    omega
theorem Own.set {w : World} {lo g cp : Nat} {M : List AE} (h : Own w lo g cp M) (k i : Nat) (hk : k < M.length) (hi : i < 5) (v : Value) (E : AE) (he : (cellsE M[k]).set i v = cellsE E) : Own (w.setCell ⟨g, k * 5 + i, none⟩ v) lo g cp (M.set k E) := by
  unfold Own
  rw [entsV_set v E i hi M k hk he, List.length_set]
  refine ⟨by rw [List.length_set]; exact h.1, ?_⟩
  rcases h.2 with ⟨h1, -⟩ | ⟨g', cap, cur, e, hlo, hb, hcap, hm, hsz, htk⟩
  · cases h1
  · injection e with e1 e2 e3
    injection e1 with e4
    injection e4 with e5
    subst e5 e3
    refine .inr ⟨g, cp, cur.setIfInBounds (k * 5 + i) v, rfl, hlo, ?_, hcap, hm, by simp [hsz], ?_⟩
    · simp [World.setCell, Array.getElem?_modify, hb]
    · rw [Array.toList_setIfInBounds, List.take_set, htk]
theorem Own.at {w : World} {lo g cp : Nat} {M : List AE} (h : Own w lo g cp M) (j : Nat) (hj : j < M.length * 5) : (∃ y, w.cell? ⟨g, j, none⟩ = some y) ∧ w.frozen? ⟨g, j, none⟩ = false := by
  rcases h.2 with ⟨h1, -⟩ | ⟨g', cap, cur, e, hlo, hb, hcap, hm, hsz, htk⟩
  · cases h1
  · injection e with e1 e2 e3
    injection e1 with e4
    injection e4 with e5
    subst e5 e3
    have hb' : Blk w g 28 cur.toList := by unfold Blk; rw [Array.toArray_toList]; exact hb
    exact ⟨⟨_, hb'.cell (List.getElem?_eq_getElem (by simp only [Array.length_toList]; rw [hsz]; omega))⟩, hb'.frozen j⟩
theorem EB.set {b : Nat} {M : List AE} {k : Nat} {E : AE} (h : EB b M) (hE : EB1 b E) : EB b (M.set k E) := fun e he => by
  rcases List.mem_or_eq_of_mem_set he with h1 | h1
  · exact h e h1
  · rw [h1]; exact hE
theorem Own.head {w : World} {lo g cp : Nat} {M : List AE} (h : Own w lo g cp M) (k : Nat) (hk : k ≤ M.length) : w.ownsRow lo 28 5 (.slice (some ⟨g, 0, none⟩) k cp) k (entsV (M.take k)) := by
  refine ⟨by rw [entsV_len, List.length_take]; omega, ?_⟩
  rcases h.2 with ⟨h1, -⟩ | ⟨g', cap, cur, e, hlo, hb, hcap, hm, hsz, htk⟩
  · cases h1
  · injection e with e1 e2 e3
    injection e1 with e4
    injection e4 with e5
    subst e5 e3
    refine .inr ⟨g, cp, cur, rfl, hlo, hb, by omega, hm, hsz, ?_⟩
    have e : entsV M = entsV (M.take k) ++ entsV (M.drop k) := by rw [← entsV_app, List.take_append_drop]
    have hl : (entsV (M.take k)).length = k * 5 := by rw [entsV_len, List.length_take]; omega
    have h2 : (cur.toList.take (M.length * 5)).take (k * 5) = (entsV M).take (k * 5) := by rw [htk]
    rw [List.take_take, Nat.min_eq_left (by omega)] at h2
    rw [h2, e, List.take_append_of_le_length (by omega), List.take_of_length_le (by omega)]
theorem owns_lit {w : World} {lo g : Nat} {E : AE} (hb : Blk w g 28 (cellsE E)) (h : lo ≤ g) : Own w lo g 1 [E] :=
  ⟨rfl, .inr ⟨g, 1, (cellsE E).toArray, rfl, h, hb, Nat.le_refl _, by decide, rfl, rfl⟩⟩
theorem wpList_append5 {w : World} {ops : Array Oper} {rest : List Oper} {o : Oper} {a : Act} {Q : Exit → Act → World → Prop} (hgd : o.guard = none) (s x : Operand)
    (ho : o.op = .call { callee := .builtin .append, args := #[s, x], argTypes := #[23, 23] })
    (base : Nat) (v : Value) (n : Nat) (xs : List Value) (hs : a.eval s = v) (hown : w.ownsRow base 28 5 v n xs) (ad : Addr) (m c : Nat) (news : List Value) (hx : a.eval x = .slice (some ad) m c) (hl : news.length = m * 5) (hnews : ∀ j u, news[j]? = some u → w.cell? (ad.add j) = some u) (h1 : ∀ u ∈ news, u.oneCell' = true)
    (hb : n + m ≤ 1048576) (hbase : base ≤ w.heap.size)
    (h : ∀ v' w', Hid (w'.ownsRow base 28 5 v' (n + m) (xs ++ news)) → Hid (w.grownBy w' v.ownBlock) → wpList Tryd.prog ops Q rest (a.put o.dst v') w') : wpList Tryd.prog ops Q (o :: rest) a w := by
  obtain ⟨i, hi, hz0, hz1, hz2⟩ := info_parts info83
  exact wpList_append_own w hgd s x 23 ho base 28 i _ 5 72 Tryd.underlying23 hi hz0 hz1 hz2 rfl (by decide) v n xs hs hown ad m c news hx hl hnews h1 (by unfold maxLen; omega) (by omega) hbase fun v' w' h2 h3 _ => h v' w' (Lib.hid h2) (Lib.hid h3)
theorem wpList_append5n {w : World} {ops : Array Oper} {rest : List Oper} {o : Oper} {a : Act} {Q : Exit → Act → World → Prop} (hgd : o.guard = none) (s x : Operand)
    (ho : o.op = .call { callee := .builtin .append, args := #[s, x], argTypes := #[23, 23] })
    (base : Nat) (v : Value) (n : Nat) (xs : List Value) (hs : a.eval s = v) (hown : w.ownsRow base 28 5 v n xs) (ad : Addr) (m c : Nat) (news : List Value) (hx : a.eval x = .slice (some ad) m c) (hl : news.length = m * 5) (hnews : ∀ j u, news[j]? = some u → w.cell? (ad.add j) = some u) (h1 : ∀ u ∈ news, u.oneCell' = true)
    (hb : n + m ≤ 1048576) (hbase : base ≤ w.heap.size)
    (h : ∀ v' w', Hid (w'.ownsRow base 28 5 v' (n + m) (xs ++ news)) → Hid (w.grownBy w' v.ownBlock) → Hid (v ≠ .slice none 0 0 → v' ≠ .slice none 0 0) → wpList Tryd.prog ops Q rest (a.put o.dst v') w') : wpList Tryd.prog ops Q (o :: rest) a w := by
  obtain ⟨i, hi, hz0, hz1, hz2⟩ := info_parts info83
  exact wpList_append_own w hgd s x 23 ho base 28 i _ 5 72 Tryd.underlying23 hi hz0 hz1 hz2 rfl (by decide) v n xs hs hown ad m c news hx hl hnews h1 (by unfold maxLen; omega) (by omega) hbase fun v' w' h2 h3 h4 => h v' w' (Lib.hid h2) (Lib.hid h3) (Lib.hid fun hv e => hv (h4.1 e).1)
theorem step_append5n {w : World} {ops : Array Oper} {o : Oper} {a : Act} {K : Act → World → Prop} {Q : Exit → Act → World → Prop} {E : Prop} (hgd : o.guard = none) (s x : Operand)
    (ho : o.op = .call { callee := .builtin .append, args := #[s, x], argTypes := #[23, 23] })
    (base : Nat) (v : Value) (n : Nat) (xs : List Value) (hs : a.eval s = v) (hown : w.ownsRow base 28 5 v n xs) (ad : Addr) (m c : Nat) (news : List Value) (hx : a.eval x = .slice (some ad) m c) (hl : news.length = m * 5) (hnews : ∀ j u, news[j]? = some u → w.cell? (ad.add j) = some u) (h1 : ∀ u ∈ news, u.oneCell' = true)
    (hb : n + m ≤ 1048576) (hbase : base ≤ w.heap.size)
    (h : ∀ v' w', w'.ownsRow base 28 5 v' (n + m) (xs ++ news) → w.grownBy w' v.ownBlock → (v ≠ .slice none 0 0 → v' ≠ .slice none 0 0) → K (a.put o.dst v') w') :
    if Region.wanted o (yielded ops a.tmps) = true then Oper.wp Tryd.prog o a w K Q else E := by
  obtain ⟨i, hi, hz0, hz1, hz2⟩ := info_parts info83
  have hw : Region.wanted o (yielded ops a.tmps) = true := by simp [Region.wanted, hgd]
  rw [if_pos hw]
  exact wp_append_own w s x 23 ho base 28 i _ 5 72 Tryd.underlying23 hi hz0 hz1 hz2 rfl (by decide) v n xs hs hown ad m c news hx hl hnews h1 (by unfold maxLen; omega) (by omega) hbase fun v' w' h2 h3 h4 => h v' w' h2 h3 (fun hv e => hv (h4.1 e).1)
theorem cut5_at (w : World) (g c k : Nat) (M : List AE) (hk : k < M.length) (hc : M.length ≤ c) (h : EC w g M) : ∃ o1 : Nat, ((c = k + 1 ∧ o1 = 0) ∨ (¬ c = k + 1 ∧ o1 = (k + 1) * 5)) ∧ ∀ j u, (entsV (M.drop (k + 1)))[j]? = some u → w.cell? ((⟨g, o1, none⟩ : Addr).add j) = some u := by
  by_cases h1 : c = k + 1
  · refine ⟨0, .inl ⟨h1, rfl⟩, fun j u hu => ?_⟩
    rw [List.drop_of_length_le (by omega)] at hu
    cases hu
  · refine ⟨(k + 1) * 5, .inr ⟨h1, rfl⟩, fun j u hu => ?_⟩
    have e : entsV M = entsV (M.take (k + 1)) ++ entsV (M.drop (k + 1)) := by rw [← entsV_app, List.take_append_drop]
    have hl : (entsV (M.take (k + 1))).length = (k + 1) * 5 := by rw [entsV_len, List.length_take]; omega
    rw [Addr.add_mid]
    refine h.2 _ _ ?_
    rw [e, List.getElem?_append_right (by omega), hl, Nat.add_sub_cancel_left]
    exact hu
theorem owns_some {w : World} {lo n : Nat} {v : Value} {xs : List Value} (h : w.ownsRow lo 28 5 v n xs) (hv : v ≠ .slice none 0 0) : ∃ g c, v = .slice (some ⟨g, 0, none⟩) n c := by
  rcases h.2 with ⟨e, -⟩ | ⟨g, cap, cur, e, -⟩
  · exact absurd e hv
  · exact ⟨g, cap, e⟩
/-- an audit drawn -/
def Drew17 (rb : Nat) (ao : Option Addr) (n cap lo p c L b : Nat) (e : Ending) (w' : World) : Prop := ∃ (M : List AE) (g cp p' : Nat), e = .returned (.slice (some ⟨g, 0, none⟩) M.length cp) ∧ M.length ≤ L ∧ Own w' lo g cp M ∧ EB b M ∧ Rd w' rb ao n cap p' ∧ p' ≤ p + c

set_option maxRecDepth 100000 in
set_option maxHeartbeats 32000000 in
theorem spoil17_any (w : World) (rb : Nat) (ao : Option Addr) (n cap p : Nat) (hr : Rd w rb ao n cap p) (hp : p ≤ 10000) (M : List AE) (g cp : Nat) (hc : EC w g M) (hM : M.length ≤ 5) (hE : EB 1000 M) :
    Calls Tryd.prog 43 #[.pointer (some ⟨rb, 0, none⟩), .slice (some ⟨g, 0, none⟩) M.length cp] w fun e w' => Drew17 rb ao n cap w.heap.size p 10 6 1001 e w' ∧ w.grownBy w' (some rb) := by
  have hln : ∀ (V : World) (b : Option Addr) (n c : Nat), (Builtin.len_ #[23] 3 #[.slice b n c]).run Tryd.prog V = .ok (goInt n) V := fun V b n c => run_len_slice (P := Tryd.prog) (w := V) 23 3 b n c (by first | rfl | kernel_rfl | simp)
  have hlt := hr.lt
  have HRL := Lib.hid hlt
  have HRD := Lib.hid hr
  have HEC := Lib.hid hc
  have HEB := Lib.hid hE
  obtain ⟨W, hW⟩ : ∃ x, w.alloc (Obj.cells #[] 28) = x := ⟨_, rfl⟩
  obtain ⟨lo, hlo⟩ : ∃ x, w.heap.size = x := ⟨_, rfl⟩
  have hgw := (show w.grownBy W none from by rw [← hW]; exact World.grownBy_alloc _ _ none)
  have HGW := Lib.hid hgw
  have HOE := Lib.hid (show W.ownsRow lo 28 5 (.slice (some ⟨lo, 0, none⟩) 0 0) 0 [] from owns_empty (by rw [← hW, ← hlo]; exact Blk.new w 28 []) (Nat.le_refl _))
  have HCW := Lib.hid (hc.kept hgw (by simp))
  have HLO := Lib.hid (show w.heap.size = lo ∧ rb < lo ∧ lo ≤ W.heap.size from ⟨hlo, by omega, by have := hgw.size; omega⟩)
  have HW := Lib.hid hW
  clear hr hc hE hW hgw hlo
  by_cases h0 : M.length = 0
  case pos =>
    go_enter Tryd.func43, Tryd.ntmps43
    go_wp2_with (at_builtin; rw [HW.out, HLO.out.1]; refine wpList_append5n rfl _ _ rfl lo (.slice (some ⟨lo, 0, none⟩) 0 0) 0 [] rfl HOE.out ⟨g, 0, none⟩ M.length cp (entsV M) rfl (entsV_len _) (fun j u hu => by rw [Addr.add_mid, Nat.zero_add]; exact HCW.out.2 j u hu) (entsV_one _) (by omega) HLO.out.2.2 ?_; intro v1 w1 HOW HG01 HNN; obtain ⟨g1, c1, rfl⟩ := owns_some HOW.out (HNN.out (by simp)); rw [Nat.zero_add] at HOW ⊢; rw [h0])
    have how := HOW.out
    have hgl := grown_own HGW.out HG01.out (r := none) (fun q hq => by simp [Value.ownBlock] at hq; have := HLO.out.1; omega)
    have HG1 := Lib.hid hgl
    have HR1 := Lib.hid (HRD.out.kept hgl)
    clear hgl how HOW HG01 HNN
    try go_wp2
    go_ret
    refine ⟨⟨[⟨1, ⟨#[97]⟩, ⟨#[98]⟩, ⟨#[]⟩, ⟨#[]⟩⟩], w1.heap.size, 1, p, rfl, by simp, owns_lit (Blk.new w1 28 _) HG1.out.size, fun e he => ?_, HR1.out.kept (World.grownBy_alloc _ _ none), by omega⟩, grown_widen (grown_alloc HG1.out _)⟩
    rw [List.mem_singleton.1 he]
    exact ⟨by decide, by decide, by decide, by decide, by decide, by decide⟩
  have h0b : ((M.length : Int) == 0) = false := by rw [beq_eq_false_iff_ne]; omega
  have hMI : (M.length : Int) ≤ 5 := by omega
  go_enter Tryd.func43, Tryd.ntmps43
  go_wp2_with (first | (at_builtin; rw [HW.out, HLO.out.1]; refine wpList_append5n rfl _ _ rfl lo (.slice (some ⟨lo, 0, none⟩) 0 0) 0 [] rfl HOE.out ⟨g, 0, none⟩ M.length cp (entsV M) rfl (entsV_len _) (fun j u hu => by rw [Addr.add_mid, Nat.zero_add]; exact HCW.out.2 j u hu) (entsV_one _) (by omega) HLO.out.2.2 ?_; intro v1 w1 HOW HG01 HNN; obtain ⟨g1, c1, rfl⟩ := owns_some HOW.out (HNN.out (by simp)); rw [Nat.zero_add] at HOW ⊢) | fail)
  have how := HOW.out
  rw [List.nil_append] at how
  have hgl := grown_own HGW.out HG01.out (r := none) (fun q hq => by simp [Value.ownBlock] at hq; have := HLO.out.1; omega)
  have HG1 := Lib.hid hgl
  have HR1 := Lib.hid (HRD.out.kept hgl)
  clear hgl HOW HG01 HNN
  have HO1 := Lib.hid (show Own w1 lo g1 c1 M from how)
  have hlg := HO1.out.ec.1
  have hcn := HO1.out.ec.2.1
  have HGL := Lib.hid (show lo ≤ g1 ∧ g1 ≠ rb ∧ M.length ≤ c1 from ⟨hlg, by have := HLO.out; omega, hcn⟩)
  have HP1 := Lib.hid (pick_any w1 rb ao n cap p HR1.out (by omega) (M.length : Int) (by omega) (by omega))
  clear how hlg hcn
  refine HP1.out.mono ?_
  rintro e w2 ⟨x, rfl, hx0, hx1, hr2, hg2⟩
  obtain ⟨k, rfl⟩ := Int.eq_ofNat_of_zero_le hx0
  have hkM : k < M.length := by omega
  have HG2 := Lib.hid (grown_trans (grown_widen HG1.out) hg2)
  have HO2 := Lib.hid (HO1.out.kept hg2 (fun e => HGL.out.2.1 (Option.some.inj e)))
  have HP2 := Lib.hid (pick_any w2 rb ao n cap _ hr2 (by omega) 7 (by decide) (by decide))
  clear hr2 hg2 HP1 hx0
  go_wp2_with fail
  refine HP2.out.mono ?_
  rintro e w3 ⟨y, rfl, hy0, hy1, hr3, hg3⟩
  have HG3 := Lib.hid (grown_trans HG2.out hg3)
  have HO3 := Lib.hid (HO2.out.kept hg3 (fun e => HGL.out.2.1 (Option.some.inj e)))
  have HR3 := Lib.hid hr3
  clear hr3 hg3 HP2
  obtain ⟨E, hE⟩ : ∃ E, M[k] = E := ⟨_, rfl⟩
  have HB1 := Lib.hid (show EB1 1000 E from by rw [← hE]; exact HEB.out _ (List.getElem_mem hkM))
  have HEK := Lib.hid hE
  obtain ⟨sq, ten, wha, det, sm⟩ := E
  have hent := HO3.out.ec.2.2.ents
  obtain ⟨x0, x1, x2, x3, x4⟩ : Ent w3 g1 (0 + k * 5) ⟨sq, ten, wha, det, sm⟩ := by
    rcases hent with h | ⟨ab, oo, e, -, h⟩
    · omega
    · injection e with e1
      injection e1 with e2 e3
      have := h k hkM
      rw [hE] at this
      rw [e2, e3]
      exact this
  simp only [Nat.zero_add] at x0 x1 x2 x3 x4
  have hlt5 : k * 5 + 4 < M.length * 5 := by omega
  have HGO := Lib.hid (fun (V : World) (hg : w3.grownBy V (some g1)) => show w.grownBy V (some rb) ∧ Rd V rb ao n cap (p + 1 + 1) from ⟨grown_into HG3.out hg (by have := HLO.out.1; have := HGL.out.1; omega), ⟨HR3.out.1.kept hg (fun e => HGL.out.2.1 (Option.some.inj e).symm), HRD.out.2.kept (grown_into HG3.out hg (by have := HLO.out.1; have := HGL.out.1; omega)) (fun k e => (Option.some.inj e).symm)⟩⟩)
  clear hE hent
  obtain rfl | rfl | rfl | rfl | rfl | rfl | rfl : y = 0 ∨ y = 1 ∨ y = 2 ∨ y = 3 ∨ y = 4 ∨ y = 5 ∨ y = 6 := by omega
  · have b1 := HB1.out.2.2.2.2
    have s1 : -9223372036854775808 ≤ sq + 1 := by have := b1.1; simp only at this; omega
    have s2 : sq + 1 ≤ 9223372036854775807 := by have := b1.2; simp only at this; omega
    have f0 := (HO3.out.at (k * 5) (by omega)).2
    have HSET := Lib.hid (HO3.out.set k 0 hkM (by decide) (.int .i64 (sq + 1)) ⟨sq + 1, ten, wha, det, sm⟩ (by rw [HEK.out]; rfl))
    have hgs : w3.grownBy (w3.setCell ⟨g1, k * 5 + 0, none⟩ (.int .i64 (sq + 1))) (some g1) := grown_set (grown_refl _ _) _ _
    have HGE := Lib.hid (HGO.out _ hgs)
    have HBE := Lib.hid ((HEB.out.mono (c := 1001) (by omega)).set (k := k) (E := ⟨sq + 1, ten, wha, det, sm⟩) ⟨by have := HB1.out.1; simp only at this ⊢; omega, by have := HB1.out.2.1; simp only at this ⊢; omega, by have := HB1.out.2.2.1; simp only at this ⊢; omega, by have := HB1.out.2.2.2.1; simp only at this ⊢; omega, by have := HB1.out.2.2.2.2.1; show -((1001 : Nat) : Int) ≤ sq + 1; simp only at this; omega, by have := HB1.out.2.2.2.2.2; show sq + 1 ≤ ((1001 : Nat) : Int); simp only at this; omega⟩)
    clear hgs
    simp only at b1
    go_wp2
    go_ret
    exact ⟨⟨M.set k ⟨sq + 1, ten, wha, det, sm⟩, g1, c1, p + 1 + 1, by rw [List.length_set]; rfl, by rw [List.length_set]; omega, HSET.out.low (by have := HLO.out.1; omega), HBE.out, HGE.out.2, by omega⟩, HGE.out.1⟩
  · have HF := Lib.hid (ofl_any w3 rb ao n cap _ HR3.out (by omega) [⟨#[97, 99, 109, 101]⟩, ⟨#[98, 101, 116, 97]⟩, ⟨#[]⟩] (by decide) (by decide))
    go_wp2_with fail
    refine HF.out.mono ?_
    rintro e w4 ⟨s1, hm1, rfl, hr4, hg4⟩
    have HS1 := Lib.hid (show s1.size ≤ 200 from by
      simp at hm1
      rcases hm1 with rfl | rfl | rfl <;> decide)
    have HO4 := Lib.hid (HO3.out.kept hg4 (fun e => HGL.out.2.1 (Option.some.inj e)))
    obtain ⟨⟨y1, e1⟩, f1⟩ := HO4.out.at (k * 5 + 1) (by omega)
    have HSET := Lib.hid (HO4.out.set k 1 hkM (by decide) (.string s1) ⟨sq, s1, wha, det, sm⟩ (by rw [HEK.out]; rfl))
    have hgs : w4.grownBy (w4.setCell ⟨g1, k * 5 + 1, none⟩ (.string s1)) (some g1) := grown_set (grown_refl _ _) _ _
    have HG4 := Lib.hid (grown_trans HG3.out hg4)
    have HGE := Lib.hid (show w.grownBy (w4.setCell ⟨g1, k * 5 + 1, none⟩ (.string s1)) (some rb) from grown_into HG4.out hgs (by have := HLO.out.1; have := HGL.out.1; omega))
    have HRE := Lib.hid (show Rd (w4.setCell ⟨g1, k * 5 + 1, none⟩ (.string s1)) rb ao n cap (p + 1 + 1 + 1) from ⟨hr4.1.kept hgs (fun e => HGL.out.2.1 (Option.some.inj e).symm), HRD.out.2.kept HGE.out (fun k e => (Option.some.inj e).symm)⟩)
    have HBE := Lib.hid ((HEB.out.mono (c := 1001) (by omega)).set (k := k) (E := ⟨sq, s1, wha, det, sm⟩) ⟨by have := HS1.out; simp only at this ⊢; omega, by have := HB1.out.2.1; simp only at this ⊢; omega, by have := HB1.out.2.2.1; simp only at this ⊢; omega, by have := HB1.out.2.2.2.1; simp only at this ⊢; omega, by have := HB1.out.2.2.2.2.1; simp only at this ⊢; omega, by have := HB1.out.2.2.2.2.2; simp only at this ⊢; omega⟩)
    clear hm1 hr4 hg4 hgs HF
    go_wp2
    go_ret
    exact ⟨⟨M.set k ⟨sq, s1, wha, det, sm⟩, g1, c1, p + 1 + 1 + 1, by rw [List.length_set]; rfl, by rw [List.length_set]; omega, HSET.out.low (by have := HLO.out.1; omega), HBE.out, HRE.out, by omega⟩, HGE.out⟩
  · have b1 := HB1.out.2.2.1
    simp only at b1
    have l1 : ¬ 9223372036854775807 < det.size + 1 := by omega
    have f3 := (HO3.out.at (k * 5 + 3) (by omega)).2
    have HDS := Lib.hid (show (det ++ ⟨#[33]⟩).size ≤ 1001 from by rw [ByteArray.size_append]; show det.size + 1 ≤ 1001; omega)
    have HSET := Lib.hid (HO3.out.set k 3 hkM (by decide) (.string (det ++ ⟨#[33]⟩)) ⟨sq, ten, wha, (det ++ ⟨#[33]⟩), sm⟩ (by rw [HEK.out]; rfl))
    have hgs : w3.grownBy (w3.setCell ⟨g1, k * 5 + 3, none⟩ (.string (det ++ ⟨#[33]⟩))) (some g1) := grown_set (grown_refl _ _) _ _
    have HGE := Lib.hid (HGO.out _ hgs)
    have HBE := Lib.hid ((HEB.out.mono (c := 1001) (by omega)).set (k := k) (E := ⟨sq, ten, wha, (det ++ ⟨#[33]⟩), sm⟩) ⟨by have := HB1.out.1; simp only at this ⊢; omega, by have := HB1.out.2.1; simp only at this ⊢; omega, by have := HDS.out; simp only at this ⊢; omega, by have := HB1.out.2.2.2.1; simp only at this ⊢; omega, by have := HB1.out.2.2.2.2.1; simp only at this ⊢; omega, by have := HB1.out.2.2.2.2.2; simp only at this ⊢; omega⟩)
    clear hgs
    go_wp2
    go_ret
    exact ⟨⟨M.set k ⟨sq, ten, wha, (det ++ ⟨#[33]⟩), sm⟩, g1, c1, p + 1 + 1, by rw [List.length_set]; rfl, by rw [List.length_set]; omega, HSET.out.low (by have := HLO.out.1; omega), HBE.out, HGE.out.2, by omega⟩, HGE.out.1⟩
  · have HF := Lib.hid (specHashSum_any w3 ⟨#[120]⟩ (by decide))
    obtain ⟨SH, hSH⟩ : ∃ x, strI (hexL (shaS (bI ⟨#[120]⟩))) = x := ⟨_, rfl⟩
    have HSH := Lib.hid (show SH.size ≤ 200 from by rw [← hSH, strI_size, hexL_len, sha_same _ (bI_b _), sha_len]; omega)
    rw [hSH] at HF
    clear hSH
    go_wp2_with fail
    refine HF.out.mono ?_
    rintro e w4 ⟨rfl, hg4⟩
    have HO4 := Lib.hid (HO3.out.kept hg4 (by simp))
    obtain ⟨⟨y4, e4⟩, f4⟩ := HO4.out.at (k * 5 + 4) (by omega)
    have HSET := Lib.hid (HO4.out.set k 4 hkM (by decide) (.string SH) ⟨sq, ten, wha, det, SH⟩ (by rw [HEK.out]; rfl))
    have hgs : w3.grownBy (w4.setCell ⟨g1, k * 5 + 4, none⟩ (.string SH)) (some g1) := grown_trans (grown_widen hg4) (grown_set (grown_refl _ _) _ _)
    have HGE := Lib.hid (HGO.out _ hgs)
    have HBE := Lib.hid ((HEB.out.mono (c := 1001) (by omega)).set (k := k) (E := ⟨sq, ten, wha, det, SH⟩) ⟨by have := HB1.out.1; simp only at this ⊢; omega, by have := HB1.out.2.1; simp only at this ⊢; omega, by have := HB1.out.2.2.1; simp only at this ⊢; omega, by have := HSH.out; simp only at this ⊢; omega, by have := HB1.out.2.2.2.2.1; simp only at this ⊢; omega, by have := HB1.out.2.2.2.2.2; simp only at this ⊢; omega⟩)
    clear hg4 hgs HF
    go_wp2
    go_ret
    exact ⟨⟨M.set k ⟨sq, ten, wha, det, SH⟩, g1, c1, p + 1 + 1, by rw [List.length_set]; rfl, by rw [List.length_set]; omega, HSET.out.low (by have := HLO.out.1; omega), HBE.out, HGE.out.2, by omega⟩, HGE.out.1⟩
  · obtain ⟨o1, hsl, hcell⟩ := cut5_at w3 g1 c1 k M hkM HGL.out.2.2 HO3.out.ec.2.2
    have HCL := Lib.hid hcell
    have HHD := Lib.hid (HO3.out.head k (by omega))
    have hkI : (k : Int) < M.length := by omega
    have hkc : (k : Int) ≤ c1 := by have := HGL.out.2.2; omega
    have hc0 : ¬ c1 = 0 := by have := HGL.out.2.2; omega
    have HLO3 := Lib.hid (show lo ≤ w3.heap.size from by have := HLO.out.1; have := HG3.out.size; omega)
    clear hcell x0 x1 x2 x3 x4
    go_wp2
    refine wp_region_held_drew (S := fun V => w3.grownBy V (some g1)) (by kernel_rfl) (grown_drew (grown_refl _ _)) (fun hS => ?_)
    try dsimp only at hS
    refine wpAnyH_take (i := 0) (oi := ⟨some 70, _, _, _, _, _⟩) (v := (.slice (some ⟨g1, 0, none⟩) M.length c1)) rfl (by kernel_rfl) (by kernel_rfl) (by kernel_rfl) (fun _ _ _ h => h) (Or.inl ⟨by kernel_rfl, fun w' hSw => ?_⟩) hS ?_
    · go_simp
      all_goals first | rfl | (simp [*]; done)
    simp only [Act.put, List.setIfInBounds_toArray, List.set_cons_zero, List.set_cons_succ]
    refine wpAnyH_take (i := 1) (oi := ⟨some 71, _, _, _, _, _⟩) (v := (.int .i64 (k : Int))) rfl (by kernel_rfl) (by kernel_rfl) (by kernel_rfl) (fun _ _ _ h => h) (Or.inl ⟨by kernel_rfl, fun w' hSw => ?_⟩) hS ?_
    · go_simp
      all_goals first | rfl | (simp [*]; done)
    simp only [Act.put, List.setIfInBounds_toArray, List.set_cons_zero, List.set_cons_succ]
    refine wpAnyH_take (i := 2) (oi := ⟨some 72, _, _, _, _, _⟩) (v := (.slice (some ⟨g1, 0, none⟩) k c1)) rfl (by kernel_rfl) (by kernel_rfl) (by kernel_rfl) (fun _ _ _ h => h) (Or.inl ⟨by kernel_rfl, fun w' hSw => ?_⟩) hS ?_
    · go_simp
      all_goals first | rfl | (simp [*]; done)
    simp only [Act.put, List.setIfInBounds_toArray, List.set_cons_zero, List.set_cons_succ]
    refine wpAnyH_take (i := 3) (oi := ⟨some 73, _, _, _, _, _⟩) (v := (.slice (some ⟨g1, 0, none⟩) M.length c1)) rfl (by kernel_rfl) (by kernel_rfl) (by kernel_rfl) (fun _ _ _ h => h) (Or.inl ⟨by kernel_rfl, fun w' hSw => ?_⟩) hS ?_
    · go_simp
      all_goals first | rfl | (simp [*]; done)
    simp only [Act.put, List.setIfInBounds_toArray, List.set_cons_zero, List.set_cons_succ]
    refine wpAnyH_take (i := 4) (oi := ⟨some 74, _, _, _, _, _⟩) (v := (.int .i64 (k : Int))) rfl (by kernel_rfl) (by kernel_rfl) (by kernel_rfl) (fun _ _ _ h => h) (Or.inl ⟨by kernel_rfl, fun w' hSw => ?_⟩) hS ?_
    · go_simp
      all_goals first | rfl | (simp [*]; done)
    simp only [Act.put, List.setIfInBounds_toArray, List.set_cons_zero, List.set_cons_succ]
    refine wpAnyH_take (i := 5) (oi := ⟨some 75, _, _, _, _, _⟩) (v := (.int .i64 ((k : Int) + 1))) rfl (by kernel_rfl) (by kernel_rfl) (by kernel_rfl) (fun _ _ _ h => h) (Or.inl ⟨by kernel_rfl, fun w' hSw => ?_⟩) hS ?_
    · go_simp
      all_goals first | rfl | (simp [*]; done) | (rw [IntKind.wrap_i64]; omega)
    simp only [Act.put, List.setIfInBounds_toArray, List.set_cons_zero, List.set_cons_succ]
    refine wpAnyH_take (i := 6) (oi := ⟨some 76, _, _, _, _, _⟩) (v := (.slice (some ⟨g1, o1, none⟩) (M.length - (k + 1)) (c1 - (k + 1)))) rfl (by kernel_rfl) (by kernel_rfl) (by kernel_rfl) (fun _ _ _ h => h) (Or.inl ⟨by kernel_rfl, fun w' hSw => ?_⟩) hS ?_
    · go_simp
      all_goals first | rfl | (simp [*]; done) | (rcases hsl with ⟨h1, h2⟩ | ⟨h1, h2⟩ <;> simp [h1, h2] <;> (intro h5; omega))
    simp only [Act.put, List.setIfInBounds_toArray, List.set_cons_zero, List.set_cons_succ]
    refine wpAnyH_ready (rs := [7]) (by kernel_rfl) (by simp) ?_
    refine AllReadyH.cons (o := ⟨some 77, _, _, _, _, _⟩) rfl (fun K hK => ?_) AllReadyH.nil
    refine step_append5n rfl _ _ rfl lo (.slice (some ⟨g1, 0, none⟩) k c1) k (entsV (M.take k)) rfl (World.ownsRow.kept HHD.out (grown_drew (row := none) (grown_refl _ _)) (.inr (by simp [Value.ownBlock]))) ⟨g1, o1, none⟩ (M.length - (k + 1)) (c1 - (k + 1)) (entsV (M.drop (k + 1))) rfl (by rw [entsV_len, List.length_drop]) (fun j u hu => HCL.out j u hu) (entsV_one _) (by omega) HLO3.out ?_
    intro v2 w4 how2 hg4 hnn
    have hnn := hnn (by simp)
    rw [← entsV_app] at how2
    obtain ⟨M2, hM2⟩ : ∃ x, M.take k ++ M.drop (k + 1) = x := ⟨_, rfl⟩
    have hl2 : M2.length = k + (M.length - (k + 1)) := by rw [← hM2, List.length_append, List.length_take, List.length_drop]; omega
    have HB2 := Lib.hid (show EB 1001 M2 from fun e he => (HEB.out.mono (c := 1001) (by omega)) e (by
      rw [← hM2] at he
      rcases List.mem_append.1 he with h | h
      · exact List.mem_of_mem_take h
      · exact List.mem_of_mem_drop h))
    rw [hM2, ← hl2] at how2
    have hg34 : w3.grownBy w4 (some g1) := grown_trans (grown_drew (grown_refl _ _)) hg4
    refine hK.out _ _ hg34 (fun hS3 => ?_)
    clear hK hS3
    obtain ⟨g2, c2, hv2, hw2⟩ : ∃ g2 c2, v2 = .slice (some ⟨g2, 0, none⟩) M2.length c2 ∧ Own w4 lo g2 c2 M2 := by
      rcases how2.2 with ⟨rfl, h0⟩ | ⟨g', cap', cur, rfl, -⟩
      · exact absurd rfl hnn
      · exact ⟨g', cap', rfl, how2⟩
    subst hv2
    have HO4 := Lib.hid hw2
    have HGE := Lib.hid (HGO.out _ hg34)
    clear how2 hnn hw2 hg4
    refine wpAnyH_take (i := 8) (oi := ⟨some 4, _, _, _, _, _⟩) (v := (.slice (some ⟨g2, 0, none⟩) M2.length c2)) rfl (by kernel_rfl) (by kernel_rfl) (by kernel_rfl) (fun _ _ _ h => h) (Or.inl ⟨by kernel_rfl, fun w' hSw => ?_⟩) hg34 ?_
    · go_simp
      all_goals first | rfl | (simp [*]; done)
    simp only [Act.put, List.setIfInBounds_toArray, List.set_cons_zero, List.set_cons_succ]
    refine wpAnyH_done (by kernel_rfl) ?_ _
    go_wp2
    go_ret
    exact ⟨⟨M2, g2, c2, p + 1 + 1, rfl, by omega, HO4.out.low (by have := HLO.out.1; omega), HB2.out, HGE.out.2, by omega⟩, HGE.out.1⟩
  · have hkI : (k : Int) < M.length := by omega
    have HLO3 := Lib.hid (show lo ≤ w3.heap.size from by have := HLO.out.1; have := HG3.out.size; omega)
    have HNW := Lib.hid (show ∀ j u, (cellsE ⟨sq, ten, wha, det, sm⟩)[j]? = some u → (w3.alloc (.cells (cellsE ⟨sq, ten, wha, det, sm⟩).toArray 28)).cell? ((⟨w3.heap.size, 0, none⟩ : Addr).add j) = some u from news_new w3 28 _)
    have HOA := Lib.hid (show (w3.alloc (.cells (cellsE ⟨sq, ten, wha, det, sm⟩).toArray 28)).ownsRow lo 28 5 (.slice (some ⟨g1, 0, none⟩) M.length c1) M.length (entsV M) from HO3.out.kept (World.grownBy_alloc _ _ none) (by simp))
    go_wp2_with (at_builtin; refine wpList_append5n rfl _ _ rfl lo (.slice (some ⟨g1, 0, none⟩) M.length c1) M.length (entsV M) rfl HOA.out ⟨w3.heap.size, 0, none⟩ 1 1 (cellsE ⟨sq, ten, wha, det, sm⟩) rfl rfl HNW.out (entV_one _ _ _ _ _) (by omega) (by have := HLO3.out; simp; omega) ?_; intro v2 w4 HOW2 HG04 HNN; obtain ⟨g2, c2, rfl⟩ := owns_some HOW2.out (HNN.out (by simp)))
    have how2 := HOW2.out
    have hg4 := HG04.out
    have hnn := HNN.out
    clear HOW2 HG04 HNN
    have e2 : entsV M ++ cellsE ⟨sq, ten, wha, det, sm⟩ = entsV (M ++ [⟨sq, ten, wha, det, sm⟩]) := by rw [entsV_app]; rfl
    have hl2 : (M ++ [(⟨sq, ten, wha, det, sm⟩ : AE)]).length = M.length + 1 := by simp
    rw [← hl2] at how2 ⊢
    rw [e2] at how2
    have hg34 : w3.grownBy w4 (some g1) := grown_trans (World.grownBy_alloc w3 _ _) hg4
    have HB2 := Lib.hid (((HEB.out.mono (c := 1001) (by omega)).app (E := ⟨sq, ten, wha, det, sm⟩) ⟨by have := HB1.out.1; simp only at this ⊢; omega, by have := HB1.out.2.1; simp only at this ⊢; omega, by have := HB1.out.2.2.1; simp only at this ⊢; omega, by have := HB1.out.2.2.2.1; simp only at this ⊢; omega, by have := HB1.out.2.2.2.2.1; simp only at this ⊢; omega, by have := HB1.out.2.2.2.2.2; simp only at this ⊢; omega⟩ : EB 1001 (M ++ [(⟨sq, ten, wha, det, sm⟩ : AE)])))
    have HO4 := Lib.hid (show Own w4 lo g2 c2 (M ++ [⟨sq, ten, wha, det, sm⟩]) from how2)
    have HGE := Lib.hid (HGO.out _ hg34)
    clear how2 hnn hg4 hg34 x0 x1 x2 x3 x4
    go_ret
    exact ⟨⟨_, g2, c2, p + 1 + 1, rfl, by rw [hl2]; omega, HO4.out.low (by have := HLO.out.1; omega), HB2.out, HGE.out.2, by omega⟩, HGE.out.1⟩
  · have HF := Lib.hid (ofl_any w3 rb ao n cap _ HR3.out (by omega) [⟨#[112, 108, 97, 110]⟩, ⟨#[115, 116, 101, 112]⟩, ⟨#[65]⟩] (by decide) (by decide))
    go_wp2_with fail
    refine HF.out.mono ?_
    rintro e w4 ⟨s1, hm1, rfl, hr4, hg4⟩
    have HS1 := Lib.hid (show s1.size ≤ 200 from by
      simp at hm1
      rcases hm1 with rfl | rfl | rfl <;> decide)
    have HO4 := Lib.hid (HO3.out.kept hg4 (fun e => HGL.out.2.1 (Option.some.inj e)))
    obtain ⟨⟨y2, e2⟩, f2⟩ := HO4.out.at (k * 5 + 2) (by omega)
    have HSET := Lib.hid (HO4.out.set k 2 hkM (by decide) (.string s1) ⟨sq, ten, s1, det, sm⟩ (by rw [HEK.out]; rfl))
    have hgs : w4.grownBy (w4.setCell ⟨g1, k * 5 + 2, none⟩ (.string s1)) (some g1) := grown_set (grown_refl _ _) _ _
    have HG4 := Lib.hid (grown_trans HG3.out hg4)
    have HGE := Lib.hid (show w.grownBy (w4.setCell ⟨g1, k * 5 + 2, none⟩ (.string s1)) (some rb) from grown_into HG4.out hgs (by have := HLO.out.1; have := HGL.out.1; omega))
    have HRE := Lib.hid (show Rd (w4.setCell ⟨g1, k * 5 + 2, none⟩ (.string s1)) rb ao n cap (p + 1 + 1 + 1) from ⟨hr4.1.kept hgs (fun e => HGL.out.2.1 (Option.some.inj e).symm), HRD.out.2.kept HGE.out (fun k e => (Option.some.inj e).symm)⟩)
    have HBE := Lib.hid ((HEB.out.mono (c := 1001) (by omega)).set (k := k) (E := ⟨sq, ten, s1, det, sm⟩) ⟨by have := HB1.out.1; simp only at this ⊢; omega, by have := HS1.out; simp only at this ⊢; omega, by have := HB1.out.2.2.1; simp only at this ⊢; omega, by have := HB1.out.2.2.2.1; simp only at this ⊢; omega, by have := HB1.out.2.2.2.2.1; simp only at this ⊢; omega, by have := HB1.out.2.2.2.2.2; simp only at this ⊢; omega⟩)
    clear hm1 hr4 hg4 hgs HF
    go_wp2
    go_ret
    exact ⟨⟨M.set k ⟨sq, ten, s1, det, sm⟩, g1, c1, p + 1 + 1 + 1, by rw [List.length_set]; rfl, by rw [List.length_set]; omega, HSET.out.low (by have := HLO.out.1; omega), HBE.out, HRE.out, by omega⟩, HGE.out⟩
end Go.Proofs.YtdelijobaebfnaaDoor
