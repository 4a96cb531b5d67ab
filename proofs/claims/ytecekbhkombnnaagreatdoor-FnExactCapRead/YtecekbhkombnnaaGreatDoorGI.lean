/- A credential read, by the program. -/
import Derived.Test.YtecekbhkombnnaaGreatDoorGB
import Derived.Test.YtecekbhkombnnaaGreatDoorGH
import Derived.Test.YtecekbhkombnnaaGreatDoorNI
namespace Go.Proofs.YtecekbhkombnnaaGreatDoor
open Go.RowKit

theorem cnt_ge (c : UInt8) : ∀ L : List ByteArray, L ≠ [] → L.length ≤ (joinB c L).data.toList.count c + 1
  | [], h => absurd rfl h
  | [p], _ => by simp
  | p :: q :: r, _ => by
    have h2 := cnt_ge c (q :: r) (by simp)
    rw [joinB_cons c p (q :: r) (by simp), app_data]
    simp only [List.count_append, List.count_cons_self, List.length_cons] at h2 ⊢
    omega
theorem cnt_free (c : UInt8) : ∀ L : List ByteArray, L ≠ [] → (∀ p ∈ L, Free c p) → (joinB c L).data.toList.count c + 1 = L.length
  | [], h, _ => absurd rfl h
  | [p], _, h => by
    have h1 := List.count_eq_zero.2 (h p (by simp))
    show p.data.toList.count c + 1 = 1
    omega
  | p :: q :: r, _, h => by
    have h1 := List.count_eq_zero.2 (h p (by simp))
    have h2 := cnt_free c (q :: r) (by simp) (fun x hx => h x (List.mem_cons_of_mem _ hx))
    rw [joinB_cons c p (q :: r) (by simp), app_data]
    simp only [List.count_append, List.count_cons_self, List.length_cons] at h2 ⊢
    omega
theorem join_le (c : UInt8) (L N : List ByteArray) (hL : L ≠ []) (hN : N ≠ []) (hf : ∀ p ∈ N, Free c p) (h : joinB c L = joinB c N) : L.length ≤ N.length := by
  have h1 := cnt_ge c L hL
  have h2 := cnt_free c N hN hf
  rw [h] at h1
  omega
theorem cap_pieces {tn sp : ByteArray} {run frm unt : Nat} {ls : List ByteArray} {se : ByteArray} (hp : CapP tn sp run frm unt ls se) : ∀ p ∈ joinB 32 [tn, sp, decS run, decS frm, decS unt, se] :: ls, Free 59 p := fun p hm => by
  rcases List.mem_cons.1 hm with h | h
  · rw [h]
    exact joinB_free 59 32 (by decide) _ (words_free 59 (by decide) hp)
  · exact lim_free p (hp.2.2.2.1 p h)
theorem iread_words {text a b : ByteArray} {run frm unt : Nat} {M : List ByteArray} {s : ByteArray} (h : RdP text a b run frm unt M s) {p : ByteArray} {P K : List ByteArray} (h2 : (p :: P).length < 6 → ∀ q ∈ p :: P, Free 59 q) (_ : (p :: P).length ≤ 6) (h3 : joinB 59 (p :: P) = text) (k1 : K ≠ []) (k2 : K.length < 7 → ∀ q ∈ K, Free 32 q) (k7 : K.length ≤ 7) (k3 : joinB 32 K = p) : P = M ∧ K = [a, b, decS run, decS frm, decS unt, s] := by
  obtain ⟨hp, ht⟩ := h
  have e0 : joinB 59 (p :: P) = joinB 59 (joinB 32 [a, b, decS run, decS frm, decS unt, s] :: M) := by rw [h3, ← ht, capTo_join, head_join]
  have l1 := join_le 59 (p :: P) _ (by simp) (by simp) (cap_pieces hp) e0
  have l2 := hp.2.2.1
  have hf := h2 (by simp only [List.length_cons] at l1 ⊢; omega)
  have e := read_pieces hp (p :: P) (by simp) hf (h3.trans ht.symm)
  obtain ⟨e1, e2⟩ := List.cons.inj e
  have l3 := join_le 32 K _ k1 (by simp) (words_free 32 (by decide) hp) (k3.trans e1)
  exact ⟨e2, read_words hp K k1 (k2 (by simp only [List.length_cons, List.length_nil] at l3; omega)) (k3.trans e1)⟩
theorem cut_lies (w : World) (g1 o1 : Nat) (P : List ByteArray) (h : ∀ j u, (strs P)[j]? = some u → w.cell? ((⟨g1, o1, none⟩ : Addr).add j) = some u) : Lies w 0 (some ⟨g1, o1, none⟩) P := by
  refine .inr ⟨g1, o1, rfl, Nat.zero_le _, fun j hj => ?_⟩
  have := h j (.string (P.getD j ByteArray.empty)) (by simp [strs, hj])
  rw [Addr.add_mid] at this
  exact this
theorem iwrite_not (w : World) (hE : ErrC w) (hP : Pow w) (text tn sp : ByteArray) (run frm unt : Int) (ao : Option Addr) (cp : Nat) (ls : List ByteArray) (se : ByteArray) (base : Nat) (hl : Lies w base ao ls) (hn : ls.length ≤ 1048576) (hz : ∀ l ∈ ls, l.size ≤ 1048576) (h1 : tn.size ≤ 1048576) (h2 : sp.size ≤ 1048576) (h3 : se.size ≤ 1048576)
    (hr : ∀ a b run frm unt M s, ¬ RdP text a b run frm unt M s) (ht : text.size ≠ 0) : ∃ T : ByteArray, T.toList ≠ text.toList ∧
    Calls Tryz.prog 17 #[.agg #[.string tn, .string sp, .int .i64 run, .int .i64 frm, .int .i64 unt, .slice ao ls.length cp, .string se]] w fun e w' => e = .returned (.string T) ∧ w.grownBy w' none := by
  by_cases hp : CapP tn sp run frm unt ls se
  · obtain ⟨r, rfl⟩ : ∃ m : Nat, run = m := ⟨run.toNat, by have := hp.1.2.2.1; omega⟩
    obtain ⟨f, rfl⟩ : ∃ m : Nat, frm = m := ⟨frm.toNat, by have := hp.2.1.1.1; omega⟩
    obtain ⟨u, rfl⟩ : ∃ m : Nat, unt = m := ⟨unt.toNat, by have := hp.2.1.1.1; have := hp.2.1.2.1; omega⟩
    exact ⟨_, fun e => hr _ _ r f u _ _ ⟨hp, bytes_ext (by rw [← ByteArray.toList_eq, ← ByteArray.toList_eq]; exact e)⟩, iwrite_yes w hE hP tn sp r f u ao cp ls se base hl hz h1 h2 h3 hp⟩
  · refine ⟨⟨#[]⟩, fun e => ht ?_, iwrite_no w hE hP tn sp run frm unt ao cp ls se base hl hn hz h1 h2 h3 hp⟩
    have h5 : text.data.toList = (⟨#[]⟩ : ByteArray).data.toList := by rw [← ByteArray.toList_eq, ← ByteArray.toList_eq]; exact e.symm
    have h6 : text = ⟨#[]⟩ := bytes_ext h5
    rw [h6]; rfl

set_option maxRecDepth 100000 in
set_option maxHeartbeats 32000000 in
theorem iread_yes (w : World) (hX : MaxC w) (hE : ErrC w) (hP : Pow w) (text a b : ByteArray) (run frm unt : Nat) (M : List ByteArray) (s : ByteArray) (hs : text.size ≤ 1048576) (hr : RdP text a b run frm unt M s) :
    Calls Tryz.prog 19 #[.string text] w fun e w' => ∃ (an : Option Addr) (cn : Nat), e = .returned (.tuple #[.agg #[.string a, .string b, .int .i64 (run : Int), .int .i64 (frm : Int), .int .i64 (unt : Int), .slice an M.length cn, .string s], .bool true]) ∧ Row w' w.heap.size (.slice an M.length cn) (strs M) ∧ w.grownBy w' none := by
  obtain ⟨W, hW⟩ : ∃ W, w.alloc (Obj.cells #[Value.string ⟨#[]⟩, .string ⟨#[]⟩, .int .i64 0, .int .i64 0, .int .i64 0, .slice none 0 0, .string ⟨#[]⟩] 26) = W := ⟨_, rfl⟩
  obtain ⟨C, hC⟩ : ∃ x, w.heap.size = x := ⟨_, rfl⟩
  have HG := Lib.hid (show w.grownBy W none from by rw [← hW]; exact grown_alloc (grown_refl _ _) _)
  have HCC := Lib.hid (show Blk W C 26 (capC ⟨#[]⟩ ⟨#[]⟩ 0 0 0 (.slice none 0 0) ⟨#[]⟩) from by rw [← hW, ← hC]; exact Blk.new w 26 (capC ⟨#[]⟩ ⟨#[]⟩ 0 0 0 (.slice none 0 0) ⟨#[]⟩))
  have HWC := Lib.hid (show w.heap.size ≤ C from by omega)
  have HW := Lib.hid hW
  have HCE := Lib.hid hC
  have HRD := Lib.hid hr
  have HSZ := Lib.hid hs
  have HX := Lib.hid hX
  have HE := Lib.hid hE
  have HP := Lib.hid hP
  clear hW hC hr hX hE hP
  go_enter Tryz.func19, Tryz.ntmps19
  go_wp2_with fail
  rw [HW.out, HCE.out]
  refine (isplit_any W (HX.out.grown HG.out) text 59 6 hs (by omega) (by omega)).mono ?_
  rintro e w1 ⟨⟨L, c1, rfl, hk1, hne, hj, hl6, hfree, hc1⟩, hg1⟩
  cases L with
  | nil => exact absurd rfl hne
  | cons p P =>
  obtain ⟨g1, hge⟩ : ∃ x, W.heap.size = x := ⟨_, rfl⟩
  rw [hge] at hk1 ⊢
  have HCC1 := Lib.hid (HCC.out.kept hg1 (by simp))
  have HG1 := Lib.hid (grown_trans HG.out hg1)
  have HK1 := Lib.hid hk1
  have HFR := Lib.hid hfree
  have HJ := Lib.hid hj
  have HL6 := Lib.hid hl6
  have hps := pieces_size 59 p P
  rw [hj] at hps
  have hpz : p.size ≤ 1048576 := by omega
  have HPL := Lib.hid (show P.length ≤ 1048576 from by omega)
  have HPZ := Lib.hid (show ∀ q ∈ P, q.size ≤ 1048576 from fun q hq => by have := hps.2.2 q hq; omega)
  have m0 : w1.cell? ⟨g1, 0, none⟩ = some (.string p) := hk1 0 (by simp)
  have hC1 := Lib.hid hc1
  rw [List.length_cons]
  clear hg1 hne hfree hj hps hk1 hc1 HCC HG hge hl6
  go_wp2_with fail
  refine (isplit_any w1 (HX.out.grown HG1.out) p 32 7 hpz (by omega) (by omega)).mono ?_
  rintro e w2 ⟨⟨K, c2, rfl, hk2, hkne, hkj, hk7, hkf, -⟩, hg2⟩
  obtain ⟨g2, hge⟩ : ∃ x, w1.heap.size = x := ⟨_, rfl⟩
  rw [hge] at hk2 ⊢
  have HCC2 := Lib.hid (HCC1.out.kept hg2 (by simp))
  have HG2 := Lib.hid (grown_trans HG1.out hg2)
  have HKP := Lib.hid (fun j (hj : j < (p :: P).length) => (hg2.cell (HK1.out j hj) (by simp)).trans (by rw [List.getD_eq_getElem?_getD, List.getElem?_eq_getElem hj, Option.getD_some] : some (Value.string (p :: P)[j]) = some (Value.string ((p :: P).getD j ByteArray.empty))))
  clear hg2 HCC1 HG1 HK1 m0 hge
  obtain ⟨rfl, rfl⟩ := iread_words HRD.out HFR.out HL6.out HJ.out hkne hkf hk7 hkj
  clear hkne hkf hk7
  have hcp := HRD.out.1
  have hsz : ∀ q ∈ [a, b, (decS run), (decS frm), (decS unt), s], q.size ≤ 1048576 := fun q hq => by have := joinB_len 32 _ q hq; rw [hkj] at this; simp only [List.length_cons, List.length_nil] at this; omega
  have q0 : w2.cell? ⟨g2, 0, none⟩ = some (.string a) := hk2 0 (by simp)
  have z0 : a.size ≤ 1048576 := hsz _ (by simp)
  have q1 : w2.cell? ⟨g2, 1, none⟩ = some (.string b) := hk2 1 (by simp)
  have z1 : b.size ≤ 1048576 := hsz _ (by simp)
  have q2 : w2.cell? ⟨g2, 2, none⟩ = some (.string (decS run)) := hk2 2 (by simp)
  have z2 : (decS run).size ≤ 1048576 := hsz _ (by simp)
  have q3 : w2.cell? ⟨g2, 3, none⟩ = some (.string (decS frm)) := hk2 3 (by simp)
  have z3 : (decS frm).size ≤ 1048576 := hsz _ (by simp)
  have q4 : w2.cell? ⟨g2, 4, none⟩ = some (.string (decS unt)) := hk2 4 (by simp)
  have z4 : (decS unt).size ≤ 1048576 := hsz _ (by simp)
  have q5 : w2.cell? ⟨g2, 5, none⟩ = some (.string s) := hk2 5 (by simp)
  have z5 : s.size ≤ 1048576 := hsz _ (by simp)
  have HK0 := Lib.hid q0
  have HK1 := Lib.hid q1
  have HK2 := Lib.hid q2
  have HK3 := Lib.hid q3
  have HK4 := Lib.hid q4
  have HK5 := Lib.hid q5
  clear hk2 hsz hkj q0 q1 q2 q3 q4 q5
  obtain ⟨o1, hsl, hlp⟩ := cut_at w2 g1 c1 p P HKP.out hC1.out
  have HLP := Lib.hid hlp
  clear hlp
  go_wp2
  refine wp_region_held_drew (S := fun V => w2.grownBy V none) (by kernel_rfl) (grown_drew (grown_refl _ _)) (fun hS => ?_)
  generalize w2.drew = V0 at hS ⊢
  try dsimp only at hS
  refine wpAnyH_take (i := 0) (oi := ⟨some 17, _, _, _, _, _⟩) (v := (.slice (some ⟨g2, 0, none⟩) 6 c2)) rfl (by kernel_rfl) (by kernel_rfl) (by kernel_rfl) (fun _ _ _ h => h) (Or.inl ⟨by kernel_rfl, fun w' hSw => ?_⟩) hS ?_
  · go_simp
    all_goals first | rfl | (simp [*]; done)
  simp only [Act.put, List.setIfInBounds_toArray, List.set_cons_zero, List.set_cons_succ]
  refine wpAnyH_take (i := 1) (oi := ⟨some 18, _, _, _, _, _⟩) (v := (.pointer (some ⟨g2, 0, none⟩))) rfl (by kernel_rfl) (by kernel_rfl) (by kernel_rfl) (fun _ _ _ h => h) (Or.inl ⟨by kernel_rfl, fun w' hSw => ?_⟩) hS ?_
  · go_simp
    all_goals first | rfl | (simp [*]; done)
  simp only [Act.put, List.setIfInBounds_toArray, List.set_cons_zero, List.set_cons_succ]
  refine wpAnyH_take (i := 2) (oi := ⟨some 19, _, _, _, _, _⟩) (v := (.string a)) rfl (by kernel_rfl) (by kernel_rfl) (by kernel_rfl) (fun _ _ _ h => h) (Or.inl ⟨by kernel_rfl, fun w' hSw => ?_⟩) hS ?_
  · have kf := World.grownBy.cell hSw HK0.out (by simp)
    go_simp
    all_goals first | rfl | (simp [*]; done)
  simp only [Act.put, List.setIfInBounds_toArray, List.set_cons_zero, List.set_cons_succ]
  refine wpAnyH_take (i := 3) (oi := ⟨some 20, _, _, _, _, _⟩) (v := (.slice (some ⟨g2, 0, none⟩) 6 c2)) rfl (by kernel_rfl) (by kernel_rfl) (by kernel_rfl) (fun _ _ _ h => h) (Or.inl ⟨by kernel_rfl, fun w' hSw => ?_⟩) hS ?_
  · go_simp
    all_goals first | rfl | (simp [*]; done)
  simp only [Act.put, List.setIfInBounds_toArray, List.set_cons_zero, List.set_cons_succ]
  refine wpAnyH_take (i := 4) (oi := ⟨some 21, _, _, _, _, _⟩) (v := (.pointer (some ⟨g2, 1, none⟩))) rfl (by kernel_rfl) (by kernel_rfl) (by kernel_rfl) (fun _ _ _ h => h) (Or.inl ⟨by kernel_rfl, fun w' hSw => ?_⟩) hS ?_
  · go_simp
    all_goals first | rfl | (simp [*]; done)
  simp only [Act.put, List.setIfInBounds_toArray, List.set_cons_zero, List.set_cons_succ]
  refine wpAnyH_take (i := 5) (oi := ⟨some 22, _, _, _, _, _⟩) (v := (.string b)) rfl (by kernel_rfl) (by kernel_rfl) (by kernel_rfl) (fun _ _ _ h => h) (Or.inl ⟨by kernel_rfl, fun w' hSw => ?_⟩) hS ?_
  · have kf := World.grownBy.cell hSw HK1.out (by simp)
    go_simp
    all_goals first | rfl | (simp [*]; done)
  simp only [Act.put, List.setIfInBounds_toArray, List.set_cons_zero, List.set_cons_succ]
  refine wpAnyH_take (i := 6) (oi := ⟨some 23, _, _, _, _, _⟩) (v := (.slice (some ⟨g1, 0, none⟩) (P.length + 1) c1)) rfl (by kernel_rfl) (by kernel_rfl) (by kernel_rfl) (fun _ _ _ h => h) (Or.inl ⟨by kernel_rfl, fun w' hSw => ?_⟩) hS ?_
  · go_simp
    all_goals first | rfl | (simp [*]; done)
  simp only [Act.put, List.setIfInBounds_toArray, List.set_cons_zero, List.set_cons_succ]
  refine wpAnyH_take (i := 7) (oi := ⟨some 24, _, _, _, _, _⟩) (v := (.slice (some ⟨g1, o1, none⟩) P.length (c1 - 1))) rfl (by kernel_rfl) (by kernel_rfl) (by kernel_rfl) (fun _ _ _ h => h) (Or.inl ⟨by kernel_rfl, fun w' hSw => ?_⟩) hS ?_
  · go_simp
    all_goals first | rfl | (simp [*]; done) | (rcases hsl with ⟨h1, h2⟩ | ⟨h1, h2⟩ <;> simp [h1, h2] <;> (intro h5; omega))
  simp only [Act.put, List.setIfInBounds_toArray, List.set_cons_zero, List.set_cons_succ]
  refine wpAnyH_take (i := 8) (oi := ⟨some 25, _, _, _, _, _⟩) (v := (.slice (some ⟨g2, 0, none⟩) 6 c2)) rfl (by kernel_rfl) (by kernel_rfl) (by kernel_rfl) (fun _ _ _ h => h) (Or.inl ⟨by kernel_rfl, fun w' hSw => ?_⟩) hS ?_
  · go_simp
    all_goals first | rfl | (simp [*]; done)
  simp only [Act.put, List.setIfInBounds_toArray, List.set_cons_zero, List.set_cons_succ]
  refine wpAnyH_take (i := 9) (oi := ⟨some 26, _, _, _, _, _⟩) (v := (.pointer (some ⟨g2, 5, none⟩))) rfl (by kernel_rfl) (by kernel_rfl) (by kernel_rfl) (fun _ _ _ h => h) (Or.inl ⟨by kernel_rfl, fun w' hSw => ?_⟩) hS ?_
  · go_simp
    all_goals first | rfl | (simp [*]; done)
  simp only [Act.put, List.setIfInBounds_toArray, List.set_cons_zero, List.set_cons_succ]
  refine wpAnyH_take (i := 10) (oi := ⟨some 27, _, _, _, _, _⟩) (v := (.string s)) rfl (by kernel_rfl) (by kernel_rfl) (by kernel_rfl) (fun _ _ _ h => h) (Or.inl ⟨by kernel_rfl, fun w' hSw => ?_⟩) hS ?_
  · have kf := World.grownBy.cell hSw HK5.out (by simp)
    go_simp
    all_goals first | rfl | (simp [*]; done)
  simp only [Act.put, List.setIfInBounds_toArray, List.set_cons_zero, List.set_cons_succ]
  refine wpAnyH_take (i := 11) (oi := ⟨some 28, _, _, _, _, _⟩) (v := (.agg (capC a b 0 0 0 (.slice (some ⟨g1, o1, none⟩) P.length (c1 - 1)) s).toArray)) rfl (by kernel_rfl) (by kernel_rfl) (by kernel_rfl) (fun _ _ _ h => h) (Or.inl ⟨by kernel_rfl, fun w' hSw => ?_⟩) hS ?_
  · go_simp
    all_goals first | rfl | (simp [*]; done)
  simp only [Act.put, List.setIfInBounds_toArray, List.set_cons_zero, List.set_cons_succ]
  refine wpAnyH_ready (rs := [12]) (by kernel_rfl) (by simp) ?_
  refine AllReadyH.cons (o := ⟨some 6, _, _, _, _, _⟩) rfl (fun K hK => ?_) AllReadyH.nil
  go_simp
  obtain ⟨BQ, hBQ⟩ : ∃ x, V0.heap.size = x := ⟨_, rfl⟩
  obtain ⟨WA, hWA⟩ : ∃ x, V0.alloc (Obj.cells #[Value.string ⟨#[]⟩, .string ⟨#[]⟩, .int .i64 0, .int .i64 0, .int .i64 0, .slice none 0 0, .string ⟨#[]⟩] 26) = x := ⟨_, rfl⟩
  have HLZ := Lib.hid (show Blk WA BQ 26 (capC ⟨#[]⟩ ⟨#[]⟩ 0 0 0 (.slice none 0 0) ⟨#[]⟩) from by rw [← hWA, ← hBQ]; exact Blk.new V0 26 (capC ⟨#[]⟩ ⟨#[]⟩ 0 0 0 (.slice none 0 0) ⟨#[]⟩))
  have HBL := Lib.hid (show w2.heap.size ≤ BQ from by rw [← hBQ]; exact hS.size)
  have hga := (show V0.grownBy WA none from by rw [← hWA]; exact World.grownBy_alloc _ _ none)
  rw [hWA, hBQ]
  clear hWA hBQ
  have hS := grown_trans hS hga
  refine hK.out _ _ hS (fun hS => ?_)
  clear hK hga
  refine wpAnyH_ready (rs := [13]) (by kernel_rfl) (by simp) ?_
  refine AllReadyH.cons (o := ⟨none, _, _, _, _, _⟩) rfl (fun K hK => ?_) AllReadyH.nil
  refine step_store_blk2 (by kernel_rfl) 26 _ _ rfl BQ (capC a b 0 0 0 (.slice (some ⟨g1, o1, none⟩) P.length (c1 - 1)) s) (capC ⟨#[]⟩ ⟨#[]⟩ 0 0 0 (.slice none 0 0) ⟨#[]⟩) 26 HLZ.out infoCap rfl (capC_one _ _ _ _ _ _ _ rfl) rfl rfl ?_
  intro V3 hb3 hg3
  have HB9 := hb3
  have HS9 := Lib.hid (grown_into hS hg3.out HBL.out)
  refine hK.out _ _ HS9.out (fun hS3 => ?_)
  clear hK hb3 hg3 hS hS3 HLZ
  refine wpAnyH_done (by kernel_rfl) ?_ _
  have HGA := Lib.hid (grown_trans HG2.out HS9.out)
  have HCA := Lib.hid (HCC2.out.kept HS9.out (by simp))
  have HBA := HB9
  have HSA := HS9
  clear HB9 HS9
  have q2 : V3.cell? ⟨g2, 2, none⟩ = some (.string (decS run)) := HSA.out.cell HK2.out (by simp)
  go_wp2_with fail
  clear q2
  refine (idec_any V3 (decS run) z2 (HE.out.grown HGA.out) (HP.out.grown HGA.out)).mono ?_
  rintro e u2 ⟨⟨n2, b2, rfl, hn2⟩, hgu⟩
  obtain ⟨rfl, rfl⟩ := hn2.of_dec (m := (run : Int)) (by omega) (by have := hcp.1.2.2.2; omega) (decI_nat run).symm
  clear hn2
  have p2 : u2.cell? ⟨BQ, 2, none⟩ = some (.int .i64 0) := hgu.cell (HBA.out.cell rfl) (by simp)
  have f2 : u2.frozen? ⟨BQ, 2, none⟩ = false := (HBA.out.kept hgu (by simp)).frozen 2
  obtain ⟨s2, hs2⟩ : ∃ x, u2.setCell ⟨BQ, 2, none⟩ (.int .i64 (run : Int)) = x := ⟨_, rfl⟩
  have hgs := (show u2.grownBy s2 (some BQ) from by rw [← hs2]; exact grown_set (grown_refl _ _) 2 _)
  have HBB := Lib.hid (show Blk s2 BQ 26 (capC a b (run : Int) 0 0 (.slice (some ⟨g1, o1, none⟩) P.length (c1 - 1)) s) from by rw [← hs2]; exact (HBA.out.kept hgu (by simp)).set 2 (.int .i64 (run : Int)))
  have HSB := Lib.hid (grown_into (grown_trans HSA.out hgu) hgs HBL.out)
  have HGB := Lib.hid (grown_trans HG2.out HSB.out)
  have HCB := Lib.hid (HCC2.out.kept HSB.out (by simp))
  have HEB := Lib.hid hs2
  clear hs2 hgs hgu HBA HSA HGA HCA
  have r2 : (u2.setCell ⟨BQ, 2, none⟩ (.int .i64 (run : Int))).cell? ⟨g2, 3, none⟩ = some (.string (decS frm)) := by rw [HEB.out]; exact HSB.out.cell HK3.out (by simp)
  go_wp2_with fail
  rw [HEB.out]
  clear r2 p2 f2
  refine (idec_any s2 (decS frm) z3 (HE.out.grown HGB.out) (HP.out.grown HGB.out)).mono ?_
  rintro e u3 ⟨⟨n3, b3, rfl, hn3⟩, hgu⟩
  obtain ⟨rfl, rfl⟩ := hn3.of_dec (m := (frm : Int)) (by omega) (by have := hcp.2.1.1.2; omega) (decI_nat frm).symm
  clear hn3
  have p3 : u3.cell? ⟨BQ, 3, none⟩ = some (.int .i64 0) := hgu.cell (HBB.out.cell rfl) (by simp)
  have f3 : u3.frozen? ⟨BQ, 3, none⟩ = false := (HBB.out.kept hgu (by simp)).frozen 3
  obtain ⟨s3, hs3⟩ : ∃ x, u3.setCell ⟨BQ, 3, none⟩ (.int .i64 (frm : Int)) = x := ⟨_, rfl⟩
  have hgs := (show u3.grownBy s3 (some BQ) from by rw [← hs3]; exact grown_set (grown_refl _ _) 3 _)
  have HBD := Lib.hid (show Blk s3 BQ 26 (capC a b (run : Int) (frm : Int) 0 (.slice (some ⟨g1, o1, none⟩) P.length (c1 - 1)) s) from by rw [← hs3]; exact (HBB.out.kept hgu (by simp)).set 3 (.int .i64 (frm : Int)))
  have HSD := Lib.hid (grown_into (grown_trans HSB.out hgu) hgs HBL.out)
  have HGD := Lib.hid (grown_trans HG2.out HSD.out)
  have HCD := Lib.hid (HCC2.out.kept HSD.out (by simp))
  have HED := Lib.hid hs3
  clear hs3 hgs hgu HBB HSB HGB HCB
  have r3 : (u3.setCell ⟨BQ, 3, none⟩ (.int .i64 (frm : Int))).cell? ⟨g2, 4, none⟩ = some (.string (decS unt)) := by rw [HED.out]; exact HSD.out.cell HK4.out (by simp)
  go_wp2_with fail
  rw [HED.out]
  clear r3 p3 f3
  refine (idec_any s3 (decS unt) z4 (HE.out.grown HGD.out) (HP.out.grown HGD.out)).mono ?_
  rintro e u4 ⟨⟨n4, b4, rfl, hn4⟩, hgu⟩
  obtain ⟨rfl, rfl⟩ := hn4.of_dec (m := (unt : Int)) (by omega) (by have := hcp.2.1.2.2; omega) (decI_nat unt).symm
  clear hn4
  have p4 : u4.cell? ⟨BQ, 4, none⟩ = some (.int .i64 0) := hgu.cell (HBD.out.cell rfl) (by simp)
  have f4 : u4.frozen? ⟨BQ, 4, none⟩ = false := (HBD.out.kept hgu (by simp)).frozen 4
  obtain ⟨s4, hs4⟩ : ∃ x, u4.setCell ⟨BQ, 4, none⟩ (.int .i64 (unt : Int)) = x := ⟨_, rfl⟩
  have hgs := (show u4.grownBy s4 (some BQ) from by rw [← hs4]; exact grown_set (grown_refl _ _) 4 _)
  have HBF := Lib.hid (show Blk s4 BQ 26 (capC a b (run : Int) (frm : Int) (unt : Int) (.slice (some ⟨g1, o1, none⟩) P.length (c1 - 1)) s) from by rw [← hs4]; exact (HBD.out.kept hgu (by simp)).set 4 (.int .i64 (unt : Int)))
  have HSF := Lib.hid (grown_into (grown_trans HSD.out hgu) hgs HBL.out)
  have HGF := Lib.hid (grown_trans HG2.out HSF.out)
  have HCF := Lib.hid (HCC2.out.kept HSF.out (by simp))
  have HEF := Lib.hid hs4
  clear hs4 hgs hgu HBD HSD HGD HCD
  have HLF := Lib.hid (cut_lies s4 g1 o1 P (fun j u hu => HSF.out.cell (HLP.out j u hu) (by simp)))
  have d0 : (u4.setCell ⟨BQ, 4, none⟩ (.int .i64 (unt : Int))).cell? ⟨BQ, 0, none⟩ = some (.string a) := by rw [HEF.out]; exact HBF.out.cell rfl
  have d1 : (u4.setCell ⟨BQ, 4, none⟩ (.int .i64 (unt : Int))).cell? ⟨BQ, 1, none⟩ = some (.string b) := by rw [HEF.out]; exact HBF.out.cell rfl
  have d2 : (u4.setCell ⟨BQ, 4, none⟩ (.int .i64 (unt : Int))).cell? ⟨BQ, 2, none⟩ = some (.int .i64 (run : Int)) := by rw [HEF.out]; exact HBF.out.cell rfl
  have d3 : (u4.setCell ⟨BQ, 4, none⟩ (.int .i64 (unt : Int))).cell? ⟨BQ, 3, none⟩ = some (.int .i64 (frm : Int)) := by rw [HEF.out]; exact HBF.out.cell rfl
  have d4 : (u4.setCell ⟨BQ, 4, none⟩ (.int .i64 (unt : Int))).cell? ⟨BQ, 4, none⟩ = some (.int .i64 (unt : Int)) := by rw [HEF.out]; exact HBF.out.cell rfl
  have d5 : (u4.setCell ⟨BQ, 4, none⟩ (.int .i64 (unt : Int))).cell? ⟨BQ, 5, none⟩ = some (.slice (some ⟨g1, o1, none⟩) P.length (c1 - 1)) := by rw [HEF.out]; exact HBF.out.cell rfl
  have d6 : (u4.setCell ⟨BQ, 4, none⟩ (.int .i64 (unt : Int))).cell? ⟨BQ, 6, none⟩ = some (.string s) := by rw [HEF.out]; exact HBF.out.cell rfl
  have HCW := Lib.hid (iwrite_yes s4 (HE.out.grown HGF.out) (HP.out.grown HGF.out) a b run frm unt _ (c1 - 1) P s 0 HLF.out HPZ.out z0 z1 z5 hcp)
  rw [HRD.out.2] at HCW
  go_wp2_with (rw [HEF.out]; refine wpList_load_blk rfl 26 _ rfl BQ (capC a b (run : Int) (frm : Int) (unt : Int) (.slice (some ⟨g1, o1, none⟩) P.length (c1 - 1)) s) 26 HBF.out _ Tryz.underlying26 rfl infoCap rfl ?_)
  try rw [HEF.out]
  clear d0 d1 d2 d3 d4 d5 d6 p4 f4
  refine HCW.out.mono ?_
  rintro e wc ⟨rfl, hgc⟩
  have HGX := Lib.hid (grown_trans HGF.out hgc)
  have HCX := Lib.hid (HCF.out.kept hgc (by simp))
  have HBX := Lib.hid (HBF.out.kept hgc (by simp))
  have HLX := Lib.hid (HLF.out.kept hgc (fun q e => by cases e))
  clear hgc HCW
  have d0 : wc.cell? ⟨BQ, 0, none⟩ = some (.string a) := HBX.out.cell rfl
  have d1 : wc.cell? ⟨BQ, 1, none⟩ = some (.string b) := HBX.out.cell rfl
  have d2 : wc.cell? ⟨BQ, 2, none⟩ = some (.int .i64 (run : Int)) := HBX.out.cell rfl
  have d3 : wc.cell? ⟨BQ, 3, none⟩ = some (.int .i64 (frm : Int)) := HBX.out.cell rfl
  have d4 : wc.cell? ⟨BQ, 4, none⟩ = some (.int .i64 (unt : Int)) := HBX.out.cell rfl
  have d5 : wc.cell? ⟨BQ, 5, none⟩ = some (.slice (some ⟨g1, o1, none⟩) P.length (c1 - 1)) := HBX.out.cell rfl
  have d6 : wc.cell? ⟨BQ, 6, none⟩ = some (.string s) := HBX.out.cell rfl
  go_wp2_with (refine wpList_load_blk rfl 26 _ rfl BQ (capC a b (run : Int) (frm : Int) (unt : Int) (.slice (some ⟨g1, o1, none⟩) P.length (c1 - 1)) s) 26 HBX.out _ Tryz.underlying26 rfl infoCap rfl ?_)
  clear d0 d1 d2 d3 d4 d5 d6
  refine (ccopied_any wc a b (run : Int) (frm : Int) (unt : Int) _ (c1 - 1) P s 0 HLX.out HPL.out HPZ.out z0 z1 z5).mono ?_
  rintro e wd ⟨v, rfl, hrd, hgd⟩
  obtain ⟨an, cn, hv, -⟩ := hrd.lies
  subst hv
  have HCY := Lib.hid (HCX.out.kept hgd (by simp))
  have HGY := Lib.hid (grown_trans HGX.out hgd)
  have HRY := Lib.hid hrd
  have HSX := Lib.hid (show w.heap.size ≤ wc.heap.size ∧ C < wc.heap.size from ⟨HGX.out.size, HCX.out.lt⟩)
  clear hrd hgd
  go_wp2_with (refine wpList_store_blk rfl 26 _ _ rfl C (capC a b (run : Int) (frm : Int) (unt : Int) (.slice an P.length cn) s) (capC ⟨#[]⟩ ⟨#[]⟩ 0 0 0 (.slice none 0 0) ⟨#[]⟩) 26 HCY.out infoCap rfl (capC_one _ _ _ _ _ _ _ rfl) rfl rfl ?_; intro wz hbz hgz)
  exact ⟨rfl, _, results_blk Tryz.results19 _ _ C 26 _ _ _ hbz.out Tryz.underlying26 rfl infoCap rfl rfl, an, cn, rfl, (HRY.out.kept hgz.out (fun k hk e => by have h1 := (HRY.out.lt k hk).1; have h2 := HSX.out; have h4 := Option.some.inj e; omega)).base HSX.out.1, grown_into HGY.out hgz.out HWC.out⟩

set_option maxRecDepth 100000 in
set_option maxHeartbeats 32000000 in
theorem iread_no (w : World) (hX : MaxC w) (hE : ErrC w) (hP : Pow w) (text : ByteArray) (hs : text.size ≤ 1048576) (hr : ∀ a b run frm unt M s, ¬ RdP text a b run frm unt M s) :
    Calls Tryz.prog 19 #[.string text] w fun e w' => e = .returned (.tuple #[.agg #[.string ⟨#[]⟩, .string ⟨#[]⟩, .int .i64 0, .int .i64 0, .int .i64 0, .slice none 0 0, .string ⟨#[]⟩], .bool false]) ∧ w.grownBy w' none := by
  obtain ⟨W, hW⟩ : ∃ W, w.alloc (Obj.cells #[Value.string ⟨#[]⟩, .string ⟨#[]⟩, .int .i64 0, .int .i64 0, .int .i64 0, .slice none 0 0, .string ⟨#[]⟩] 26) = W := ⟨_, rfl⟩
  obtain ⟨C, hC⟩ : ∃ x, w.heap.size = x := ⟨_, rfl⟩
  have HG := Lib.hid (show w.grownBy W none from by rw [← hW]; exact grown_alloc (grown_refl _ _) _)
  have HCC := Lib.hid (show Blk W C 26 (capC ⟨#[]⟩ ⟨#[]⟩ 0 0 0 (.slice none 0 0) ⟨#[]⟩) from by rw [← hW, ← hC]; exact Blk.new w 26 (capC ⟨#[]⟩ ⟨#[]⟩ 0 0 0 (.slice none 0 0) ⟨#[]⟩))
  have HWC := Lib.hid (show w.heap.size ≤ C from by omega)
  have HW := Lib.hid hW
  have HCE := Lib.hid hC
  have HRD := Lib.hid hr
  have HSZ := Lib.hid hs
  have HX := Lib.hid hX
  have HE := Lib.hid hE
  have HP := Lib.hid hP
  clear hW hC hr hX hE hP
  go_enter Tryz.func19, Tryz.ntmps19
  go_wp2_with fail
  rw [HW.out, HCE.out]
  refine (isplit_any W (HX.out.grown HG.out) text 59 6 hs (by omega) (by omega)).mono ?_
  rintro e w1 ⟨⟨L, c1, rfl, hk1, hne, hj, hl6, hfree, hc1⟩, hg1⟩
  cases L with
  | nil => exact absurd rfl hne
  | cons p P =>
  obtain ⟨g1, hge⟩ : ∃ x, W.heap.size = x := ⟨_, rfl⟩
  rw [hge] at hk1 ⊢
  have HCC1 := Lib.hid (HCC.out.kept hg1 (by simp))
  have HG1 := Lib.hid (grown_trans HG.out hg1)
  have HK1 := Lib.hid hk1
  have HFR := Lib.hid hfree
  have HJ := Lib.hid hj
  have HL6 := Lib.hid hl6
  have hps := pieces_size 59 p P
  rw [hj] at hps
  have hpz : p.size ≤ 1048576 := by omega
  have HPL := Lib.hid (show P.length ≤ 1048576 from by omega)
  have HPZ := Lib.hid (show ∀ q ∈ P, q.size ≤ 1048576 from fun q hq => by have := hps.2.2 q hq; omega)
  have m0 : w1.cell? ⟨g1, 0, none⟩ = some (.string p) := hk1 0 (by simp)
  have hC1 := Lib.hid hc1
  rw [List.length_cons]
  clear hg1 hne hfree hj hps hk1 hc1 HCC HG hge hl6
  go_wp2_with fail
  refine (isplit_any w1 (HX.out.grown HG1.out) p 32 7 hpz (by omega) (by omega)).mono ?_
  rintro e w2 ⟨⟨K, c2, rfl, hk2, hkne, hkj, hk7, hkf, -⟩, hg2⟩
  obtain ⟨g2, hge⟩ : ∃ x, w1.heap.size = x := ⟨_, rfl⟩
  rw [hge] at hk2 ⊢
  have HCC2 := Lib.hid (HCC1.out.kept hg2 (by simp))
  have HG2 := Lib.hid (grown_trans HG1.out hg2)
  have HKP := Lib.hid (fun j (hj : j < (p :: P).length) => (hg2.cell (HK1.out j hj) (by simp)).trans (by rw [List.getD_eq_getElem?_getD, List.getElem?_eq_getElem hj, Option.getD_some] : some (Value.string (p :: P)[j]) = some (Value.string ((p :: P).getD j ByteArray.empty))))
  clear hg2 HCC1 HG1 HK1 m0 hge
  by_cases h6 : K.length = 6
  case neg =>
    have h6b : ((K.length : Int) == 6) = false := by rw [beq_eq_false_iff_ne]; omega
    have h6c : ¬ ((K.length : Int) = 6) := by omega
    go_wp2_with (refine wpList_store_blk rfl 26 _ _ rfl C (capC ⟨#[]⟩ ⟨#[]⟩ 0 0 0 (.slice none 0 0) ⟨#[]⟩) (capC ⟨#[]⟩ ⟨#[]⟩ 0 0 0 (.slice none 0 0) ⟨#[]⟩) 26 HCC2.out infoCap rfl capZ0_one rfl rfl ?_; intro wz hbz hgz)
    exact ⟨rfl, _, results_blk Tryz.results19 _ _ C 26 _ _ _ hbz.out Tryz.underlying26 rfl infoCap rfl rfl, rfl, grown_into HG2.out hgz.out HWC.out⟩
  obtain ⟨k0, k1, k2, k3, k4, k5, rfl⟩ := six_of K h6
  have hsz : ∀ q ∈ [k0, k1, k2, k3, k4, k5], q.size ≤ 1048576 := fun q hq => by have := joinB_len 32 _ q hq; rw [hkj] at this; simp only [List.length_cons, List.length_nil] at this; omega
  have HT5 := Lib.hid (show text.size ≠ 0 from by have h1 := six_size 32 _ h6; have h2 := pieces_size 59 p P; rw [hkj] at h1; rw [HJ.out] at h2; omega)
  clear h6 hkne hkf hk7
  have q0 : w2.cell? ⟨g2, 0, none⟩ = some (.string k0) := hk2 0 (by simp)
  have z0 : k0.size ≤ 1048576 := hsz _ (by simp)
  have q1 : w2.cell? ⟨g2, 1, none⟩ = some (.string k1) := hk2 1 (by simp)
  have z1 : k1.size ≤ 1048576 := hsz _ (by simp)
  have q2 : w2.cell? ⟨g2, 2, none⟩ = some (.string k2) := hk2 2 (by simp)
  have z2 : k2.size ≤ 1048576 := hsz _ (by simp)
  have q3 : w2.cell? ⟨g2, 3, none⟩ = some (.string k3) := hk2 3 (by simp)
  have z3 : k3.size ≤ 1048576 := hsz _ (by simp)
  have q4 : w2.cell? ⟨g2, 4, none⟩ = some (.string k4) := hk2 4 (by simp)
  have z4 : k4.size ≤ 1048576 := hsz _ (by simp)
  have q5 : w2.cell? ⟨g2, 5, none⟩ = some (.string k5) := hk2 5 (by simp)
  have z5 : k5.size ≤ 1048576 := hsz _ (by simp)
  have HK0 := Lib.hid q0
  have HK1 := Lib.hid q1
  have HK2 := Lib.hid q2
  have HK3 := Lib.hid q3
  have HK4 := Lib.hid q4
  have HK5 := Lib.hid q5
  clear hk2 hsz hkj q0 q1 q2 q3 q4 q5
  obtain ⟨o1, hsl, hlp⟩ := cut_at w2 g1 c1 p P HKP.out hC1.out
  have HLP := Lib.hid hlp
  clear hlp
  go_wp2
  refine wp_region_held_drew (S := fun V => w2.grownBy V none) (by kernel_rfl) (grown_drew (grown_refl _ _)) (fun hS => ?_)
  generalize w2.drew = V0 at hS ⊢
  try dsimp only at hS
  refine wpAnyH_take (i := 0) (oi := ⟨some 17, _, _, _, _, _⟩) (v := (.slice (some ⟨g2, 0, none⟩) 6 c2)) rfl (by kernel_rfl) (by kernel_rfl) (by kernel_rfl) (fun _ _ _ h => h) (Or.inl ⟨by kernel_rfl, fun w' hSw => ?_⟩) hS ?_
  · go_simp
    all_goals first | rfl | (simp [*]; done)
  simp only [Act.put, List.setIfInBounds_toArray, List.set_cons_zero, List.set_cons_succ]
  refine wpAnyH_take (i := 1) (oi := ⟨some 18, _, _, _, _, _⟩) (v := (.pointer (some ⟨g2, 0, none⟩))) rfl (by kernel_rfl) (by kernel_rfl) (by kernel_rfl) (fun _ _ _ h => h) (Or.inl ⟨by kernel_rfl, fun w' hSw => ?_⟩) hS ?_
  · go_simp
    all_goals first | rfl | (simp [*]; done)
  simp only [Act.put, List.setIfInBounds_toArray, List.set_cons_zero, List.set_cons_succ]
  refine wpAnyH_take (i := 2) (oi := ⟨some 19, _, _, _, _, _⟩) (v := (.string k0)) rfl (by kernel_rfl) (by kernel_rfl) (by kernel_rfl) (fun _ _ _ h => h) (Or.inl ⟨by kernel_rfl, fun w' hSw => ?_⟩) hS ?_
  · have kf := World.grownBy.cell hSw HK0.out (by simp)
    go_simp
    all_goals first | rfl | (simp [*]; done)
  simp only [Act.put, List.setIfInBounds_toArray, List.set_cons_zero, List.set_cons_succ]
  refine wpAnyH_take (i := 3) (oi := ⟨some 20, _, _, _, _, _⟩) (v := (.slice (some ⟨g2, 0, none⟩) 6 c2)) rfl (by kernel_rfl) (by kernel_rfl) (by kernel_rfl) (fun _ _ _ h => h) (Or.inl ⟨by kernel_rfl, fun w' hSw => ?_⟩) hS ?_
  · go_simp
    all_goals first | rfl | (simp [*]; done)
  simp only [Act.put, List.setIfInBounds_toArray, List.set_cons_zero, List.set_cons_succ]
  refine wpAnyH_take (i := 4) (oi := ⟨some 21, _, _, _, _, _⟩) (v := (.pointer (some ⟨g2, 1, none⟩))) rfl (by kernel_rfl) (by kernel_rfl) (by kernel_rfl) (fun _ _ _ h => h) (Or.inl ⟨by kernel_rfl, fun w' hSw => ?_⟩) hS ?_
  · go_simp
    all_goals first | rfl | (simp [*]; done)
  simp only [Act.put, List.setIfInBounds_toArray, List.set_cons_zero, List.set_cons_succ]
  refine wpAnyH_take (i := 5) (oi := ⟨some 22, _, _, _, _, _⟩) (v := (.string k1)) rfl (by kernel_rfl) (by kernel_rfl) (by kernel_rfl) (fun _ _ _ h => h) (Or.inl ⟨by kernel_rfl, fun w' hSw => ?_⟩) hS ?_
  · have kf := World.grownBy.cell hSw HK1.out (by simp)
    go_simp
    all_goals first | rfl | (simp [*]; done)
  simp only [Act.put, List.setIfInBounds_toArray, List.set_cons_zero, List.set_cons_succ]
  refine wpAnyH_take (i := 6) (oi := ⟨some 23, _, _, _, _, _⟩) (v := (.slice (some ⟨g1, 0, none⟩) (P.length + 1) c1)) rfl (by kernel_rfl) (by kernel_rfl) (by kernel_rfl) (fun _ _ _ h => h) (Or.inl ⟨by kernel_rfl, fun w' hSw => ?_⟩) hS ?_
  · go_simp
    all_goals first | rfl | (simp [*]; done)
  simp only [Act.put, List.setIfInBounds_toArray, List.set_cons_zero, List.set_cons_succ]
  refine wpAnyH_take (i := 7) (oi := ⟨some 24, _, _, _, _, _⟩) (v := (.slice (some ⟨g1, o1, none⟩) P.length (c1 - 1))) rfl (by kernel_rfl) (by kernel_rfl) (by kernel_rfl) (fun _ _ _ h => h) (Or.inl ⟨by kernel_rfl, fun w' hSw => ?_⟩) hS ?_
  · go_simp
    all_goals first | rfl | (simp [*]; done) | (rcases hsl with ⟨h1, h2⟩ | ⟨h1, h2⟩ <;> simp [h1, h2] <;> (intro h5; omega))
  simp only [Act.put, List.setIfInBounds_toArray, List.set_cons_zero, List.set_cons_succ]
  refine wpAnyH_take (i := 8) (oi := ⟨some 25, _, _, _, _, _⟩) (v := (.slice (some ⟨g2, 0, none⟩) 6 c2)) rfl (by kernel_rfl) (by kernel_rfl) (by kernel_rfl) (fun _ _ _ h => h) (Or.inl ⟨by kernel_rfl, fun w' hSw => ?_⟩) hS ?_
  · go_simp
    all_goals first | rfl | (simp [*]; done)
  simp only [Act.put, List.setIfInBounds_toArray, List.set_cons_zero, List.set_cons_succ]
  refine wpAnyH_take (i := 9) (oi := ⟨some 26, _, _, _, _, _⟩) (v := (.pointer (some ⟨g2, 5, none⟩))) rfl (by kernel_rfl) (by kernel_rfl) (by kernel_rfl) (fun _ _ _ h => h) (Or.inl ⟨by kernel_rfl, fun w' hSw => ?_⟩) hS ?_
  · go_simp
    all_goals first | rfl | (simp [*]; done)
  simp only [Act.put, List.setIfInBounds_toArray, List.set_cons_zero, List.set_cons_succ]
  refine wpAnyH_take (i := 10) (oi := ⟨some 27, _, _, _, _, _⟩) (v := (.string k5)) rfl (by kernel_rfl) (by kernel_rfl) (by kernel_rfl) (fun _ _ _ h => h) (Or.inl ⟨by kernel_rfl, fun w' hSw => ?_⟩) hS ?_
  · have kf := World.grownBy.cell hSw HK5.out (by simp)
    go_simp
    all_goals first | rfl | (simp [*]; done)
  simp only [Act.put, List.setIfInBounds_toArray, List.set_cons_zero, List.set_cons_succ]
  refine wpAnyH_take (i := 11) (oi := ⟨some 28, _, _, _, _, _⟩) (v := (.agg (capC k0 k1 0 0 0 (.slice (some ⟨g1, o1, none⟩) P.length (c1 - 1)) k5).toArray)) rfl (by kernel_rfl) (by kernel_rfl) (by kernel_rfl) (fun _ _ _ h => h) (Or.inl ⟨by kernel_rfl, fun w' hSw => ?_⟩) hS ?_
  · go_simp
    all_goals first | rfl | (simp [*]; done)
  simp only [Act.put, List.setIfInBounds_toArray, List.set_cons_zero, List.set_cons_succ]
  refine wpAnyH_ready (rs := [12]) (by kernel_rfl) (by simp) ?_
  refine AllReadyH.cons (o := ⟨some 6, _, _, _, _, _⟩) rfl (fun K hK => ?_) AllReadyH.nil
  go_simp
  obtain ⟨BQ, hBQ⟩ : ∃ x, V0.heap.size = x := ⟨_, rfl⟩
  obtain ⟨WA, hWA⟩ : ∃ x, V0.alloc (Obj.cells #[Value.string ⟨#[]⟩, .string ⟨#[]⟩, .int .i64 0, .int .i64 0, .int .i64 0, .slice none 0 0, .string ⟨#[]⟩] 26) = x := ⟨_, rfl⟩
  have HLZ := Lib.hid (show Blk WA BQ 26 (capC ⟨#[]⟩ ⟨#[]⟩ 0 0 0 (.slice none 0 0) ⟨#[]⟩) from by rw [← hWA, ← hBQ]; exact Blk.new V0 26 (capC ⟨#[]⟩ ⟨#[]⟩ 0 0 0 (.slice none 0 0) ⟨#[]⟩))
  have HBL := Lib.hid (show w2.heap.size ≤ BQ from by rw [← hBQ]; exact hS.size)
  have hga := (show V0.grownBy WA none from by rw [← hWA]; exact World.grownBy_alloc _ _ none)
  rw [hWA, hBQ]
  clear hWA hBQ
  have hS := grown_trans hS hga
  refine hK.out _ _ hS (fun hS => ?_)
  clear hK hga
  refine wpAnyH_ready (rs := [13]) (by kernel_rfl) (by simp) ?_
  refine AllReadyH.cons (o := ⟨none, _, _, _, _, _⟩) rfl (fun K hK => ?_) AllReadyH.nil
  refine step_store_blk2 (by kernel_rfl) 26 _ _ rfl BQ (capC k0 k1 0 0 0 (.slice (some ⟨g1, o1, none⟩) P.length (c1 - 1)) k5) (capC ⟨#[]⟩ ⟨#[]⟩ 0 0 0 (.slice none 0 0) ⟨#[]⟩) 26 HLZ.out infoCap rfl (capC_one _ _ _ _ _ _ _ rfl) rfl rfl ?_
  intro V3 hb3 hg3
  have HB9 := hb3
  have HS9 := Lib.hid (grown_into hS hg3.out HBL.out)
  refine hK.out _ _ HS9.out (fun hS3 => ?_)
  clear hK hb3 hg3 hS hS3 HLZ
  refine wpAnyH_done (by kernel_rfl) ?_ _
  have HGA := Lib.hid (grown_trans HG2.out HS9.out)
  have HCA := Lib.hid (HCC2.out.kept HS9.out (by simp))
  have HBA := HB9
  have HSA := HS9
  clear HB9 HS9
  have q2 : V3.cell? ⟨g2, 2, none⟩ = some (.string k2) := HSA.out.cell HK2.out (by simp)
  go_wp2_with fail
  clear q2
  refine (idec_any V3 k2 z2 (HE.out.grown HGA.out) (HP.out.grown HGA.out)).mono ?_
  rintro e u2 ⟨⟨n2, b2, rfl, hn2⟩, hgu⟩
  clear hn2
  have p2 : u2.cell? ⟨BQ, 2, none⟩ = some (.int .i64 0) := hgu.cell (HBA.out.cell rfl) (by simp)
  have f2 : u2.frozen? ⟨BQ, 2, none⟩ = false := (HBA.out.kept hgu (by simp)).frozen 2
  obtain ⟨s2, hs2⟩ : ∃ x, u2.setCell ⟨BQ, 2, none⟩ (.int .i64 n2) = x := ⟨_, rfl⟩
  have hgs := (show u2.grownBy s2 (some BQ) from by rw [← hs2]; exact grown_set (grown_refl _ _) 2 _)
  have HBB := Lib.hid (show Blk s2 BQ 26 (capC k0 k1 n2 0 0 (.slice (some ⟨g1, o1, none⟩) P.length (c1 - 1)) k5) from by rw [← hs2]; exact (HBA.out.kept hgu (by simp)).set 2 (.int .i64 n2))
  have HSB := Lib.hid (grown_into (grown_trans HSA.out hgu) hgs HBL.out)
  have HGB := Lib.hid (grown_trans HG2.out HSB.out)
  have HCB := Lib.hid (HCC2.out.kept HSB.out (by simp))
  have HEB := Lib.hid hs2
  clear hs2 hgs hgu HBA HSA HGA HCA
  have r2 : (u2.setCell ⟨BQ, 2, none⟩ (.int .i64 n2)).cell? ⟨g2, 3, none⟩ = some (.string k3) := by rw [HEB.out]; exact HSB.out.cell HK3.out (by simp)
  go_wp2_with fail
  rw [HEB.out]
  clear r2 p2 f2
  refine (idec_any s2 k3 z3 (HE.out.grown HGB.out) (HP.out.grown HGB.out)).mono ?_
  rintro e u3 ⟨⟨n3, b3, rfl, hn3⟩, hgu⟩
  clear hn3
  have p3 : u3.cell? ⟨BQ, 3, none⟩ = some (.int .i64 0) := hgu.cell (HBB.out.cell rfl) (by simp)
  have f3 : u3.frozen? ⟨BQ, 3, none⟩ = false := (HBB.out.kept hgu (by simp)).frozen 3
  obtain ⟨s3, hs3⟩ : ∃ x, u3.setCell ⟨BQ, 3, none⟩ (.int .i64 n3) = x := ⟨_, rfl⟩
  have hgs := (show u3.grownBy s3 (some BQ) from by rw [← hs3]; exact grown_set (grown_refl _ _) 3 _)
  have HBD := Lib.hid (show Blk s3 BQ 26 (capC k0 k1 n2 n3 0 (.slice (some ⟨g1, o1, none⟩) P.length (c1 - 1)) k5) from by rw [← hs3]; exact (HBB.out.kept hgu (by simp)).set 3 (.int .i64 n3))
  have HSD := Lib.hid (grown_into (grown_trans HSB.out hgu) hgs HBL.out)
  have HGD := Lib.hid (grown_trans HG2.out HSD.out)
  have HCD := Lib.hid (HCC2.out.kept HSD.out (by simp))
  have HED := Lib.hid hs3
  clear hs3 hgs hgu HBB HSB HGB HCB
  have r3 : (u3.setCell ⟨BQ, 3, none⟩ (.int .i64 n3)).cell? ⟨g2, 4, none⟩ = some (.string k4) := by rw [HED.out]; exact HSD.out.cell HK4.out (by simp)
  go_wp2_with fail
  rw [HED.out]
  clear r3 p3 f3
  refine (idec_any s3 k4 z4 (HE.out.grown HGD.out) (HP.out.grown HGD.out)).mono ?_
  rintro e u4 ⟨⟨n4, b4, rfl, hn4⟩, hgu⟩
  clear hn4
  have p4 : u4.cell? ⟨BQ, 4, none⟩ = some (.int .i64 0) := hgu.cell (HBD.out.cell rfl) (by simp)
  have f4 : u4.frozen? ⟨BQ, 4, none⟩ = false := (HBD.out.kept hgu (by simp)).frozen 4
  obtain ⟨s4, hs4⟩ : ∃ x, u4.setCell ⟨BQ, 4, none⟩ (.int .i64 n4) = x := ⟨_, rfl⟩
  have hgs := (show u4.grownBy s4 (some BQ) from by rw [← hs4]; exact grown_set (grown_refl _ _) 4 _)
  have HBF := Lib.hid (show Blk s4 BQ 26 (capC k0 k1 n2 n3 n4 (.slice (some ⟨g1, o1, none⟩) P.length (c1 - 1)) k5) from by rw [← hs4]; exact (HBD.out.kept hgu (by simp)).set 4 (.int .i64 n4))
  have HSF := Lib.hid (grown_into (grown_trans HSD.out hgu) hgs HBL.out)
  have HGF := Lib.hid (grown_trans HG2.out HSF.out)
  have HCF := Lib.hid (HCC2.out.kept HSF.out (by simp))
  have HEF := Lib.hid hs4
  clear hs4 hgs hgu HBD HSD HGD HCD
  have HLF := Lib.hid (cut_lies s4 g1 o1 P (fun j u hu => HSF.out.cell (HLP.out j u hu) (by simp)))
  have d0 : (u4.setCell ⟨BQ, 4, none⟩ (.int .i64 n4)).cell? ⟨BQ, 0, none⟩ = some (.string k0) := by rw [HEF.out]; exact HBF.out.cell rfl
  have d1 : (u4.setCell ⟨BQ, 4, none⟩ (.int .i64 n4)).cell? ⟨BQ, 1, none⟩ = some (.string k1) := by rw [HEF.out]; exact HBF.out.cell rfl
  have d2 : (u4.setCell ⟨BQ, 4, none⟩ (.int .i64 n4)).cell? ⟨BQ, 2, none⟩ = some (.int .i64 n2) := by rw [HEF.out]; exact HBF.out.cell rfl
  have d3 : (u4.setCell ⟨BQ, 4, none⟩ (.int .i64 n4)).cell? ⟨BQ, 3, none⟩ = some (.int .i64 n3) := by rw [HEF.out]; exact HBF.out.cell rfl
  have d4 : (u4.setCell ⟨BQ, 4, none⟩ (.int .i64 n4)).cell? ⟨BQ, 4, none⟩ = some (.int .i64 n4) := by rw [HEF.out]; exact HBF.out.cell rfl
  have d5 : (u4.setCell ⟨BQ, 4, none⟩ (.int .i64 n4)).cell? ⟨BQ, 5, none⟩ = some (.slice (some ⟨g1, o1, none⟩) P.length (c1 - 1)) := by rw [HEF.out]; exact HBF.out.cell rfl
  have d6 : (u4.setCell ⟨BQ, 4, none⟩ (.int .i64 n4)).cell? ⟨BQ, 6, none⟩ = some (.string k5) := by rw [HEF.out]; exact HBF.out.cell rfl
  obtain ⟨T, hT, hcw⟩ := iwrite_not s4 (HE.out.grown HGF.out) (HP.out.grown HGF.out) text k0 k1 n2 n3 n4 _ (c1 - 1) P k5 0 HLF.out HPL.out HPZ.out z0 z1 z5 HRD.out HT5.out
  have HCW := Lib.hid hcw
  have hTb : (T.toList == text.toList) = false := by rw [beq_eq_false_iff_ne]; exact hT
  have hTc : ¬ T.toList = text.toList := hT
  clear hcw
  go_wp2_with (rw [HEF.out]; refine wpList_load_blk rfl 26 _ rfl BQ (capC k0 k1 n2 n3 n4 (.slice (some ⟨g1, o1, none⟩) P.length (c1 - 1)) k5) 26 HBF.out _ Tryz.underlying26 rfl infoCap rfl ?_)
  try rw [HEF.out]
  clear d0 d1 d2 d3 d4 d5 d6 p4 f4
  refine HCW.out.mono ?_
  rintro e wc ⟨rfl, hgc⟩
  have HGX := Lib.hid (grown_trans HGF.out hgc)
  have HCX := Lib.hid (HCF.out.kept hgc (by simp))
  have HBX := Lib.hid (HBF.out.kept hgc (by simp))
  have HLX := Lib.hid (HLF.out.kept hgc (fun q e => by cases e))
  clear hgc HCW
  go_wp2_with (refine wpList_store_blk rfl 26 _ _ rfl C (capC ⟨#[]⟩ ⟨#[]⟩ 0 0 0 (.slice none 0 0) ⟨#[]⟩) (capC ⟨#[]⟩ ⟨#[]⟩ 0 0 0 (.slice none 0 0) ⟨#[]⟩) 26 HCX.out infoCap rfl capZ0_one rfl rfl ?_; intro wz hbz hgz)
  exact ⟨rfl, _, results_blk Tryz.results19 _ _ C 26 _ _ _ hbz.out Tryz.underlying26 rfl infoCap rfl rfl, rfl, grown_into HGX.out hgz.out HWC.out⟩

theorem iread_any (w : World) (hX : MaxC w) (hE : ErrC w) (hP : Pow w) (text : ByteArray) (hs : text.size ≤ 1048576) {a b : ByteArray} {r f u : Int} {s : ByteArray} {t : Bool} {M : List ByteArray} (hx : ReadX text a b r f u s t M) :
    Calls Tryz.prog 19 #[.string text] w fun e w' => ∃ (an : Option Addr) (cn : Nat), e = .returned (.tuple #[.agg #[.string a, .string b, .int .i64 r, .int .i64 f, .int .i64 u, .slice an M.length cn, .string s], .bool t]) ∧ Row w' w.heap.size (.slice an M.length cn) (strs M) ∧ w.grownBy w' none := by
  rcases hx with ⟨run, frm, unt, rfl, rfl, rfl, hr, rfl⟩ | ⟨hr, rfl, rfl, rfl, rfl, rfl, rfl, rfl, rfl⟩
  · exact iread_yes w hX hE hP text a b run frm unt M s hs hr
  · refine (iread_no w hX hE hP text hs hr).mono ?_
    rintro e w' ⟨rfl, hg⟩
    exact ⟨none, 0, rfl, Row.nil _ _, hg⟩
end Go.Proofs.YtecekbhkombnnaaGreatDoor
