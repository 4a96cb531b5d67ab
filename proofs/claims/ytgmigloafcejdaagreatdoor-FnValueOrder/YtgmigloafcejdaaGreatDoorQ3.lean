/- The program's order of values. -/
import Derived.Test.YtgmigloafcejdaaGreatDoorQ2
namespace Go.Proofs.YtgmigloafcejdaaGreatDoor
open Go.RowKit

theorem or_top (s s' n n' : Int) (t t' : ByteArray) (ns ns' : List ByteArray) (ks ks' : List VT) (h : ¬ orI (-(cmpI s s')) (-(cmpI n n')) (-(cmpS t t')) = 0) :
    -(cmpT (.node s n t ns ks) (.node s' n' t' ns' ks')) = orI (-(cmpI s s')) (-(cmpI n n')) (-(cmpS t t')) := by
  rw [cmpT]
  unfold orI cmpI cmpS at *
  cases hs : (s == s')
  · rcases firstI_pm (decide (s < s')) with e | e <;> simp [e]
  · cases hn : (n == n')
    · rcases firstI_pm (decide (n < n')) with e | e <;> simp [e]
    · cases ht : (t.toList == t'.toList)
      · simp
      · rw [hs, hn, ht] at h
        exact absurd rfl h
theorem or_zero (s s' n n' : Int) (t t' : ByteArray) (h : orI (-(cmpI s s')) (-(cmpI n n')) (-(cmpS t t')) = 0) : s = s' ∧ n = n' ∧ (t.toList == t'.toList) = true := by
  unfold orI cmpI cmpS at h
  cases hs : (s == s')
  · rw [hs] at h
    rcases firstI_pm (decide (s < s')) with e | e <;> simp [e] at h
  · cases hn : (n == n')
    · rw [hs, hn] at h
      rcases firstI_pm (decide (n < n')) with e | e <;> simp [e] at h
    · cases ht : (t.toList == t'.toList)
      · rw [hs, hn, ht] at h
        rcases firstI_pm (Op.bytesLess t.toList t'.toList) with e | e <;> simp [e] at h
      · exact ⟨by simpa using hs, by simpa using hn, rfl⟩

set_option maxRecDepth 100000 in
set_option maxHeartbeats 4000000 in
theorem implCmp_node (w : World) (b1 b2 d : Nat) (s n s' n' : Int) (t t' : ByteArray) (ns ns' : List ByteArray) (ks ks' : List VT) (an ak an' ak' : Option Addr) (cn ck cn' ck' : Nat) (CS CS' : Nat → List Value)
    (hn : Lies w b1 an ns) (hp : ks.length = 0 ∨ ∃ b o, ak = some ⟨b, o, none⟩ ∧ b1 ≤ b ∧ ∀ j, j < ks.length → Five w b (o + j * 5) (CS j))
    (hn' : Lies w b2 an' ns') (hp' : ks'.length = 0 ∨ ∃ b o, ak' = some ⟨b, o, none⟩ ∧ b2 ≤ b ∧ ∀ j, j < ks'.length → Five w b (o + j * 5) (CS' j))
    (hd : Parts (.node s n t ns ks) d) (hd' : Parts (.node s' n' t' ns' ks') d)
    (ih : ∀ (j : Nat) (k k' : VT), ks[j]? = some k → ks'[j]? = some k' → ∀ W : World, w.grownBy W none → Calls Tryz.prog 41 #[.agg (CS j).toArray, .agg (CS' j).toArray] W fun e w' => e = .returned (.int .i64 (-(cmpT k k'))) ∧ W.grownBy w' none)
    (W : World) (hW : w.grownBy W none) :
    Calls Tryz.prog 41 #[.agg #[.int .i64 s, .int .i64 n, .string t, .slice an ns.length cn, .slice ak ks.length ck], .agg #[.int .i64 s', .int .i64 n', .string t', .slice an' ns'.length cn', .slice ak' ks'.length ck']] W fun e w' => e = .returned (.int .i64 (-(cmpT (.node s n t ns ks) (.node s' n' t' ns' ks')))) ∧ W.grownBy w' none := by
  have hl5 := parts_len hd
  have hl5' := parts_len hd'
  have HNL := Lib.hid (fun h : s = 6 => show ns.length = ks.length from by subst h; exact parts_names hd)
  have HNL' := Lib.hid (fun h : s' = 6 => show ns'.length = ks'.length from by subst h; exact parts_names hd')
  have HI := Lib.hid ih
  have HW := Lib.hid hW
  have HL := Lib.hid hn
  have HL' := Lib.hid hn'
  have HP := Lib.hid hp
  have HP' := Lib.hid hp'
  obtain ⟨r, hr⟩ : ∃ r, r = -(cmpT (.node s n t ns ks) (.node s' n' t' ns' ks')) := ⟨_, rfl⟩
  rw [← hr]
  have HR := Lib.hid hr
  have HGX := Lib.hid (show W.grownBy ((W.alloc (Obj.cells #[Value.int .i64 s, .int .i64 n, .string t, .slice an ns.length cn, .slice ak ks.length ck] 27)).alloc (Obj.cells #[Value.int .i64 s', .int .i64 n', .string t', .slice an' ns'.length cn', .slice ak' ks'.length ck'] 27)) none from grown_alloc (grown_alloc (grown_refl _ _) _) _)
  have HBA := Lib.hid (show Blk ((W.alloc (Obj.cells #[Value.int .i64 s, .int .i64 n, .string t, .slice an ns.length cn, .slice ak ks.length ck] 27)).alloc (Obj.cells #[Value.int .i64 s', .int .i64 n', .string t', .slice an' ns'.length cn', .slice ak' ks'.length ck'] 27)) W.heap.size 27 [.int .i64 s, .int .i64 n, .string t, .slice an ns.length cn, .slice ak ks.length ck] from (Blk.new W 27 _).alloc _)
  have HBB := Lib.hid (show Blk ((W.alloc (Obj.cells #[Value.int .i64 s, .int .i64 n, .string t, .slice an ns.length cn, .slice ak ks.length ck] 27)).alloc (Obj.cells #[Value.int .i64 s', .int .i64 n', .string t', .slice an' ns'.length cn', .slice ak' ks'.length ck'] 27)) (W.heap.size + 1) 27 [.int .i64 s', .int .i64 n', .string t', .slice an' ns'.length cn', .slice ak' ks'.length ck'] from by
    have := Blk.new (W.alloc (Obj.cells #[Value.int .i64 s, .int .i64 n, .string t, .slice an ns.length cn, .slice ak ks.length ck] 27)) 27 [.int .i64 s', .int .i64 n', .string t', .slice an' ns'.length cn', .slice ak' ks'.length ck']
    simpa using this)
  clear hn hp hn' hp' hd hd' ih hW hr
  obtain ⟨x1, hx1⟩ : ∃ x, x = -(cmpI s s') := ⟨_, rfl⟩
  obtain ⟨x2, hx2⟩ : ∃ x, x = -(cmpI n n') := ⟨_, rfl⟩
  obtain ⟨x3, hx3⟩ : ∃ x, x = -(cmpS t t') := ⟨_, rfl⟩
  have HT1 := Lib.hid (fun h : ¬ orI x1 x2 x3 = 0 => show r = orI x1 x2 x3 from by rw [HR.out, hx1, hx2, hx3]; rw [hx1, hx2, hx3] at h; exact or_top s s' n n' t t' ns ns' ks ks' h)
  have HT2 := Lib.hid (fun h : orI x1 x2 x3 = 0 => show s = s' ∧ n = n' ∧ (t.toList == t'.toList) = true from by rw [hx1, hx2, hx3] at h; exact or_zero s s' n n' t t' h)
  have HK1 := Lib.hid (fun X : World => show Calls Tryz.prog 76 #[.int .i64 s, .int .i64 s'] X (fun e w' => e = .returned (.int .i64 x1) ∧ w' = X) from by rw [hx1]; exact intCmp_any X s s')
  have HK2 := Lib.hid (fun X : World => show Calls Tryz.prog 76 #[.int .i64 n, .int .i64 n'] X (fun e w' => e = .returned (.int .i64 x2) ∧ w' = X) from by rw [hx2]; exact intCmp_any X n n')
  have HK3 := Lib.hid (fun X : World => show Calls Tryz.prog 77 #[.string t, .string t'] X (fun e w' => e = .returned (.int .i64 x3) ∧ w' = X) from by rw [hx3]; exact strCmp_any X t t')
  clear hx1 hx2 hx3
  go_enter Tryz.func41, Tryz.ntmps41
  go_wp2
  refine wp_still_tail 15 (by kernel_rfl) (by kernel_rfl) (fun wx => W.grownBy wx none ∧ Blk wx W.heap.size 27 [.int .i64 s, .int .i64 n, .string t, .slice an ns.length cn, .slice ak ks.length ck] ∧ Blk wx (W.heap.size + 1) 27 [.int .i64 s', .int .i64 n', .string t', .slice an' ns'.length cn', .slice ak' ks'.length ck']) ⟨grown_drew HGX.out, Blk.drew HBA.out, Blk.drew HBB.out⟩ ?_
  rintro wx ⟨hgx, hax, hbx⟩
  have HG1 := Lib.hid hgx
  have HA1 := Lib.hid hax
  have HB1 := Lib.hid hbx
  have a0 : wx.cell? ⟨W.heap.size, 0, none⟩ = some (.int .i64 s) := hax.cell rfl
  have a1 : wx.cell? ⟨W.heap.size, 1, none⟩ = some (.int .i64 n) := hax.cell rfl
  have a2 : wx.cell? ⟨W.heap.size, 2, none⟩ = some (.string t) := hax.cell rfl
  have b0 : wx.cell? ⟨W.heap.size + 1, 0, none⟩ = some (.int .i64 s') := hbx.cell rfl
  have b1 : wx.cell? ⟨W.heap.size + 1, 1, none⟩ = some (.int .i64 n') := hbx.cell rfl
  have b2 : wx.cell? ⟨W.heap.size + 1, 2, none⟩ = some (.string t') := hbx.cell rfl
  have HC1 := Lib.hid (HK1.out wx)
  have HC2 := Lib.hid (HK2.out wx)
  have HC3 := Lib.hid (HK3.out wx)
  clear hgx hax hbx HK1 HK2 HK3 HGX HBA HBB
  simp only [List.take_succ_cons, List.take_zero, List.drop_succ_cons, List.drop_zero]
  iterate 4 ((with_reducible refine wpStill_step ?_); intro K hK; replace hK := Lib.hid hK; go_simp; (with_reducible refine hK.out _ ?_); clear hK K)
  ((with_reducible refine wpStill_step ?_); intro K hK; replace hK := Lib.hid hK; go_simp; refine ⟨_, HC1.out, ?_⟩; (with_reducible refine hK.out _ ?_); clear hK K)
  iterate 4 ((with_reducible refine wpStill_step ?_); intro K hK; replace hK := Lib.hid hK; go_simp; (with_reducible refine hK.out _ ?_); clear hK K)
  ((with_reducible refine wpStill_step ?_); intro K hK; replace hK := Lib.hid hK; go_simp; refine ⟨_, HC2.out, ?_⟩; (with_reducible refine hK.out _ ?_); clear hK K)
  iterate 4 ((with_reducible refine wpStill_step ?_); intro K hK; replace hK := Lib.hid hK; go_simp; (with_reducible refine hK.out _ ?_); clear hK K)
  ((with_reducible refine wpStill_step ?_); intro K hK; replace hK := Lib.hid hK; go_simp; refine ⟨_, HC3.out, ?_⟩; (with_reducible refine hK.out _ ?_); clear hK K)
  refine wpStill_nil ?_
  clear a0 a1 a2 b0 b1 b2 HC1 HC2 HC3
  have HOR := Lib.hid (or_any (wx.alloc (Obj.cells #[Value.int .i64 x1, .int .i64 x2, .int .i64 x3] 3)) wx.heap.size x1 x2 x3 (Blk.new wx 3 [.int .i64 x1, .int .i64 x2, .int .i64 x3]))
  have HG2 := Lib.hid (grown_alloc HG1.out (Obj.cells #[Value.int .i64 x1, .int .i64 x2, .int .i64 x3] 3))
  have HA2 := Lib.hid (HA1.out.alloc (Obj.cells #[Value.int .i64 x1, .int .i64 x2, .int .i64 x3] 3))
  have HB2 := Lib.hid (HB1.out.alloc (Obj.cells #[Value.int .i64 x1, .int .i64 x2, .int .i64 x3] 3))
  obtain ⟨f, hf⟩ : ∃ f, f = orI x1 x2 x3 := ⟨_, rfl⟩
  rw [← hf] at HOR HT1 HT2
  clear hf
  go_wp2_with fail
  refine HOR.out.mono ?_
  rintro e w2 ⟨rfl, hw⟩
  rw [← hw] at HG2 HA2 HB2
  clear hw HOR HG1 HA1 HB1
  by_cases hf0 : f = 0
  case neg =>
    have HE := Lib.hid (HT1.out hf0)
    go_wp2
    go_ret
    exact ⟨by rw [HE.out]; rfl, HG2.out⟩
  subst hf0
  obtain ⟨hse, hne, htt⟩ := HT2.out rfl
  have HTT := Lib.hid htt
  clear HT1 HT2 htt
  subst hse
  subst hne
  have HR0 := Lib.hid (show r = -(cmpAt (s == 6) ks ks' ns ns' 0) from by rw [HR.out, cmpT, if_pos (by rw [beq_iff_eq]), if_pos (by rw [beq_iff_eq]), if_pos HTT.out, cmpAt_zero])
  have d4 : w2.cell? ⟨W.heap.size, 4, none⟩ = some (.slice ak ks.length ck) := HA2.out.cell rfl
  have e4 : w2.cell? ⟨W.heap.size + 1, 4, none⟩ = some (.slice ak' ks'.length ck') := HB2.out.cell rfl
  by_cases hml : ks'.length < ks.length
  · go_wp2
    go_loopw [35] (fun i wr => ∃ k : Nat, k ≤ ks'.length ∧ i = .int .i64 k ∧ Hid (r = -(cmpAt (s == 6) ks ks' ns ns' k)) ∧ Blk wr W.heap.size 27 [.int .i64 s, .int .i64 n, .string t, .slice an ns.length cn, .slice ak ks.length ck] ∧ Blk wr (W.heap.size + 1) 27 [.int .i64 s, .int .i64 n, .string t', .slice an' ns'.length cn', .slice ak' ks'.length ck'] ∧ W.grownBy wr none) (fun i _ => ks'.length - (intOf i).toNat)
    case atStart => exact ⟨0, Nat.zero_le _, rfl, HR0, HA2.out, HB2.out, HG2.out⟩
    case round =>
      obtain ⟨k, hk, rfl, HC, hba, hbb, hg⟩ := hrel
      have HA := Lib.hid hba
      have HB := Lib.hid hbb
      have HG := Lib.hid hg
      have d4 : wr.cell? ⟨W.heap.size, 4, none⟩ = some (.slice ak ks.length ck) := hba.cell rfl
      have e4 : wr.cell? ⟨W.heap.size + 1, 4, none⟩ = some (.slice ak' ks'.length ck') := hbb.cell rfl
      clear hba hbb hg HR0 HA2 HB2 HG2
      by_cases hlm : k < ks'.length
      case neg =>
        have hkI : ¬ (k : Int) < ks'.length := by omega
        have HE := Lib.hid (show r = -(cmpI (ks.length : Int) (ks'.length : Int)) from by rw [HC.out, cmpAt_end (s == 6) ks ks' ns ns' k (by omega) (by omega) (by omega)])
        have HIC := Lib.hid (intCmp_any wr (ks.length : Int) (ks'.length : Int))
        rw [← HE.out] at HIC
        go_wp2_with fail
        refine HIC.out.mono ?_
        rintro e w1 ⟨rfl, hw⟩
        have hw := hw.symm
        subst hw
        go_wp2
        go_ret
        exact ⟨rfl, HG.out⟩
      have hlt : k < ks.length := by omega
      have hlt' : k < ks'.length := by omega
      have hkI : (k : Int) < ks.length := by omega
      have hkI' : (k : Int) < ks'.length := by omega
      have HST := Lib.hid (show r = -(if (s == 6) && !((ns.getD k ByteArray.empty).toList == (ns'.getD k ByteArray.empty).toList) then firstI (Op.bytesLess (ns.getD k ByteArray.empty).toList (ns'.getD k ByteArray.empty).toList) else if cmpT ks[k] ks'[k] == 0 then cmpAt (s == 6) ks ks' ns ns' (k + 1) else cmpT ks[k] ks'[k]) from by rw [HC.out, cmpAt_step (s == 6) ks ks' ns ns' k hlt hlt'])
      rcases HP.out with h0 | ⟨b, o, rfl, -, hc⟩
      · omega
      rcases HP'.out with h0 | ⟨b', o', rfl, -, hc'⟩
      · omega
      have HFV := Lib.hid (hc k hlt)
      have HFV' := Lib.hid (hc' k hlt')
      clear hc hc'
      have HREC := Lib.hid (fun (X : World) (hX : w.grownBy X none) => HI.out k ks[k] ks'[k] (by simp [hlt]) (by simp [hlt']) X hX)
      have hcs := cmpT_small ks[k] ks'[k]
      obtain ⟨c, hcc⟩ : ∃ c, c = -(cmpT ks[k] ks'[k]) := ⟨_, rfl⟩
      rw [← hcc] at HREC
      rw [show cmpT ks[k] ks'[k] = -c from by omega] at hcs HST
      obtain ⟨hc1, hc2⟩ := hcs
      clear hcc
      by_cases h6 : s = 6
      case neg =>
        have h6b : (s == 6) = false := by rw [beq_eq_false_iff_ne]; exact h6
        have HST2 := Lib.hid (show r = -(if (-c) == 0 then cmpAt (s == 6) ks ks' ns ns' (k + 1) else -c) from by rw [HST.out, h6b]; rfl)
        clear h6 HST
        go_wp2
        refine wp_still (by kernel_rfl) (by kernel_rfl) (fun wx => W.grownBy wx none ∧ Blk wx W.heap.size 27 [.int .i64 s, .int .i64 n, .string t, .slice an ns.length cn, .slice (some ⟨b, o, none⟩) ks.length ck] ∧ Blk wx (W.heap.size + 1) 27 [.int .i64 s, .int .i64 n, .string t', .slice an' ns'.length cn', .slice (some ⟨b', o', none⟩) ks'.length ck']) ⟨grown_drew HG.out, Blk.drew HA.out, Blk.drew HB.out⟩ ?_
        rintro wx ⟨hgx, hax, hbx⟩
        have HGX := Lib.hid hgx
        have HAX := Lib.hid hax
        have HBX := Lib.hid hbx
        have x0 : wx.cell? ⟨W.heap.size, 0, none⟩ = some (.int .i64 s) := hax.cell rfl
        have x3 : wx.cell? ⟨W.heap.size, 3, none⟩ = some (.slice an ns.length cn) := hax.cell rfl
        have x5 : wx.cell? ⟨W.heap.size + 1, 3, none⟩ = some (.slice an' ns'.length cn') := hbx.cell rfl
        clear hgx hax hbx
        iterate 16 ((with_reducible refine wpStill_step ?_); intro K hK; replace hK := Lib.hid hK; go_simp; (with_reducible refine hK.out _ ?_); clear hK K)
        refine wpStill_nil ?_
        clear x0 x3 x5 d4 e4
        go_wp2
        refine wp_still_tail 10 (by kernel_rfl) (by kernel_rfl) (fun wx => W.grownBy wx none ∧ Blk wx W.heap.size 27 [.int .i64 s, .int .i64 n, .string t, .slice an ns.length cn, .slice (some ⟨b, o, none⟩) ks.length ck] ∧ Blk wx (W.heap.size + 1) 27 [.int .i64 s, .int .i64 n, .string t', .slice an' ns'.length cn', .slice (some ⟨b', o', none⟩) ks'.length ck']) ⟨grown_drew HGX.out, Blk.drew HAX.out, Blk.drew HBX.out⟩ ?_
        rintro wy ⟨hgy, hay, hby⟩
        have HGY := Lib.hid hgy
        have HAY := Lib.hid hay
        have HBY := Lib.hid hby
        have HGZ := Lib.hid (grown_trans HW.out hgy)
        obtain ⟨c0, c1, c2, c3, c4, hcs, f0, f1, f2, f3, f4⟩ := HFV.out.kept HGZ.out (by simp)
        obtain ⟨g0, g1, g2, g3, g4, hcs', h0, h1, h2, h3, h4⟩ := HFV'.out.kept HGZ.out (by simp)
        have q4 : wy.cell? ⟨W.heap.size, 4, none⟩ = some (.slice (some ⟨b, o, none⟩) ks.length ck) := hay.cell rfl
        have r4 : wy.cell? ⟨W.heap.size + 1, 4, none⟩ = some (.slice (some ⟨b', o', none⟩) ks'.length ck') := hby.cell rfl
        have HCA := Lib.hid (HREC.out wy HGZ.out)
        rw [hcs, hcs'] at HCA
        clear hgy hay hby hcs hcs'
        simp only [List.take_succ_cons, List.take_zero, List.drop_succ_cons, List.drop_zero]
        iterate 10 ((with_reducible refine wpStill_step ?_); intro K hK; replace hK := Lib.hid hK; go_simp; (with_reducible refine hK.out _ ?_); clear hK K)
        refine wpStill_nil ?_
        clear f0 f1 f2 f3 f4 h0 h1 h2 h3 h4 q4 r4
        go_wp2_with fail
        refine HCA.out.mono ?_
        rintro e w3 ⟨rfl, hg3⟩
        have HG3 := Lib.hid (grown_trans HGY.out hg3)
        have HA3 := Lib.hid (HAY.out.kept hg3 (by simp))
        have HB3 := Lib.hid (HBY.out.kept hg3 (by simp))
        clear hg3 HCA
        by_cases hz : c = 0
        · have HE := Lib.hid (show r = -(cmpAt (s == 6) ks ks' ns ns' (k + 1)) from by rw [HST2.out, if_pos (by rw [beq_iff_eq]; omega)])
          subst hz
          go_wp2
          go_roundw
          case rel => exact ⟨k + 1, by omega, by go_num, HE, HA3.out, HB3.out, HG3.out⟩
          case measure => simp [intOf]; omega
        · have HE := Lib.hid (show r = c from by rw [HST2.out, if_neg (by rw [beq_iff_eq]; omega)]; omega)
          go_wp2
          go_ret
          exact ⟨by rw [HE.out]; rfl, HG3.out⟩
      have hnl := HNL.out h6
      have hnl' := HNL'.out h6
      subst h6
      rcases HL.out with h0 | ⟨ab, p, rfl, -, hm⟩
      · omega
      rcases HL'.out with h0 | ⟨ab', p', rfl, -, hm'⟩
      · omega
      have hkN : (k : Int) < ns.length := by omega
      have hkN' : (k : Int) < ns'.length := by omega
      have HM := Lib.hid (hm k (by omega))
      have HM' := Lib.hid (hm' k (by omega))
      clear hm hm' hnl hnl'
      obtain ⟨x, hx⟩ : ∃ x, x = ns.getD k ByteArray.empty := ⟨_, rfl⟩
      obtain ⟨y, hy⟩ : ∃ y, y = ns'.getD k ByteArray.empty := ⟨_, rfl⟩
      rw [← hx] at HM HST
      rw [← hy] at HM' HST
      clear hx hy
      cases hxy : (x.toList == y.toList)
      · have HE := Lib.hid (show r = -(cmpS x y) from by rw [HST.out, cmpS, hxy]; rfl)
        go_wp2
        refine wp_still (by kernel_rfl) (by kernel_rfl) (fun wx => W.grownBy wx none ∧ Blk wx W.heap.size 27 [.int .i64 6, .int .i64 n, .string t, .slice (some ⟨ab, p, none⟩) ns.length cn, .slice (some ⟨b, o, none⟩) ks.length ck] ∧ Blk wx (W.heap.size + 1) 27 [.int .i64 6, .int .i64 n, .string t', .slice (some ⟨ab', p', none⟩) ns'.length cn', .slice (some ⟨b', o', none⟩) ks'.length ck']) ⟨grown_drew HG.out, Blk.drew HA.out, Blk.drew HB.out⟩ ?_
        rintro wx ⟨hgx, hax, hbx⟩
        have HGX := Lib.hid hgx
        have HAX := Lib.hid hax
        have HBX := Lib.hid hbx
        have x0 : wx.cell? ⟨W.heap.size, 0, none⟩ = some (.int .i64 6) := hax.cell rfl
        have x3 : wx.cell? ⟨W.heap.size, 3, none⟩ = some (.slice (some ⟨ab, p, none⟩) ns.length cn) := hax.cell rfl
        have x5 : wx.cell? ⟨W.heap.size + 1, 3, none⟩ = some (.slice (some ⟨ab', p', none⟩) ns'.length cn') := hbx.cell rfl
        have nx : wx.cell? ⟨ab, p + k, none⟩ = some (.string x) := (grown_trans HW.out HGX.out).cell HM.out (by simp)
        have ny : wx.cell? ⟨ab', p' + k, none⟩ = some (.string y) := (grown_trans HW.out HGX.out).cell HM'.out (by simp)
        clear hgx hax hbx
        iterate 16 ((with_reducible refine wpStill_step ?_); intro K hK; replace hK := Lib.hid hK; go_simp; (with_reducible refine hK.out _ ?_); clear hK K)
        refine wpStill_nil ?_
        clear x0 x3 x5 d4 e4 nx ny hxy
        go_wp2
        refine wp_still (by kernel_rfl) (by kernel_rfl) (fun wx => W.grownBy wx none ∧ Blk wx W.heap.size 27 [.int .i64 6, .int .i64 n, .string t, .slice (some ⟨ab, p, none⟩) ns.length cn, .slice (some ⟨b, o, none⟩) ks.length ck] ∧ Blk wx (W.heap.size + 1) 27 [.int .i64 6, .int .i64 n, .string t', .slice (some ⟨ab', p', none⟩) ns'.length cn', .slice (some ⟨b', o', none⟩) ks'.length ck']) ⟨grown_drew HGX.out, Blk.drew HAX.out, Blk.drew HBX.out⟩ ?_
        rintro wz ⟨hgz, haz, hbz⟩
        have HGZ := Lib.hid hgz
        have HAZ := Lib.hid haz
        have HBZ := Lib.hid hbz
        have z0 : wz.cell? ⟨W.heap.size, 0, none⟩ = some (.int .i64 6) := haz.cell rfl
        have z3 : wz.cell? ⟨W.heap.size, 3, none⟩ = some (.slice (some ⟨ab, p, none⟩) ns.length cn) := haz.cell rfl
        have z5 : wz.cell? ⟨W.heap.size + 1, 3, none⟩ = some (.slice (some ⟨ab', p', none⟩) ns'.length cn') := hbz.cell rfl
        have nx : wz.cell? ⟨ab, p + k, none⟩ = some (.string x) := (grown_trans HW.out HGZ.out).cell HM.out (by simp)
        have ny : wz.cell? ⟨ab', p' + k, none⟩ = some (.string y) := (grown_trans HW.out HGZ.out).cell HM'.out (by simp)
        clear hgz haz hbz
        have HC5 := Lib.hid (strCmp_any wz x y)
        rw [← HE.out] at HC5
        iterate 10 ((with_reducible refine wpStill_step ?_); intro K hK; replace hK := Lib.hid hK; go_simp; (with_reducible refine hK.out _ ?_); clear hK K)
        ((with_reducible refine wpStill_step ?_); intro K hK; replace hK := Lib.hid hK; go_simp; refine ⟨_, HC5.out, ?_⟩; (with_reducible refine hK.out _ ?_); clear hK K)
        iterate 1 ((with_reducible refine wpStill_step ?_); intro K hK; replace hK := Lib.hid hK; go_simp; (with_reducible refine hK.out _ ?_); clear hK K)
        refine wpStill_nil ?_
        clear z0 z3 z5 nx ny HC5
        go_wp2
        go_ret
        exact ⟨rfl, HGZ.out⟩
      · have HST2 := Lib.hid (show r = -(if (-c) == 0 then cmpAt (6 == 6) ks ks' ns ns' (k + 1) else -c) from by rw [HST.out, hxy]; rfl)
        go_wp2
        refine wp_still (by kernel_rfl) (by kernel_rfl) (fun wx => W.grownBy wx none ∧ Blk wx W.heap.size 27 [.int .i64 6, .int .i64 n, .string t, .slice (some ⟨ab, p, none⟩) ns.length cn, .slice (some ⟨b, o, none⟩) ks.length ck] ∧ Blk wx (W.heap.size + 1) 27 [.int .i64 6, .int .i64 n, .string t', .slice (some ⟨ab', p', none⟩) ns'.length cn', .slice (some ⟨b', o', none⟩) ks'.length ck']) ⟨grown_drew HG.out, Blk.drew HA.out, Blk.drew HB.out⟩ ?_
        rintro wx ⟨hgx, hax, hbx⟩
        have HGX := Lib.hid hgx
        have HAX := Lib.hid hax
        have HBX := Lib.hid hbx
        have x0 : wx.cell? ⟨W.heap.size, 0, none⟩ = some (.int .i64 6) := hax.cell rfl
        have x3 : wx.cell? ⟨W.heap.size, 3, none⟩ = some (.slice (some ⟨ab, p, none⟩) ns.length cn) := hax.cell rfl
        have x5 : wx.cell? ⟨W.heap.size + 1, 3, none⟩ = some (.slice (some ⟨ab', p', none⟩) ns'.length cn') := hbx.cell rfl
        have nx : wx.cell? ⟨ab, p + k, none⟩ = some (.string x) := (grown_trans HW.out HGX.out).cell HM.out (by simp)
        have ny : wx.cell? ⟨ab', p' + k, none⟩ = some (.string y) := (grown_trans HW.out HGX.out).cell HM'.out (by simp)
        clear hgx hax hbx
        iterate 16 ((with_reducible refine wpStill_step ?_); intro K hK; replace hK := Lib.hid hK; go_simp; (with_reducible refine hK.out _ ?_); clear hK K)
        refine wpStill_nil ?_
        clear x0 x3 x5 d4 e4 nx ny hxy
        go_wp2
        refine wp_still_tail 10 (by kernel_rfl) (by kernel_rfl) (fun wx => W.grownBy wx none ∧ Blk wx W.heap.size 27 [.int .i64 6, .int .i64 n, .string t, .slice (some ⟨ab, p, none⟩) ns.length cn, .slice (some ⟨b, o, none⟩) ks.length ck] ∧ Blk wx (W.heap.size + 1) 27 [.int .i64 6, .int .i64 n, .string t', .slice (some ⟨ab', p', none⟩) ns'.length cn', .slice (some ⟨b', o', none⟩) ks'.length ck']) ⟨grown_drew HGX.out, Blk.drew HAX.out, Blk.drew HBX.out⟩ ?_
        rintro wy ⟨hgy, hay, hby⟩
        have HGY := Lib.hid hgy
        have HAY := Lib.hid hay
        have HBY := Lib.hid hby
        have HGZ := Lib.hid (grown_trans HW.out hgy)
        obtain ⟨c0, c1, c2, c3, c4, hcs, f0, f1, f2, f3, f4⟩ := HFV.out.kept HGZ.out (by simp)
        obtain ⟨g0, g1, g2, g3, g4, hcs', h0, h1, h2, h3, h4⟩ := HFV'.out.kept HGZ.out (by simp)
        have q4 : wy.cell? ⟨W.heap.size, 4, none⟩ = some (.slice (some ⟨b, o, none⟩) ks.length ck) := hay.cell rfl
        have r4 : wy.cell? ⟨W.heap.size + 1, 4, none⟩ = some (.slice (some ⟨b', o', none⟩) ks'.length ck') := hby.cell rfl
        have HCA := Lib.hid (HREC.out wy HGZ.out)
        rw [hcs, hcs'] at HCA
        clear hgy hay hby hcs hcs'
        simp only [List.take_succ_cons, List.take_zero, List.drop_succ_cons, List.drop_zero]
        iterate 10 ((with_reducible refine wpStill_step ?_); intro K hK; replace hK := Lib.hid hK; go_simp; (with_reducible refine hK.out _ ?_); clear hK K)
        refine wpStill_nil ?_
        clear f0 f1 f2 f3 f4 h0 h1 h2 h3 h4 q4 r4
        go_wp2_with fail
        refine HCA.out.mono ?_
        rintro e w3 ⟨rfl, hg3⟩
        have HG3 := Lib.hid (grown_trans HGY.out hg3)
        have HA3 := Lib.hid (HAY.out.kept hg3 (by simp))
        have HB3 := Lib.hid (HBY.out.kept hg3 (by simp))
        clear hg3 HCA
        by_cases hz : c = 0
        · have HE := Lib.hid (show r = -(cmpAt (6 == 6) ks ks' ns ns' (k + 1)) from by rw [HST2.out, if_pos (by rw [beq_iff_eq]; omega)])
          subst hz
          go_wp2
          go_roundw
          case rel => exact ⟨k + 1, by omega, by go_num, HE, HA3.out, HB3.out, HG3.out⟩
          case measure => simp [intOf]; omega
        · have HE := Lib.hid (show r = c from by rw [HST2.out, if_neg (by rw [beq_iff_eq]; omega)]; omega)
          go_wp2
          go_ret
          exact ⟨by rw [HE.out]; rfl, HG3.out⟩
  · go_wp2
    go_loopw [35] (fun i wr => ∃ k : Nat, k ≤ ks.length ∧ i = .int .i64 k ∧ Hid (r = -(cmpAt (s == 6) ks ks' ns ns' k)) ∧ Blk wr W.heap.size 27 [.int .i64 s, .int .i64 n, .string t, .slice an ns.length cn, .slice ak ks.length ck] ∧ Blk wr (W.heap.size + 1) 27 [.int .i64 s, .int .i64 n, .string t', .slice an' ns'.length cn', .slice ak' ks'.length ck'] ∧ W.grownBy wr none) (fun i _ => ks.length - (intOf i).toNat)
    case atStart => exact ⟨0, Nat.zero_le _, rfl, HR0, HA2.out, HB2.out, HG2.out⟩
    case round =>
      obtain ⟨k, hk, rfl, HC, hba, hbb, hg⟩ := hrel
      have HA := Lib.hid hba
      have HB := Lib.hid hbb
      have HG := Lib.hid hg
      have d4 : wr.cell? ⟨W.heap.size, 4, none⟩ = some (.slice ak ks.length ck) := hba.cell rfl
      have e4 : wr.cell? ⟨W.heap.size + 1, 4, none⟩ = some (.slice ak' ks'.length ck') := hbb.cell rfl
      clear hba hbb hg HR0 HA2 HB2 HG2
      by_cases hlm : k < ks.length
      case neg =>
        have hkI : ¬ (k : Int) < ks.length := by omega
        have HE := Lib.hid (show r = -(cmpI (ks.length : Int) (ks'.length : Int)) from by rw [HC.out, cmpAt_end (s == 6) ks ks' ns ns' k (by omega) (by omega) (by omega)])
        have HIC := Lib.hid (intCmp_any wr (ks.length : Int) (ks'.length : Int))
        rw [← HE.out] at HIC
        go_wp2_with fail
        refine HIC.out.mono ?_
        rintro e w1 ⟨rfl, hw⟩
        have hw := hw.symm
        subst hw
        go_wp2
        go_ret
        exact ⟨rfl, HG.out⟩
      have hlt : k < ks.length := by omega
      have hlt' : k < ks'.length := by omega
      have hkI : (k : Int) < ks.length := by omega
      have hkI' : (k : Int) < ks'.length := by omega
      have HST := Lib.hid (show r = -(if (s == 6) && !((ns.getD k ByteArray.empty).toList == (ns'.getD k ByteArray.empty).toList) then firstI (Op.bytesLess (ns.getD k ByteArray.empty).toList (ns'.getD k ByteArray.empty).toList) else if cmpT ks[k] ks'[k] == 0 then cmpAt (s == 6) ks ks' ns ns' (k + 1) else cmpT ks[k] ks'[k]) from by rw [HC.out, cmpAt_step (s == 6) ks ks' ns ns' k hlt hlt'])
      rcases HP.out with h0 | ⟨b, o, rfl, -, hc⟩
      · omega
      rcases HP'.out with h0 | ⟨b', o', rfl, -, hc'⟩
      · omega
      have HFV := Lib.hid (hc k hlt)
      have HFV' := Lib.hid (hc' k hlt')
      clear hc hc'
      have HREC := Lib.hid (fun (X : World) (hX : w.grownBy X none) => HI.out k ks[k] ks'[k] (by simp [hlt]) (by simp [hlt']) X hX)
      have hcs := cmpT_small ks[k] ks'[k]
      obtain ⟨c, hcc⟩ : ∃ c, c = -(cmpT ks[k] ks'[k]) := ⟨_, rfl⟩
      rw [← hcc] at HREC
      rw [show cmpT ks[k] ks'[k] = -c from by omega] at hcs HST
      obtain ⟨hc1, hc2⟩ := hcs
      clear hcc
      by_cases h6 : s = 6
      case neg =>
        have h6b : (s == 6) = false := by rw [beq_eq_false_iff_ne]; exact h6
        have HST2 := Lib.hid (show r = -(if (-c) == 0 then cmpAt (s == 6) ks ks' ns ns' (k + 1) else -c) from by rw [HST.out, h6b]; rfl)
        clear h6 HST
        go_wp2
        refine wp_still (by kernel_rfl) (by kernel_rfl) (fun wx => W.grownBy wx none ∧ Blk wx W.heap.size 27 [.int .i64 s, .int .i64 n, .string t, .slice an ns.length cn, .slice (some ⟨b, o, none⟩) ks.length ck] ∧ Blk wx (W.heap.size + 1) 27 [.int .i64 s, .int .i64 n, .string t', .slice an' ns'.length cn', .slice (some ⟨b', o', none⟩) ks'.length ck']) ⟨grown_drew HG.out, Blk.drew HA.out, Blk.drew HB.out⟩ ?_
        rintro wx ⟨hgx, hax, hbx⟩
        have HGX := Lib.hid hgx
        have HAX := Lib.hid hax
        have HBX := Lib.hid hbx
        have x0 : wx.cell? ⟨W.heap.size, 0, none⟩ = some (.int .i64 s) := hax.cell rfl
        have x3 : wx.cell? ⟨W.heap.size, 3, none⟩ = some (.slice an ns.length cn) := hax.cell rfl
        have x5 : wx.cell? ⟨W.heap.size + 1, 3, none⟩ = some (.slice an' ns'.length cn') := hbx.cell rfl
        clear hgx hax hbx
        iterate 16 ((with_reducible refine wpStill_step ?_); intro K hK; replace hK := Lib.hid hK; go_simp; (with_reducible refine hK.out _ ?_); clear hK K)
        refine wpStill_nil ?_
        clear x0 x3 x5 d4 e4
        go_wp2
        refine wp_still_tail 10 (by kernel_rfl) (by kernel_rfl) (fun wx => W.grownBy wx none ∧ Blk wx W.heap.size 27 [.int .i64 s, .int .i64 n, .string t, .slice an ns.length cn, .slice (some ⟨b, o, none⟩) ks.length ck] ∧ Blk wx (W.heap.size + 1) 27 [.int .i64 s, .int .i64 n, .string t', .slice an' ns'.length cn', .slice (some ⟨b', o', none⟩) ks'.length ck']) ⟨grown_drew HGX.out, Blk.drew HAX.out, Blk.drew HBX.out⟩ ?_
        rintro wy ⟨hgy, hay, hby⟩
        have HGY := Lib.hid hgy
        have HAY := Lib.hid hay
        have HBY := Lib.hid hby
        have HGZ := Lib.hid (grown_trans HW.out hgy)
        obtain ⟨c0, c1, c2, c3, c4, hcs, f0, f1, f2, f3, f4⟩ := HFV.out.kept HGZ.out (by simp)
        obtain ⟨g0, g1, g2, g3, g4, hcs', h0, h1, h2, h3, h4⟩ := HFV'.out.kept HGZ.out (by simp)
        have q4 : wy.cell? ⟨W.heap.size, 4, none⟩ = some (.slice (some ⟨b, o, none⟩) ks.length ck) := hay.cell rfl
        have r4 : wy.cell? ⟨W.heap.size + 1, 4, none⟩ = some (.slice (some ⟨b', o', none⟩) ks'.length ck') := hby.cell rfl
        have HCA := Lib.hid (HREC.out wy HGZ.out)
        rw [hcs, hcs'] at HCA
        clear hgy hay hby hcs hcs'
        simp only [List.take_succ_cons, List.take_zero, List.drop_succ_cons, List.drop_zero]
        iterate 10 ((with_reducible refine wpStill_step ?_); intro K hK; replace hK := Lib.hid hK; go_simp; (with_reducible refine hK.out _ ?_); clear hK K)
        refine wpStill_nil ?_
        clear f0 f1 f2 f3 f4 h0 h1 h2 h3 h4 q4 r4
        go_wp2_with fail
        refine HCA.out.mono ?_
        rintro e w3 ⟨rfl, hg3⟩
        have HG3 := Lib.hid (grown_trans HGY.out hg3)
        have HA3 := Lib.hid (HAY.out.kept hg3 (by simp))
        have HB3 := Lib.hid (HBY.out.kept hg3 (by simp))
        clear hg3 HCA
        by_cases hz : c = 0
        · have HE := Lib.hid (show r = -(cmpAt (s == 6) ks ks' ns ns' (k + 1)) from by rw [HST2.out, if_pos (by rw [beq_iff_eq]; omega)])
          subst hz
          go_wp2
          go_roundw
          case rel => exact ⟨k + 1, by omega, by go_num, HE, HA3.out, HB3.out, HG3.out⟩
          case measure => simp [intOf]; omega
        · have HE := Lib.hid (show r = c from by rw [HST2.out, if_neg (by rw [beq_iff_eq]; omega)]; omega)
          go_wp2
          go_ret
          exact ⟨by rw [HE.out]; rfl, HG3.out⟩
      have hnl := HNL.out h6
      have hnl' := HNL'.out h6
      subst h6
      rcases HL.out with h0 | ⟨ab, p, rfl, -, hm⟩
      · omega
      rcases HL'.out with h0 | ⟨ab', p', rfl, -, hm'⟩
      · omega
      have hkN : (k : Int) < ns.length := by omega
      have hkN' : (k : Int) < ns'.length := by omega
      have HM := Lib.hid (hm k (by omega))
      have HM' := Lib.hid (hm' k (by omega))
      clear hm hm' hnl hnl'
      obtain ⟨x, hx⟩ : ∃ x, x = ns.getD k ByteArray.empty := ⟨_, rfl⟩
      obtain ⟨y, hy⟩ : ∃ y, y = ns'.getD k ByteArray.empty := ⟨_, rfl⟩
      rw [← hx] at HM HST
      rw [← hy] at HM' HST
      clear hx hy
      cases hxy : (x.toList == y.toList)
      · have HE := Lib.hid (show r = -(cmpS x y) from by rw [HST.out, cmpS, hxy]; rfl)
        go_wp2
        refine wp_still (by kernel_rfl) (by kernel_rfl) (fun wx => W.grownBy wx none ∧ Blk wx W.heap.size 27 [.int .i64 6, .int .i64 n, .string t, .slice (some ⟨ab, p, none⟩) ns.length cn, .slice (some ⟨b, o, none⟩) ks.length ck] ∧ Blk wx (W.heap.size + 1) 27 [.int .i64 6, .int .i64 n, .string t', .slice (some ⟨ab', p', none⟩) ns'.length cn', .slice (some ⟨b', o', none⟩) ks'.length ck']) ⟨grown_drew HG.out, Blk.drew HA.out, Blk.drew HB.out⟩ ?_
        rintro wx ⟨hgx, hax, hbx⟩
        have HGX := Lib.hid hgx
        have HAX := Lib.hid hax
        have HBX := Lib.hid hbx
        have x0 : wx.cell? ⟨W.heap.size, 0, none⟩ = some (.int .i64 6) := hax.cell rfl
        have x3 : wx.cell? ⟨W.heap.size, 3, none⟩ = some (.slice (some ⟨ab, p, none⟩) ns.length cn) := hax.cell rfl
        have x5 : wx.cell? ⟨W.heap.size + 1, 3, none⟩ = some (.slice (some ⟨ab', p', none⟩) ns'.length cn') := hbx.cell rfl
        have nx : wx.cell? ⟨ab, p + k, none⟩ = some (.string x) := (grown_trans HW.out HGX.out).cell HM.out (by simp)
        have ny : wx.cell? ⟨ab', p' + k, none⟩ = some (.string y) := (grown_trans HW.out HGX.out).cell HM'.out (by simp)
        clear hgx hax hbx
        iterate 16 ((with_reducible refine wpStill_step ?_); intro K hK; replace hK := Lib.hid hK; go_simp; (with_reducible refine hK.out _ ?_); clear hK K)
        refine wpStill_nil ?_
        clear x0 x3 x5 d4 e4 nx ny hxy
        go_wp2
        refine wp_still (by kernel_rfl) (by kernel_rfl) (fun wx => W.grownBy wx none ∧ Blk wx W.heap.size 27 [.int .i64 6, .int .i64 n, .string t, .slice (some ⟨ab, p, none⟩) ns.length cn, .slice (some ⟨b, o, none⟩) ks.length ck] ∧ Blk wx (W.heap.size + 1) 27 [.int .i64 6, .int .i64 n, .string t', .slice (some ⟨ab', p', none⟩) ns'.length cn', .slice (some ⟨b', o', none⟩) ks'.length ck']) ⟨grown_drew HGX.out, Blk.drew HAX.out, Blk.drew HBX.out⟩ ?_
        rintro wz ⟨hgz, haz, hbz⟩
        have HGZ := Lib.hid hgz
        have HAZ := Lib.hid haz
        have HBZ := Lib.hid hbz
        have z0 : wz.cell? ⟨W.heap.size, 0, none⟩ = some (.int .i64 6) := haz.cell rfl
        have z3 : wz.cell? ⟨W.heap.size, 3, none⟩ = some (.slice (some ⟨ab, p, none⟩) ns.length cn) := haz.cell rfl
        have z5 : wz.cell? ⟨W.heap.size + 1, 3, none⟩ = some (.slice (some ⟨ab', p', none⟩) ns'.length cn') := hbz.cell rfl
        have nx : wz.cell? ⟨ab, p + k, none⟩ = some (.string x) := (grown_trans HW.out HGZ.out).cell HM.out (by simp)
        have ny : wz.cell? ⟨ab', p' + k, none⟩ = some (.string y) := (grown_trans HW.out HGZ.out).cell HM'.out (by simp)
        clear hgz haz hbz
        have HC5 := Lib.hid (strCmp_any wz x y)
        rw [← HE.out] at HC5
        iterate 10 ((with_reducible refine wpStill_step ?_); intro K hK; replace hK := Lib.hid hK; go_simp; (with_reducible refine hK.out _ ?_); clear hK K)
        ((with_reducible refine wpStill_step ?_); intro K hK; replace hK := Lib.hid hK; go_simp; refine ⟨_, HC5.out, ?_⟩; (with_reducible refine hK.out _ ?_); clear hK K)
        iterate 1 ((with_reducible refine wpStill_step ?_); intro K hK; replace hK := Lib.hid hK; go_simp; (with_reducible refine hK.out _ ?_); clear hK K)
        refine wpStill_nil ?_
        clear z0 z3 z5 nx ny HC5
        go_wp2
        go_ret
        exact ⟨rfl, HGZ.out⟩
      · have HST2 := Lib.hid (show r = -(if (-c) == 0 then cmpAt (6 == 6) ks ks' ns ns' (k + 1) else -c) from by rw [HST.out, hxy]; rfl)
        go_wp2
        refine wp_still (by kernel_rfl) (by kernel_rfl) (fun wx => W.grownBy wx none ∧ Blk wx W.heap.size 27 [.int .i64 6, .int .i64 n, .string t, .slice (some ⟨ab, p, none⟩) ns.length cn, .slice (some ⟨b, o, none⟩) ks.length ck] ∧ Blk wx (W.heap.size + 1) 27 [.int .i64 6, .int .i64 n, .string t', .slice (some ⟨ab', p', none⟩) ns'.length cn', .slice (some ⟨b', o', none⟩) ks'.length ck']) ⟨grown_drew HG.out, Blk.drew HA.out, Blk.drew HB.out⟩ ?_
        rintro wx ⟨hgx, hax, hbx⟩
        have HGX := Lib.hid hgx
        have HAX := Lib.hid hax
        have HBX := Lib.hid hbx
        have x0 : wx.cell? ⟨W.heap.size, 0, none⟩ = some (.int .i64 6) := hax.cell rfl
        have x3 : wx.cell? ⟨W.heap.size, 3, none⟩ = some (.slice (some ⟨ab, p, none⟩) ns.length cn) := hax.cell rfl
        have x5 : wx.cell? ⟨W.heap.size + 1, 3, none⟩ = some (.slice (some ⟨ab', p', none⟩) ns'.length cn') := hbx.cell rfl
        have nx : wx.cell? ⟨ab, p + k, none⟩ = some (.string x) := (grown_trans HW.out HGX.out).cell HM.out (by simp)
        have ny : wx.cell? ⟨ab', p' + k, none⟩ = some (.string y) := (grown_trans HW.out HGX.out).cell HM'.out (by simp)
        clear hgx hax hbx
        iterate 16 ((with_reducible refine wpStill_step ?_); intro K hK; replace hK := Lib.hid hK; go_simp; (with_reducible refine hK.out _ ?_); clear hK K)
        refine wpStill_nil ?_
        clear x0 x3 x5 d4 e4 nx ny hxy
        go_wp2
        refine wp_still_tail 10 (by kernel_rfl) (by kernel_rfl) (fun wx => W.grownBy wx none ∧ Blk wx W.heap.size 27 [.int .i64 6, .int .i64 n, .string t, .slice (some ⟨ab, p, none⟩) ns.length cn, .slice (some ⟨b, o, none⟩) ks.length ck] ∧ Blk wx (W.heap.size + 1) 27 [.int .i64 6, .int .i64 n, .string t', .slice (some ⟨ab', p', none⟩) ns'.length cn', .slice (some ⟨b', o', none⟩) ks'.length ck']) ⟨grown_drew HGX.out, Blk.drew HAX.out, Blk.drew HBX.out⟩ ?_
        rintro wy ⟨hgy, hay, hby⟩
        have HGY := Lib.hid hgy
        have HAY := Lib.hid hay
        have HBY := Lib.hid hby
        have HGZ := Lib.hid (grown_trans HW.out hgy)
        obtain ⟨c0, c1, c2, c3, c4, hcs, f0, f1, f2, f3, f4⟩ := HFV.out.kept HGZ.out (by simp)
        obtain ⟨g0, g1, g2, g3, g4, hcs', h0, h1, h2, h3, h4⟩ := HFV'.out.kept HGZ.out (by simp)
        have q4 : wy.cell? ⟨W.heap.size, 4, none⟩ = some (.slice (some ⟨b, o, none⟩) ks.length ck) := hay.cell rfl
        have r4 : wy.cell? ⟨W.heap.size + 1, 4, none⟩ = some (.slice (some ⟨b', o', none⟩) ks'.length ck') := hby.cell rfl
        have HCA := Lib.hid (HREC.out wy HGZ.out)
        rw [hcs, hcs'] at HCA
        clear hgy hay hby hcs hcs'
        simp only [List.take_succ_cons, List.take_zero, List.drop_succ_cons, List.drop_zero]
        iterate 10 ((with_reducible refine wpStill_step ?_); intro K hK; replace hK := Lib.hid hK; go_simp; (with_reducible refine hK.out _ ?_); clear hK K)
        refine wpStill_nil ?_
        clear f0 f1 f2 f3 f4 h0 h1 h2 h3 h4 q4 r4
        go_wp2_with fail
        refine HCA.out.mono ?_
        rintro e w3 ⟨rfl, hg3⟩
        have HG3 := Lib.hid (grown_trans HGY.out hg3)
        have HA3 := Lib.hid (HAY.out.kept hg3 (by simp))
        have HB3 := Lib.hid (HBY.out.kept hg3 (by simp))
        clear hg3 HCA
        by_cases hz : c = 0
        · have HE := Lib.hid (show r = -(cmpAt (6 == 6) ks ks' ns ns' (k + 1)) from by rw [HST2.out, if_pos (by rw [beq_iff_eq]; omega)])
          subst hz
          go_wp2
          go_roundw
          case rel => exact ⟨k + 1, by omega, by go_num, HE, HA3.out, HB3.out, HG3.out⟩
          case measure => simp [intOf]; omega
        · have HE := Lib.hid (show r = c from by rw [HST2.out, if_neg (by rw [beq_iff_eq]; omega)]; omega)
          go_wp2
          go_ret
          exact ⟨by rw [HE.out]; rfl, HG3.out⟩

theorem implCmp_any (w : World) (b1 : Nat) (T : VT) (cs : List Value) (h : VIn w b1 T cs) : ∀ (b2 : Nat) (T' : VT) (cs' : List Value), VIn w b2 T' cs' → ∀ d : Nat, Parts T d → Parts T' d → ∀ W : World, w.grownBy W none →
    Calls Tryz.prog 41 #[.agg cs.toArray, .agg cs'.toArray] W fun e w' => e = .returned (.int .i64 (-(cmpT T T'))) ∧ W.grownBy w' none := by
  induction h with
  | @mk s n t ns ks an ak cn ck CS hn hp hk hcn hck ht hcl hkl hsl hs1 hs2 hn1 hn2 ih =>
    intro b2 T' cs' h' d hd hd' W hW
    cases h' with
    | @mk s' n' t' ns' ks' an' ak' cn' ck' CS' hn' hp' hk' hcn' hck' ht' hcl' hkl' hsl' hs1' hs2' hn1' hn2' =>
      exact implCmp_node w b1 b2 d s n s' n' t t' ns ns' ks ks' an ak an' ak' cn ck cn' ck' CS CS' hn hp hn' hp' hd hd'
        (fun j k k' hj hj' X hX => ih j k hj b2 k' (CS' j) (hk' j k' hj') (d + 1) (parts_kids hd j k hj) (parts_kids hd' j k' hj') X hX) W hW
end Go.Proofs.YtgmigloafcejdaaGreatDoor

