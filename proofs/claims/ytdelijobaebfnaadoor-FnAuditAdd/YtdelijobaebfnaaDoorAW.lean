/- An entry added to an audit, by the document: of a list with room behind it. -/
import Derived.Test.YtdelijobaebfnaaDoorAS
namespace Go.Proofs.YtdelijobaebfnaaDoor
open Go.RowKit

/-- entries lie at the beginning of a block -/
def EC (w : World) (g : Nat) (es : List AE) : Prop := g < w.heap.size ∧ ∀ j u, (entsV es)[j]? = some u → w.cell? ⟨g, j, none⟩ = some u
theorem EC.kept {w w' : World} {g : Nat} {es : List AE} {row : Option Nat} (h : EC w g es) (hg : w.grownBy w' row) (hne : some g ≠ row) : EC w' g es := ⟨Nat.lt_of_lt_of_le h.1 hg.size, fun j u hu => hg.cell (h.2 j u hu) hne⟩
theorem EC.of {w : World} {g : Nat} {es : List AE} (h : Blk w g 28 (entsV es)) : EC w g es := ⟨h.lt, fun _ _ hu => h.cell hu⟩
theorem EC.ents {w : World} {g : Nat} {es : List AE} (h : EC w g es) : ELies w g (some ⟨g, 0, none⟩) es := by
  refine .inr ⟨g, 0, rfl, Nat.le_refl _, fun j hj => ?_⟩
  obtain ⟨e0, e1, e2, e3, e4⟩ := entsV_get es j hj
  rw [show 0 + j * 5 = j * 5 from by omega]
  exact ⟨h.2 _ _ e0, h.2 _ _ e1, h.2 _ _ e2, h.2 _ _ e3, h.2 _ _ e4⟩
theorem EC.take {w : World} {g : Nat} {es : List AE} (h : EC w g es) (k : Nat) : EC w g (es.take k) := by
  refine ⟨h.1, fun j u hu => h.2 j u ?_⟩
  have e : entsV es = entsV (es.take k) ++ entsV (es.drop k) := by rw [← entsV_app, List.take_append_drop]
  rw [e, List.getElem?_append_left (List.getElem?_eq_some_iff.1 hu).1]
  exact hu
theorem owns_low5 {w : World} {lo lo' n : Nat} {v : Value} {xs : List Value} (h : w.ownsRow lo 28 5 v n xs) (hb : lo' ≤ lo) : w.ownsRow lo' 28 5 v n xs := by
  refine ⟨h.1, ?_⟩
  rcases h.2 with h | ⟨g, cap, cur, e, hlo, r⟩
  · exact .inl h
  · exact .inr ⟨g, cap, cur, e, Nat.le_trans hb hlo, r⟩
/-- the cells of a row of entries -/
theorem ec_of_owns {w : World} {lo n : Nat} {v : Value} {M : List AE} (h : w.ownsRow lo 28 5 v n (entsV M)) (hn : n = M.length) (h0 : 0 < n) : ∃ g cn, v = .slice (some ⟨g, 0, none⟩) M.length cn ∧ lo ≤ g ∧ M.length ≤ cn ∧ EC w g M := by
  subst hn
  rcases h.2 with ⟨rfl, h0'⟩ | ⟨g, cap, cur, rfl, hlo, hb, hcap, -, hsz, htk⟩
  · omega
  · refine ⟨g, cap, rfl, hlo, hcap, (Array.getElem?_eq_some_iff.1 hb).1, fun i u hu => ?_⟩
    rw [← htk] at hu
    have hb' : Blk w g 28 cur.toList := by unfold Blk; rw [Array.toArray_toList]; exact hb
    have hi : i < M.length * 5 := by
      have := (List.getElem?_eq_some_iff.1 hu).1
      simp only [List.length_take] at this
      omega
    rw [List.getElem?_take_of_lt hi] at hu
    exact hb'.cell hu

set_option maxRecDepth 100000 in
set_option maxHeartbeats 32000000 in
theorem sl9g_any (w : World) (es : List AE) (g cp : Nat) (hb : EC w g es) (hz : EZ es) (ten wha det : ByteArray) (hn : es.length < 200) (he : EntOk ten wha det) :
    Calls Tryd.prog 39 #[.slice (some ⟨g, 0, none⟩) es.length cp, .string ten, .string wha, .string det] w fun e w' => (∃ g' cn, e = .returned (.slice (some ⟨g', 0, none⟩) (es.length + 1) cn) ∧ w.heap.size ≤ g' ∧ es.length + 1 ≤ cn ∧ EC w' g' (es ++ [addE es ten wha det]) ∧ w'.ownsRow w.heap.size 28 5 (.slice (some ⟨g', 0, none⟩) (es.length + 1) cn) (es.length + 1) (entsV (es ++ [addE es ten wha det]))) ∧ w.grownBy w' none := by
  obtain ⟨W, hW⟩ : ∃ W, w.alloc (Obj.cells #[Value.int .i64 ((es.length : Int) + 1), .string ten, .string wha, .string det, .string ⟨#[]⟩] 28) = W := ⟨_, rfl⟩
  obtain ⟨X, hX⟩ : ∃ x, w.heap.size = x := ⟨_, rfl⟩
  have hg := (show w.grownBy W none from by rw [← hW]; exact grown_alloc (grown_refl _ _) _)
  have HG := Lib.hid hg
  have HXD := Lib.hid (show Blk W.drew X 28 [.int .i64 ((es.length : Int) + 1), .string ten, .string wha, .string det, .string ⟨#[]⟩] from by rw [← hW, ← hX]; exact Blk.new w 28 _)
  have HBW := Lib.hid (hb.kept hg (by simp))
  have HXW := Lib.hid (show w.heap.size ≤ X ∧ g < X from ⟨by omega, by have := hb.1; omega⟩)
  have HLS := Lib.hid (lastE_small es (fun e he => (hz e he).2.2.2) es.length)
  obtain ⟨LB, hLB⟩ : ∃ x, lastE es es.length = x := ⟨_, rfl⟩
  have HLA := Lib.hid (fun (V : World) (hV : W.grownBy V (some X)) => slast_any V es es.length cp (some ⟨g, 0, none⟩) 0 ((HBW.out.kept hV (by have := HXW.out; simp; omega)).ents.elim (fun h => .inl h) (fun ⟨ab, o, e, _, h⟩ => .inr ⟨ab, o, e, Nat.zero_le _, h⟩)) (Nat.le_refl _) (by omega))
  rw [hLB] at HLS HLA
  have HSU := Lib.hid (fun (V : World) => show Calls Tryd.prog 27 #[.string LB, .agg #[.int .i64 ((es.length : Int) + 1), .string ten, .string wha, .string det, .string ⟨#[]⟩]] V (fun e w' => e = .returned (.string (sumE LB (es.length + 1) ten wha det)) ∧ V.grownBy w' none) from by
    have := ssum_any V LB (es.length + 1) ten wha det ⟨#[]⟩ (by omega) (sum_small LB (es.length + 1) ten wha det (by omega) HLS.out he)
    rw [show ((es.length + 1 : Nat) : Int) = (es.length : Int) + 1 from by omega] at this
    exact this)
  obtain ⟨SE, hSE⟩ : ∃ x, sumE LB (es.length + 1) ten wha det = x := ⟨_, rfl⟩
  rw [hSE] at HSU
  have HAE := Lib.hid (show addE es ten wha det = ⟨(es.length : Int) + 1, ten, wha, det, SE⟩ from by unfold addE; rw [hLB, hSE])
  have HW := Lib.hid hW
  have HXE := Lib.hid hX
  have HN := Lib.hid hn
  have hnI : (es.length : Int) ≤ 200 := by omega
  clear hW hX hg hb hLB hSE he
  go_enter Tryd.func39, Tryd.ntmps39
  go_wp2
  rw [HW.out, HXE.out]
  refine wp_region_held_drew (S := fun V => W.grownBy V (some X)) (by kernel_rfl) (grown_drew (grown_refl _ _)) (fun hS => ?_)
  generalize W.drew = V0 at hS HXD ⊢
  try dsimp only at hS
  refine wpAnyH_take (i := 0) (oi := ⟨some 17, _, _, _, _, _⟩) (v := (.slice (some ⟨g, 0, none⟩) es.length cp)) rfl (by kernel_rfl) (by kernel_rfl) (by kernel_rfl) (fun _ _ _ h => h) (Or.inl ⟨by kernel_rfl, fun w' hSw => ?_⟩) hS ?_
  · go_simp
    all_goals first | rfl | (simp [*]; done)
  simp only [Act.put, List.setIfInBounds_toArray, List.set_cons_zero, List.set_cons_succ]
  refine wpAnyH_ready (rs := [1, 2]) (by kernel_rfl) (by simp) ?_
  refine AllReadyH.cons (o := ⟨some 18, _, _, _, _, _⟩) rfl (fun K hK => ?_) (AllReadyH.cons (o := ⟨some 19, _, _, _, _, _⟩) rfl (fun K hK => ?_) AllReadyH.nil)
  · skip
    go_simp
    refine (HLA.out _ hS).mono ?_
    rintro e wx ⟨rfl, hwx⟩
    have hwx := hwx.symm
    subst hwx
    go_simp
    refine hK.out _ _ hS (fun hS => ?_)
    clear hK
    refine wpAnyH_ready (rs := [2]) (by kernel_rfl) (by simp) ?_
    refine AllReadyH.cons (o := ⟨some 19, _, _, _, _, _⟩) rfl (fun K hK => ?_) AllReadyH.nil
    have k0 : V0.cell? ⟨X, 0, none⟩ = some (.int .i64 ((es.length : Int) + 1)) := HXD.out.cell rfl
    have k1 : V0.cell? ⟨X, 1, none⟩ = some (.string ten) := HXD.out.cell rfl
    have k2 : V0.cell? ⟨X, 2, none⟩ = some (.string wha) := HXD.out.cell rfl
    have k3 : V0.cell? ⟨X, 3, none⟩ = some (.string det) := HXD.out.cell rfl
    have k4 : V0.cell? ⟨X, 4, none⟩ = some (.string ⟨#[]⟩) := HXD.out.cell rfl
    go_simp
    refine hK.out _ _ hS (fun hS => ?_)
    clear hK k0 k1 k2 k3 k4
    refine wpAnyH_ready (rs := [3]) (by kernel_rfl) (by simp) ?_
    refine AllReadyH.cons (o := ⟨some 20, _, _, _, _, _⟩) rfl (fun K hK => ?_) AllReadyH.nil
    go_simp
    refine (HSU.out _).mono ?_
    rintro e wa ⟨rfl, hga⟩
    go_simp
    have HXD' := Lib.hid (HXD.out.kept hga (by simp))
    clear HXD
    have HXD := HXD'
    clear HXD'
    have hS := grown_trans hS (grown_widen hga)
    refine hK.out _ _ hS (fun hS => ?_)
    clear hK hga
    refine wpAnyH_take (i := 4) (oi := ⟨some 21, _, _, _, _, _⟩) (v := (.pointer (some ⟨X, 4, none⟩))) rfl (by kernel_rfl) (by kernel_rfl) (by kernel_rfl) (fun _ _ _ h => h) (Or.inl ⟨by kernel_rfl, fun w' hSw => ?_⟩) hS ?_
    · go_simp
      all_goals first | rfl | (simp [*]; done)
    simp only [Act.put, List.setIfInBounds_toArray, List.set_cons_zero, List.set_cons_succ]
    refine wpAnyH_ready (rs := [5]) (by kernel_rfl) (by simp) ?_
    refine AllReadyH.cons (o := ⟨none, _, _, _, _, _⟩) rfl (fun K hK => ?_) AllReadyH.nil
    have k4 : wa.cell? ⟨X, 4, none⟩ = some (.string ⟨#[]⟩) := HXD.out.cell rfl
    have f4 := HXD.out.frozen 4
    go_simp
    obtain ⟨ws, hws⟩ : ∃ x, wa.setCell ⟨X, 4, none⟩ (.string SE) = x := ⟨_, rfl⟩
    have hgs : wa.grownBy ws (some X) := by rw [← hws]; exact grown_set (grown_refl wa _) 4 _
    have HXS := Lib.hid (show Blk ws X 28 [.int .i64 ((es.length : Int) + 1), .string ten, .string wha, .string det, .string SE] from by rw [← hws]; exact HXD.out.set 4 (.string SE))
    rw [hws]
    have hS := grown_trans hS hgs
    clear hws hgs k4 f4
    refine hK.out _ _ hS (fun hS => ?_)
    clear hK
    refine wpAnyH_done (by kernel_rfl) ?_ _
    have HGS := Lib.hid (grown_into HG.out hS HXW.out.1)
    have HBS := Lib.hid (HBW.out.kept hS (by have := HXW.out; simp; omega))
    have HXS0 := Lib.hid (show ws.cell? ⟨X, 0, none⟩ = some (.int .i64 ((es.length : Int) + 1)) from HXS.out.cell rfl)
    have HXS1 := Lib.hid (show ws.cell? ⟨X, 1, none⟩ = some (.string ten) from HXS.out.cell rfl)
    have HXS2 := Lib.hid (show ws.cell? ⟨X, 2, none⟩ = some (.string wha) from HXS.out.cell rfl)
    have HXS3 := Lib.hid (show ws.cell? ⟨X, 3, none⟩ = some (.string det) from HXS.out.cell rfl)
    have HXS4 := Lib.hid (show ws.cell? ⟨X, 4, none⟩ = some (.string SE) from HXS.out.cell rfl)
    obtain ⟨N0, hN0⟩ : ∃ x, ws.heap.size = x := ⟨_, rfl⟩
    have HN0 := Lib.hid hN0
    clear hN0 hS
    go_wp2
    refine wp_region_held_drew (S := fun V => ws.grownBy V none) (by kernel_rfl) (grown_drew (grown_refl _ _)) (fun hS => ?_)
    generalize ws.drew = V0 at hS  ⊢
    try dsimp only at hS
    refine wpAnyH_take (i := 1) (oi := ⟨some 23, _, _, _, _, _⟩) (v := (.slice (some ⟨g, 0, none⟩) es.length cp)) rfl (by kernel_rfl) (by kernel_rfl) (by kernel_rfl) (fun _ _ _ h => h) (Or.inl ⟨by kernel_rfl, fun w' hSw => ?_⟩) hS ?_
    · go_simp
      all_goals first | rfl | (simp [*]; done)
    simp only [Act.put, List.setIfInBounds_toArray, List.set_cons_zero, List.set_cons_succ]
    refine wpAnyH_take (i := 3) (oi := ⟨some 25, _, _, _, _, _⟩) (v := (.agg #[.int .i64 ((es.length : Int) + 1), .string ten, .string wha, .string det, .string SE])) rfl (by kernel_rfl) (by kernel_rfl) (by kernel_rfl) (fun _ _ _ h => h) (Or.inl ⟨by kernel_rfl, fun w' hSw => ?_⟩) hS ?_
    · have kf0 := World.grownBy.cell hSw HXS0.out (by simp)
      have kf1 := World.grownBy.cell hSw HXS1.out (by simp)
      have kf2 := World.grownBy.cell hSw HXS2.out (by simp)
      have kf3 := World.grownBy.cell hSw HXS3.out (by simp)
      have kf4 := World.grownBy.cell hSw HXS4.out (by simp)
      go_simp
      all_goals first | rfl | (simp [*]; done)
    simp only [Act.put, List.setIfInBounds_toArray, List.set_cons_zero, List.set_cons_succ]
    refine wpAnyH_ready (rs := [0, 4]) (by kernel_rfl) (by simp) ?_
    refine AllReadyH.cons (o := ⟨some 22, _, _, _, _, _⟩) rfl (fun K hK => ?_) (AllReadyH.cons (o := ⟨some 26, _, _, _, _, _⟩) rfl (fun K hK => ?_) AllReadyH.nil)
    · skip
      go_simp
      obtain ⟨VB, hVB⟩ : ∃ x, V0.alloc (Obj.cells #[] 28) = x := ⟨_, rfl⟩
      obtain ⟨GB, hGB⟩ : ∃ x, V0.heap.size = x := ⟨_, rfl⟩
      have hga := (show V0.grownBy VB none from by rw [← hVB]; exact World.grownBy_alloc _ _ none)
      have HRA := Lib.hid (show VB.ownsRow N0 28 5 (.slice (some ⟨GB, 0, none⟩) 0 0) 0 [] from owns_empty (by rw [← hVB, ← hGB]; exact Blk.new V0 28 []) (by have := hS.size; have := HN0.out; omega))
      rw [hVB, hGB]
      clear hVB hGB
      have hS := grown_trans hS hga
      refine hK.out _ _ hS (fun hS => ?_)
      clear hK hga
      refine wpAnyH_ready (rs := [2, 4]) (by kernel_rfl) (by simp) ?_
      refine AllReadyH.cons (o := ⟨some 24, _, _, _, _, _⟩) rfl (fun K hK => ?_) (AllReadyH.cons (o := ⟨some 26, _, _, _, _, _⟩) rfl (fun K hK => ?_) AllReadyH.nil)
      · skip
        refine step_append5 rfl _ _ rfl N0 (.slice (some ⟨GB, 0, none⟩) 0 0) 0 [] rfl HRA.out ⟨g, 0, none⟩ es.length cp (entsV es) rfl (entsV_len _) (fun j u hu => World.grownBy.cell hS ((Addr.add_mid g 0 j).symm ▸ (by rw [Nat.zero_add]; exact HBS.out.2 j u hu)) (by simp)) (entsV_one _) (by have := HN.out; omega) (by have := hS.size; have := HN0.out; omega) ?_
        intro v1 VC hr1 hg1
        have hS2 := grown_own hS hg1 (fun q hq => by have := (HRA.out.lt q hq).1; have := HN0.out; omega)
        have HRB := Lib.hid (show VC.ownsRow N0 28 5 v1 es.length (entsV es) from by rw [Nat.zero_add, List.nil_append] at hr1; exact hr1)
        clear hr1 hg1 HRA
        have hS := hS2
        clear hS2
        refine hK.out _ _ hS (fun hS => ?_)
        clear hK
        refine wpAnyH_ready (rs := [4]) (by kernel_rfl) (by simp) ?_
        refine AllReadyH.cons (o := ⟨some 26, _, _, _, _, _⟩) rfl (fun K hK => ?_) AllReadyH.nil
        go_simp
        obtain ⟨VN, hVN⟩ : ∃ x, VC.alloc (Obj.cells #[Value.int .i64 ((es.length : Int) + 1), .string ten, .string wha, .string det, .string SE] 28) = x := ⟨_, rfl⟩
        obtain ⟨GN, hGN⟩ : ∃ x, VC.heap.size = x := ⟨_, rfl⟩
        have hga := (show VC.grownBy VN none from by rw [← hVN]; exact World.grownBy_alloc _ _ none)
        have HNN := Lib.hid (show Blk VN GN 28 [.int .i64 ((es.length : Int) + 1), .string ten, .string wha, .string det, .string SE] from by rw [← hVN, ← hGN]; exact Blk.new VC 28 [.int .i64 ((es.length : Int) + 1), .string ten, .string wha, .string det, .string SE])
        rw [hVN, hGN]
        clear hVN hGN
        have HRB' := Lib.hid (HRB.out.kept hga (by cases h : v1.ownBlock <;> simp))
        clear HRB
        have HRB := HRB'
        clear HRB'
        have hS := grown_trans hS hga
        refine hK.out _ _ hS (fun hS => ?_)
        clear hK hga
        refine wpAnyH_ready (rs := [5]) (by kernel_rfl) (by simp) ?_
        refine AllReadyH.cons (o := ⟨some 27, _, _, _, _, _⟩) rfl (fun K hK => ?_) AllReadyH.nil
        refine step_append5 rfl _ _ rfl N0 v1 es.length (entsV es) rfl HRB.out ⟨GN, 0, none⟩ 1 1 [.int .i64 ((es.length : Int) + 1), .string ten, .string wha, .string det, .string SE] rfl rfl (fun j u hu => by rw [Addr.add_mid, Nat.zero_add]; exact HNN.out.cell hu) (entV_one _ _ _ _ _) (by have := HN.out; omega) (by have := hS.size; have := HN0.out; omega) ?_
        intro v2 VD hr2 hg2
        have hS2 := grown_own hS hg2 (fun q hq => by have := (HRB.out.lt q hq).1; have := HN0.out; omega)
        have hr3 : VD.ownsRow N0 28 5 v2 (es.length + 1) (entsV (es ++ [addE es ten wha det])) := by rw [entsV_app, HAE.out]; exact hr2
        obtain ⟨g', cn, hv2, hlo, hcn, hec⟩ := ec_of_owns hr3 (by simp) (by omega)
        rw [show (es ++ [addE es ten wha det]).length = es.length + 1 from by simp] at hv2 hcn
        subst hv2
        have HER := Lib.hid (And.intro hlo (And.intro hcn (And.intro hec hr3)))
        clear hr2 hr3 hg2 hlo hcn hec
        have hS := hS2
        clear hS2
        refine hK.out _ _ hS (fun hS => ?_)
        clear hK
        refine wpAnyH_take (i := 6) (oi := ⟨some 8, _, _, _, _, _⟩) (v := (.slice (some ⟨g', 0, none⟩) (es.length + 1) cn)) rfl (by kernel_rfl) (by kernel_rfl) (by kernel_rfl) (fun _ _ _ h => h) (Or.inl ⟨by kernel_rfl, fun w' hSw => ?_⟩) hS ?_
        · go_simp
          all_goals first | rfl | (simp [*]; done)
        simp only [Act.put, List.setIfInBounds_toArray, List.set_cons_zero, List.set_cons_succ]
        refine wpAnyH_done (by kernel_rfl) ?_ _
        have HSE := Lib.hid hS
        clear hS
        go_wp2
        go_ret
        exact ⟨⟨g', cn, rfl, by have := HN0.out; have := HGS.out.size; have := HER.out.1; omega, HER.out.2.1, HER.out.2.2.1, owns_low5 HER.out.2.2.2 (by have := HN0.out; have := HGS.out.size; omega)⟩, grown_trans HGS.out HSE.out⟩
      · skip
        go_simp
        obtain ⟨VN, hVN⟩ : ∃ x, VB.alloc (Obj.cells #[Value.int .i64 ((es.length : Int) + 1), .string ten, .string wha, .string det, .string SE] 28) = x := ⟨_, rfl⟩
        obtain ⟨GN, hGN⟩ : ∃ x, VB.heap.size = x := ⟨_, rfl⟩
        have HGN0 : GB ≠ GN := by have := (HRA.out.lt GB rfl).2; omega
        have hga := (show VB.grownBy VN none from by rw [← hVN]; exact World.grownBy_alloc _ _ none)
        have HNN := Lib.hid (show Blk VN GN 28 [.int .i64 ((es.length : Int) + 1), .string ten, .string wha, .string det, .string SE] from by rw [← hVN, ← hGN]; exact Blk.new VB 28 [.int .i64 ((es.length : Int) + 1), .string ten, .string wha, .string det, .string SE])
        rw [hVN, hGN]
        clear hVN hGN
        have HNG := Lib.hid (show GB ≠ GN from HGN0)
        have HRA' := Lib.hid (owns_grown HRA.out hga)
        clear HRA
        have HRA := HRA'
        clear HRA'
        have hS := grown_trans hS hga
        refine hK.out _ _ hS (fun hS => ?_)
        clear hK hga
        refine wpAnyH_ready (rs := [2]) (by kernel_rfl) (by simp) ?_
        refine AllReadyH.cons (o := ⟨some 24, _, _, _, _, _⟩) rfl (fun K hK => ?_) AllReadyH.nil
        refine step_append5 rfl _ _ rfl N0 (.slice (some ⟨GB, 0, none⟩) 0 0) 0 [] rfl HRA.out ⟨g, 0, none⟩ es.length cp (entsV es) rfl (entsV_len _) (fun j u hu => World.grownBy.cell hS ((Addr.add_mid g 0 j).symm ▸ (by rw [Nat.zero_add]; exact HBS.out.2 j u hu)) (by simp)) (entsV_one _) (by have := HN.out; omega) (by have := hS.size; have := HN0.out; omega) ?_
        intro v1 VC hr1 hg1
        have hS2 := grown_own hS hg1 (fun q hq => by have := (HRA.out.lt q hq).1; have := HN0.out; omega)
        have HNN' := Lib.hid (HNN.out.kept hg1 (fun e => HNG.out (by simpa [Value.ownBlock] using e.symm)))
        clear HNN
        have HNN := HNN'
        clear HNN'
        have HRB := Lib.hid (show VC.ownsRow N0 28 5 v1 es.length (entsV es) from by rw [Nat.zero_add, List.nil_append] at hr1; exact hr1)
        clear hr1 hg1 HRA
        have hS := hS2
        clear hS2
        refine hK.out _ _ hS (fun hS => ?_)
        clear hK
        refine wpAnyH_ready (rs := [5]) (by kernel_rfl) (by simp) ?_
        refine AllReadyH.cons (o := ⟨some 27, _, _, _, _, _⟩) rfl (fun K hK => ?_) AllReadyH.nil
        refine step_append5 rfl _ _ rfl N0 v1 es.length (entsV es) rfl HRB.out ⟨GN, 0, none⟩ 1 1 [.int .i64 ((es.length : Int) + 1), .string ten, .string wha, .string det, .string SE] rfl rfl (fun j u hu => by rw [Addr.add_mid, Nat.zero_add]; exact HNN.out.cell hu) (entV_one _ _ _ _ _) (by have := HN.out; omega) (by have := hS.size; have := HN0.out; omega) ?_
        intro v2 VD hr2 hg2
        have hS2 := grown_own hS hg2 (fun q hq => by have := (HRB.out.lt q hq).1; have := HN0.out; omega)
        have hr3 : VD.ownsRow N0 28 5 v2 (es.length + 1) (entsV (es ++ [addE es ten wha det])) := by rw [entsV_app, HAE.out]; exact hr2
        obtain ⟨g', cn, hv2, hlo, hcn, hec⟩ := ec_of_owns hr3 (by simp) (by omega)
        rw [show (es ++ [addE es ten wha det]).length = es.length + 1 from by simp] at hv2 hcn
        subst hv2
        have HER := Lib.hid (And.intro hlo (And.intro hcn (And.intro hec hr3)))
        clear hr2 hr3 hg2 hlo hcn hec
        have hS := hS2
        clear hS2
        refine hK.out _ _ hS (fun hS => ?_)
        clear hK
        refine wpAnyH_take (i := 6) (oi := ⟨some 8, _, _, _, _, _⟩) (v := (.slice (some ⟨g', 0, none⟩) (es.length + 1) cn)) rfl (by kernel_rfl) (by kernel_rfl) (by kernel_rfl) (fun _ _ _ h => h) (Or.inl ⟨by kernel_rfl, fun w' hSw => ?_⟩) hS ?_
        · go_simp
          all_goals first | rfl | (simp [*]; done)
        simp only [Act.put, List.setIfInBounds_toArray, List.set_cons_zero, List.set_cons_succ]
        refine wpAnyH_done (by kernel_rfl) ?_ _
        have HSE := Lib.hid hS
        clear hS
        go_wp2
        go_ret
        exact ⟨⟨g', cn, rfl, by have := HN0.out; have := HGS.out.size; have := HER.out.1; omega, HER.out.2.1, HER.out.2.2.1, owns_low5 HER.out.2.2.2 (by have := HN0.out; have := HGS.out.size; omega)⟩, grown_trans HGS.out HSE.out⟩
    · skip
      go_simp
      obtain ⟨VN, hVN⟩ : ∃ x, V0.alloc (Obj.cells #[Value.int .i64 ((es.length : Int) + 1), .string ten, .string wha, .string det, .string SE] 28) = x := ⟨_, rfl⟩
      obtain ⟨GN, hGN⟩ : ∃ x, V0.heap.size = x := ⟨_, rfl⟩
      have hga := (show V0.grownBy VN none from by rw [← hVN]; exact World.grownBy_alloc _ _ none)
      have HNN := Lib.hid (show Blk VN GN 28 [.int .i64 ((es.length : Int) + 1), .string ten, .string wha, .string det, .string SE] from by rw [← hVN, ← hGN]; exact Blk.new V0 28 [.int .i64 ((es.length : Int) + 1), .string ten, .string wha, .string det, .string SE])
      rw [hVN, hGN]
      clear hVN hGN
      have hS := grown_trans hS hga
      refine hK.out _ _ hS (fun hS => ?_)
      clear hK hga
      refine wpAnyH_ready (rs := [0]) (by kernel_rfl) (by simp) ?_
      refine AllReadyH.cons (o := ⟨some 22, _, _, _, _, _⟩) rfl (fun K hK => ?_) AllReadyH.nil
      go_simp
      obtain ⟨VB, hVB⟩ : ∃ x, VN.alloc (Obj.cells #[] 28) = x := ⟨_, rfl⟩
      obtain ⟨GB, hGB⟩ : ∃ x, VN.heap.size = x := ⟨_, rfl⟩
      have HGN0 : GB ≠ GN := by have := HNN.out.lt; omega
      have hga := (show VN.grownBy VB none from by rw [← hVB]; exact World.grownBy_alloc _ _ none)
      have HRA := Lib.hid (show VB.ownsRow N0 28 5 (.slice (some ⟨GB, 0, none⟩) 0 0) 0 [] from owns_empty (by rw [← hVB, ← hGB]; exact Blk.new VN 28 []) (by have := hS.size; have := HN0.out; omega))
      rw [hVB, hGB]
      clear hVB hGB
      have HNG := Lib.hid (show GB ≠ GN from HGN0)
      have HNN' := Lib.hid (HNN.out.kept hga (by simp))
      clear HNN
      have HNN := HNN'
      clear HNN'
      have hS := grown_trans hS hga
      refine hK.out _ _ hS (fun hS => ?_)
      clear hK hga
      refine wpAnyH_ready (rs := [2]) (by kernel_rfl) (by simp) ?_
      refine AllReadyH.cons (o := ⟨some 24, _, _, _, _, _⟩) rfl (fun K hK => ?_) AllReadyH.nil
      refine step_append5 rfl _ _ rfl N0 (.slice (some ⟨GB, 0, none⟩) 0 0) 0 [] rfl HRA.out ⟨g, 0, none⟩ es.length cp (entsV es) rfl (entsV_len _) (fun j u hu => World.grownBy.cell hS ((Addr.add_mid g 0 j).symm ▸ (by rw [Nat.zero_add]; exact HBS.out.2 j u hu)) (by simp)) (entsV_one _) (by have := HN.out; omega) (by have := hS.size; have := HN0.out; omega) ?_
      intro v1 VC hr1 hg1
      have hS2 := grown_own hS hg1 (fun q hq => by have := (HRA.out.lt q hq).1; have := HN0.out; omega)
      have HNN' := Lib.hid (HNN.out.kept hg1 (fun e => HNG.out (by simpa [Value.ownBlock] using e.symm)))
      clear HNN
      have HNN := HNN'
      clear HNN'
      have HRB := Lib.hid (show VC.ownsRow N0 28 5 v1 es.length (entsV es) from by rw [Nat.zero_add, List.nil_append] at hr1; exact hr1)
      clear hr1 hg1 HRA
      have hS := hS2
      clear hS2
      refine hK.out _ _ hS (fun hS => ?_)
      clear hK
      refine wpAnyH_ready (rs := [5]) (by kernel_rfl) (by simp) ?_
      refine AllReadyH.cons (o := ⟨some 27, _, _, _, _, _⟩) rfl (fun K hK => ?_) AllReadyH.nil
      refine step_append5 rfl _ _ rfl N0 v1 es.length (entsV es) rfl HRB.out ⟨GN, 0, none⟩ 1 1 [.int .i64 ((es.length : Int) + 1), .string ten, .string wha, .string det, .string SE] rfl rfl (fun j u hu => by rw [Addr.add_mid, Nat.zero_add]; exact HNN.out.cell hu) (entV_one _ _ _ _ _) (by have := HN.out; omega) (by have := hS.size; have := HN0.out; omega) ?_
      intro v2 VD hr2 hg2
      have hS2 := grown_own hS hg2 (fun q hq => by have := (HRB.out.lt q hq).1; have := HN0.out; omega)
      have hr3 : VD.ownsRow N0 28 5 v2 (es.length + 1) (entsV (es ++ [addE es ten wha det])) := by rw [entsV_app, HAE.out]; exact hr2
      obtain ⟨g', cn, hv2, hlo, hcn, hec⟩ := ec_of_owns hr3 (by simp) (by omega)
      rw [show (es ++ [addE es ten wha det]).length = es.length + 1 from by simp] at hv2 hcn
      subst hv2
      have HER := Lib.hid (And.intro hlo (And.intro hcn (And.intro hec hr3)))
      clear hr2 hr3 hg2 hlo hcn hec
      have hS := hS2
      clear hS2
      refine hK.out _ _ hS (fun hS => ?_)
      clear hK
      refine wpAnyH_take (i := 6) (oi := ⟨some 8, _, _, _, _, _⟩) (v := (.slice (some ⟨g', 0, none⟩) (es.length + 1) cn)) rfl (by kernel_rfl) (by kernel_rfl) (by kernel_rfl) (fun _ _ _ h => h) (Or.inl ⟨by kernel_rfl, fun w' hSw => ?_⟩) hS ?_
      · go_simp
        all_goals first | rfl | (simp [*]; done)
      simp only [Act.put, List.setIfInBounds_toArray, List.set_cons_zero, List.set_cons_succ]
      refine wpAnyH_done (by kernel_rfl) ?_ _
      have HSE := Lib.hid hS
      clear hS
      go_wp2
      go_ret
      exact ⟨⟨g', cn, rfl, by have := HN0.out; have := HGS.out.size; have := HER.out.1; omega, HER.out.2.1, HER.out.2.2.1, owns_low5 HER.out.2.2.2 (by have := HN0.out; have := HGS.out.size; omega)⟩, grown_trans HGS.out HSE.out⟩
  · skip
    have k0 : V0.cell? ⟨X, 0, none⟩ = some (.int .i64 ((es.length : Int) + 1)) := HXD.out.cell rfl
    have k1 : V0.cell? ⟨X, 1, none⟩ = some (.string ten) := HXD.out.cell rfl
    have k2 : V0.cell? ⟨X, 2, none⟩ = some (.string wha) := HXD.out.cell rfl
    have k3 : V0.cell? ⟨X, 3, none⟩ = some (.string det) := HXD.out.cell rfl
    have k4 : V0.cell? ⟨X, 4, none⟩ = some (.string ⟨#[]⟩) := HXD.out.cell rfl
    go_simp
    refine hK.out _ _ hS (fun hS => ?_)
    clear hK k0 k1 k2 k3 k4
    refine wpAnyH_ready (rs := [1]) (by kernel_rfl) (by simp) ?_
    refine AllReadyH.cons (o := ⟨some 18, _, _, _, _, _⟩) rfl (fun K hK => ?_) AllReadyH.nil
    go_simp
    refine (HLA.out _ hS).mono ?_
    rintro e wx ⟨rfl, hwx⟩
    have hwx := hwx.symm
    subst hwx
    go_simp
    refine hK.out _ _ hS (fun hS => ?_)
    clear hK
    refine wpAnyH_ready (rs := [3]) (by kernel_rfl) (by simp) ?_
    refine AllReadyH.cons (o := ⟨some 20, _, _, _, _, _⟩) rfl (fun K hK => ?_) AllReadyH.nil
    go_simp
    refine (HSU.out _).mono ?_
    rintro e wa ⟨rfl, hga⟩
    go_simp
    have HXD' := Lib.hid (HXD.out.kept hga (by simp))
    clear HXD
    have HXD := HXD'
    clear HXD'
    have hS := grown_trans hS (grown_widen hga)
    refine hK.out _ _ hS (fun hS => ?_)
    clear hK hga
    refine wpAnyH_take (i := 4) (oi := ⟨some 21, _, _, _, _, _⟩) (v := (.pointer (some ⟨X, 4, none⟩))) rfl (by kernel_rfl) (by kernel_rfl) (by kernel_rfl) (fun _ _ _ h => h) (Or.inl ⟨by kernel_rfl, fun w' hSw => ?_⟩) hS ?_
    · go_simp
      all_goals first | rfl | (simp [*]; done)
    simp only [Act.put, List.setIfInBounds_toArray, List.set_cons_zero, List.set_cons_succ]
    refine wpAnyH_ready (rs := [5]) (by kernel_rfl) (by simp) ?_
    refine AllReadyH.cons (o := ⟨none, _, _, _, _, _⟩) rfl (fun K hK => ?_) AllReadyH.nil
    have k4 : wa.cell? ⟨X, 4, none⟩ = some (.string ⟨#[]⟩) := HXD.out.cell rfl
    have f4 := HXD.out.frozen 4
    go_simp
    obtain ⟨ws, hws⟩ : ∃ x, wa.setCell ⟨X, 4, none⟩ (.string SE) = x := ⟨_, rfl⟩
    have hgs : wa.grownBy ws (some X) := by rw [← hws]; exact grown_set (grown_refl wa _) 4 _
    have HXS := Lib.hid (show Blk ws X 28 [.int .i64 ((es.length : Int) + 1), .string ten, .string wha, .string det, .string SE] from by rw [← hws]; exact HXD.out.set 4 (.string SE))
    rw [hws]
    have hS := grown_trans hS hgs
    clear hws hgs k4 f4
    refine hK.out _ _ hS (fun hS => ?_)
    clear hK
    refine wpAnyH_done (by kernel_rfl) ?_ _
    have HGS := Lib.hid (grown_into HG.out hS HXW.out.1)
    have HBS := Lib.hid (HBW.out.kept hS (by have := HXW.out; simp; omega))
    have HXS0 := Lib.hid (show ws.cell? ⟨X, 0, none⟩ = some (.int .i64 ((es.length : Int) + 1)) from HXS.out.cell rfl)
    have HXS1 := Lib.hid (show ws.cell? ⟨X, 1, none⟩ = some (.string ten) from HXS.out.cell rfl)
    have HXS2 := Lib.hid (show ws.cell? ⟨X, 2, none⟩ = some (.string wha) from HXS.out.cell rfl)
    have HXS3 := Lib.hid (show ws.cell? ⟨X, 3, none⟩ = some (.string det) from HXS.out.cell rfl)
    have HXS4 := Lib.hid (show ws.cell? ⟨X, 4, none⟩ = some (.string SE) from HXS.out.cell rfl)
    obtain ⟨N0, hN0⟩ : ∃ x, ws.heap.size = x := ⟨_, rfl⟩
    have HN0 := Lib.hid hN0
    clear hN0 hS
    go_wp2
    refine wp_region_held_drew (S := fun V => ws.grownBy V none) (by kernel_rfl) (grown_drew (grown_refl _ _)) (fun hS => ?_)
    generalize ws.drew = V0 at hS  ⊢
    try dsimp only at hS
    refine wpAnyH_take (i := 1) (oi := ⟨some 23, _, _, _, _, _⟩) (v := (.slice (some ⟨g, 0, none⟩) es.length cp)) rfl (by kernel_rfl) (by kernel_rfl) (by kernel_rfl) (fun _ _ _ h => h) (Or.inl ⟨by kernel_rfl, fun w' hSw => ?_⟩) hS ?_
    · go_simp
      all_goals first | rfl | (simp [*]; done)
    simp only [Act.put, List.setIfInBounds_toArray, List.set_cons_zero, List.set_cons_succ]
    refine wpAnyH_take (i := 3) (oi := ⟨some 25, _, _, _, _, _⟩) (v := (.agg #[.int .i64 ((es.length : Int) + 1), .string ten, .string wha, .string det, .string SE])) rfl (by kernel_rfl) (by kernel_rfl) (by kernel_rfl) (fun _ _ _ h => h) (Or.inl ⟨by kernel_rfl, fun w' hSw => ?_⟩) hS ?_
    · have kf0 := World.grownBy.cell hSw HXS0.out (by simp)
      have kf1 := World.grownBy.cell hSw HXS1.out (by simp)
      have kf2 := World.grownBy.cell hSw HXS2.out (by simp)
      have kf3 := World.grownBy.cell hSw HXS3.out (by simp)
      have kf4 := World.grownBy.cell hSw HXS4.out (by simp)
      go_simp
      all_goals first | rfl | (simp [*]; done)
    simp only [Act.put, List.setIfInBounds_toArray, List.set_cons_zero, List.set_cons_succ]
    refine wpAnyH_ready (rs := [0, 4]) (by kernel_rfl) (by simp) ?_
    refine AllReadyH.cons (o := ⟨some 22, _, _, _, _, _⟩) rfl (fun K hK => ?_) (AllReadyH.cons (o := ⟨some 26, _, _, _, _, _⟩) rfl (fun K hK => ?_) AllReadyH.nil)
    · skip
      go_simp
      obtain ⟨VB, hVB⟩ : ∃ x, V0.alloc (Obj.cells #[] 28) = x := ⟨_, rfl⟩
      obtain ⟨GB, hGB⟩ : ∃ x, V0.heap.size = x := ⟨_, rfl⟩
      have hga := (show V0.grownBy VB none from by rw [← hVB]; exact World.grownBy_alloc _ _ none)
      have HRA := Lib.hid (show VB.ownsRow N0 28 5 (.slice (some ⟨GB, 0, none⟩) 0 0) 0 [] from owns_empty (by rw [← hVB, ← hGB]; exact Blk.new V0 28 []) (by have := hS.size; have := HN0.out; omega))
      rw [hVB, hGB]
      clear hVB hGB
      have hS := grown_trans hS hga
      refine hK.out _ _ hS (fun hS => ?_)
      clear hK hga
      refine wpAnyH_ready (rs := [2, 4]) (by kernel_rfl) (by simp) ?_
      refine AllReadyH.cons (o := ⟨some 24, _, _, _, _, _⟩) rfl (fun K hK => ?_) (AllReadyH.cons (o := ⟨some 26, _, _, _, _, _⟩) rfl (fun K hK => ?_) AllReadyH.nil)
      · skip
        refine step_append5 rfl _ _ rfl N0 (.slice (some ⟨GB, 0, none⟩) 0 0) 0 [] rfl HRA.out ⟨g, 0, none⟩ es.length cp (entsV es) rfl (entsV_len _) (fun j u hu => World.grownBy.cell hS ((Addr.add_mid g 0 j).symm ▸ (by rw [Nat.zero_add]; exact HBS.out.2 j u hu)) (by simp)) (entsV_one _) (by have := HN.out; omega) (by have := hS.size; have := HN0.out; omega) ?_
        intro v1 VC hr1 hg1
        have hS2 := grown_own hS hg1 (fun q hq => by have := (HRA.out.lt q hq).1; have := HN0.out; omega)
        have HRB := Lib.hid (show VC.ownsRow N0 28 5 v1 es.length (entsV es) from by rw [Nat.zero_add, List.nil_append] at hr1; exact hr1)
        clear hr1 hg1 HRA
        have hS := hS2
        clear hS2
        refine hK.out _ _ hS (fun hS => ?_)
        clear hK
        refine wpAnyH_ready (rs := [4]) (by kernel_rfl) (by simp) ?_
        refine AllReadyH.cons (o := ⟨some 26, _, _, _, _, _⟩) rfl (fun K hK => ?_) AllReadyH.nil
        go_simp
        obtain ⟨VN, hVN⟩ : ∃ x, VC.alloc (Obj.cells #[Value.int .i64 ((es.length : Int) + 1), .string ten, .string wha, .string det, .string SE] 28) = x := ⟨_, rfl⟩
        obtain ⟨GN, hGN⟩ : ∃ x, VC.heap.size = x := ⟨_, rfl⟩
        have hga := (show VC.grownBy VN none from by rw [← hVN]; exact World.grownBy_alloc _ _ none)
        have HNN := Lib.hid (show Blk VN GN 28 [.int .i64 ((es.length : Int) + 1), .string ten, .string wha, .string det, .string SE] from by rw [← hVN, ← hGN]; exact Blk.new VC 28 [.int .i64 ((es.length : Int) + 1), .string ten, .string wha, .string det, .string SE])
        rw [hVN, hGN]
        clear hVN hGN
        have HRB' := Lib.hid (HRB.out.kept hga (by cases h : v1.ownBlock <;> simp))
        clear HRB
        have HRB := HRB'
        clear HRB'
        have hS := grown_trans hS hga
        refine hK.out _ _ hS (fun hS => ?_)
        clear hK hga
        refine wpAnyH_ready (rs := [5]) (by kernel_rfl) (by simp) ?_
        refine AllReadyH.cons (o := ⟨some 27, _, _, _, _, _⟩) rfl (fun K hK => ?_) AllReadyH.nil
        refine step_append5 rfl _ _ rfl N0 v1 es.length (entsV es) rfl HRB.out ⟨GN, 0, none⟩ 1 1 [.int .i64 ((es.length : Int) + 1), .string ten, .string wha, .string det, .string SE] rfl rfl (fun j u hu => by rw [Addr.add_mid, Nat.zero_add]; exact HNN.out.cell hu) (entV_one _ _ _ _ _) (by have := HN.out; omega) (by have := hS.size; have := HN0.out; omega) ?_
        intro v2 VD hr2 hg2
        have hS2 := grown_own hS hg2 (fun q hq => by have := (HRB.out.lt q hq).1; have := HN0.out; omega)
        have hr3 : VD.ownsRow N0 28 5 v2 (es.length + 1) (entsV (es ++ [addE es ten wha det])) := by rw [entsV_app, HAE.out]; exact hr2
        obtain ⟨g', cn, hv2, hlo, hcn, hec⟩ := ec_of_owns hr3 (by simp) (by omega)
        rw [show (es ++ [addE es ten wha det]).length = es.length + 1 from by simp] at hv2 hcn
        subst hv2
        have HER := Lib.hid (And.intro hlo (And.intro hcn (And.intro hec hr3)))
        clear hr2 hr3 hg2 hlo hcn hec
        have hS := hS2
        clear hS2
        refine hK.out _ _ hS (fun hS => ?_)
        clear hK
        refine wpAnyH_take (i := 6) (oi := ⟨some 8, _, _, _, _, _⟩) (v := (.slice (some ⟨g', 0, none⟩) (es.length + 1) cn)) rfl (by kernel_rfl) (by kernel_rfl) (by kernel_rfl) (fun _ _ _ h => h) (Or.inl ⟨by kernel_rfl, fun w' hSw => ?_⟩) hS ?_
        · go_simp
          all_goals first | rfl | (simp [*]; done)
        simp only [Act.put, List.setIfInBounds_toArray, List.set_cons_zero, List.set_cons_succ]
        refine wpAnyH_done (by kernel_rfl) ?_ _
        have HSE := Lib.hid hS
        clear hS
        go_wp2
        go_ret
        exact ⟨⟨g', cn, rfl, by have := HN0.out; have := HGS.out.size; have := HER.out.1; omega, HER.out.2.1, HER.out.2.2.1, owns_low5 HER.out.2.2.2 (by have := HN0.out; have := HGS.out.size; omega)⟩, grown_trans HGS.out HSE.out⟩
      · skip
        go_simp
        obtain ⟨VN, hVN⟩ : ∃ x, VB.alloc (Obj.cells #[Value.int .i64 ((es.length : Int) + 1), .string ten, .string wha, .string det, .string SE] 28) = x := ⟨_, rfl⟩
        obtain ⟨GN, hGN⟩ : ∃ x, VB.heap.size = x := ⟨_, rfl⟩
        have HGN0 : GB ≠ GN := by have := (HRA.out.lt GB rfl).2; omega
        have hga := (show VB.grownBy VN none from by rw [← hVN]; exact World.grownBy_alloc _ _ none)
        have HNN := Lib.hid (show Blk VN GN 28 [.int .i64 ((es.length : Int) + 1), .string ten, .string wha, .string det, .string SE] from by rw [← hVN, ← hGN]; exact Blk.new VB 28 [.int .i64 ((es.length : Int) + 1), .string ten, .string wha, .string det, .string SE])
        rw [hVN, hGN]
        clear hVN hGN
        have HNG := Lib.hid (show GB ≠ GN from HGN0)
        have HRA' := Lib.hid (owns_grown HRA.out hga)
        clear HRA
        have HRA := HRA'
        clear HRA'
        have hS := grown_trans hS hga
        refine hK.out _ _ hS (fun hS => ?_)
        clear hK hga
        refine wpAnyH_ready (rs := [2]) (by kernel_rfl) (by simp) ?_
        refine AllReadyH.cons (o := ⟨some 24, _, _, _, _, _⟩) rfl (fun K hK => ?_) AllReadyH.nil
        refine step_append5 rfl _ _ rfl N0 (.slice (some ⟨GB, 0, none⟩) 0 0) 0 [] rfl HRA.out ⟨g, 0, none⟩ es.length cp (entsV es) rfl (entsV_len _) (fun j u hu => World.grownBy.cell hS ((Addr.add_mid g 0 j).symm ▸ (by rw [Nat.zero_add]; exact HBS.out.2 j u hu)) (by simp)) (entsV_one _) (by have := HN.out; omega) (by have := hS.size; have := HN0.out; omega) ?_
        intro v1 VC hr1 hg1
        have hS2 := grown_own hS hg1 (fun q hq => by have := (HRA.out.lt q hq).1; have := HN0.out; omega)
        have HNN' := Lib.hid (HNN.out.kept hg1 (fun e => HNG.out (by simpa [Value.ownBlock] using e.symm)))
        clear HNN
        have HNN := HNN'
        clear HNN'
        have HRB := Lib.hid (show VC.ownsRow N0 28 5 v1 es.length (entsV es) from by rw [Nat.zero_add, List.nil_append] at hr1; exact hr1)
        clear hr1 hg1 HRA
        have hS := hS2
        clear hS2
        refine hK.out _ _ hS (fun hS => ?_)
        clear hK
        refine wpAnyH_ready (rs := [5]) (by kernel_rfl) (by simp) ?_
        refine AllReadyH.cons (o := ⟨some 27, _, _, _, _, _⟩) rfl (fun K hK => ?_) AllReadyH.nil
        refine step_append5 rfl _ _ rfl N0 v1 es.length (entsV es) rfl HRB.out ⟨GN, 0, none⟩ 1 1 [.int .i64 ((es.length : Int) + 1), .string ten, .string wha, .string det, .string SE] rfl rfl (fun j u hu => by rw [Addr.add_mid, Nat.zero_add]; exact HNN.out.cell hu) (entV_one _ _ _ _ _) (by have := HN.out; omega) (by have := hS.size; have := HN0.out; omega) ?_
        intro v2 VD hr2 hg2
        have hS2 := grown_own hS hg2 (fun q hq => by have := (HRB.out.lt q hq).1; have := HN0.out; omega)
        have hr3 : VD.ownsRow N0 28 5 v2 (es.length + 1) (entsV (es ++ [addE es ten wha det])) := by rw [entsV_app, HAE.out]; exact hr2
        obtain ⟨g', cn, hv2, hlo, hcn, hec⟩ := ec_of_owns hr3 (by simp) (by omega)
        rw [show (es ++ [addE es ten wha det]).length = es.length + 1 from by simp] at hv2 hcn
        subst hv2
        have HER := Lib.hid (And.intro hlo (And.intro hcn (And.intro hec hr3)))
        clear hr2 hr3 hg2 hlo hcn hec
        have hS := hS2
        clear hS2
        refine hK.out _ _ hS (fun hS => ?_)
        clear hK
        refine wpAnyH_take (i := 6) (oi := ⟨some 8, _, _, _, _, _⟩) (v := (.slice (some ⟨g', 0, none⟩) (es.length + 1) cn)) rfl (by kernel_rfl) (by kernel_rfl) (by kernel_rfl) (fun _ _ _ h => h) (Or.inl ⟨by kernel_rfl, fun w' hSw => ?_⟩) hS ?_
        · go_simp
          all_goals first | rfl | (simp [*]; done)
        simp only [Act.put, List.setIfInBounds_toArray, List.set_cons_zero, List.set_cons_succ]
        refine wpAnyH_done (by kernel_rfl) ?_ _
        have HSE := Lib.hid hS
        clear hS
        go_wp2
        go_ret
        exact ⟨⟨g', cn, rfl, by have := HN0.out; have := HGS.out.size; have := HER.out.1; omega, HER.out.2.1, HER.out.2.2.1, owns_low5 HER.out.2.2.2 (by have := HN0.out; have := HGS.out.size; omega)⟩, grown_trans HGS.out HSE.out⟩
    · skip
      go_simp
      obtain ⟨VN, hVN⟩ : ∃ x, V0.alloc (Obj.cells #[Value.int .i64 ((es.length : Int) + 1), .string ten, .string wha, .string det, .string SE] 28) = x := ⟨_, rfl⟩
      obtain ⟨GN, hGN⟩ : ∃ x, V0.heap.size = x := ⟨_, rfl⟩
      have hga := (show V0.grownBy VN none from by rw [← hVN]; exact World.grownBy_alloc _ _ none)
      have HNN := Lib.hid (show Blk VN GN 28 [.int .i64 ((es.length : Int) + 1), .string ten, .string wha, .string det, .string SE] from by rw [← hVN, ← hGN]; exact Blk.new V0 28 [.int .i64 ((es.length : Int) + 1), .string ten, .string wha, .string det, .string SE])
      rw [hVN, hGN]
      clear hVN hGN
      have hS := grown_trans hS hga
      refine hK.out _ _ hS (fun hS => ?_)
      clear hK hga
      refine wpAnyH_ready (rs := [0]) (by kernel_rfl) (by simp) ?_
      refine AllReadyH.cons (o := ⟨some 22, _, _, _, _, _⟩) rfl (fun K hK => ?_) AllReadyH.nil
      go_simp
      obtain ⟨VB, hVB⟩ : ∃ x, VN.alloc (Obj.cells #[] 28) = x := ⟨_, rfl⟩
      obtain ⟨GB, hGB⟩ : ∃ x, VN.heap.size = x := ⟨_, rfl⟩
      have HGN0 : GB ≠ GN := by have := HNN.out.lt; omega
      have hga := (show VN.grownBy VB none from by rw [← hVB]; exact World.grownBy_alloc _ _ none)
      have HRA := Lib.hid (show VB.ownsRow N0 28 5 (.slice (some ⟨GB, 0, none⟩) 0 0) 0 [] from owns_empty (by rw [← hVB, ← hGB]; exact Blk.new VN 28 []) (by have := hS.size; have := HN0.out; omega))
      rw [hVB, hGB]
      clear hVB hGB
      have HNG := Lib.hid (show GB ≠ GN from HGN0)
      have HNN' := Lib.hid (HNN.out.kept hga (by simp))
      clear HNN
      have HNN := HNN'
      clear HNN'
      have hS := grown_trans hS hga
      refine hK.out _ _ hS (fun hS => ?_)
      clear hK hga
      refine wpAnyH_ready (rs := [2]) (by kernel_rfl) (by simp) ?_
      refine AllReadyH.cons (o := ⟨some 24, _, _, _, _, _⟩) rfl (fun K hK => ?_) AllReadyH.nil
      refine step_append5 rfl _ _ rfl N0 (.slice (some ⟨GB, 0, none⟩) 0 0) 0 [] rfl HRA.out ⟨g, 0, none⟩ es.length cp (entsV es) rfl (entsV_len _) (fun j u hu => World.grownBy.cell hS ((Addr.add_mid g 0 j).symm ▸ (by rw [Nat.zero_add]; exact HBS.out.2 j u hu)) (by simp)) (entsV_one _) (by have := HN.out; omega) (by have := hS.size; have := HN0.out; omega) ?_
      intro v1 VC hr1 hg1
      have hS2 := grown_own hS hg1 (fun q hq => by have := (HRA.out.lt q hq).1; have := HN0.out; omega)
      have HNN' := Lib.hid (HNN.out.kept hg1 (fun e => HNG.out (by simpa [Value.ownBlock] using e.symm)))
      clear HNN
      have HNN := HNN'
      clear HNN'
      have HRB := Lib.hid (show VC.ownsRow N0 28 5 v1 es.length (entsV es) from by rw [Nat.zero_add, List.nil_append] at hr1; exact hr1)
      clear hr1 hg1 HRA
      have hS := hS2
      clear hS2
      refine hK.out _ _ hS (fun hS => ?_)
      clear hK
      refine wpAnyH_ready (rs := [5]) (by kernel_rfl) (by simp) ?_
      refine AllReadyH.cons (o := ⟨some 27, _, _, _, _, _⟩) rfl (fun K hK => ?_) AllReadyH.nil
      refine step_append5 rfl _ _ rfl N0 v1 es.length (entsV es) rfl HRB.out ⟨GN, 0, none⟩ 1 1 [.int .i64 ((es.length : Int) + 1), .string ten, .string wha, .string det, .string SE] rfl rfl (fun j u hu => by rw [Addr.add_mid, Nat.zero_add]; exact HNN.out.cell hu) (entV_one _ _ _ _ _) (by have := HN.out; omega) (by have := hS.size; have := HN0.out; omega) ?_
      intro v2 VD hr2 hg2
      have hS2 := grown_own hS hg2 (fun q hq => by have := (HRB.out.lt q hq).1; have := HN0.out; omega)
      have hr3 : VD.ownsRow N0 28 5 v2 (es.length + 1) (entsV (es ++ [addE es ten wha det])) := by rw [entsV_app, HAE.out]; exact hr2
      obtain ⟨g', cn, hv2, hlo, hcn, hec⟩ := ec_of_owns hr3 (by simp) (by omega)
      rw [show (es ++ [addE es ten wha det]).length = es.length + 1 from by simp] at hv2 hcn
      subst hv2
      have HER := Lib.hid (And.intro hlo (And.intro hcn (And.intro hec hr3)))
      clear hr2 hr3 hg2 hlo hcn hec
      have hS := hS2
      clear hS2
      refine hK.out _ _ hS (fun hS => ?_)
      clear hK
      refine wpAnyH_take (i := 6) (oi := ⟨some 8, _, _, _, _, _⟩) (v := (.slice (some ⟨g', 0, none⟩) (es.length + 1) cn)) rfl (by kernel_rfl) (by kernel_rfl) (by kernel_rfl) (fun _ _ _ h => h) (Or.inl ⟨by kernel_rfl, fun w' hSw => ?_⟩) hS ?_
      · go_simp
        all_goals first | rfl | (simp [*]; done)
      simp only [Act.put, List.setIfInBounds_toArray, List.set_cons_zero, List.set_cons_succ]
      refine wpAnyH_done (by kernel_rfl) ?_ _
      have HSE := Lib.hid hS
      clear hS
      go_wp2
      go_ret
      exact ⟨⟨g', cn, rfl, by have := HN0.out; have := HGS.out.size; have := HER.out.1; omega, HER.out.2.1, HER.out.2.2.1, owns_low5 HER.out.2.2.2 (by have := HN0.out; have := HGS.out.size; omega)⟩, grown_trans HGS.out HSE.out⟩

set_option maxRecDepth 100000 in
set_option maxHeartbeats 16000000 in
theorem saddg_any (w : World) (es : List AE) (g cp : Nat) (hcp : es.length ≤ cp) (hb : EC w g es) (hn : es.length ≤ 1048576) (hz : EZ es) (ten wha det : ByteArray) (h1 : ten.size ≤ 1048576) (h2 : wha.size ≤ 1048576) (h3 : det.size ≤ 1048576) :
    Calls Tryd.prog 17 #[.slice (some ⟨g, 0, none⟩) es.length cp, .string ten, .string wha, .string det] w fun e w' =>
      ((AddP es ten wha det ∧ ∃ g' cn, e = .returned (.tuple #[.slice (some ⟨g', 0, none⟩) (es.length + 1) cn, .bool true]) ∧ w.heap.size ≤ g' ∧ es.length + 1 ≤ cn ∧ EC w' g' (es ++ [addE es ten wha det])) ∨
       (¬ AddP es ten wha det ∧ ∃ an, e = .returned (.tuple #[.slice an 0 0, .bool false]))) ∧ w.grownBy w' none := by
  obtain ⟨W, hW⟩ : ∃ W, w.alloc (Obj.cells #[Value.int .i64 0, .string ten, .string wha, .string det, .string ⟨#[]⟩] 28) = W := ⟨_, rfl⟩
  obtain ⟨X, hX⟩ : ∃ x, w.heap.size = x := ⟨_, rfl⟩
  have hg := (show w.grownBy W none from by rw [← hW]; exact grown_alloc (grown_refl _ _) _)
  have HG := Lib.hid hg
  have HXX := Lib.hid (show Blk W X 28 [.int .i64 0, .string ten, .string wha, .string det, .string ⟨#[]⟩] from by rw [← hW, ← hX]; exact Blk.new w 28 _)
  have HBW := Lib.hid (hb.kept hg (by simp))
  have HAU := Lib.hid (saudit_any W es (some ⟨g, 0, none⟩) cp g HBW.out.ents hn hcp hz)
  have HEO := Lib.hid (fun (V : World) => sentok_any V 0 ten wha det ⟨#[]⟩ h1 h2 h3)
  have HL9 := Lib.hid (fun (V : World) (hV : W.grownBy V none) (h200 : es.length < 200) (he : EntOk ten wha det) => sl9g_any V es g cp (HBW.out.kept hV (by simp)) hz ten wha det h200 he)
  have HW := Lib.hid hW
  have HXE := Lib.hid hX
  clear hW hX hg hb hz h1 h2 h3
  go_enter Tryd.func17, Tryd.ntmps17
  go_wp2_with fail
  rw [HW.out, HXE.out]
  refine HAU.out.mono ?_
  rintro e w1 ⟨⟨t, rfl, ht⟩, hg1⟩
  have HG1 := Lib.hid hg1
  have HX1 := Lib.hid (HXX.out.kept hg1 (by simp))
  have HGW := Lib.hid (grown_trans HG.out hg1)
  clear hg1 HAU
  cases t
  case false =>
    have HD := Lib.hid (show ¬ AddP es ten wha det from fun h => by have := ht.2 h.1; cases this)
    clear ht
    go_wp2
    go_ret2
    exact ⟨.inr ⟨HD.out, _, rfl⟩, by first | exact HGW.out | exact grown_alloc HGW.out _⟩
  have HD := Lib.hid (show AuditP es from ht.1 (by first | trivial | rfl))
  clear ht
  by_cases h200 : (200 : Int) ≤ (es.length : Int)
  case pos =>
    have HN := Lib.hid (show ¬ AddP es ten wha det from fun h => by have := h.2.1; omega)
    go_wp2
    go_ret2
    exact ⟨.inr ⟨HN.out, _, rfl⟩, by first | exact HGW.out | exact grown_alloc HGW.out _⟩
  have d0 : w1.cell? ⟨X, 0, none⟩ = some (.int .i64 0) := HX1.out.cell rfl
  have d1 : w1.cell? ⟨X, 1, none⟩ = some (.string ten) := HX1.out.cell rfl
  have d2 : w1.cell? ⟨X, 2, none⟩ = some (.string wha) := HX1.out.cell rfl
  have d3 : w1.cell? ⟨X, 3, none⟩ = some (.string det) := HX1.out.cell rfl
  have d4 : w1.cell? ⟨X, 4, none⟩ = some (.string ⟨#[]⟩) := HX1.out.cell rfl
  go_wp2_with fail
  clear d0 d1 d2 d3 d4
  refine (HEO.out w1).mono ?_
  rintro e w2 ⟨⟨t, rfl, ht⟩, hg2⟩
  have HG2 := Lib.hid (grown_trans HG1.out hg2)
  have HGX := Lib.hid (grown_trans HGW.out hg2)
  clear hg2
  cases t
  case false =>
    have HN := Lib.hid (show ¬ AddP es ten wha det from fun h => by have := ht.2 h.2.2; cases this)
    clear ht
    go_wp2
    go_ret2
    exact ⟨.inr ⟨HN.out, _, rfl⟩, by first | exact HGX.out | exact grown_alloc HGX.out _⟩
  have HAP := Lib.hid (show AddP es ten wha det from ⟨HD.out, by omega, ht.1 (by first | trivial | rfl)⟩)
  have HSZ := Lib.hid (show w.heap.size ≤ w2.heap.size from HGX.out.size)
  clear ht
  go_wp2_with fail
  refine (HL9.out w2 HG2.out HAP.out.2.1 HAP.out.2.2).mono ?_
  rintro e w3 ⟨⟨g', cn, rfl, hlo, hcn, hec, -⟩, hg3⟩
  have HER := Lib.hid (And.intro hlo (And.intro hcn hec))
  have HG3 := Lib.hid (grown_trans HGX.out hg3)
  clear hlo hcn hec hg3
  go_wp2
  go_ret2
  exact ⟨.inl ⟨HAP.out, g', cn, rfl, Nat.le_trans HSZ.out HER.out.1, HER.out.2.1, HER.out.2.2⟩, HG3.out⟩
end Go.Proofs.YtdelijobaebfnaaDoor
