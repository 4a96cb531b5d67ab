/- A request, read by the program, where there are words enough. -/
import Derived.Test.YtecekbhkombnnaaDoorRE
namespace Go.Proofs.YtecekbhkombnnaaDoor
open Go.RowKit

theorem step_store_blk {P : Program} {ops : Array Oper} {o : Oper} {a : Act} {w : World} {K : Act → World → Prop} {Q : Exit → Act → World → Prop} {E : Prop} (hw : Region.wanted o (yielded ops a.tmps) = true) (ty : TypeId) (x y : Operand) (ho : o.op = .store ty x y)
    (g : Nat) (L old : List Value) (t : TypeId) (hg : Blk w g t old) (hi : (P.info? ty).map (·.size) = some L.length) (hold : old.length = L.length) (h1 : ∀ v ∈ L, v.oneCell' = true)
    (hx : a.eval x = .pointer (some ⟨g, 0, none⟩)) (hy : a.eval y = .agg L.toArray)
    (h : ∀ w', Hid (Blk w' g t L) → Hid (w.grownBy w' (some g)) → K (a.put o.dst undef) w') : if Region.wanted o (yielded ops a.tmps) = true then Oper.wp P o a w K Q else E := by
  rw [if_pos hw]
  refine wp_store_row ty x y ho g L.toArray hx hy t old.toArray hg (by simpa using hi) (by simpa using hold) (by simpa using h1) ?_
  exact h _ (Lib.hid (setRow_heap w g _ _ t _ hg)) (Lib.hid ⟨rfl, rfl, rfl, by simp [World.setRow], fun k _ hr => setRow_other w g k _ (fun e => hr (by rw [e]))⟩)

set_option maxRecDepth 100000 in
set_option maxHeartbeats 8000000 in
theorem iread_yes (w : World) (p : ByteArray) (hs : p.size ≤ 1048576) (h6 : SixW 6 p) (hE : ErrC w) (hP : Pow w) : Calls Tryd.prog 11 #[.string p] w fun e w' => RRes p e ∧ w.grownBy w' none := by
  have HNS := Lib.hid h6
  obtain ⟨W, hW⟩ : ∃ W, w.alloc (Obj.cells #[Value.int .i64 0, .string ⟨#[]⟩, .string ⟨#[]⟩, .string ⟨#[]⟩, .int .i64 0, .int .i64 0, .string ⟨#[]⟩] 31) = W := ⟨_, rfl⟩
  obtain ⟨C, hC⟩ : ∃ x, w.heap.size = x := ⟨_, rfl⟩
  obtain ⟨Z, hZ⟩ : ∃ Z, reqC 0 ⟨#[]⟩ ⟨#[]⟩ ⟨#[]⟩ 0 0 ⟨#[]⟩ = Z := ⟨_, rfl⟩
  have HBC := Lib.hid (show Blk W C 31 Z from by rw [← hW, ← hC, ← hZ]; exact Blk.new w 31 _)
  have HG := Lib.hid (show w.grownBy W none from by rw [← hW]; exact grown_alloc (grown_refl _ _) _)
  have HCU := Lib.hid (icut_any W p hs)
  have HZE := Lib.hid hZ
  have HW := Lib.hid hW
  have HCE := Lib.hid hC
  have HE := Lib.hid hE
  have HP := Lib.hid hP
  clear h6 hW hC hE hP hZ
  go_enter Tryd.func11, Tryd.ntmps11
  go_wp2_with fail
  rw [HW.out, HCE.out]
  refine HCU.out.mono ?_
  rintro e w1 ⟨⟨L, b, hL, rfl, hb⟩, hg1⟩
  have HG1 := Lib.hid (grown_trans HG.out hg1)
  have HBC1 := Lib.hid (HBC.out.kept hg1 (by simp))
  obtain ⟨rfl, -, rfl⟩ := hb.resolve_right (fun h => h.2 HNS.out)
  have hcl : C < w1.heap.size := HBC1.out.lt
  obtain ⟨W1, hW1⟩ : ∃ x, w1.alloc (Obj.cells #[Value.string ⟨#[]⟩, .string ⟨#[]⟩, .string ⟨#[]⟩, .string ⟨#[]⟩, .string ⟨#[]⟩, .string ⟨#[]⟩, .string ⟨#[]⟩] 48) = x := ⟨_, rfl⟩
  obtain ⟨D, hD⟩ : ∃ x, w1.heap.size = x := ⟨_, rfl⟩
  have HBD := Lib.hid (show Blk W1 D 48 (strs (List.replicate 7 ⟨#[]⟩)) from by rw [← hW1, ← hD]; exact Blk.new w1 48 _)
  have HG2 := Lib.hid (show w.grownBy W1 none from by rw [← hW1]; exact grown_alloc HG1.out _)
  have HBC2 := Lib.hid (show Blk W1 C 31 Z from by rw [← hW1]; exact HBC1.out.alloc _)
  have HCD := Lib.hid (show C < D ∧ w.heap.size ≤ C from ⟨by omega, by have := HCE.out; omega⟩)
  have HW1 := Lib.hid hW1
  have HDE := Lib.hid hD
  clear hg1 HCU HG HBC HG1 HBC1 hL hcl hW1 hD
  obtain ⟨x0, hx0⟩ : ∃ x, wordK 0 p = x := ⟨_, rfl⟩
  obtain ⟨x1, hx1⟩ : ∃ x, wordK 1 p = x := ⟨_, rfl⟩
  obtain ⟨x2, hx2⟩ : ∃ x, wordK 2 p = x := ⟨_, rfl⟩
  obtain ⟨x3, hx3⟩ : ∃ x, wordK 3 p = x := ⟨_, rfl⟩
  obtain ⟨x4, hx4⟩ : ∃ x, wordK 4 p = x := ⟨_, rfl⟩
  obtain ⟨x5, hx5⟩ : ∃ x, wordK 5 p = x := ⟨_, rfl⟩
  obtain ⟨x6, hx6⟩ : ∃ x, restK 6 p = x := ⟨_, rfl⟩
  have HXX := Lib.hid (show cutF p = [x0, x1, x2, x3, x4, x5, x6] from by rw [← hx0, ← hx1, ← hx2, ← hx3, ← hx4, ← hx5, ← hx6]; rfl)
  obtain ⟨L, hLL⟩ : ∃ L, [x0, x1, x2, x3, x4, x5, x6] = L := ⟨_, rfl⟩
  have HL := Lib.hid hLL
  rw [HXX.out, hLL]
  obtain ⟨kd, hkd⟩ : ∃ k : Nat, kindTo x0 11 = k := ⟨_, rfl⟩
  obtain ⟨n1, hn1⟩ : ∃ k, namedT x1 = k := ⟨_, rfl⟩
  obtain ⟨n2, hn2⟩ : ∃ k, namedT x2 = k := ⟨_, rfl⟩
  obtain ⟨n3, hn3⟩ : ∃ k, namedT x3 = k := ⟨_, rfl⟩
  have HS1 := Lib.hid (fun (V : World) (hd : Blk V D 48 (strs L)) (hc : Blk V C 31 Z) (hg : w.grownBy V none) => show V.cell? ⟨D, 0, none⟩ = some (.string x0) ∧ V.cell? ⟨D, 1, none⟩ = some (.string x1) ∧ V.cell? ⟨D, 2, none⟩ = some (.string x2) ∧ V.cell? ⟨D, 3, none⟩ = some (.string x3) ∧ V.cell? ⟨D, 6, none⟩ = some (.string x6) ∧ Blk V D 48 (strs L) ∧ Blk V C 31 Z ∧ w.grownBy V none from by
    rw [← HL.out] at hd
    rw [← HL.out]
    exact ⟨hd.cell rfl, hd.cell rfl, hd.cell rfl, hd.cell rfl, hd.cell rfl, hd, hc, hg⟩)
  have HSG0 := Lib.hid (fun (V V' : World) (h : V.cell? ⟨D, 0, none⟩ = some (.string x0) ∧ V.cell? ⟨D, 1, none⟩ = some (.string x1) ∧ V.cell? ⟨D, 2, none⟩ = some (.string x2) ∧ V.cell? ⟨D, 3, none⟩ = some (.string x3) ∧ V.cell? ⟨D, 6, none⟩ = some (.string x6) ∧ Blk V D 48 (strs L) ∧ Blk V C 31 Z ∧ w.grownBy V none) (hg : V.grownBy V' none) => HS1.out V' (h.2.2.2.2.2.1.kept hg (by simp)) (h.2.2.2.2.2.2.1.kept hg (by simp)) (grown_trans h.2.2.2.2.2.2.2 hg))
  have HSG1 := Lib.hid (fun (V V' : World) (BQ : Nat) (h : V.cell? ⟨D, 0, none⟩ = some (.string x0) ∧ V.cell? ⟨D, 1, none⟩ = some (.string x1) ∧ V.cell? ⟨D, 2, none⟩ = some (.string x2) ∧ V.cell? ⟨D, 3, none⟩ = some (.string x3) ∧ V.cell? ⟨D, 6, none⟩ = some (.string x6) ∧ Blk V D 48 (strs L) ∧ Blk V C 31 Z ∧ w.grownBy V none) (hg : V.grownBy V' (some BQ)) (hq : C < BQ ∧ D < BQ ∧ w.heap.size ≤ BQ) => HS1.out V' (h.2.2.2.2.2.1.kept hg (by simp; omega)) (h.2.2.2.2.2.2.1.kept hg (by simp; omega)) (grown_into h.2.2.2.2.2.2.2 hg hq.2.2))
  have HKO := Lib.hid (fun (V : World) => (ikindof_any V x0).mono (R' := fun e w' => e = .returned (.int .i64 (kd : Int)) ∧ V.grownBy w' none) (fun e w' q => ⟨by rw [q.1, hkd], q.2⟩))
  have HN1 := Lib.hid (fun (V : World) => (inamed_any V x1).mono (R' := fun e w' => e = .returned (.string n1) ∧ V.grownBy w' none) (fun e w' q => ⟨by rw [q.1, hn1], by rw [q.2]; exact grown_refl _ _⟩))
  have HN2 := Lib.hid (fun (V : World) => (inamed_any V x2).mono (R' := fun e w' => e = .returned (.string n2) ∧ V.grownBy w' none) (fun e w' q => ⟨by rw [q.1, hn2], by rw [q.2]; exact grown_refl _ _⟩))
  have HN3 := Lib.hid (fun (V : World) => (inamed_any V x3).mono (R' := fun e w' => e = .returned (.string n3) ∧ V.grownBy w' none) (fun e w' q => ⟨by rw [q.1, hn3], by rw [q.2]; exact grown_refl _ _⟩))
  have HXE := Lib.hid (show wordK 0 p = x0 ∧ wordK 1 p = x1 ∧ wordK 2 p = x2 ∧ wordK 3 p = x3 ∧ wordK 4 p = x4 ∧ wordK 5 p = x5 ∧ restK 6 p = x6 ∧ kindTo x0 11 = kd ∧ namedT x1 = n1 ∧ namedT x2 = n2 ∧ namedT x3 = n3 from ⟨hx0, hx1, hx2, hx3, hx4, hx5, hx6, hkd, hn1, hn2, hn3⟩)
  clear hx0 hx1 hx2 hx3 hx4 hx5 hx6 hkd hn1 hn2 hn3 hLL
  have HLL := Lib.hid (show L.length = 7 from by rw [← HL.out]; rfl)
  go_wp2_with (first
    | (rw [HW1.out, HDE.out]; refine wpList_store_blk rfl 48 _ _ rfl D (strs L) (strs (List.replicate 7 ⟨#[]⟩)) 48 HBD.out (by rw [strs_len, HLL.out]; exact info7) (by rw [strs_len, strs_len, HLL.out]; rfl) (strs_cell _) rfl rfl ?_; intro w2 hb2 hg2; have HBC3 := Lib.hid (HBC2.out.kept hg2.out (by have := HCD.out.1; simp; omega)); have HG3 := Lib.hid (grown_into HG2.out hg2.out (by have := HCD.out; omega))))
  have HSD := Lib.hid (HS1.out w2.drew hb2.out.drew HBC3.out.drew (grown_drew HG3.out))
  clear HW HW1 HDE HG2 HBC2 HBD hg2
  refine wp_region_held_drew (S := (fun V => V.cell? ⟨D, 0, none⟩ = some (.string x0) ∧ V.cell? ⟨D, 1, none⟩ = some (.string x1) ∧ V.cell? ⟨D, 2, none⟩ = some (.string x2) ∧ V.cell? ⟨D, 3, none⟩ = some (.string x3) ∧ V.cell? ⟨D, 6, none⟩ = some (.string x6) ∧ Blk V D 48 (strs L) ∧ Blk V C 31 Z ∧ w.grownBy V none)) (by kernel_rfl) (HSD.out) (fun hS => ?_)
  generalize w2.drew = V0 at hS ⊢
  try dsimp only at hS
  refine wpAnyH_take (i := 0) (oi := ⟨some 15, _, _, _, _, _⟩) (v := (.pointer (some ⟨D, 0, none⟩))) rfl (by kernel_rfl) (by kernel_rfl) (by kernel_rfl) (fun _ _ _ h => h) (Or.inl ⟨by kernel_rfl, fun w' hSw => ?_⟩) hS ?_
  · go_simp
    all_goals first | rfl | (simp [*]; done)
  simp only [Act.put, List.setIfInBounds_toArray, List.set_cons_zero, List.set_cons_succ]
  refine wpAnyH_take (i := 1) (oi := ⟨some 16, _, _, _, _, _⟩) (v := (.string x0)) rfl (by kernel_rfl) (by kernel_rfl) (by kernel_rfl) (fun _ _ _ h => h) (Or.inl ⟨by kernel_rfl, fun w' hSw => ?_⟩) hS ?_
  · obtain ⟨s1, s2, s3, s4, s5, s6, s7, s8⟩ := hSw
    go_simp
    all_goals first | rfl | (simp [*]; done)
  simp only [Act.put, List.setIfInBounds_toArray, List.set_cons_zero, List.set_cons_succ]
  refine wpAnyH_take (i := 3) (oi := ⟨some 18, _, _, _, _, _⟩) (v := (.pointer (some ⟨D, 1, none⟩))) rfl (by kernel_rfl) (by kernel_rfl) (by kernel_rfl) (fun _ _ _ h => h) (Or.inl ⟨by kernel_rfl, fun w' hSw => ?_⟩) hS ?_
  · go_simp
    all_goals first | rfl | (simp [*]; done)
  simp only [Act.put, List.setIfInBounds_toArray, List.set_cons_zero, List.set_cons_succ]
  refine wpAnyH_take (i := 4) (oi := ⟨some 19, _, _, _, _, _⟩) (v := (.string x1)) rfl (by kernel_rfl) (by kernel_rfl) (by kernel_rfl) (fun _ _ _ h => h) (Or.inl ⟨by kernel_rfl, fun w' hSw => ?_⟩) hS ?_
  · obtain ⟨s1, s2, s3, s4, s5, s6, s7, s8⟩ := hSw
    go_simp
    all_goals first | rfl | (simp [*]; done)
  simp only [Act.put, List.setIfInBounds_toArray, List.set_cons_zero, List.set_cons_succ]
  refine wpAnyH_take (i := 6) (oi := ⟨some 21, _, _, _, _, _⟩) (v := (.pointer (some ⟨D, 2, none⟩))) rfl (by kernel_rfl) (by kernel_rfl) (by kernel_rfl) (fun _ _ _ h => h) (Or.inl ⟨by kernel_rfl, fun w' hSw => ?_⟩) hS ?_
  · go_simp
    all_goals first | rfl | (simp [*]; done)
  simp only [Act.put, List.setIfInBounds_toArray, List.set_cons_zero, List.set_cons_succ]
  refine wpAnyH_take (i := 7) (oi := ⟨some 22, _, _, _, _, _⟩) (v := (.string x2)) rfl (by kernel_rfl) (by kernel_rfl) (by kernel_rfl) (fun _ _ _ h => h) (Or.inl ⟨by kernel_rfl, fun w' hSw => ?_⟩) hS ?_
  · obtain ⟨s1, s2, s3, s4, s5, s6, s7, s8⟩ := hSw
    go_simp
    all_goals first | rfl | (simp [*]; done)
  simp only [Act.put, List.setIfInBounds_toArray, List.set_cons_zero, List.set_cons_succ]
  refine wpAnyH_take (i := 9) (oi := ⟨some 24, _, _, _, _, _⟩) (v := (.pointer (some ⟨D, 3, none⟩))) rfl (by kernel_rfl) (by kernel_rfl) (by kernel_rfl) (fun _ _ _ h => h) (Or.inl ⟨by kernel_rfl, fun w' hSw => ?_⟩) hS ?_
  · go_simp
    all_goals first | rfl | (simp [*]; done)
  simp only [Act.put, List.setIfInBounds_toArray, List.set_cons_zero, List.set_cons_succ]
  refine wpAnyH_take (i := 10) (oi := ⟨some 25, _, _, _, _, _⟩) (v := (.string x3)) rfl (by kernel_rfl) (by kernel_rfl) (by kernel_rfl) (fun _ _ _ h => h) (Or.inl ⟨by kernel_rfl, fun w' hSw => ?_⟩) hS ?_
  · obtain ⟨s1, s2, s3, s4, s5, s6, s7, s8⟩ := hSw
    go_simp
    all_goals first | rfl | (simp [*]; done)
  simp only [Act.put, List.setIfInBounds_toArray, List.set_cons_zero, List.set_cons_succ]
  refine wpAnyH_take (i := 12) (oi := ⟨some 27, _, _, _, _, _⟩) (v := (.pointer (some ⟨D, 6, none⟩))) rfl (by kernel_rfl) (by kernel_rfl) (by kernel_rfl) (fun _ _ _ h => h) (Or.inl ⟨by kernel_rfl, fun w' hSw => ?_⟩) hS ?_
  · go_simp
    all_goals first | rfl | (simp [*]; done)
  simp only [Act.put, List.setIfInBounds_toArray, List.set_cons_zero, List.set_cons_succ]
  refine wpAnyH_take (i := 13) (oi := ⟨some 28, _, _, _, _, _⟩) (v := (.string x6)) rfl (by kernel_rfl) (by kernel_rfl) (by kernel_rfl) (fun _ _ _ h => h) (Or.inl ⟨by kernel_rfl, fun w' hSw => ?_⟩) hS ?_
  · obtain ⟨s1, s2, s3, s4, s5, s6, s7, s8⟩ := hSw
    go_simp
    all_goals first | rfl | (simp [*]; done)
  simp only [Act.put, List.setIfInBounds_toArray, List.set_cons_zero, List.set_cons_succ]
  refine wpAnyH_ready (rs := [2, 15]) (by kernel_rfl) (by simp) ?_
  refine AllReadyH.cons (o := ⟨some 17, _, _, _, _, _⟩) rfl (fun K hK => ?_) (AllReadyH.cons (o := ⟨some 6, _, _, _, _, _⟩) rfl (fun K hK => ?_) (AllReadyH.nil))
  · skip
    go_simp
    refine (HKO.out _).mono ?_
    rintro e wa ⟨rfl, hga⟩
    go_simp
    refine hK.out _ _ (HSG0.out _ _ hS hga) (fun hS => ?_)
    clear hK
    refine wpAnyH_ready (rs := [5, 15]) (by kernel_rfl) (by simp) ?_
    refine AllReadyH.cons (o := ⟨some 20, _, _, _, _, _⟩) rfl (fun K hK => ?_) (AllReadyH.cons (o := ⟨some 6, _, _, _, _, _⟩) rfl (fun K hK => ?_) (AllReadyH.nil))
    · skip
      go_simp
      refine (HN1.out _).mono ?_
      rintro e wb ⟨rfl, hga⟩
      go_simp
      refine hK.out _ _ (HSG0.out _ _ hS hga) (fun hS => ?_)
      clear hK
      refine wpAnyH_ready (rs := [8, 15]) (by kernel_rfl) (by simp) ?_
      refine AllReadyH.cons (o := ⟨some 23, _, _, _, _, _⟩) rfl (fun K hK => ?_) (AllReadyH.cons (o := ⟨some 6, _, _, _, _, _⟩) rfl (fun K hK => ?_) (AllReadyH.nil))
      · skip
        go_simp
        refine (HN2.out _).mono ?_
        rintro e wc ⟨rfl, hga⟩
        go_simp
        refine hK.out _ _ (HSG0.out _ _ hS hga) (fun hS => ?_)
        clear hK
        refine wpAnyH_ready (rs := [11, 15]) (by kernel_rfl) (by simp) ?_
        refine AllReadyH.cons (o := ⟨some 26, _, _, _, _, _⟩) rfl (fun K hK => ?_) (AllReadyH.cons (o := ⟨some 6, _, _, _, _, _⟩) rfl (fun K hK => ?_) (AllReadyH.nil))
        · skip
          go_simp
          refine (HN3.out _).mono ?_
          rintro e wd ⟨rfl, hga⟩
          go_simp
          refine hK.out _ _ (HSG0.out _ _ hS hga) (fun hS => ?_)
          clear hK
          refine wpAnyH_take (i := 14) (oi := ⟨some 29, _, _, _, _, _⟩) (v := (.agg (reqC kd n1 n2 n3 0 0 x6).toArray)) rfl (by kernel_rfl) (by kernel_rfl) (by kernel_rfl) (fun _ _ _ h => h) (Or.inl ⟨by kernel_rfl, fun w' hSw => ?_⟩) hS ?_
          · go_simp
            all_goals first | rfl | (simp [*]; done)
          simp only [Act.put, List.setIfInBounds_toArray, List.set_cons_zero, List.set_cons_succ]
          refine wpAnyH_ready (rs := [15]) (by kernel_rfl) (by simp) ?_
          refine AllReadyH.cons (o := ⟨some 6, _, _, _, _, _⟩) rfl (fun K hK => ?_) (AllReadyH.nil)
          · skip
            go_simp
            obtain ⟨BQ, hBQ⟩ : ∃ x, wd.heap.size = x := ⟨_, rfl⟩
            have HQS := Lib.hid (show C < BQ ∧ D < BQ ∧ w.heap.size ≤ BQ from by rw [← hBQ]; exact ⟨hS.2.2.2.2.2.2.1.lt, hS.2.2.2.2.2.1.lt, hS.2.2.2.2.2.2.2.size⟩)
            rw [hBQ]
            refine hK.out _ _ (HSG0.out _ _ hS (World.grownBy_alloc _ _ none)) (fun hS => ?_)
            clear hK
            have hS := And.intro hS (show ∃ LZ : List Value, LZ.length = 7 ∧ Blk (wd.alloc (Obj.cells #[Value.int .i64 0, Value.string ⟨#[]⟩, Value.string ⟨#[]⟩, Value.string ⟨#[]⟩, Value.int .i64 0, Value.int .i64 0, Value.string ⟨#[]⟩] 31)) BQ 31 LZ from ⟨[Value.int .i64 0, Value.string ⟨#[]⟩, Value.string ⟨#[]⟩, Value.string ⟨#[]⟩, Value.int .i64 0, Value.int .i64 0, Value.string ⟨#[]⟩], rfl, by rw [← hBQ]; exact Blk.new wd 31 [Value.int .i64 0, Value.string ⟨#[]⟩, Value.string ⟨#[]⟩, Value.string ⟨#[]⟩, Value.int .i64 0, Value.int .i64 0, Value.string ⟨#[]⟩]⟩)
            refine wpAnyH_more (S' := fun V => ((fun V => V.cell? ⟨D, 0, none⟩ = some (.string x0) ∧ V.cell? ⟨D, 1, none⟩ = some (.string x1) ∧ V.cell? ⟨D, 2, none⟩ = some (.string x2) ∧ V.cell? ⟨D, 3, none⟩ = some (.string x3) ∧ V.cell? ⟨D, 6, none⟩ = some (.string x6) ∧ Blk V D 48 (strs L) ∧ Blk V C 31 Z ∧ w.grownBy V none)) V ∧ ∃ LZ : List Value, LZ.length = 7 ∧ Blk V BQ 31 LZ) (fun _ h => h.1) ?_
            obtain ⟨WA, hWA⟩ : ∃ x, wd.alloc (Obj.cells #[Value.int .i64 0, Value.string ⟨#[]⟩, Value.string ⟨#[]⟩, Value.string ⟨#[]⟩, Value.int .i64 0, Value.int .i64 0, Value.string ⟨#[]⟩] 31) = x := ⟨_, rfl⟩
            rw [hWA] at hS ⊢
            clear hWA hBQ
            try dsimp only at hS
            refine wpAnyH_ready (rs := [16]) (by kernel_rfl) (by simp) ?_
            refine AllReadyH.cons (o := ⟨none, _, _, _, _, _⟩) rfl (fun K hK => ?_) AllReadyH.nil
            obtain ⟨LZ, hLZ, HBZ⟩ := hS.2
            refine step_store_blk (by kernel_rfl) 31 _ _ rfl BQ (reqC kd n1 n2 n3 0 0 x6) LZ 31 HBZ infoReq (by rw [hLZ]; rfl) (reqC_one _ _ _ _ _ _ _) rfl rfl ?_
            intro w3 hb3 hg3
            refine hK.out _ _ ⟨HSG1.out _ _ BQ hS.1 hg3.out HQS.out, (reqC kd n1 n2 n3 0 0 x6), rfl, hb3.out⟩ (fun hS3 => ?_)
            clear hK
            refine wpAnyH_done (by kernel_rfl) ?_ _
            have HBQ := hb3
            have HSF := Lib.hid hS3.1
            have HZ0 := Lib.hid (fun k => wordK_size k p)
            have d4 : w3.cell? ⟨D, 4, none⟩ = some (.string x4) := HSF.out.2.2.2.2.2.1.cell (by rw [← HL.out]; rfl)
            have HDC := Lib.hid (idec_any w3 x4 (by have := HZ0.out 4; rw [HXE.out.2.2.2.2.1] at this; omega) (HE.out.grown HSF.out.2.2.2.2.2.2.2) (HP.out.grown HSF.out.2.2.2.2.2.2.2))
            clear hS3 hS HSD hb2 HBC3 HG3 hg3
            go_wp2_with fail
            refine HDC.out.mono ?_
            rintro e w4 ⟨⟨r, b1, rfl, hr⟩, hg4⟩
            have HR := Lib.hid hr
            have HBQ4 := Lib.hid (HBQ.out.kept hg4 (by simp))
            have HBD4 := Lib.hid (HSF.out.2.2.2.2.2.1.kept hg4 (by simp))
            have HBC4 := Lib.hid (HSF.out.2.2.2.2.2.2.1.kept hg4 (by simp))
            have HG4 := Lib.hid (grown_trans HSF.out.2.2.2.2.2.2.2 hg4)
            clear hr hg4 HDC HSF HBQ d4 hb3
            have q4 : w4.cell? ⟨BQ, 4, none⟩ = some (.int .i64 0) := HBQ4.out.cell rfl
            have f4 := HBQ4.out.frozen 4
            have HG5 := Lib.hid (show w.grownBy (w4.setCell ⟨BQ, 4, none⟩ (.int .i64 r)) none from grown_into HG4.out (grown_set (grown_refl w4 (some BQ)) 4 _) HQS.out.2.2)
            have HBQ5 := Lib.hid (show Blk (w4.setCell ⟨BQ, 4, none⟩ (.int .i64 r)) BQ 31 (reqC kd n1 n2 n3 r 0 x6) from HBQ4.out.set 4 (.int .i64 r))
            have HBD5 := Lib.hid (HBD4.out.kept (grown_set (grown_refl w4 (some BQ)) 4 (.int .i64 r)) (by have := HQS.out; simp; omega))
            have HBC5 := Lib.hid (HBC4.out.kept (grown_set (grown_refl w4 (some BQ)) 4 (.int .i64 r)) (by have := HQS.out; simp; omega))
            obtain ⟨W5, hW5⟩ : ∃ x, w4.setCell ⟨BQ, 4, none⟩ (.int .i64 r) = x := ⟨_, rfl⟩
            rw [hW5] at HG5 HBQ5 HBD5 HBC5
            have d5' : (w4.setCell ⟨BQ, 4, none⟩ (.int .i64 r)).cell? ⟨D, 5, none⟩ = some (.string x5) := by rw [hW5]; exact HBD5.out.cell (by rw [← HL.out]; rfl)
            have HW5 := Lib.hid hW5
            have HDC := Lib.hid (idec_any W5 x5 (by have := HZ0.out 5; rw [HXE.out.2.2.2.2.2.1] at this; omega) (HE.out.grown HG5.out) (HP.out.grown HG5.out))
            clear hW5
            go_wp2_with fail
            rw [HW5.out]
            refine HDC.out.mono ?_
            rintro e w6 ⟨⟨n, b2, rfl, hn⟩, hg6⟩
            have HN := Lib.hid hn
            have HBQ6 := Lib.hid (HBQ5.out.kept hg6 (by simp))
            have HBC6 := Lib.hid (HBC5.out.kept hg6 (by simp))
            have HG6 := Lib.hid (grown_trans HG5.out hg6)
            clear hn hg6 HDC HBQ4 HBD4 HBC4 HG4 q4 f4 HG5 HBQ5 HBD5 HBC5 d5' HW5
            have q5 : w6.cell? ⟨BQ, 5, none⟩ = some (.int .i64 0) := HBQ6.out.cell rfl
            have f5 := HBQ6.out.frozen 5
            have HG7 := Lib.hid (show w.grownBy (w6.setCell ⟨BQ, 5, none⟩ (.int .i64 n)) none from grown_into HG6.out (grown_set (grown_refl w6 (some BQ)) 5 _) HQS.out.2.2)
            have HBQ7 := Lib.hid (show Blk (w6.setCell ⟨BQ, 5, none⟩ (.int .i64 n)) BQ 31 (reqC kd n1 n2 n3 r n x6) from HBQ6.out.set 5 (.int .i64 n))
            have HBC7 := Lib.hid (HBC6.out.kept (grown_set (grown_refl w6 (some BQ)) 5 (.int .i64 n)) (by have := HQS.out; simp; omega))
            obtain ⟨W7, hW7⟩ : ∃ x, w6.setCell ⟨BQ, 5, none⟩ (.int .i64 n) = x := ⟨_, rfl⟩
            rw [hW7] at HG7 HBQ7 HBC7
            have HW7 := Lib.hid hW7
            clear hW7 HBQ6 HBC6 HG6
            have z1 : n1.size ≤ 1048576 := by have := HZ0.out 1; rw [HXE.out.2.1] at this; have h2 := namedT_size x1; rw [HXE.out.2.2.2.2.2.2.2.2.1] at h2; omega
            have z2 : n2.size ≤ 1048576 := by have := HZ0.out 2; rw [HXE.out.2.2.1] at this; have h2 := namedT_size x2; rw [HXE.out.2.2.2.2.2.2.2.2.2.1] at h2; omega
            have z3 : n3.size ≤ 1048576 := by have := HZ0.out 3; rw [HXE.out.2.2.2.1] at this; have h2 := namedT_size x3; rw [HXE.out.2.2.2.2.2.2.2.2.2.2] at h2; omega
            have z6 : x6.size ≤ 1048576 := by have := restK_size 6 p; rw [HXE.out.2.2.2.2.2.2.1] at this; omega
            obtain ⟨S, hS, -, hSi⟩ := stext_any (kd : Int) n1 n2 n3 r n x6 z1 z2 z3 z6
            have HST := Lib.hid hS
            have HWR := Lib.hid (hSi W7 (HP.out.grown HG7.out))
            have HCP := Lib.hid (fun V => icopied_any V (kd : Int) n1 n2 n3 r n x6 z1 z2 z3 z6)
            clear hS hSi z1 z2 z3 z6
            go_wp2_with (rw [HW7.out]; refine wpList_load_blk rfl 31 _ rfl BQ (reqC kd n1 n2 n3 r n x6) 31 HBQ7.out _ Tryd.underlying31 rfl infoReq rfl ?_)
            refine HWR.out.mono ?_
            rintro e w8 ⟨rfl, hg8⟩
            have HBQ8 := Lib.hid (HBQ7.out.kept hg8 (by simp))
            have HBC8 := Lib.hid (HBC7.out.kept hg8 (by simp))
            have HG8 := Lib.hid (grown_trans HG7.out hg8)
            clear hg8 HWR HBQ7 HBC7 HG7 HW7 q5 f5
            by_cases hq : S.toList = p.toList
            · have hqb : (S.toList == p.toList) = true := by rw [beq_iff_eq]; exact hq
              have h0 : 0 < p.size := by
                have h1 := HNS.out 0 (by omega)
                have h2 : 0 ≤ atB 32 p := h1
                obtain ⟨k, hk⟩ : ∃ k : Nat, atB 32 p = k := ⟨(atB 32 p).toNat, by omega⟩
                obtain ⟨hk2, -⟩ := atB_some 32 p k hk
                omega
              have HRR := Lib.hid (rres_yes HST.out h0 hq)
              clear hq h0
              go_wp2_with (refine wpList_load_blk rfl 31 _ rfl BQ (reqC kd n1 n2 n3 r n x6) 31 HBQ8.out _ Tryd.underlying31 rfl infoReq rfl ?_)
              refine (HCP.out w8).mono ?_
              rintro e w9 ⟨rfl, hg9⟩
              have HBC9 := Lib.hid (HBC8.out.kept hg9 (by simp))
              have HG9 := Lib.hid (grown_trans HG8.out hg9)
              clear hg9 HCP
              go_wp2_with (refine wpList_store_blk rfl 31 _ _ rfl C (reqC kd n1 n2 n3 r n x6) Z 31 HBC9.out infoReq (by rw [← HZE.out]; rfl) (reqC_one _ _ _ _ _ _ _) rfl rfl ?_; intro wz hbz hgz)
              exact ⟨rfl, _, results_blk Tryd.results11 _ _ C 31 _ _ _ hbz.out Tryd.underlying31 rfl infoReq rfl rfl, HRR.out, grown_into HG9.out hgz.out HCD.out.2⟩
            · have hqb : (S.toList == p.toList) = false := by rw [beq_eq_false_iff_ne]; exact hq
              have HRR := Lib.hid (rres_none (rres_no (text := p) (S := S) (kd := kd) (run := r) (num := n) (by rw [HXE.out.2.1, HXE.out.2.2.1, HXE.out.2.2.2.1, HXE.out.2.2.2.2.2.2.1, HXE.out.2.2.2.2.2.2.2.2.1, HXE.out.2.2.2.2.2.2.2.2.2.1, HXE.out.2.2.2.2.2.2.2.2.2.2]; exact HST.out) (by rw [HXE.out.1, HXE.out.2.2.2.2.2.2.2.1]) (fun m hm e => (HR.out.of_dec (by omega) (by omega) (by rw [← HXE.out.2.2.2.2.1]; exact e)).1) (fun m hm e => (HN.out.of_dec (by omega) (by omega) (by rw [← HXE.out.2.2.2.2.2.1]; exact e)).1) hq))
              clear hq
              go_wp2_with (refine wpList_store_blk rfl 31 _ _ rfl C (reqC 0 ⟨#[]⟩ ⟨#[]⟩ ⟨#[]⟩ 0 0 ⟨#[]⟩) Z 31 HBC8.out infoReq (by rw [← HZE.out]) (reqC_one _ _ _ _ _ _ _) rfl rfl ?_; intro wz hbz hgz)
              exact ⟨rfl, _, results_blk Tryd.results11 _ _ C 31 _ _ _ hbz.out Tryd.underlying31 rfl infoReq rfl rfl, HRR.out, grown_into HG8.out hgz.out HCD.out.2⟩
        · skip
          go_simp
          obtain ⟨BQ, hBQ⟩ : ∃ x, wc.heap.size = x := ⟨_, rfl⟩
          have HQS := Lib.hid (show C < BQ ∧ D < BQ ∧ w.heap.size ≤ BQ from by rw [← hBQ]; exact ⟨hS.2.2.2.2.2.2.1.lt, hS.2.2.2.2.2.1.lt, hS.2.2.2.2.2.2.2.size⟩)
          rw [hBQ]
          refine hK.out _ _ (HSG0.out _ _ hS (World.grownBy_alloc _ _ none)) (fun hS => ?_)
          clear hK
          have hS := And.intro hS (show ∃ LZ : List Value, LZ.length = 7 ∧ Blk (wc.alloc (Obj.cells #[Value.int .i64 0, Value.string ⟨#[]⟩, Value.string ⟨#[]⟩, Value.string ⟨#[]⟩, Value.int .i64 0, Value.int .i64 0, Value.string ⟨#[]⟩] 31)) BQ 31 LZ from ⟨[Value.int .i64 0, Value.string ⟨#[]⟩, Value.string ⟨#[]⟩, Value.string ⟨#[]⟩, Value.int .i64 0, Value.int .i64 0, Value.string ⟨#[]⟩], rfl, by rw [← hBQ]; exact Blk.new wc 31 [Value.int .i64 0, Value.string ⟨#[]⟩, Value.string ⟨#[]⟩, Value.string ⟨#[]⟩, Value.int .i64 0, Value.int .i64 0, Value.string ⟨#[]⟩]⟩)
          refine wpAnyH_more (S' := fun V => ((fun V => V.cell? ⟨D, 0, none⟩ = some (.string x0) ∧ V.cell? ⟨D, 1, none⟩ = some (.string x1) ∧ V.cell? ⟨D, 2, none⟩ = some (.string x2) ∧ V.cell? ⟨D, 3, none⟩ = some (.string x3) ∧ V.cell? ⟨D, 6, none⟩ = some (.string x6) ∧ Blk V D 48 (strs L) ∧ Blk V C 31 Z ∧ w.grownBy V none)) V ∧ ∃ LZ : List Value, LZ.length = 7 ∧ Blk V BQ 31 LZ) (fun _ h => h.1) ?_
          obtain ⟨WA, hWA⟩ : ∃ x, wc.alloc (Obj.cells #[Value.int .i64 0, Value.string ⟨#[]⟩, Value.string ⟨#[]⟩, Value.string ⟨#[]⟩, Value.int .i64 0, Value.int .i64 0, Value.string ⟨#[]⟩] 31) = x := ⟨_, rfl⟩
          rw [hWA] at hS ⊢
          clear hWA hBQ
          try dsimp only at hS
          refine wpAnyH_ready (rs := [11]) (by kernel_rfl) (by simp) ?_
          refine AllReadyH.cons (o := ⟨some 26, _, _, _, _, _⟩) rfl (fun K hK => ?_) (AllReadyH.nil)
          · skip
            go_simp
            refine (HN3.out _).mono ?_
            rintro e wd ⟨rfl, hga⟩
            go_simp
            refine hK.out _ _ ⟨HSG0.out _ _ hS.1 hga, hS.2.elim fun LZ h => ⟨LZ, h.1, h.2.kept hga (by simp)⟩⟩ (fun hS => ?_)
            clear hK
            refine wpAnyH_take (i := 14) (oi := ⟨some 29, _, _, _, _, _⟩) (v := (.agg (reqC kd n1 n2 n3 0 0 x6).toArray)) rfl (by kernel_rfl) (by kernel_rfl) (by kernel_rfl) (fun _ _ _ h => h) (Or.inl ⟨by kernel_rfl, fun w' hSw => ?_⟩) hS ?_
            · go_simp
              all_goals first | rfl | (simp [*]; done)
            simp only [Act.put, List.setIfInBounds_toArray, List.set_cons_zero, List.set_cons_succ]
            refine wpAnyH_ready (rs := [16]) (by kernel_rfl) (by simp) ?_
            refine AllReadyH.cons (o := ⟨none, _, _, _, _, _⟩) rfl (fun K hK => ?_) AllReadyH.nil
            obtain ⟨LZ, hLZ, HBZ⟩ := hS.2
            refine step_store_blk (by kernel_rfl) 31 _ _ rfl BQ (reqC kd n1 n2 n3 0 0 x6) LZ 31 HBZ infoReq (by rw [hLZ]; rfl) (reqC_one _ _ _ _ _ _ _) rfl rfl ?_
            intro w3 hb3 hg3
            refine hK.out _ _ ⟨HSG1.out _ _ BQ hS.1 hg3.out HQS.out, (reqC kd n1 n2 n3 0 0 x6), rfl, hb3.out⟩ (fun hS3 => ?_)
            clear hK
            refine wpAnyH_done (by kernel_rfl) ?_ _
            have HBQ := hb3
            have HSF := Lib.hid hS3.1
            have HZ0 := Lib.hid (fun k => wordK_size k p)
            have d4 : w3.cell? ⟨D, 4, none⟩ = some (.string x4) := HSF.out.2.2.2.2.2.1.cell (by rw [← HL.out]; rfl)
            have HDC := Lib.hid (idec_any w3 x4 (by have := HZ0.out 4; rw [HXE.out.2.2.2.2.1] at this; omega) (HE.out.grown HSF.out.2.2.2.2.2.2.2) (HP.out.grown HSF.out.2.2.2.2.2.2.2))
            clear hS3 hS HSD hb2 HBC3 HG3 hg3
            go_wp2_with fail
            refine HDC.out.mono ?_
            rintro e w4 ⟨⟨r, b1, rfl, hr⟩, hg4⟩
            have HR := Lib.hid hr
            have HBQ4 := Lib.hid (HBQ.out.kept hg4 (by simp))
            have HBD4 := Lib.hid (HSF.out.2.2.2.2.2.1.kept hg4 (by simp))
            have HBC4 := Lib.hid (HSF.out.2.2.2.2.2.2.1.kept hg4 (by simp))
            have HG4 := Lib.hid (grown_trans HSF.out.2.2.2.2.2.2.2 hg4)
            clear hr hg4 HDC HSF HBQ d4 hb3
            have q4 : w4.cell? ⟨BQ, 4, none⟩ = some (.int .i64 0) := HBQ4.out.cell rfl
            have f4 := HBQ4.out.frozen 4
            have HG5 := Lib.hid (show w.grownBy (w4.setCell ⟨BQ, 4, none⟩ (.int .i64 r)) none from grown_into HG4.out (grown_set (grown_refl w4 (some BQ)) 4 _) HQS.out.2.2)
            have HBQ5 := Lib.hid (show Blk (w4.setCell ⟨BQ, 4, none⟩ (.int .i64 r)) BQ 31 (reqC kd n1 n2 n3 r 0 x6) from HBQ4.out.set 4 (.int .i64 r))
            have HBD5 := Lib.hid (HBD4.out.kept (grown_set (grown_refl w4 (some BQ)) 4 (.int .i64 r)) (by have := HQS.out; simp; omega))
            have HBC5 := Lib.hid (HBC4.out.kept (grown_set (grown_refl w4 (some BQ)) 4 (.int .i64 r)) (by have := HQS.out; simp; omega))
            obtain ⟨W5, hW5⟩ : ∃ x, w4.setCell ⟨BQ, 4, none⟩ (.int .i64 r) = x := ⟨_, rfl⟩
            rw [hW5] at HG5 HBQ5 HBD5 HBC5
            have d5' : (w4.setCell ⟨BQ, 4, none⟩ (.int .i64 r)).cell? ⟨D, 5, none⟩ = some (.string x5) := by rw [hW5]; exact HBD5.out.cell (by rw [← HL.out]; rfl)
            have HW5 := Lib.hid hW5
            have HDC := Lib.hid (idec_any W5 x5 (by have := HZ0.out 5; rw [HXE.out.2.2.2.2.2.1] at this; omega) (HE.out.grown HG5.out) (HP.out.grown HG5.out))
            clear hW5
            go_wp2_with fail
            rw [HW5.out]
            refine HDC.out.mono ?_
            rintro e w6 ⟨⟨n, b2, rfl, hn⟩, hg6⟩
            have HN := Lib.hid hn
            have HBQ6 := Lib.hid (HBQ5.out.kept hg6 (by simp))
            have HBC6 := Lib.hid (HBC5.out.kept hg6 (by simp))
            have HG6 := Lib.hid (grown_trans HG5.out hg6)
            clear hn hg6 HDC HBQ4 HBD4 HBC4 HG4 q4 f4 HG5 HBQ5 HBD5 HBC5 d5' HW5
            have q5 : w6.cell? ⟨BQ, 5, none⟩ = some (.int .i64 0) := HBQ6.out.cell rfl
            have f5 := HBQ6.out.frozen 5
            have HG7 := Lib.hid (show w.grownBy (w6.setCell ⟨BQ, 5, none⟩ (.int .i64 n)) none from grown_into HG6.out (grown_set (grown_refl w6 (some BQ)) 5 _) HQS.out.2.2)
            have HBQ7 := Lib.hid (show Blk (w6.setCell ⟨BQ, 5, none⟩ (.int .i64 n)) BQ 31 (reqC kd n1 n2 n3 r n x6) from HBQ6.out.set 5 (.int .i64 n))
            have HBC7 := Lib.hid (HBC6.out.kept (grown_set (grown_refl w6 (some BQ)) 5 (.int .i64 n)) (by have := HQS.out; simp; omega))
            obtain ⟨W7, hW7⟩ : ∃ x, w6.setCell ⟨BQ, 5, none⟩ (.int .i64 n) = x := ⟨_, rfl⟩
            rw [hW7] at HG7 HBQ7 HBC7
            have HW7 := Lib.hid hW7
            clear hW7 HBQ6 HBC6 HG6
            have z1 : n1.size ≤ 1048576 := by have := HZ0.out 1; rw [HXE.out.2.1] at this; have h2 := namedT_size x1; rw [HXE.out.2.2.2.2.2.2.2.2.1] at h2; omega
            have z2 : n2.size ≤ 1048576 := by have := HZ0.out 2; rw [HXE.out.2.2.1] at this; have h2 := namedT_size x2; rw [HXE.out.2.2.2.2.2.2.2.2.2.1] at h2; omega
            have z3 : n3.size ≤ 1048576 := by have := HZ0.out 3; rw [HXE.out.2.2.2.1] at this; have h2 := namedT_size x3; rw [HXE.out.2.2.2.2.2.2.2.2.2.2] at h2; omega
            have z6 : x6.size ≤ 1048576 := by have := restK_size 6 p; rw [HXE.out.2.2.2.2.2.2.1] at this; omega
            obtain ⟨S, hS, -, hSi⟩ := stext_any (kd : Int) n1 n2 n3 r n x6 z1 z2 z3 z6
            have HST := Lib.hid hS
            have HWR := Lib.hid (hSi W7 (HP.out.grown HG7.out))
            have HCP := Lib.hid (fun V => icopied_any V (kd : Int) n1 n2 n3 r n x6 z1 z2 z3 z6)
            clear hS hSi z1 z2 z3 z6
            go_wp2_with (rw [HW7.out]; refine wpList_load_blk rfl 31 _ rfl BQ (reqC kd n1 n2 n3 r n x6) 31 HBQ7.out _ Tryd.underlying31 rfl infoReq rfl ?_)
            refine HWR.out.mono ?_
            rintro e w8 ⟨rfl, hg8⟩
            have HBQ8 := Lib.hid (HBQ7.out.kept hg8 (by simp))
            have HBC8 := Lib.hid (HBC7.out.kept hg8 (by simp))
            have HG8 := Lib.hid (grown_trans HG7.out hg8)
            clear hg8 HWR HBQ7 HBC7 HG7 HW7 q5 f5
            by_cases hq : S.toList = p.toList
            · have hqb : (S.toList == p.toList) = true := by rw [beq_iff_eq]; exact hq
              have h0 : 0 < p.size := by
                have h1 := HNS.out 0 (by omega)
                have h2 : 0 ≤ atB 32 p := h1
                obtain ⟨k, hk⟩ : ∃ k : Nat, atB 32 p = k := ⟨(atB 32 p).toNat, by omega⟩
                obtain ⟨hk2, -⟩ := atB_some 32 p k hk
                omega
              have HRR := Lib.hid (rres_yes HST.out h0 hq)
              clear hq h0
              go_wp2_with (refine wpList_load_blk rfl 31 _ rfl BQ (reqC kd n1 n2 n3 r n x6) 31 HBQ8.out _ Tryd.underlying31 rfl infoReq rfl ?_)
              refine (HCP.out w8).mono ?_
              rintro e w9 ⟨rfl, hg9⟩
              have HBC9 := Lib.hid (HBC8.out.kept hg9 (by simp))
              have HG9 := Lib.hid (grown_trans HG8.out hg9)
              clear hg9 HCP
              go_wp2_with (refine wpList_store_blk rfl 31 _ _ rfl C (reqC kd n1 n2 n3 r n x6) Z 31 HBC9.out infoReq (by rw [← HZE.out]; rfl) (reqC_one _ _ _ _ _ _ _) rfl rfl ?_; intro wz hbz hgz)
              exact ⟨rfl, _, results_blk Tryd.results11 _ _ C 31 _ _ _ hbz.out Tryd.underlying31 rfl infoReq rfl rfl, HRR.out, grown_into HG9.out hgz.out HCD.out.2⟩
            · have hqb : (S.toList == p.toList) = false := by rw [beq_eq_false_iff_ne]; exact hq
              have HRR := Lib.hid (rres_none (rres_no (text := p) (S := S) (kd := kd) (run := r) (num := n) (by rw [HXE.out.2.1, HXE.out.2.2.1, HXE.out.2.2.2.1, HXE.out.2.2.2.2.2.2.1, HXE.out.2.2.2.2.2.2.2.2.1, HXE.out.2.2.2.2.2.2.2.2.2.1, HXE.out.2.2.2.2.2.2.2.2.2.2]; exact HST.out) (by rw [HXE.out.1, HXE.out.2.2.2.2.2.2.2.1]) (fun m hm e => (HR.out.of_dec (by omega) (by omega) (by rw [← HXE.out.2.2.2.2.1]; exact e)).1) (fun m hm e => (HN.out.of_dec (by omega) (by omega) (by rw [← HXE.out.2.2.2.2.2.1]; exact e)).1) hq))
              clear hq
              go_wp2_with (refine wpList_store_blk rfl 31 _ _ rfl C (reqC 0 ⟨#[]⟩ ⟨#[]⟩ ⟨#[]⟩ 0 0 ⟨#[]⟩) Z 31 HBC8.out infoReq (by rw [← HZE.out]) (reqC_one _ _ _ _ _ _ _) rfl rfl ?_; intro wz hbz hgz)
              exact ⟨rfl, _, results_blk Tryd.results11 _ _ C 31 _ _ _ hbz.out Tryd.underlying31 rfl infoReq rfl rfl, HRR.out, grown_into HG8.out hgz.out HCD.out.2⟩
      · skip
        go_simp
        obtain ⟨BQ, hBQ⟩ : ∃ x, wb.heap.size = x := ⟨_, rfl⟩
        have HQS := Lib.hid (show C < BQ ∧ D < BQ ∧ w.heap.size ≤ BQ from by rw [← hBQ]; exact ⟨hS.2.2.2.2.2.2.1.lt, hS.2.2.2.2.2.1.lt, hS.2.2.2.2.2.2.2.size⟩)
        rw [hBQ]
        refine hK.out _ _ (HSG0.out _ _ hS (World.grownBy_alloc _ _ none)) (fun hS => ?_)
        clear hK
        have hS := And.intro hS (show ∃ LZ : List Value, LZ.length = 7 ∧ Blk (wb.alloc (Obj.cells #[Value.int .i64 0, Value.string ⟨#[]⟩, Value.string ⟨#[]⟩, Value.string ⟨#[]⟩, Value.int .i64 0, Value.int .i64 0, Value.string ⟨#[]⟩] 31)) BQ 31 LZ from ⟨[Value.int .i64 0, Value.string ⟨#[]⟩, Value.string ⟨#[]⟩, Value.string ⟨#[]⟩, Value.int .i64 0, Value.int .i64 0, Value.string ⟨#[]⟩], rfl, by rw [← hBQ]; exact Blk.new wb 31 [Value.int .i64 0, Value.string ⟨#[]⟩, Value.string ⟨#[]⟩, Value.string ⟨#[]⟩, Value.int .i64 0, Value.int .i64 0, Value.string ⟨#[]⟩]⟩)
        refine wpAnyH_more (S' := fun V => ((fun V => V.cell? ⟨D, 0, none⟩ = some (.string x0) ∧ V.cell? ⟨D, 1, none⟩ = some (.string x1) ∧ V.cell? ⟨D, 2, none⟩ = some (.string x2) ∧ V.cell? ⟨D, 3, none⟩ = some (.string x3) ∧ V.cell? ⟨D, 6, none⟩ = some (.string x6) ∧ Blk V D 48 (strs L) ∧ Blk V C 31 Z ∧ w.grownBy V none)) V ∧ ∃ LZ : List Value, LZ.length = 7 ∧ Blk V BQ 31 LZ) (fun _ h => h.1) ?_
        obtain ⟨WA, hWA⟩ : ∃ x, wb.alloc (Obj.cells #[Value.int .i64 0, Value.string ⟨#[]⟩, Value.string ⟨#[]⟩, Value.string ⟨#[]⟩, Value.int .i64 0, Value.int .i64 0, Value.string ⟨#[]⟩] 31) = x := ⟨_, rfl⟩
        rw [hWA] at hS ⊢
        clear hWA hBQ
        try dsimp only at hS
        refine wpAnyH_ready (rs := [8]) (by kernel_rfl) (by simp) ?_
        refine AllReadyH.cons (o := ⟨some 23, _, _, _, _, _⟩) rfl (fun K hK => ?_) (AllReadyH.nil)
        · skip
          go_simp
          refine (HN2.out _).mono ?_
          rintro e wc ⟨rfl, hga⟩
          go_simp
          refine hK.out _ _ ⟨HSG0.out _ _ hS.1 hga, hS.2.elim fun LZ h => ⟨LZ, h.1, h.2.kept hga (by simp)⟩⟩ (fun hS => ?_)
          clear hK
          refine wpAnyH_ready (rs := [11]) (by kernel_rfl) (by simp) ?_
          refine AllReadyH.cons (o := ⟨some 26, _, _, _, _, _⟩) rfl (fun K hK => ?_) (AllReadyH.nil)
          · skip
            go_simp
            refine (HN3.out _).mono ?_
            rintro e wd ⟨rfl, hga⟩
            go_simp
            refine hK.out _ _ ⟨HSG0.out _ _ hS.1 hga, hS.2.elim fun LZ h => ⟨LZ, h.1, h.2.kept hga (by simp)⟩⟩ (fun hS => ?_)
            clear hK
            refine wpAnyH_take (i := 14) (oi := ⟨some 29, _, _, _, _, _⟩) (v := (.agg (reqC kd n1 n2 n3 0 0 x6).toArray)) rfl (by kernel_rfl) (by kernel_rfl) (by kernel_rfl) (fun _ _ _ h => h) (Or.inl ⟨by kernel_rfl, fun w' hSw => ?_⟩) hS ?_
            · go_simp
              all_goals first | rfl | (simp [*]; done)
            simp only [Act.put, List.setIfInBounds_toArray, List.set_cons_zero, List.set_cons_succ]
            refine wpAnyH_ready (rs := [16]) (by kernel_rfl) (by simp) ?_
            refine AllReadyH.cons (o := ⟨none, _, _, _, _, _⟩) rfl (fun K hK => ?_) AllReadyH.nil
            obtain ⟨LZ, hLZ, HBZ⟩ := hS.2
            refine step_store_blk (by kernel_rfl) 31 _ _ rfl BQ (reqC kd n1 n2 n3 0 0 x6) LZ 31 HBZ infoReq (by rw [hLZ]; rfl) (reqC_one _ _ _ _ _ _ _) rfl rfl ?_
            intro w3 hb3 hg3
            refine hK.out _ _ ⟨HSG1.out _ _ BQ hS.1 hg3.out HQS.out, (reqC kd n1 n2 n3 0 0 x6), rfl, hb3.out⟩ (fun hS3 => ?_)
            clear hK
            refine wpAnyH_done (by kernel_rfl) ?_ _
            have HBQ := hb3
            have HSF := Lib.hid hS3.1
            have HZ0 := Lib.hid (fun k => wordK_size k p)
            have d4 : w3.cell? ⟨D, 4, none⟩ = some (.string x4) := HSF.out.2.2.2.2.2.1.cell (by rw [← HL.out]; rfl)
            have HDC := Lib.hid (idec_any w3 x4 (by have := HZ0.out 4; rw [HXE.out.2.2.2.2.1] at this; omega) (HE.out.grown HSF.out.2.2.2.2.2.2.2) (HP.out.grown HSF.out.2.2.2.2.2.2.2))
            clear hS3 hS HSD hb2 HBC3 HG3 hg3
            go_wp2_with fail
            refine HDC.out.mono ?_
            rintro e w4 ⟨⟨r, b1, rfl, hr⟩, hg4⟩
            have HR := Lib.hid hr
            have HBQ4 := Lib.hid (HBQ.out.kept hg4 (by simp))
            have HBD4 := Lib.hid (HSF.out.2.2.2.2.2.1.kept hg4 (by simp))
            have HBC4 := Lib.hid (HSF.out.2.2.2.2.2.2.1.kept hg4 (by simp))
            have HG4 := Lib.hid (grown_trans HSF.out.2.2.2.2.2.2.2 hg4)
            clear hr hg4 HDC HSF HBQ d4 hb3
            have q4 : w4.cell? ⟨BQ, 4, none⟩ = some (.int .i64 0) := HBQ4.out.cell rfl
            have f4 := HBQ4.out.frozen 4
            have HG5 := Lib.hid (show w.grownBy (w4.setCell ⟨BQ, 4, none⟩ (.int .i64 r)) none from grown_into HG4.out (grown_set (grown_refl w4 (some BQ)) 4 _) HQS.out.2.2)
            have HBQ5 := Lib.hid (show Blk (w4.setCell ⟨BQ, 4, none⟩ (.int .i64 r)) BQ 31 (reqC kd n1 n2 n3 r 0 x6) from HBQ4.out.set 4 (.int .i64 r))
            have HBD5 := Lib.hid (HBD4.out.kept (grown_set (grown_refl w4 (some BQ)) 4 (.int .i64 r)) (by have := HQS.out; simp; omega))
            have HBC5 := Lib.hid (HBC4.out.kept (grown_set (grown_refl w4 (some BQ)) 4 (.int .i64 r)) (by have := HQS.out; simp; omega))
            obtain ⟨W5, hW5⟩ : ∃ x, w4.setCell ⟨BQ, 4, none⟩ (.int .i64 r) = x := ⟨_, rfl⟩
            rw [hW5] at HG5 HBQ5 HBD5 HBC5
            have d5' : (w4.setCell ⟨BQ, 4, none⟩ (.int .i64 r)).cell? ⟨D, 5, none⟩ = some (.string x5) := by rw [hW5]; exact HBD5.out.cell (by rw [← HL.out]; rfl)
            have HW5 := Lib.hid hW5
            have HDC := Lib.hid (idec_any W5 x5 (by have := HZ0.out 5; rw [HXE.out.2.2.2.2.2.1] at this; omega) (HE.out.grown HG5.out) (HP.out.grown HG5.out))
            clear hW5
            go_wp2_with fail
            rw [HW5.out]
            refine HDC.out.mono ?_
            rintro e w6 ⟨⟨n, b2, rfl, hn⟩, hg6⟩
            have HN := Lib.hid hn
            have HBQ6 := Lib.hid (HBQ5.out.kept hg6 (by simp))
            have HBC6 := Lib.hid (HBC5.out.kept hg6 (by simp))
            have HG6 := Lib.hid (grown_trans HG5.out hg6)
            clear hn hg6 HDC HBQ4 HBD4 HBC4 HG4 q4 f4 HG5 HBQ5 HBD5 HBC5 d5' HW5
            have q5 : w6.cell? ⟨BQ, 5, none⟩ = some (.int .i64 0) := HBQ6.out.cell rfl
            have f5 := HBQ6.out.frozen 5
            have HG7 := Lib.hid (show w.grownBy (w6.setCell ⟨BQ, 5, none⟩ (.int .i64 n)) none from grown_into HG6.out (grown_set (grown_refl w6 (some BQ)) 5 _) HQS.out.2.2)
            have HBQ7 := Lib.hid (show Blk (w6.setCell ⟨BQ, 5, none⟩ (.int .i64 n)) BQ 31 (reqC kd n1 n2 n3 r n x6) from HBQ6.out.set 5 (.int .i64 n))
            have HBC7 := Lib.hid (HBC6.out.kept (grown_set (grown_refl w6 (some BQ)) 5 (.int .i64 n)) (by have := HQS.out; simp; omega))
            obtain ⟨W7, hW7⟩ : ∃ x, w6.setCell ⟨BQ, 5, none⟩ (.int .i64 n) = x := ⟨_, rfl⟩
            rw [hW7] at HG7 HBQ7 HBC7
            have HW7 := Lib.hid hW7
            clear hW7 HBQ6 HBC6 HG6
            have z1 : n1.size ≤ 1048576 := by have := HZ0.out 1; rw [HXE.out.2.1] at this; have h2 := namedT_size x1; rw [HXE.out.2.2.2.2.2.2.2.2.1] at h2; omega
            have z2 : n2.size ≤ 1048576 := by have := HZ0.out 2; rw [HXE.out.2.2.1] at this; have h2 := namedT_size x2; rw [HXE.out.2.2.2.2.2.2.2.2.2.1] at h2; omega
            have z3 : n3.size ≤ 1048576 := by have := HZ0.out 3; rw [HXE.out.2.2.2.1] at this; have h2 := namedT_size x3; rw [HXE.out.2.2.2.2.2.2.2.2.2.2] at h2; omega
            have z6 : x6.size ≤ 1048576 := by have := restK_size 6 p; rw [HXE.out.2.2.2.2.2.2.1] at this; omega
            obtain ⟨S, hS, -, hSi⟩ := stext_any (kd : Int) n1 n2 n3 r n x6 z1 z2 z3 z6
            have HST := Lib.hid hS
            have HWR := Lib.hid (hSi W7 (HP.out.grown HG7.out))
            have HCP := Lib.hid (fun V => icopied_any V (kd : Int) n1 n2 n3 r n x6 z1 z2 z3 z6)
            clear hS hSi z1 z2 z3 z6
            go_wp2_with (rw [HW7.out]; refine wpList_load_blk rfl 31 _ rfl BQ (reqC kd n1 n2 n3 r n x6) 31 HBQ7.out _ Tryd.underlying31 rfl infoReq rfl ?_)
            refine HWR.out.mono ?_
            rintro e w8 ⟨rfl, hg8⟩
            have HBQ8 := Lib.hid (HBQ7.out.kept hg8 (by simp))
            have HBC8 := Lib.hid (HBC7.out.kept hg8 (by simp))
            have HG8 := Lib.hid (grown_trans HG7.out hg8)
            clear hg8 HWR HBQ7 HBC7 HG7 HW7 q5 f5
            by_cases hq : S.toList = p.toList
            · have hqb : (S.toList == p.toList) = true := by rw [beq_iff_eq]; exact hq
              have h0 : 0 < p.size := by
                have h1 := HNS.out 0 (by omega)
                have h2 : 0 ≤ atB 32 p := h1
                obtain ⟨k, hk⟩ : ∃ k : Nat, atB 32 p = k := ⟨(atB 32 p).toNat, by omega⟩
                obtain ⟨hk2, -⟩ := atB_some 32 p k hk
                omega
              have HRR := Lib.hid (rres_yes HST.out h0 hq)
              clear hq h0
              go_wp2_with (refine wpList_load_blk rfl 31 _ rfl BQ (reqC kd n1 n2 n3 r n x6) 31 HBQ8.out _ Tryd.underlying31 rfl infoReq rfl ?_)
              refine (HCP.out w8).mono ?_
              rintro e w9 ⟨rfl, hg9⟩
              have HBC9 := Lib.hid (HBC8.out.kept hg9 (by simp))
              have HG9 := Lib.hid (grown_trans HG8.out hg9)
              clear hg9 HCP
              go_wp2_with (refine wpList_store_blk rfl 31 _ _ rfl C (reqC kd n1 n2 n3 r n x6) Z 31 HBC9.out infoReq (by rw [← HZE.out]; rfl) (reqC_one _ _ _ _ _ _ _) rfl rfl ?_; intro wz hbz hgz)
              exact ⟨rfl, _, results_blk Tryd.results11 _ _ C 31 _ _ _ hbz.out Tryd.underlying31 rfl infoReq rfl rfl, HRR.out, grown_into HG9.out hgz.out HCD.out.2⟩
            · have hqb : (S.toList == p.toList) = false := by rw [beq_eq_false_iff_ne]; exact hq
              have HRR := Lib.hid (rres_none (rres_no (text := p) (S := S) (kd := kd) (run := r) (num := n) (by rw [HXE.out.2.1, HXE.out.2.2.1, HXE.out.2.2.2.1, HXE.out.2.2.2.2.2.2.1, HXE.out.2.2.2.2.2.2.2.2.1, HXE.out.2.2.2.2.2.2.2.2.2.1, HXE.out.2.2.2.2.2.2.2.2.2.2]; exact HST.out) (by rw [HXE.out.1, HXE.out.2.2.2.2.2.2.2.1]) (fun m hm e => (HR.out.of_dec (by omega) (by omega) (by rw [← HXE.out.2.2.2.2.1]; exact e)).1) (fun m hm e => (HN.out.of_dec (by omega) (by omega) (by rw [← HXE.out.2.2.2.2.2.1]; exact e)).1) hq))
              clear hq
              go_wp2_with (refine wpList_store_blk rfl 31 _ _ rfl C (reqC 0 ⟨#[]⟩ ⟨#[]⟩ ⟨#[]⟩ 0 0 ⟨#[]⟩) Z 31 HBC8.out infoReq (by rw [← HZE.out]) (reqC_one _ _ _ _ _ _ _) rfl rfl ?_; intro wz hbz hgz)
              exact ⟨rfl, _, results_blk Tryd.results11 _ _ C 31 _ _ _ hbz.out Tryd.underlying31 rfl infoReq rfl rfl, HRR.out, grown_into HG8.out hgz.out HCD.out.2⟩
    · skip
      go_simp
      obtain ⟨BQ, hBQ⟩ : ∃ x, wa.heap.size = x := ⟨_, rfl⟩
      have HQS := Lib.hid (show C < BQ ∧ D < BQ ∧ w.heap.size ≤ BQ from by rw [← hBQ]; exact ⟨hS.2.2.2.2.2.2.1.lt, hS.2.2.2.2.2.1.lt, hS.2.2.2.2.2.2.2.size⟩)
      rw [hBQ]
      refine hK.out _ _ (HSG0.out _ _ hS (World.grownBy_alloc _ _ none)) (fun hS => ?_)
      clear hK
      have hS := And.intro hS (show ∃ LZ : List Value, LZ.length = 7 ∧ Blk (wa.alloc (Obj.cells #[Value.int .i64 0, Value.string ⟨#[]⟩, Value.string ⟨#[]⟩, Value.string ⟨#[]⟩, Value.int .i64 0, Value.int .i64 0, Value.string ⟨#[]⟩] 31)) BQ 31 LZ from ⟨[Value.int .i64 0, Value.string ⟨#[]⟩, Value.string ⟨#[]⟩, Value.string ⟨#[]⟩, Value.int .i64 0, Value.int .i64 0, Value.string ⟨#[]⟩], rfl, by rw [← hBQ]; exact Blk.new wa 31 [Value.int .i64 0, Value.string ⟨#[]⟩, Value.string ⟨#[]⟩, Value.string ⟨#[]⟩, Value.int .i64 0, Value.int .i64 0, Value.string ⟨#[]⟩]⟩)
      refine wpAnyH_more (S' := fun V => ((fun V => V.cell? ⟨D, 0, none⟩ = some (.string x0) ∧ V.cell? ⟨D, 1, none⟩ = some (.string x1) ∧ V.cell? ⟨D, 2, none⟩ = some (.string x2) ∧ V.cell? ⟨D, 3, none⟩ = some (.string x3) ∧ V.cell? ⟨D, 6, none⟩ = some (.string x6) ∧ Blk V D 48 (strs L) ∧ Blk V C 31 Z ∧ w.grownBy V none)) V ∧ ∃ LZ : List Value, LZ.length = 7 ∧ Blk V BQ 31 LZ) (fun _ h => h.1) ?_
      obtain ⟨WA, hWA⟩ : ∃ x, wa.alloc (Obj.cells #[Value.int .i64 0, Value.string ⟨#[]⟩, Value.string ⟨#[]⟩, Value.string ⟨#[]⟩, Value.int .i64 0, Value.int .i64 0, Value.string ⟨#[]⟩] 31) = x := ⟨_, rfl⟩
      rw [hWA] at hS ⊢
      clear hWA hBQ
      try dsimp only at hS
      refine wpAnyH_ready (rs := [5]) (by kernel_rfl) (by simp) ?_
      refine AllReadyH.cons (o := ⟨some 20, _, _, _, _, _⟩) rfl (fun K hK => ?_) (AllReadyH.nil)
      · skip
        go_simp
        refine (HN1.out _).mono ?_
        rintro e wb ⟨rfl, hga⟩
        go_simp
        refine hK.out _ _ ⟨HSG0.out _ _ hS.1 hga, hS.2.elim fun LZ h => ⟨LZ, h.1, h.2.kept hga (by simp)⟩⟩ (fun hS => ?_)
        clear hK
        refine wpAnyH_ready (rs := [8]) (by kernel_rfl) (by simp) ?_
        refine AllReadyH.cons (o := ⟨some 23, _, _, _, _, _⟩) rfl (fun K hK => ?_) (AllReadyH.nil)
        · skip
          go_simp
          refine (HN2.out _).mono ?_
          rintro e wc ⟨rfl, hga⟩
          go_simp
          refine hK.out _ _ ⟨HSG0.out _ _ hS.1 hga, hS.2.elim fun LZ h => ⟨LZ, h.1, h.2.kept hga (by simp)⟩⟩ (fun hS => ?_)
          clear hK
          refine wpAnyH_ready (rs := [11]) (by kernel_rfl) (by simp) ?_
          refine AllReadyH.cons (o := ⟨some 26, _, _, _, _, _⟩) rfl (fun K hK => ?_) (AllReadyH.nil)
          · skip
            go_simp
            refine (HN3.out _).mono ?_
            rintro e wd ⟨rfl, hga⟩
            go_simp
            refine hK.out _ _ ⟨HSG0.out _ _ hS.1 hga, hS.2.elim fun LZ h => ⟨LZ, h.1, h.2.kept hga (by simp)⟩⟩ (fun hS => ?_)
            clear hK
            refine wpAnyH_take (i := 14) (oi := ⟨some 29, _, _, _, _, _⟩) (v := (.agg (reqC kd n1 n2 n3 0 0 x6).toArray)) rfl (by kernel_rfl) (by kernel_rfl) (by kernel_rfl) (fun _ _ _ h => h) (Or.inl ⟨by kernel_rfl, fun w' hSw => ?_⟩) hS ?_
            · go_simp
              all_goals first | rfl | (simp [*]; done)
            simp only [Act.put, List.setIfInBounds_toArray, List.set_cons_zero, List.set_cons_succ]
            refine wpAnyH_ready (rs := [16]) (by kernel_rfl) (by simp) ?_
            refine AllReadyH.cons (o := ⟨none, _, _, _, _, _⟩) rfl (fun K hK => ?_) AllReadyH.nil
            obtain ⟨LZ, hLZ, HBZ⟩ := hS.2
            refine step_store_blk (by kernel_rfl) 31 _ _ rfl BQ (reqC kd n1 n2 n3 0 0 x6) LZ 31 HBZ infoReq (by rw [hLZ]; rfl) (reqC_one _ _ _ _ _ _ _) rfl rfl ?_
            intro w3 hb3 hg3
            refine hK.out _ _ ⟨HSG1.out _ _ BQ hS.1 hg3.out HQS.out, (reqC kd n1 n2 n3 0 0 x6), rfl, hb3.out⟩ (fun hS3 => ?_)
            clear hK
            refine wpAnyH_done (by kernel_rfl) ?_ _
            have HBQ := hb3
            have HSF := Lib.hid hS3.1
            have HZ0 := Lib.hid (fun k => wordK_size k p)
            have d4 : w3.cell? ⟨D, 4, none⟩ = some (.string x4) := HSF.out.2.2.2.2.2.1.cell (by rw [← HL.out]; rfl)
            have HDC := Lib.hid (idec_any w3 x4 (by have := HZ0.out 4; rw [HXE.out.2.2.2.2.1] at this; omega) (HE.out.grown HSF.out.2.2.2.2.2.2.2) (HP.out.grown HSF.out.2.2.2.2.2.2.2))
            clear hS3 hS HSD hb2 HBC3 HG3 hg3
            go_wp2_with fail
            refine HDC.out.mono ?_
            rintro e w4 ⟨⟨r, b1, rfl, hr⟩, hg4⟩
            have HR := Lib.hid hr
            have HBQ4 := Lib.hid (HBQ.out.kept hg4 (by simp))
            have HBD4 := Lib.hid (HSF.out.2.2.2.2.2.1.kept hg4 (by simp))
            have HBC4 := Lib.hid (HSF.out.2.2.2.2.2.2.1.kept hg4 (by simp))
            have HG4 := Lib.hid (grown_trans HSF.out.2.2.2.2.2.2.2 hg4)
            clear hr hg4 HDC HSF HBQ d4 hb3
            have q4 : w4.cell? ⟨BQ, 4, none⟩ = some (.int .i64 0) := HBQ4.out.cell rfl
            have f4 := HBQ4.out.frozen 4
            have HG5 := Lib.hid (show w.grownBy (w4.setCell ⟨BQ, 4, none⟩ (.int .i64 r)) none from grown_into HG4.out (grown_set (grown_refl w4 (some BQ)) 4 _) HQS.out.2.2)
            have HBQ5 := Lib.hid (show Blk (w4.setCell ⟨BQ, 4, none⟩ (.int .i64 r)) BQ 31 (reqC kd n1 n2 n3 r 0 x6) from HBQ4.out.set 4 (.int .i64 r))
            have HBD5 := Lib.hid (HBD4.out.kept (grown_set (grown_refl w4 (some BQ)) 4 (.int .i64 r)) (by have := HQS.out; simp; omega))
            have HBC5 := Lib.hid (HBC4.out.kept (grown_set (grown_refl w4 (some BQ)) 4 (.int .i64 r)) (by have := HQS.out; simp; omega))
            obtain ⟨W5, hW5⟩ : ∃ x, w4.setCell ⟨BQ, 4, none⟩ (.int .i64 r) = x := ⟨_, rfl⟩
            rw [hW5] at HG5 HBQ5 HBD5 HBC5
            have d5' : (w4.setCell ⟨BQ, 4, none⟩ (.int .i64 r)).cell? ⟨D, 5, none⟩ = some (.string x5) := by rw [hW5]; exact HBD5.out.cell (by rw [← HL.out]; rfl)
            have HW5 := Lib.hid hW5
            have HDC := Lib.hid (idec_any W5 x5 (by have := HZ0.out 5; rw [HXE.out.2.2.2.2.2.1] at this; omega) (HE.out.grown HG5.out) (HP.out.grown HG5.out))
            clear hW5
            go_wp2_with fail
            rw [HW5.out]
            refine HDC.out.mono ?_
            rintro e w6 ⟨⟨n, b2, rfl, hn⟩, hg6⟩
            have HN := Lib.hid hn
            have HBQ6 := Lib.hid (HBQ5.out.kept hg6 (by simp))
            have HBC6 := Lib.hid (HBC5.out.kept hg6 (by simp))
            have HG6 := Lib.hid (grown_trans HG5.out hg6)
            clear hn hg6 HDC HBQ4 HBD4 HBC4 HG4 q4 f4 HG5 HBQ5 HBD5 HBC5 d5' HW5
            have q5 : w6.cell? ⟨BQ, 5, none⟩ = some (.int .i64 0) := HBQ6.out.cell rfl
            have f5 := HBQ6.out.frozen 5
            have HG7 := Lib.hid (show w.grownBy (w6.setCell ⟨BQ, 5, none⟩ (.int .i64 n)) none from grown_into HG6.out (grown_set (grown_refl w6 (some BQ)) 5 _) HQS.out.2.2)
            have HBQ7 := Lib.hid (show Blk (w6.setCell ⟨BQ, 5, none⟩ (.int .i64 n)) BQ 31 (reqC kd n1 n2 n3 r n x6) from HBQ6.out.set 5 (.int .i64 n))
            have HBC7 := Lib.hid (HBC6.out.kept (grown_set (grown_refl w6 (some BQ)) 5 (.int .i64 n)) (by have := HQS.out; simp; omega))
            obtain ⟨W7, hW7⟩ : ∃ x, w6.setCell ⟨BQ, 5, none⟩ (.int .i64 n) = x := ⟨_, rfl⟩
            rw [hW7] at HG7 HBQ7 HBC7
            have HW7 := Lib.hid hW7
            clear hW7 HBQ6 HBC6 HG6
            have z1 : n1.size ≤ 1048576 := by have := HZ0.out 1; rw [HXE.out.2.1] at this; have h2 := namedT_size x1; rw [HXE.out.2.2.2.2.2.2.2.2.1] at h2; omega
            have z2 : n2.size ≤ 1048576 := by have := HZ0.out 2; rw [HXE.out.2.2.1] at this; have h2 := namedT_size x2; rw [HXE.out.2.2.2.2.2.2.2.2.2.1] at h2; omega
            have z3 : n3.size ≤ 1048576 := by have := HZ0.out 3; rw [HXE.out.2.2.2.1] at this; have h2 := namedT_size x3; rw [HXE.out.2.2.2.2.2.2.2.2.2.2] at h2; omega
            have z6 : x6.size ≤ 1048576 := by have := restK_size 6 p; rw [HXE.out.2.2.2.2.2.2.1] at this; omega
            obtain ⟨S, hS, -, hSi⟩ := stext_any (kd : Int) n1 n2 n3 r n x6 z1 z2 z3 z6
            have HST := Lib.hid hS
            have HWR := Lib.hid (hSi W7 (HP.out.grown HG7.out))
            have HCP := Lib.hid (fun V => icopied_any V (kd : Int) n1 n2 n3 r n x6 z1 z2 z3 z6)
            clear hS hSi z1 z2 z3 z6
            go_wp2_with (rw [HW7.out]; refine wpList_load_blk rfl 31 _ rfl BQ (reqC kd n1 n2 n3 r n x6) 31 HBQ7.out _ Tryd.underlying31 rfl infoReq rfl ?_)
            refine HWR.out.mono ?_
            rintro e w8 ⟨rfl, hg8⟩
            have HBQ8 := Lib.hid (HBQ7.out.kept hg8 (by simp))
            have HBC8 := Lib.hid (HBC7.out.kept hg8 (by simp))
            have HG8 := Lib.hid (grown_trans HG7.out hg8)
            clear hg8 HWR HBQ7 HBC7 HG7 HW7 q5 f5
            by_cases hq : S.toList = p.toList
            · have hqb : (S.toList == p.toList) = true := by rw [beq_iff_eq]; exact hq
              have h0 : 0 < p.size := by
                have h1 := HNS.out 0 (by omega)
                have h2 : 0 ≤ atB 32 p := h1
                obtain ⟨k, hk⟩ : ∃ k : Nat, atB 32 p = k := ⟨(atB 32 p).toNat, by omega⟩
                obtain ⟨hk2, -⟩ := atB_some 32 p k hk
                omega
              have HRR := Lib.hid (rres_yes HST.out h0 hq)
              clear hq h0
              go_wp2_with (refine wpList_load_blk rfl 31 _ rfl BQ (reqC kd n1 n2 n3 r n x6) 31 HBQ8.out _ Tryd.underlying31 rfl infoReq rfl ?_)
              refine (HCP.out w8).mono ?_
              rintro e w9 ⟨rfl, hg9⟩
              have HBC9 := Lib.hid (HBC8.out.kept hg9 (by simp))
              have HG9 := Lib.hid (grown_trans HG8.out hg9)
              clear hg9 HCP
              go_wp2_with (refine wpList_store_blk rfl 31 _ _ rfl C (reqC kd n1 n2 n3 r n x6) Z 31 HBC9.out infoReq (by rw [← HZE.out]; rfl) (reqC_one _ _ _ _ _ _ _) rfl rfl ?_; intro wz hbz hgz)
              exact ⟨rfl, _, results_blk Tryd.results11 _ _ C 31 _ _ _ hbz.out Tryd.underlying31 rfl infoReq rfl rfl, HRR.out, grown_into HG9.out hgz.out HCD.out.2⟩
            · have hqb : (S.toList == p.toList) = false := by rw [beq_eq_false_iff_ne]; exact hq
              have HRR := Lib.hid (rres_none (rres_no (text := p) (S := S) (kd := kd) (run := r) (num := n) (by rw [HXE.out.2.1, HXE.out.2.2.1, HXE.out.2.2.2.1, HXE.out.2.2.2.2.2.2.1, HXE.out.2.2.2.2.2.2.2.2.1, HXE.out.2.2.2.2.2.2.2.2.2.1, HXE.out.2.2.2.2.2.2.2.2.2.2]; exact HST.out) (by rw [HXE.out.1, HXE.out.2.2.2.2.2.2.2.1]) (fun m hm e => (HR.out.of_dec (by omega) (by omega) (by rw [← HXE.out.2.2.2.2.1]; exact e)).1) (fun m hm e => (HN.out.of_dec (by omega) (by omega) (by rw [← HXE.out.2.2.2.2.2.1]; exact e)).1) hq))
              clear hq
              go_wp2_with (refine wpList_store_blk rfl 31 _ _ rfl C (reqC 0 ⟨#[]⟩ ⟨#[]⟩ ⟨#[]⟩ 0 0 ⟨#[]⟩) Z 31 HBC8.out infoReq (by rw [← HZE.out]) (reqC_one _ _ _ _ _ _ _) rfl rfl ?_; intro wz hbz hgz)
              exact ⟨rfl, _, results_blk Tryd.results11 _ _ C 31 _ _ _ hbz.out Tryd.underlying31 rfl infoReq rfl rfl, HRR.out, grown_into HG8.out hgz.out HCD.out.2⟩
  · skip
    go_simp
    obtain ⟨BQ, hBQ⟩ : ∃ x, V0.heap.size = x := ⟨_, rfl⟩
    have HQS := Lib.hid (show C < BQ ∧ D < BQ ∧ w.heap.size ≤ BQ from by rw [← hBQ]; exact ⟨hS.2.2.2.2.2.2.1.lt, hS.2.2.2.2.2.1.lt, hS.2.2.2.2.2.2.2.size⟩)
    rw [hBQ]
    refine hK.out _ _ (HSG0.out _ _ hS (World.grownBy_alloc _ _ none)) (fun hS => ?_)
    clear hK
    have hS := And.intro hS (show ∃ LZ : List Value, LZ.length = 7 ∧ Blk (V0.alloc (Obj.cells #[Value.int .i64 0, Value.string ⟨#[]⟩, Value.string ⟨#[]⟩, Value.string ⟨#[]⟩, Value.int .i64 0, Value.int .i64 0, Value.string ⟨#[]⟩] 31)) BQ 31 LZ from ⟨[Value.int .i64 0, Value.string ⟨#[]⟩, Value.string ⟨#[]⟩, Value.string ⟨#[]⟩, Value.int .i64 0, Value.int .i64 0, Value.string ⟨#[]⟩], rfl, by rw [← hBQ]; exact Blk.new V0 31 [Value.int .i64 0, Value.string ⟨#[]⟩, Value.string ⟨#[]⟩, Value.string ⟨#[]⟩, Value.int .i64 0, Value.int .i64 0, Value.string ⟨#[]⟩]⟩)
    refine wpAnyH_more (S' := fun V => ((fun V => V.cell? ⟨D, 0, none⟩ = some (.string x0) ∧ V.cell? ⟨D, 1, none⟩ = some (.string x1) ∧ V.cell? ⟨D, 2, none⟩ = some (.string x2) ∧ V.cell? ⟨D, 3, none⟩ = some (.string x3) ∧ V.cell? ⟨D, 6, none⟩ = some (.string x6) ∧ Blk V D 48 (strs L) ∧ Blk V C 31 Z ∧ w.grownBy V none)) V ∧ ∃ LZ : List Value, LZ.length = 7 ∧ Blk V BQ 31 LZ) (fun _ h => h.1) ?_
    obtain ⟨WA, hWA⟩ : ∃ x, V0.alloc (Obj.cells #[Value.int .i64 0, Value.string ⟨#[]⟩, Value.string ⟨#[]⟩, Value.string ⟨#[]⟩, Value.int .i64 0, Value.int .i64 0, Value.string ⟨#[]⟩] 31) = x := ⟨_, rfl⟩
    rw [hWA] at hS ⊢
    clear hWA hBQ
    try dsimp only at hS
    refine wpAnyH_ready (rs := [2]) (by kernel_rfl) (by simp) ?_
    refine AllReadyH.cons (o := ⟨some 17, _, _, _, _, _⟩) rfl (fun K hK => ?_) (AllReadyH.nil)
    · skip
      go_simp
      refine (HKO.out _).mono ?_
      rintro e wa ⟨rfl, hga⟩
      go_simp
      refine hK.out _ _ ⟨HSG0.out _ _ hS.1 hga, hS.2.elim fun LZ h => ⟨LZ, h.1, h.2.kept hga (by simp)⟩⟩ (fun hS => ?_)
      clear hK
      refine wpAnyH_ready (rs := [5]) (by kernel_rfl) (by simp) ?_
      refine AllReadyH.cons (o := ⟨some 20, _, _, _, _, _⟩) rfl (fun K hK => ?_) (AllReadyH.nil)
      · skip
        go_simp
        refine (HN1.out _).mono ?_
        rintro e wb ⟨rfl, hga⟩
        go_simp
        refine hK.out _ _ ⟨HSG0.out _ _ hS.1 hga, hS.2.elim fun LZ h => ⟨LZ, h.1, h.2.kept hga (by simp)⟩⟩ (fun hS => ?_)
        clear hK
        refine wpAnyH_ready (rs := [8]) (by kernel_rfl) (by simp) ?_
        refine AllReadyH.cons (o := ⟨some 23, _, _, _, _, _⟩) rfl (fun K hK => ?_) (AllReadyH.nil)
        · skip
          go_simp
          refine (HN2.out _).mono ?_
          rintro e wc ⟨rfl, hga⟩
          go_simp
          refine hK.out _ _ ⟨HSG0.out _ _ hS.1 hga, hS.2.elim fun LZ h => ⟨LZ, h.1, h.2.kept hga (by simp)⟩⟩ (fun hS => ?_)
          clear hK
          refine wpAnyH_ready (rs := [11]) (by kernel_rfl) (by simp) ?_
          refine AllReadyH.cons (o := ⟨some 26, _, _, _, _, _⟩) rfl (fun K hK => ?_) (AllReadyH.nil)
          · skip
            go_simp
            refine (HN3.out _).mono ?_
            rintro e wd ⟨rfl, hga⟩
            go_simp
            refine hK.out _ _ ⟨HSG0.out _ _ hS.1 hga, hS.2.elim fun LZ h => ⟨LZ, h.1, h.2.kept hga (by simp)⟩⟩ (fun hS => ?_)
            clear hK
            refine wpAnyH_take (i := 14) (oi := ⟨some 29, _, _, _, _, _⟩) (v := (.agg (reqC kd n1 n2 n3 0 0 x6).toArray)) rfl (by kernel_rfl) (by kernel_rfl) (by kernel_rfl) (fun _ _ _ h => h) (Or.inl ⟨by kernel_rfl, fun w' hSw => ?_⟩) hS ?_
            · go_simp
              all_goals first | rfl | (simp [*]; done)
            simp only [Act.put, List.setIfInBounds_toArray, List.set_cons_zero, List.set_cons_succ]
            refine wpAnyH_ready (rs := [16]) (by kernel_rfl) (by simp) ?_
            refine AllReadyH.cons (o := ⟨none, _, _, _, _, _⟩) rfl (fun K hK => ?_) AllReadyH.nil
            obtain ⟨LZ, hLZ, HBZ⟩ := hS.2
            refine step_store_blk (by kernel_rfl) 31 _ _ rfl BQ (reqC kd n1 n2 n3 0 0 x6) LZ 31 HBZ infoReq (by rw [hLZ]; rfl) (reqC_one _ _ _ _ _ _ _) rfl rfl ?_
            intro w3 hb3 hg3
            refine hK.out _ _ ⟨HSG1.out _ _ BQ hS.1 hg3.out HQS.out, (reqC kd n1 n2 n3 0 0 x6), rfl, hb3.out⟩ (fun hS3 => ?_)
            clear hK
            refine wpAnyH_done (by kernel_rfl) ?_ _
            have HBQ := hb3
            have HSF := Lib.hid hS3.1
            have HZ0 := Lib.hid (fun k => wordK_size k p)
            have d4 : w3.cell? ⟨D, 4, none⟩ = some (.string x4) := HSF.out.2.2.2.2.2.1.cell (by rw [← HL.out]; rfl)
            have HDC := Lib.hid (idec_any w3 x4 (by have := HZ0.out 4; rw [HXE.out.2.2.2.2.1] at this; omega) (HE.out.grown HSF.out.2.2.2.2.2.2.2) (HP.out.grown HSF.out.2.2.2.2.2.2.2))
            clear hS3 hS HSD hb2 HBC3 HG3 hg3
            go_wp2_with fail
            refine HDC.out.mono ?_
            rintro e w4 ⟨⟨r, b1, rfl, hr⟩, hg4⟩
            have HR := Lib.hid hr
            have HBQ4 := Lib.hid (HBQ.out.kept hg4 (by simp))
            have HBD4 := Lib.hid (HSF.out.2.2.2.2.2.1.kept hg4 (by simp))
            have HBC4 := Lib.hid (HSF.out.2.2.2.2.2.2.1.kept hg4 (by simp))
            have HG4 := Lib.hid (grown_trans HSF.out.2.2.2.2.2.2.2 hg4)
            clear hr hg4 HDC HSF HBQ d4 hb3
            have q4 : w4.cell? ⟨BQ, 4, none⟩ = some (.int .i64 0) := HBQ4.out.cell rfl
            have f4 := HBQ4.out.frozen 4
            have HG5 := Lib.hid (show w.grownBy (w4.setCell ⟨BQ, 4, none⟩ (.int .i64 r)) none from grown_into HG4.out (grown_set (grown_refl w4 (some BQ)) 4 _) HQS.out.2.2)
            have HBQ5 := Lib.hid (show Blk (w4.setCell ⟨BQ, 4, none⟩ (.int .i64 r)) BQ 31 (reqC kd n1 n2 n3 r 0 x6) from HBQ4.out.set 4 (.int .i64 r))
            have HBD5 := Lib.hid (HBD4.out.kept (grown_set (grown_refl w4 (some BQ)) 4 (.int .i64 r)) (by have := HQS.out; simp; omega))
            have HBC5 := Lib.hid (HBC4.out.kept (grown_set (grown_refl w4 (some BQ)) 4 (.int .i64 r)) (by have := HQS.out; simp; omega))
            obtain ⟨W5, hW5⟩ : ∃ x, w4.setCell ⟨BQ, 4, none⟩ (.int .i64 r) = x := ⟨_, rfl⟩
            rw [hW5] at HG5 HBQ5 HBD5 HBC5
            have d5' : (w4.setCell ⟨BQ, 4, none⟩ (.int .i64 r)).cell? ⟨D, 5, none⟩ = some (.string x5) := by rw [hW5]; exact HBD5.out.cell (by rw [← HL.out]; rfl)
            have HW5 := Lib.hid hW5
            have HDC := Lib.hid (idec_any W5 x5 (by have := HZ0.out 5; rw [HXE.out.2.2.2.2.2.1] at this; omega) (HE.out.grown HG5.out) (HP.out.grown HG5.out))
            clear hW5
            go_wp2_with fail
            rw [HW5.out]
            refine HDC.out.mono ?_
            rintro e w6 ⟨⟨n, b2, rfl, hn⟩, hg6⟩
            have HN := Lib.hid hn
            have HBQ6 := Lib.hid (HBQ5.out.kept hg6 (by simp))
            have HBC6 := Lib.hid (HBC5.out.kept hg6 (by simp))
            have HG6 := Lib.hid (grown_trans HG5.out hg6)
            clear hn hg6 HDC HBQ4 HBD4 HBC4 HG4 q4 f4 HG5 HBQ5 HBD5 HBC5 d5' HW5
            have q5 : w6.cell? ⟨BQ, 5, none⟩ = some (.int .i64 0) := HBQ6.out.cell rfl
            have f5 := HBQ6.out.frozen 5
            have HG7 := Lib.hid (show w.grownBy (w6.setCell ⟨BQ, 5, none⟩ (.int .i64 n)) none from grown_into HG6.out (grown_set (grown_refl w6 (some BQ)) 5 _) HQS.out.2.2)
            have HBQ7 := Lib.hid (show Blk (w6.setCell ⟨BQ, 5, none⟩ (.int .i64 n)) BQ 31 (reqC kd n1 n2 n3 r n x6) from HBQ6.out.set 5 (.int .i64 n))
            have HBC7 := Lib.hid (HBC6.out.kept (grown_set (grown_refl w6 (some BQ)) 5 (.int .i64 n)) (by have := HQS.out; simp; omega))
            obtain ⟨W7, hW7⟩ : ∃ x, w6.setCell ⟨BQ, 5, none⟩ (.int .i64 n) = x := ⟨_, rfl⟩
            rw [hW7] at HG7 HBQ7 HBC7
            have HW7 := Lib.hid hW7
            clear hW7 HBQ6 HBC6 HG6
            have z1 : n1.size ≤ 1048576 := by have := HZ0.out 1; rw [HXE.out.2.1] at this; have h2 := namedT_size x1; rw [HXE.out.2.2.2.2.2.2.2.2.1] at h2; omega
            have z2 : n2.size ≤ 1048576 := by have := HZ0.out 2; rw [HXE.out.2.2.1] at this; have h2 := namedT_size x2; rw [HXE.out.2.2.2.2.2.2.2.2.2.1] at h2; omega
            have z3 : n3.size ≤ 1048576 := by have := HZ0.out 3; rw [HXE.out.2.2.2.1] at this; have h2 := namedT_size x3; rw [HXE.out.2.2.2.2.2.2.2.2.2.2] at h2; omega
            have z6 : x6.size ≤ 1048576 := by have := restK_size 6 p; rw [HXE.out.2.2.2.2.2.2.1] at this; omega
            obtain ⟨S, hS, -, hSi⟩ := stext_any (kd : Int) n1 n2 n3 r n x6 z1 z2 z3 z6
            have HST := Lib.hid hS
            have HWR := Lib.hid (hSi W7 (HP.out.grown HG7.out))
            have HCP := Lib.hid (fun V => icopied_any V (kd : Int) n1 n2 n3 r n x6 z1 z2 z3 z6)
            clear hS hSi z1 z2 z3 z6
            go_wp2_with (rw [HW7.out]; refine wpList_load_blk rfl 31 _ rfl BQ (reqC kd n1 n2 n3 r n x6) 31 HBQ7.out _ Tryd.underlying31 rfl infoReq rfl ?_)
            refine HWR.out.mono ?_
            rintro e w8 ⟨rfl, hg8⟩
            have HBQ8 := Lib.hid (HBQ7.out.kept hg8 (by simp))
            have HBC8 := Lib.hid (HBC7.out.kept hg8 (by simp))
            have HG8 := Lib.hid (grown_trans HG7.out hg8)
            clear hg8 HWR HBQ7 HBC7 HG7 HW7 q5 f5
            by_cases hq : S.toList = p.toList
            · have hqb : (S.toList == p.toList) = true := by rw [beq_iff_eq]; exact hq
              have h0 : 0 < p.size := by
                have h1 := HNS.out 0 (by omega)
                have h2 : 0 ≤ atB 32 p := h1
                obtain ⟨k, hk⟩ : ∃ k : Nat, atB 32 p = k := ⟨(atB 32 p).toNat, by omega⟩
                obtain ⟨hk2, -⟩ := atB_some 32 p k hk
                omega
              have HRR := Lib.hid (rres_yes HST.out h0 hq)
              clear hq h0
              go_wp2_with (refine wpList_load_blk rfl 31 _ rfl BQ (reqC kd n1 n2 n3 r n x6) 31 HBQ8.out _ Tryd.underlying31 rfl infoReq rfl ?_)
              refine (HCP.out w8).mono ?_
              rintro e w9 ⟨rfl, hg9⟩
              have HBC9 := Lib.hid (HBC8.out.kept hg9 (by simp))
              have HG9 := Lib.hid (grown_trans HG8.out hg9)
              clear hg9 HCP
              go_wp2_with (refine wpList_store_blk rfl 31 _ _ rfl C (reqC kd n1 n2 n3 r n x6) Z 31 HBC9.out infoReq (by rw [← HZE.out]; rfl) (reqC_one _ _ _ _ _ _ _) rfl rfl ?_; intro wz hbz hgz)
              exact ⟨rfl, _, results_blk Tryd.results11 _ _ C 31 _ _ _ hbz.out Tryd.underlying31 rfl infoReq rfl rfl, HRR.out, grown_into HG9.out hgz.out HCD.out.2⟩
            · have hqb : (S.toList == p.toList) = false := by rw [beq_eq_false_iff_ne]; exact hq
              have HRR := Lib.hid (rres_none (rres_no (text := p) (S := S) (kd := kd) (run := r) (num := n) (by rw [HXE.out.2.1, HXE.out.2.2.1, HXE.out.2.2.2.1, HXE.out.2.2.2.2.2.2.1, HXE.out.2.2.2.2.2.2.2.2.1, HXE.out.2.2.2.2.2.2.2.2.2.1, HXE.out.2.2.2.2.2.2.2.2.2.2]; exact HST.out) (by rw [HXE.out.1, HXE.out.2.2.2.2.2.2.2.1]) (fun m hm e => (HR.out.of_dec (by omega) (by omega) (by rw [← HXE.out.2.2.2.2.1]; exact e)).1) (fun m hm e => (HN.out.of_dec (by omega) (by omega) (by rw [← HXE.out.2.2.2.2.2.1]; exact e)).1) hq))
              clear hq
              go_wp2_with (refine wpList_store_blk rfl 31 _ _ rfl C (reqC 0 ⟨#[]⟩ ⟨#[]⟩ ⟨#[]⟩ 0 0 ⟨#[]⟩) Z 31 HBC8.out infoReq (by rw [← HZE.out]) (reqC_one _ _ _ _ _ _ _) rfl rfl ?_; intro wz hbz hgz)
              exact ⟨rfl, _, results_blk Tryd.results11 _ _ C 31 _ _ _ hbz.out Tryd.underlying31 rfl infoReq rfl rfl, HRR.out, grown_into HG8.out hgz.out HCD.out.2⟩
end Go.Proofs.YtecekbhkombnnaaDoor
