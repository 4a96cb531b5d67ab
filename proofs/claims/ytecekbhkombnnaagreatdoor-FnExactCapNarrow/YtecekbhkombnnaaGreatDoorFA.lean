/- Credentials narrowed, by the document. -/
import Derived.Test.YtecekbhkombnnaaGreatDoorCU
import Derived.Test.YtecekbhkombnnaaGreatDoorCO
import Derived.Test.YtecekbhkombnnaaGreatDoorEA
import Derived.Test.YtecekbhkombnnaaGreatDoorTS
namespace Go.Proofs.YtecekbhkombnnaaGreatDoor
open Go.RowKit

theorem Row.empty0 {w : World} {base g : Nat} (h1 : base ≤ g) (h2 : g < w.heap.size) : Row w base (.slice (some ⟨g, 0, none⟩) 0 0) (strs []) :=
  .inr ⟨g, 0, rfl, h1, h2, Nat.le_refl _, fun _ hj => absurd hj (Nat.not_lt_zero _), fun _ hj => absurd hj (Nat.not_lt_zero _)⟩
theorem capZ0_one : ∀ x ∈ (capC ⟨#[]⟩ ⟨#[]⟩ 0 0 0 (.slice none 0 0) ⟨#[]⟩), x.oneCell' = true := capC_one _ _ _ _ _ _ _ rfl
theorem infoStr0 : (Tryz.prog.info? 9).map (fun i => (i.zero, i.size, i.bytes)) = some (some (.string ⟨#[]⟩), 1, 16) := by kernel_rfl
/-- a credential narrowed, or none -/
def NarR (w : World) (tn sp : ByteArray) (run frm unt : Int) (ls : List ByteArray) (se lim : ByteArray) (e : Ending) (w' : World) : Prop :=
  ((CapP tn sp run frm unt ls se ∧ LimP lim ∧ ls.length < 4) ∧ ∃ v, e = .returned (.tuple #[.agg (capC tn sp run frm unt v (macB se lim)).toArray, .bool true]) ∧ Row w' w.heap.size v (strs (ls ++ [lim]))) ∨
  (¬ (CapP tn sp run frm unt ls se ∧ LimP lim ∧ ls.length < 4) ∧ e = .returned (.tuple #[.agg (capC ⟨#[]⟩ ⟨#[]⟩ 0 0 0 (.slice none 0 0) ⟨#[]⟩).toArray, .bool false]))

set_option maxRecDepth 100000 in
set_option maxHeartbeats 16000000 in
theorem snar_any (w : World) (tn sp : ByteArray) (run frm unt : Int) (x1 cp : Nat) (ls : List ByteArray) (se lim : ByteArray) (hx : Blk w x1 9 (strs ls)) (hn : ls.length ≤ 1048576) (hz : ∀ l ∈ ls, l.size ≤ 1048576) (h1 : tn.size ≤ 1048576) (h2 : sp.size ≤ 1048576) (h3 : se.size ≤ 1048576) (h4 : lim.size ≤ 1048576) :
    Calls Tryz.prog 8 #[.agg #[.string tn, .string sp, .int .i64 run, .int .i64 frm, .int .i64 unt, .slice (some ⟨x1, 0, none⟩) ls.length cp, .string se], .string lim] w fun e w' => NarR w tn sp run frm unt ls se lim e w' ∧ w.grownBy w' none := by
  obtain ⟨W, hW⟩ : ∃ W, (w.alloc (Obj.cells #[Value.string tn, .string sp, .int .i64 run, .int .i64 frm, .int .i64 unt, .slice (some ⟨x1, 0, none⟩) ls.length cp, .string se] 26)).alloc (Obj.cells #[Value.string ⟨#[]⟩, .string ⟨#[]⟩, .int .i64 0, .int .i64 0, .int .i64 0, .slice none 0 0, .string ⟨#[]⟩] 26) = W := ⟨_, rfl⟩
  obtain ⟨C, hC⟩ : ∃ x, w.heap.size + 1 = x := ⟨_, rfl⟩
  obtain ⟨B, hB⟩ : ∃ x, w.heap.size = x := ⟨_, rfl⟩
  have HG := Lib.hid (show w.grownBy W none from by rw [← hW]; exact grown_alloc (grown_alloc (grown_refl _ _) _) _)
  have HBB := Lib.hid (show Blk W B 26 [.string tn, .string sp, .int .i64 run, .int .i64 frm, .int .i64 unt, .slice (some ⟨x1, 0, none⟩) ls.length cp, .string se] from by rw [← hW, ← hB]; exact (Blk.new w 26 [.string tn, .string sp, .int .i64 run, .int .i64 frm, .int .i64 unt, .slice (some ⟨x1, 0, none⟩) ls.length cp, .string se]).alloc _)
  have HBC := Lib.hid (show Blk W C 26 (capC ⟨#[]⟩ ⟨#[]⟩ 0 0 0 (.slice none 0 0) ⟨#[]⟩) from by
    rw [← hW, ← hC]
    have := Blk.new (w.alloc (Obj.cells #[Value.string tn, .string sp, .int .i64 run, .int .i64 frm, .int .i64 unt, .slice (some ⟨x1, 0, none⟩) ls.length cp, .string se] 26)) 26 [.string ⟨#[]⟩, .string ⟨#[]⟩, .int .i64 0, .int .i64 0, .int .i64 0, .slice none 0 0, .string ⟨#[]⟩]
    rw [show (w.alloc (Obj.cells #[Value.string tn, .string sp, .int .i64 run, .int .i64 frm, .int .i64 unt, .slice (some ⟨x1, 0, none⟩) ls.length cp, .string se] 26)).heap.size = w.heap.size + 1 from by simp] at this
    exact this)
  have HNE := Lib.hid (show B < C ∧ w.heap.size ≤ C from ⟨by omega, by omega⟩)
  have HXL := Lib.hid (hx.lt)
  have HX := Lib.hid (fun (V : World) (hV : w.grownBy V none) => hx.kept hV (by simp))
  have HNO := Lib.hid (fun (V : World) (h : ¬ (CapP tn sp run frm unt ls se ∧ LimP lim ∧ ls.length < 4)) => show NarR w tn sp run frm unt ls se lim (.returned (.tuple #[.agg (capC ⟨#[]⟩ ⟨#[]⟩ 0 0 0 (.slice none 0 0) ⟨#[]⟩).toArray, .bool false])) V from .inr ⟨h, rfl⟩)
  have HYES := Lib.hid (fun (V : World) (h : CapP tn sp run frm unt ls se ∧ LimP lim ∧ ls.length < 4) (v : Value) (R : ByteArray) (hR : macB se lim = R) (hr : Row V w.heap.size v (strs (ls ++ [lim]))) => show NarR w tn sp run frm unt ls se lim (.returned (.tuple #[.agg (capC tn sp run frm unt v R).toArray, .bool true])) V from .inl ⟨h, v, by rw [hR], hr⟩)
  have HOK := Lib.hid (scap_any W tn sp run frm unt (some ⟨x1, 0, none⟩) cp ls se x1 (hx.kept HG.out (by simp)).lies hn hz h1 h2 h3)
  have HLI := Lib.hid (fun V => slim_any V lim h4)
  have HMC := Lib.hid (fun V => smac_any V se lim (by omega) (by omega))
  have HN := Lib.hid hn
  have HW := Lib.hid hW
  have HBE := Lib.hid hB
  have HCE := Lib.hid hC
  clear hW hB hC hx hz h1 h2 h3 h4 hn
  obtain ⟨i9, hi9, hz0, hz1, hz2⟩ := info_parts infoStr0
  go_enter Tryz.func8, Tryz.ntmps8
  go_wp2_with fail
  rw [HW.out, HCE.out, HBE.out]
  refine HOK.out.mono ?_
  rintro e w1 ⟨⟨b0, rfl, hb0⟩, hg1⟩
  have HQ0 := Lib.hid hb0
  have HBB1 := Lib.hid (HBB.out.kept hg1 (by simp))
  have HBC1 := Lib.hid (HBC.out.kept hg1 (by simp))
  have HG1 := Lib.hid (grown_trans HG.out hg1)
  clear hb0 hg1 HOK HBB HBC HG HW
  cases b0
  case false =>
    have HD := Lib.hid (fun (V : World) => HNO.out V (fun h => by have := HQ0.out.2 h.1; cases this))
    go_wp2_with (refine wpList_store_blk rfl 26 _ _ rfl C (capC ⟨#[]⟩ ⟨#[]⟩ 0 0 0 (.slice none 0 0) ⟨#[]⟩) (capC ⟨#[]⟩ ⟨#[]⟩ 0 0 0 (.slice none 0 0) ⟨#[]⟩) 26 HBC1.out infoCap rfl capZ0_one rfl rfl ?_; intro wz hbz hgz)
    exact ⟨rfl, _, results_blk Tryz.results8 _ _ C 26 _ _ _ hbz.out Tryz.underlying26 rfl infoCap rfl rfl, HD.out _, grown_into HG1.out hgz.out HNE.out.2⟩
  go_wp2_with fail
  refine (HLI.out w1).mono ?_
  rintro e w2 ⟨⟨r, rfl, hr⟩, hg2⟩
  have HBB2 := Lib.hid (HBB1.out.kept hg2 (by simp))
  have HBC2 := Lib.hid (HBC1.out.kept hg2 (by simp))
  have HG2 := Lib.hid (grown_trans HG1.out hg2)
  clear hg2 HLI HBB1 HBC1 HG1
  by_cases hr0 : r = 0
  case pos =>
    have HNL := Lib.hid (show ¬ LimP lim from by
      rcases hr with ⟨h6, -⟩ | ⟨h6, -⟩ | ⟨-, h6⟩
      · omega
      · omega
      · exact h6)
    subst hr0
    clear hr
    have HD := Lib.hid (fun (V : World) => HNO.out V (fun h => HNL.out h.2.1))
    go_wp2_with (refine wpList_store_blk rfl 26 _ _ rfl C (capC ⟨#[]⟩ ⟨#[]⟩ 0 0 0 (.slice none 0 0) ⟨#[]⟩) (capC ⟨#[]⟩ ⟨#[]⟩ 0 0 0 (.slice none 0 0) ⟨#[]⟩) 26 HBC2.out infoCap rfl capZ0_one rfl rfl ?_; intro wz hbz hgz)
    exact ⟨rfl, _, results_blk Tryz.results8 _ _ C 26 _ _ _ hbz.out Tryz.underlying26 rfl infoCap rfl rfl, HD.out _, grown_into HG2.out hgz.out HNE.out.2⟩
  have hrb : (r == 0) = false := by rw [beq_eq_false_iff_ne]; exact hr0
  have HLP := Lib.hid (show LimP lim from by
    rcases hr with ⟨-, h6⟩ | ⟨-, h6⟩ | ⟨h6, -⟩
    · exact .inl h6
    · exact .inr h6
    · exact absurd h6 hr0)
  clear hr
  have k5 : w2.cell? ⟨B, 5, none⟩ = some (.slice (some ⟨x1, 0, none⟩) ls.length cp) := HBB2.out.cell rfl
  by_cases h44 : (4 : Int) ≤ (ls.length : Int)
  case pos =>
    have HD := Lib.hid (fun (V : World) => HNO.out V (fun h => by have := h.2.2; omega))
    go_wp2_with (refine wpList_store_blk rfl 26 _ _ rfl C (capC ⟨#[]⟩ ⟨#[]⟩ 0 0 0 (.slice none 0 0) ⟨#[]⟩) (capC ⟨#[]⟩ ⟨#[]⟩ 0 0 0 (.slice none 0 0) ⟨#[]⟩) 26 HBC2.out infoCap rfl capZ0_one rfl rfl ?_; intro wz hbz hgz)
    exact ⟨rfl, _, results_blk Tryz.results8 _ _ C 26 _ _ _ hbz.out Tryz.underlying26 rfl infoCap rfl rfl, HD.out _, grown_into HG2.out hgz.out HNE.out.2⟩
  have h44b : decide ((4 : Int) ≤ (ls.length : Int)) = false := decide_eq_false h44
  clear k5
  have HPP := Lib.hid (show CapP tn sp run frm unt ls se ∧ LimP lim ∧ ls.length < 4 from ⟨HQ0.out.1 (by first | trivial | rfl), HLP.out, by omega⟩)
  obtain ⟨W3, hW3⟩ : ∃ x, w2.alloc (Obj.cells #[Value.string tn, .string sp, .int .i64 run, .int .i64 frm, .int .i64 unt, .slice (some ⟨x1, 0, none⟩) ls.length cp, .string se] 26) = x := ⟨_, rfl⟩
  obtain ⟨D, hD⟩ : ∃ x, w2.heap.size = x := ⟨_, rfl⟩
  obtain ⟨W4, hW4⟩ : ∃ x, W3.alloc (Obj.cells #[] 9) = x := ⟨_, rfl⟩
  obtain ⟨N, hN⟩ : ∃ x, D + 1 = x := ⟨_, rfl⟩
  have hNN : W3.heap.size = N := by rw [← hW3, ← hN, ← hD]; simp
  have G23 := (show w2.grownBy W3 none from by rw [← hW3]; exact grown_alloc (grown_refl _ _) _)
  have G34 := (show W3.grownBy W4 none from by rw [← hW4]; exact grown_alloc (grown_refl _ _) _)
  have HG4 := Lib.hid (grown_trans HG2.out (grown_trans G23 G34))
  have HBB4 := Lib.hid ((HBB2.out.kept G23 (by simp)).kept G34 (by simp))
  have HBC4 := Lib.hid ((HBC2.out.kept G23 (by simp)).kept G34 (by simp))
  have HBD4 := Lib.hid ((show Blk W3 D 26 [.string tn, .string sp, .int .i64 run, .int .i64 frm, .int .i64 unt, .slice (some ⟨x1, 0, none⟩) ls.length cp, .string se] from by rw [← hW3, ← hD]; exact Blk.new w2 26 _).kept G34 (by simp))
  have HX4 := Lib.hid (HX.out W4 HG4.out)
  have HR4 := Lib.hid (show Row W4 (D + 1) (.slice (some ⟨N, 0, none⟩) 0 0) (strs []) from Row.empty0 (by omega) (by rw [← hW4, ← hNN]; simp))
  have HLT := Lib.hid (show B < D ∧ C < D ∧ x1 < D ∧ w.heap.size ≤ D from by
    have a1 := HBB2.out.lt
    have a2 := HBC2.out.lt
    have a3 := HG2.out.size
    have a4 := HXL.out
    omega)
  have HSZ4 := Lib.hid (show D + 1 ≤ W4.heap.size from by have := HBD4.out.lt; omega)
  have HW3 := Lib.hid hW3
  have HDE := Lib.hid hD
  have HW4 := Lib.hid hW4
  have HNE2 := Lib.hid hN
  have HNN := Lib.hid hNN
  clear hW3 hD hW4 hN hNN G23 G34
  have c0 : w2.cell? ⟨B, 0, none⟩ = some (.string tn) := HBB2.out.cell rfl
  have c1 : w2.cell? ⟨B, 1, none⟩ = some (.string sp) := HBB2.out.cell rfl
  have c2 : w2.cell? ⟨B, 2, none⟩ = some (.int .i64 run) := HBB2.out.cell rfl
  have c3 : w2.cell? ⟨B, 3, none⟩ = some (.int .i64 frm) := HBB2.out.cell rfl
  have c4 : w2.cell? ⟨B, 4, none⟩ = some (.int .i64 unt) := HBB2.out.cell rfl
  have c5 : w2.cell? ⟨B, 5, none⟩ = some (.slice (some ⟨x1, 0, none⟩) ls.length cp) := HBB2.out.cell rfl
  have c6 : w2.cell? ⟨B, 6, none⟩ = some (.string se) := HBB2.out.cell rfl
  have c5' : ((w2.alloc (Obj.cells #[Value.string tn, .string sp, .int .i64 run, .int .i64 frm, .int .i64 unt, .slice (some ⟨x1, 0, none⟩) ls.length cp, .string se] 26)).alloc (Obj.cells #[] 9)).cell? ⟨B, 5, none⟩ = some (.slice (some ⟨x1, 0, none⟩) ls.length cp) := by rw [HW3.out, HW4.out]; exact HBB4.out.cell rfl
  obtain ⟨M, hM⟩ : ∃ M, ls ++ [lim] = M := ⟨_, rfl⟩
  have HME := Lib.hid hM
  have HAP := Lib.hid (show strs ls ++ strs [lim] = strs M from by rw [← hM]; simp [strs])
  have HAA := Lib.hid (show ∀ j u, (strs ls)[j]? = some u → W4.cell? ((⟨x1, 0, none⟩ : Addr).add j) = some u from fun j u hu => by rw [Addr.add_mid, Nat.zero_add]; exact HX4.out.cell hu)
  clear hM
  have tok1 : True := trivial
  have tok2 : True := trivial
  go_wp2_with (first
    | (at_builtin; have _t := tok1; rw [HW3.out, HW4.out, HDE.out, HNE2.out]; refine wpList_append_row2 rfl _ _ 22 rfl 9 i9 (.string ⟨#[]⟩) 16 Tryz.underlying22 hi9 hz0 hz1 hz2 rfl (D + 1) _ (strs []) rfl HR4.out ⟨x1, 0, none⟩ ls.length cp (strs ls) rfl (strs_len _) HAA.out (strs_one _) (by rw [strs_len]; simp only [List.length_nil]; have := HN.out; unfold maxLen; omega) (by rw [strs_len]; simp only [List.length_nil]; have := HN.out; omega) HSZ4.out ?_; intro v5 w5 HR5 HG5 HO5; clear tok1 c0 c1 c2 c3 c4 c5 c6 c5'; have HSZ5 := Lib.hid (show D + 1 ≤ w5.heap.size from Nat.le_trans HSZ4.out HG5.out.size); have HO5' := Lib.hid (show ∀ q, v5.ownBlock = some q → D + 1 ≤ q from fun q hq => (HR5.out.lt q hq).1); have HN5 := Lib.hid (show ∀ q, (Value.slice (some ⟨N, 0, none⟩) 0 0).ownBlock = some q → D + 1 ≤ q from fun q hq => (HR4.out.lt q hq).1); have HBB5 := Lib.hid (HBB4.out.kept HG5.out (fun e => by have h1 := HN5.out B e.symm; have h2 := HLT.out; omega)); have HBC5 := Lib.hid (HBC4.out.kept HG5.out (fun e => by have h1 := HN5.out C e.symm; have h2 := HLT.out; omega)); have HBD5 := Lib.hid (HBD4.out.kept HG5.out (fun e => by have h1 := HN5.out D e.symm; omega)); have HG5w := Lib.hid (show w.grownBy w5 none from grown_own HG4.out HG5.out (fun q hq => by have h1 := HN5.out q hq; have h2 := HLT.out; omega)))
    | (at_builtin; have _t := tok2; refine wpList_append_row2 rfl _ _ 22 rfl 9 i9 (.string ⟨#[]⟩) 16 Tryz.underlying22 hi9 hz0 hz1 hz2 rfl (D + 1) _ (strs ls) rfl (show Row _ (D + 1) v5 (strs ls) from HR5.out.alloc _) ⟨_, 0, none⟩ 1 1 (strs [lim]) rfl rfl (news_new _ 9 (strs [lim])) (strs_one _) (by rw [strs_len]; have := HN.out; unfold maxLen; omega) (by rw [strs_len]; have := HN.out; omega) (by have := HSZ5.out; simp; omega) ?_; intro v7 w7 HR7 HG7 HO7; clear tok2; have hr7 := HR7.out; rw [HAP.out] at hr7; obtain ⟨an, cn, hv, -⟩ := hr7.lies; subst hv; have HR8 := Lib.hid hr7; have HBB7 := Lib.hid ((HBB5.out.alloc _).kept HG7.out (fun e => by have h1 := HO5'.out B e.symm; have h2 := HLT.out; omega)); have HBC7 := Lib.hid ((HBC5.out.alloc _).kept HG7.out (fun e => by have h1 := HO5'.out C e.symm; have h2 := HLT.out; omega)); have HBD7 := Lib.hid ((HBD5.out.alloc _).kept HG7.out (fun e => by have h1 := HO5'.out D e.symm; omega)); have HG7w := Lib.hid (show w.grownBy w7 none from grown_own (grown_alloc HG5w.out _) HG7.out (fun q hq => by have h1 := HO5'.out q hq; have h2 := HLT.out; omega)); have q5 : w7.cell? ⟨D, 5, none⟩ = some (.slice (some ⟨x1, 0, none⟩) ls.length cp) := HBD7.out.cell rfl; have f5 := HBD7.out.frozen 5; have HBB8 := Lib.hid (HBB7.out.kept (grown_set (grown_refl w7 (some D)) 5 (.slice an M.length cn)) (by have := HLT.out; simp; omega)); have s6 : (w7.setCell ⟨D, 5, none⟩ (.slice an M.length cn)).cell? ⟨B, 6, none⟩ = some (.string se) := HBB8.out.cell rfl))
  obtain ⟨W8, hW8⟩ : ∃ x, w7.setCell ⟨D, 5, none⟩ (.slice an M.length cn) = x := ⟨_, rfl⟩
  have HG8 := Lib.hid (show w.grownBy W8 none from by rw [← hW8]; exact grown_into HG7w.out (grown_set (grown_refl w7 (some D)) 5 _) HLT.out.2.2.2)
  have HBD8 := Lib.hid (show Blk W8 D 26 (capC tn sp run frm unt (.slice an M.length cn) se) from by rw [← hW8]; exact HBD7.out.set 5 (.slice an M.length cn))
  have HBC8 := Lib.hid (show Blk W8 C 26 (capC ⟨#[]⟩ ⟨#[]⟩ 0 0 0 (.slice none 0 0) ⟨#[]⟩) from by rw [← hW8]; exact HBC7.out.kept (grown_set (grown_refl w7 (some D)) 5 (.slice an M.length cn)) (by have := HLT.out; simp; omega))
  have HOD := Lib.hid (show ∀ q, (Value.slice an M.length cn).ownBlock = some q → D + 1 ≤ q from fun q hq => (HR8.out.lt q hq).1)
  have HRW := Lib.hid (show Row W8 (D + 1) (.slice an M.length cn) (strs M) from by rw [← hW8]; exact HR8.out.kept (grown_set (grown_refl w7 (some D)) 5 (.slice an M.length cn)) (fun k hk e => by have h1 := HOD.out k hk; have h2 := Option.some.inj e; omega))
  rw [hW8]
  clear s6 q5 f5 hW8
  refine (HMC.out W8).mono ?_
  obtain ⟨R, hR⟩ : ∃ R, macB se lim = R := ⟨_, rfl⟩
  rw [hR]
  have HRE := Lib.hid hR
  clear hR
  rintro e w9 ⟨rfl, hg9⟩
  have HBD9 := Lib.hid (HBD8.out.kept hg9 (by simp))
  have HBC9 := Lib.hid (HBC8.out.kept hg9 (by simp))
  have HR9 := Lib.hid (HRW.out.kept hg9 (by simp))
  have HG9 := Lib.hid (grown_trans HG8.out hg9)
  clear hg9
  have q6 : w9.cell? ⟨D, 6, none⟩ = some (.string se) := HBD9.out.cell rfl
  have f6 := HBD9.out.frozen 6
  have HGA := Lib.hid (show w.grownBy (w9.setCell ⟨D, 6, none⟩ (.string R)) none from grown_into HG9.out (grown_set (grown_refl w9 (some D)) 6 _) HLT.out.2.2.2)
  have HBDA := Lib.hid (show Blk (w9.setCell ⟨D, 6, none⟩ (.string R)) D 26 (capC tn sp run frm unt (.slice an M.length cn) R) from HBD9.out.set 6 (.string R))
  have HBCA := Lib.hid (HBC9.out.kept (grown_set (grown_refl w9 (some D)) 6 (.string R)) (by have := HLT.out; simp; omega))
  have HRA := Lib.hid (HR9.out.kept (grown_set (grown_refl w9 (some D)) 6 (.string R)) (fun k hk e => by have h1 := HOD.out k hk; have h2 := Option.some.inj e; omega))
  obtain ⟨WA, hWA⟩ : ∃ x, w9.setCell ⟨D, 6, none⟩ (.string R) = x := ⟨_, rfl⟩
  rw [hWA] at HGA HBDA HBCA HRA
  have HWA := Lib.hid hWA
  clear hWA
  go_wp2_with (first
    | (rw [HWA.out]; refine wpList_load_blk rfl 26 _ rfl D (capC tn sp run frm unt (.slice an M.length cn) R) 26 HBDA.out _ Tryz.underlying26 rfl infoCap rfl ?_)
    | (refine wpList_store_blk rfl 26 _ _ rfl C (capC tn sp run frm unt (.slice an M.length cn) R) (capC ⟨#[]⟩ ⟨#[]⟩ 0 0 0 (.slice none 0 0) ⟨#[]⟩) 26 HBCA.out infoCap rfl (capC_one _ _ _ _ _ _ _ rfl) rfl rfl ?_; intro wz hbz hgz))
  exact ⟨rfl, _, results_blk Tryz.results8 _ _ C 26 _ _ _ hbz.out Tryz.underlying26 rfl infoCap rfl rfl, HYES.out _ HPP.out _ R HRE.out (by rw [HME.out]; exact (HRA.out.kept hgz.out (fun k hk e => by have h1 := HOD.out k hk; have h2 := Option.some.inj e; have h3 := HLT.out; omega)).base (by have := HLT.out; omega)), grown_into HGA.out hgz.out HNE.out.2⟩
end Go.Proofs.YtecekbhkombnnaaGreatDoor
