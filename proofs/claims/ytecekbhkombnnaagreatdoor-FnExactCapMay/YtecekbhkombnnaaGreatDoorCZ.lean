/- FnExactCapMay, walked. -/
import Derived.Test.YtecekbhkombnnaaGreatDoorCR
import Derived.Test.YtecekbhkombnnaaGreatDoorCY
namespace Go.Proofs.YtecekbhkombnnaaGreatDoor
open Go.RowKit

theorem cmay_both (key tn sp : ByteArray) (run frm unt : Int) (ls : List ByteArray) (se tenant space : ByteArray) (rn : Int) (id : ByteArray) (now : Int) (hk : key.size ≤ 1048576) (hi : id.size ≤ 1048576) (hz : CapZ tn sp ls se) : ∃ T : Bool,
    (∀ (w : World) (ao : Option Addr) (cp base : Nat), Lies w base ao ls → Calls Tryz.prog 14 #[.string key, .agg #[.string tn, .string sp, .int .i64 run, .int .i64 frm, .int .i64 unt, .slice ao ls.length cp, .string se], .string tenant, .string space, .int .i64 rn, .string id, .int .i64 now] w fun e w' => e = .returned (.bool T) ∧ w.grownBy w' none) ∧
    (∀ (w : World) (ao : Option Addr) (cp base : Nat), Lies w base ao ls → Tabs w → ErrC w → Pow w → Calls Tryz.prog 15 #[.string key, .agg #[.string tn, .string sp, .int .i64 run, .int .i64 frm, .int .i64 unt, .slice ao ls.length cp, .string se], .string tenant, .string space, .int .i64 rn, .string id, .int .i64 now] w fun e w' => e = .returned (.bool T) ∧ w.grownBy w' none) := by
  obtain ⟨h1, h2, h4, h3⟩ := hz
  have hn : ls.length ≤ 1048576 := by omega
  have hzl : ∀ l ∈ ls, l.size ≤ 1048576 := fun l hl => by have := bulkS_mem ls l hl; omega
  by_cases hp : MayP key tn sp run frm unt ls se tenant space rn id now
  · exact ⟨true, fun w ao cp base hl => (smay_any w key tn sp run frm unt ao cp ls se tenant space rn id now base hl hn hzl h1 h2 h3 hk hi).mono fun e w' q => ⟨q.1.is_yes hp, q.2⟩, fun w ao cp base hl hT hE hP => (imay_any w hT hE hP key tn sp run frm unt ao cp ls se tenant space rn id now base hl hn hzl h1 h2 h3 hk hi).mono fun e w' q => ⟨q.1.is_yes hp, q.2⟩⟩
  · exact ⟨false, fun w ao cp base hl => (smay_any w key tn sp run frm unt ao cp ls se tenant space rn id now base hl hn hzl h1 h2 h3 hk hi).mono fun e w' q => ⟨q.1.is_no hp, q.2⟩, fun w ao cp base hl hT hE hP => (imay_any w hT hE hP key tn sp run frm unt ao cp ls se tenant space rn id now base hl hn hzl h1 h2 h3 hk hi).mono fun e w' q => ⟨q.1.is_no hp, q.2⟩⟩

set_option maxRecDepth 100000 in
set_option maxHeartbeats 16000000 in
theorem exactCapMay_walk (w : World) (hT : Tabs w) (hE : ErrC w) (hP : Pow w) (key : ByteArray) (tn sp : ByteArray) (run frm unt : Int) (ao : Option Addr) (cp : Nat) (ls : List ByteArray) (se : ByteArray) (tenant space : ByteArray) (rn : Int) (id : ByteArray) (now : Int) (hl : Lies w 0 ao ls) (hn : ls.length ≤ 9223372036854775807) (hz : ∀ l ∈ ls, l.size ≤ 9223372036854775807) (h1 : tn.size ≤ 9223372036854775807) (h2 : sp.size ≤ 9223372036854775807) (h3 : se.size ≤ 9223372036854775807) :
    Calls Tryz.prog 4 #[.string key, .agg #[.string tn, .string sp, .int .i64 run, .int .i64 frm, .int .i64 unt, .slice ao ls.length cp, .string se], .string tenant, .string space, .int .i64 rn, .string id, .int .i64 now] w fun e w' => e = .returned (.bool true) ∧ w.grownBy w' none := by
  obtain ⟨W, hW⟩ : ∃ W, w.alloc (Obj.cells #[Value.string tn, .string sp, .int .i64 run, .int .i64 frm, .int .i64 unt, .slice ao ls.length cp, .string se] 24) = W := ⟨_, rfl⟩
  obtain ⟨A, hA⟩ : ∃ x, w.heap.size = x := ⟨_, rfl⟩
  have HG := Lib.hid (show w.grownBy W none from by rw [← hW]; exact grown_alloc (grown_refl _ _) _)
  have HA := Lib.hid (show Blk W A 24 [.string tn, .string sp, .int .i64 run, .int .i64 frm, .int .i64 unt, .slice ao ls.length cp, .string se] from by rw [← hW, ← hA]; exact Blk.new w 24 _)
  have HSZ := Lib.hid (szCap_any W tn sp run frm unt ao cp ls se (hl.kept HG.out (fun q e => by cases e)) hn hz h1 h2 h3)
  have HL := Lib.hid hl
  have HE := Lib.hid hE
  have HP := Lib.hid hP
  have HT := Lib.hid hT
  have HW := Lib.hid hW
  have HAE := Lib.hid hA
  clear hl hz h1 h2 h3 hE hP hW hA hT
  by_cases z1 : (key.size : Int) > 1048576
  case pos =>
    go_enter Tryz.func4, Tryz.ntmps4
    go_wp2
    rw [HW.out]
    go_ret
    exact ⟨rfl, HG.out⟩
  by_cases z2 : (tenant.size : Int) > 1048576
  case pos =>
    go_enter Tryz.func4, Tryz.ntmps4
    go_wp2
    rw [HW.out]
    go_ret
    exact ⟨rfl, HG.out⟩
  by_cases z3 : (space.size : Int) > 1048576
  case pos =>
    go_enter Tryz.func4, Tryz.ntmps4
    go_wp2
    rw [HW.out]
    go_ret
    exact ⟨rfl, HG.out⟩
  by_cases z4 : (id.size : Int) > 1048576
  case pos =>
    go_enter Tryz.func4, Tryz.ntmps4
    go_wp2
    rw [HW.out]
    go_ret
    exact ⟨rfl, HG.out⟩
  go_enter Tryz.func4, Tryz.ntmps4
  go_wp2_with fail
  rw [HW.out, HAE.out]
  refine HSZ.out.mono ?_
  rintro e w0 ⟨k, rfl, hr, hg⟩
  have HG0 := Lib.hid (grown_trans HG.out hg)
  have HA0 := Lib.hid (HA.out.kept hg (by simp))
  clear hg HSZ HA HG HW
  rcases hr with hr | ⟨hr0, hcz⟩
  · go_wp2
    go_ret
    exact ⟨rfl, HG0.out⟩
  have hr' : ¬ k < 0 := by omega
  have hn1 : ls.length ≤ 1048576 := by have := hcz.2.2.1; omega
  obtain ⟨T, hTs, hTi⟩ := cmay_both key tn sp run frm unt ls se tenant space rn id now (by omega) (by omega) hcz
  have HTS := Lib.hid hTs
  have HTI := Lib.hid hTi
  have HTO := Lib.hid (fun (V : World) (hV : w.grownBy V none) => toCap_any V tn sp run frm unt ao cp ls se 0 (HL.out.kept hV (fun q e => by cases e)) hn1)
  have HN1 := Lib.hid hn1
  clear hTs hTi hcz hn1
  have c0 : w0.cell? ⟨A, 0, none⟩ = some (.string tn) := HA0.out.cell rfl
  have c1 : w0.cell? ⟨A, 1, none⟩ = some (.string sp) := HA0.out.cell rfl
  have c2 : w0.cell? ⟨A, 2, none⟩ = some (.int .i64 run) := HA0.out.cell rfl
  have c3 : w0.cell? ⟨A, 3, none⟩ = some (.int .i64 frm) := HA0.out.cell rfl
  have c4 : w0.cell? ⟨A, 4, none⟩ = some (.int .i64 unt) := HA0.out.cell rfl
  have c5 : w0.cell? ⟨A, 5, none⟩ = some (.slice ao ls.length cp) := HA0.out.cell rfl
  have c6 : w0.cell? ⟨A, 6, none⟩ = some (.string se) := HA0.out.cell rfl
  go_wp2_with fail
  clear c0 c1 c2 c3 c4 c5 c6
  refine (HTO.out w0 HG0.out).mono ?_
  rintro e w1 ⟨g1, rfl, -, hb1, hg1⟩
  have HG1 := Lib.hid (grown_trans HG0.out hg1)
  have HA1 := Lib.hid (HA0.out.kept hg1 (by simp))
  have HC := Lib.hid (HTS.out w1 _ ls.length g1 hb1.lies)
  clear hb1 hg1 HA0 HG0
  go_wp2_with fail
  refine HC.out.mono ?_
  rintro e w2 ⟨rfl, hg2⟩
  have HG2 := Lib.hid (grown_trans HG1.out hg2)
  have HA2 := Lib.hid (HA1.out.kept hg2 (by simp))
  clear hg2 HA1 HG1 HC
  have c0 : w2.cell? ⟨A, 0, none⟩ = some (.string tn) := HA2.out.cell rfl
  have c1 : w2.cell? ⟨A, 1, none⟩ = some (.string sp) := HA2.out.cell rfl
  have c2 : w2.cell? ⟨A, 2, none⟩ = some (.int .i64 run) := HA2.out.cell rfl
  have c3 : w2.cell? ⟨A, 3, none⟩ = some (.int .i64 frm) := HA2.out.cell rfl
  have c4 : w2.cell? ⟨A, 4, none⟩ = some (.int .i64 unt) := HA2.out.cell rfl
  have c5 : w2.cell? ⟨A, 5, none⟩ = some (.slice ao ls.length cp) := HA2.out.cell rfl
  have c6 : w2.cell? ⟨A, 6, none⟩ = some (.string se) := HA2.out.cell rfl
  go_wp2_with fail
  clear c0 c1 c2 c3 c4 c5 c6
  refine (HTO.out w2 HG2.out).mono ?_
  rintro e w3 ⟨x1, rfl, hx1, hb3, hg3⟩
  have HG3 := Lib.hid (grown_trans HG2.out hg3)
  have HA3 := Lib.hid (HA2.out.kept hg3 (by simp))
  have HX3 := Lib.hid hb3
  obtain ⟨BX, hBX⟩ : ∃ x, w3.heap.size = x := ⟨_, rfl⟩
  obtain ⟨W3, hW3⟩ : ∃ x, w3.alloc (Obj.cells #[Value.string ⟨#[]⟩, .string ⟨#[]⟩, .int .i64 0, .int .i64 0, .int .i64 0, .slice none 0 0, .string ⟨#[]⟩] 26) = x := ⟨_, rfl⟩
  have HBXZ := Lib.hid (show Blk W3 BX 26 [.string ⟨#[]⟩, .string ⟨#[]⟩, .int .i64 0, .int .i64 0, .int .i64 0, .slice none 0 0, .string ⟨#[]⟩] from by rw [← hW3, ← hBX]; exact Blk.new w3 26 _)
  have HA3' := Lib.hid (show Blk W3 A 24 [.string tn, .string sp, .int .i64 run, .int .i64 frm, .int .i64 unt, .slice ao ls.length cp, .string se] from by rw [← hW3]; exact HA3.out.alloc _)
  have HX3' := Lib.hid (show Blk W3 x1 9 (strs ls) from by rw [← hW3]; exact HX3.out.alloc _)
  have HG3' := Lib.hid (show w.grownBy W3 none from by rw [← hW3]; exact grown_alloc HG3.out _)
  have HNE := Lib.hid (show A < BX ∧ x1 < BX ∧ w.heap.size ≤ BX from by have h1 := HA3.out.lt; have h2 := HX3.out.lt; have h3 := HG3.out.size; omega)
  have HW3 := Lib.hid hW3
  have HBX := Lib.hid hBX
  clear hx1 hb3 hg3 HA2 HG2 HA3 HX3 HG3 hW3 hBX
  go_wp2_with (first
    | (rw [HW3.out, HBX.out]; refine wpList_store_blk rfl 26 _ _ rfl BX [.string tn, .string sp, .int .i64 run, .int .i64 frm, .int .i64 unt, .slice (some ⟨x1, 0, none⟩) ls.length ls.length, .string se] [.string ⟨#[]⟩, .string ⟨#[]⟩, .int .i64 0, .int .i64 0, .int .i64 0, .slice none 0 0, .string ⟨#[]⟩] 26 HBXZ.out infoCap rfl (by intro v hv; simp at hv; rcases hv with rfl | rfl | rfl | rfl | rfl | rfl | rfl <;> rfl) rfl rfl ?_; intro w4 hb4 hg4; have HA4 := Lib.hid (HA3'.out.kept hg4.out (by have := HNE.out; simp; omega)); have HX4 := Lib.hid (HX3'.out.kept hg4.out (by have := HNE.out; simp; omega)); have HG4 := Lib.hid (grown_into HG3'.out hg4.out HNE.out.2.2))
    | (refine wpList_load_blk rfl 26 _ rfl BX [.string tn, .string sp, .int .i64 run, .int .i64 frm, .int .i64 unt, .slice (some ⟨x1, 0, none⟩) ls.length ls.length, .string se] 26 hb4.out _ Tryz.underlying26 rfl infoCap rfl ?_))
  have HC := Lib.hid (HTI.out w4 (some ⟨x1, 0, none⟩) ls.length x1 HX4.out.lies (HT.out.grown HG4.out) (HE.out.grown HG4.out) (HP.out.grown HG4.out))
  refine HC.out.mono ?_
  rintro e w5 ⟨rfl, hg5⟩
  have HG5 := Lib.hid (grown_trans HG4.out hg5)
  have HA5 := Lib.hid (HA4.out.kept hg5 (by simp))
  have HX5 := Lib.hid (HX4.out.kept hg5 (by simp))
  have HB5 := Lib.hid (hb4.out.kept hg5 (by simp))
  clear hg5 hb4 hg4 HA4 HX4 HG4 HC HA3' HX3' HG3' HBXZ HW3 HBX
  obtain ⟨WS, hWS⟩ : ∃ x, x = w5 := ⟨_, rfl⟩
  have HWS := Lib.hid hWS
  have HSD := Lib.hid (show w5.drew.cell? ⟨BX, 0, none⟩ = some (.string tn) ∧ w5.drew.cell? ⟨BX, 1, none⟩ = some (.string sp) ∧ w5.drew.cell? ⟨BX, 2, none⟩ = some (.int .i64 run) ∧ w5.drew.cell? ⟨BX, 3, none⟩ = some (.int .i64 frm) ∧ w5.drew.cell? ⟨BX, 4, none⟩ = some (.int .i64 unt) ∧ w5.drew.cell? ⟨BX, 5, none⟩ = some (.slice (some ⟨x1, 0, none⟩) ls.length ls.length) ∧ w5.drew.cell? ⟨BX, 6, none⟩ = some (.string se) ∧ w5.drew.cell? ⟨A, 0, none⟩ = some (.string tn) ∧ w5.drew.cell? ⟨A, 1, none⟩ = some (.string sp) ∧ w5.drew.cell? ⟨A, 2, none⟩ = some (.int .i64 run) ∧ w5.drew.cell? ⟨A, 3, none⟩ = some (.int .i64 frm) ∧ w5.drew.cell? ⟨A, 4, none⟩ = some (.int .i64 unt) ∧ w5.drew.cell? ⟨A, 5, none⟩ = some (.slice ao ls.length cp) ∧ w5.drew.cell? ⟨A, 6, none⟩ = some (.string se) ∧ WS.grownBy w5.drew none from ⟨HB5.out.drew.cell rfl, HB5.out.drew.cell rfl, HB5.out.drew.cell rfl, HB5.out.drew.cell rfl, HB5.out.drew.cell rfl, HB5.out.drew.cell rfl, HB5.out.drew.cell rfl, HA5.out.drew.cell rfl, HA5.out.drew.cell rfl, HA5.out.drew.cell rfl, HA5.out.drew.cell rfl, HA5.out.drew.cell rfl, HA5.out.drew.cell rfl, HA5.out.drew.cell rfl, grown_drew (by rw [hWS]; exact grown_refl _ _)⟩)
  have HGS := Lib.hid (show w.grownBy WS none from by rw [hWS]; exact HG5.out)
  have HXS := Lib.hid (show Blk WS x1 9 (strs ls) from by rw [hWS]; exact HX5.out)
  clear hWS
  have HTR := Lib.hid (fun (V : World) (h : V.cell? ⟨BX, 0, none⟩ = some (.string tn) ∧ V.cell? ⟨BX, 1, none⟩ = some (.string sp) ∧ V.cell? ⟨BX, 2, none⟩ = some (.int .i64 run) ∧ V.cell? ⟨BX, 3, none⟩ = some (.int .i64 frm) ∧ V.cell? ⟨BX, 4, none⟩ = some (.int .i64 unt) ∧ V.cell? ⟨BX, 5, none⟩ = some (.slice (some ⟨x1, 0, none⟩) ls.length ls.length) ∧ V.cell? ⟨BX, 6, none⟩ = some (.string se) ∧ V.cell? ⟨A, 0, none⟩ = some (.string tn) ∧ V.cell? ⟨A, 1, none⟩ = some (.string sp) ∧ V.cell? ⟨A, 2, none⟩ = some (.int .i64 run) ∧ V.cell? ⟨A, 3, none⟩ = some (.int .i64 frm) ∧ V.cell? ⟨A, 4, none⟩ = some (.int .i64 unt) ∧ V.cell? ⟨A, 5, none⟩ = some (.slice ao ls.length cp) ∧ V.cell? ⟨A, 6, none⟩ = some (.string se) ∧ WS.grownBy V none) => (HTO.out V (grown_trans HGS.out h.2.2.2.2.2.2.2.2.2.2.2.2.2.2)).mono (R' := fun e w' => ∃ y : Nat, e = .returned (.agg #[.string tn, .string sp, .int .i64 run, .int .i64 frm, .int .i64 unt, .slice (some ⟨y, 0, none⟩) ls.length ls.length, .string se]) ∧ (w'.cell? ⟨BX, 0, none⟩ = some (.string tn) ∧ w'.cell? ⟨BX, 1, none⟩ = some (.string sp) ∧ w'.cell? ⟨BX, 2, none⟩ = some (.int .i64 run) ∧ w'.cell? ⟨BX, 3, none⟩ = some (.int .i64 frm) ∧ w'.cell? ⟨BX, 4, none⟩ = some (.int .i64 unt) ∧ w'.cell? ⟨BX, 5, none⟩ = some (.slice (some ⟨x1, 0, none⟩) ls.length ls.length) ∧ w'.cell? ⟨BX, 6, none⟩ = some (.string se) ∧ w'.cell? ⟨A, 0, none⟩ = some (.string tn) ∧ w'.cell? ⟨A, 1, none⟩ = some (.string sp) ∧ w'.cell? ⟨A, 2, none⟩ = some (.int .i64 run) ∧ w'.cell? ⟨A, 3, none⟩ = some (.int .i64 frm) ∧ w'.cell? ⟨A, 4, none⟩ = some (.int .i64 unt) ∧ w'.cell? ⟨A, 5, none⟩ = some (.slice ao ls.length cp) ∧ w'.cell? ⟨A, 6, none⟩ = some (.string se) ∧ WS.grownBy w' none) ∧ Blk w' y 9 (strs ls)) (fun e w' ⟨y, q1, _, q3, q4⟩ => ⟨y, q1, ⟨q4.cell h.1 (by simp), q4.cell h.2.1 (by simp), q4.cell h.2.2.1 (by simp), q4.cell h.2.2.2.1 (by simp), q4.cell h.2.2.2.2.1 (by simp), q4.cell h.2.2.2.2.2.1 (by simp), q4.cell h.2.2.2.2.2.2.1 (by simp), q4.cell h.2.2.2.2.2.2.2.1 (by simp), q4.cell h.2.2.2.2.2.2.2.2.1 (by simp), q4.cell h.2.2.2.2.2.2.2.2.2.1 (by simp), q4.cell h.2.2.2.2.2.2.2.2.2.2.1 (by simp), q4.cell h.2.2.2.2.2.2.2.2.2.2.2.1 (by simp), q4.cell h.2.2.2.2.2.2.2.2.2.2.2.2.1 (by simp), q4.cell h.2.2.2.2.2.2.2.2.2.2.2.2.2.1 (by simp), grown_trans h.2.2.2.2.2.2.2.2.2.2.2.2.2.2 q4⟩, q3⟩))
  have HER := Lib.hid (fun (V : World) (y : Nat) (h : V.cell? ⟨BX, 0, none⟩ = some (.string tn) ∧ V.cell? ⟨BX, 1, none⟩ = some (.string sp) ∧ V.cell? ⟨BX, 2, none⟩ = some (.int .i64 run) ∧ V.cell? ⟨BX, 3, none⟩ = some (.int .i64 frm) ∧ V.cell? ⟨BX, 4, none⟩ = some (.int .i64 unt) ∧ V.cell? ⟨BX, 5, none⟩ = some (.slice (some ⟨x1, 0, none⟩) ls.length ls.length) ∧ V.cell? ⟨BX, 6, none⟩ = some (.string se) ∧ V.cell? ⟨A, 0, none⟩ = some (.string tn) ∧ V.cell? ⟨A, 1, none⟩ = some (.string sp) ∧ V.cell? ⟨A, 2, none⟩ = some (.int .i64 run) ∧ V.cell? ⟨A, 3, none⟩ = some (.int .i64 frm) ∧ V.cell? ⟨A, 4, none⟩ = some (.int .i64 unt) ∧ V.cell? ⟨A, 5, none⟩ = some (.slice ao ls.length cp) ∧ V.cell? ⟨A, 6, none⟩ = some (.string se) ∧ WS.grownBy V none) (hy : Blk V y 9 (strs ls)) => (eqCap_any V tn sp run frm unt (some ⟨x1, 0, none⟩) (some ⟨y, 0, none⟩) ls.length ls.length ls se x1 y (HXS.out.kept h.2.2.2.2.2.2.2.2.2.2.2.2.2.2 (by simp)).lies hy.lies HN1.out).mono (R' := fun e w' => e = .returned (.bool true) ∧ w.grownBy w' none) (fun e w' q => ⟨q.1, grown_trans (grown_trans HGS.out h.2.2.2.2.2.2.2.2.2.2.2.2.2.2) q.2⟩))
  have HKP := Lib.hid (fun (V V' : World) (h : V.cell? ⟨BX, 0, none⟩ = some (.string tn) ∧ V.cell? ⟨BX, 1, none⟩ = some (.string sp) ∧ V.cell? ⟨BX, 2, none⟩ = some (.int .i64 run) ∧ V.cell? ⟨BX, 3, none⟩ = some (.int .i64 frm) ∧ V.cell? ⟨BX, 4, none⟩ = some (.int .i64 unt) ∧ V.cell? ⟨BX, 5, none⟩ = some (.slice (some ⟨x1, 0, none⟩) ls.length ls.length) ∧ V.cell? ⟨BX, 6, none⟩ = some (.string se) ∧ V.cell? ⟨A, 0, none⟩ = some (.string tn) ∧ V.cell? ⟨A, 1, none⟩ = some (.string sp) ∧ V.cell? ⟨A, 2, none⟩ = some (.int .i64 run) ∧ V.cell? ⟨A, 3, none⟩ = some (.int .i64 frm) ∧ V.cell? ⟨A, 4, none⟩ = some (.int .i64 unt) ∧ V.cell? ⟨A, 5, none⟩ = some (.slice ao ls.length cp) ∧ V.cell? ⟨A, 6, none⟩ = some (.string se) ∧ WS.grownBy V none) (hg : V.grownBy V' none) => show V'.cell? ⟨BX, 0, none⟩ = some (.string tn) ∧ V'.cell? ⟨BX, 1, none⟩ = some (.string sp) ∧ V'.cell? ⟨BX, 2, none⟩ = some (.int .i64 run) ∧ V'.cell? ⟨BX, 3, none⟩ = some (.int .i64 frm) ∧ V'.cell? ⟨BX, 4, none⟩ = some (.int .i64 unt) ∧ V'.cell? ⟨BX, 5, none⟩ = some (.slice (some ⟨x1, 0, none⟩) ls.length ls.length) ∧ V'.cell? ⟨BX, 6, none⟩ = some (.string se) ∧ V'.cell? ⟨A, 0, none⟩ = some (.string tn) ∧ V'.cell? ⟨A, 1, none⟩ = some (.string sp) ∧ V'.cell? ⟨A, 2, none⟩ = some (.int .i64 run) ∧ V'.cell? ⟨A, 3, none⟩ = some (.int .i64 frm) ∧ V'.cell? ⟨A, 4, none⟩ = some (.int .i64 unt) ∧ V'.cell? ⟨A, 5, none⟩ = some (.slice ao ls.length cp) ∧ V'.cell? ⟨A, 6, none⟩ = some (.string se) ∧ WS.grownBy V' none from ⟨hg.cell h.1 (by simp), hg.cell h.2.1 (by simp), hg.cell h.2.2.1 (by simp), hg.cell h.2.2.2.1 (by simp), hg.cell h.2.2.2.2.1 (by simp), hg.cell h.2.2.2.2.2.1 (by simp), hg.cell h.2.2.2.2.2.2.1 (by simp), hg.cell h.2.2.2.2.2.2.2.1 (by simp), hg.cell h.2.2.2.2.2.2.2.2.1 (by simp), hg.cell h.2.2.2.2.2.2.2.2.2.1 (by simp), hg.cell h.2.2.2.2.2.2.2.2.2.2.1 (by simp), hg.cell h.2.2.2.2.2.2.2.2.2.2.2.1 (by simp), hg.cell h.2.2.2.2.2.2.2.2.2.2.2.2.1 (by simp), hg.cell h.2.2.2.2.2.2.2.2.2.2.2.2.2.1 (by simp), grown_trans h.2.2.2.2.2.2.2.2.2.2.2.2.2.2 hg⟩)
  have HER2 := Lib.hid (fun (V : World) (y : Nat) (h : V.cell? ⟨BX, 0, none⟩ = some (.string tn) ∧ V.cell? ⟨BX, 1, none⟩ = some (.string sp) ∧ V.cell? ⟨BX, 2, none⟩ = some (.int .i64 run) ∧ V.cell? ⟨BX, 3, none⟩ = some (.int .i64 frm) ∧ V.cell? ⟨BX, 4, none⟩ = some (.int .i64 unt) ∧ V.cell? ⟨BX, 5, none⟩ = some (.slice (some ⟨x1, 0, none⟩) ls.length ls.length) ∧ V.cell? ⟨BX, 6, none⟩ = some (.string se) ∧ V.cell? ⟨A, 0, none⟩ = some (.string tn) ∧ V.cell? ⟨A, 1, none⟩ = some (.string sp) ∧ V.cell? ⟨A, 2, none⟩ = some (.int .i64 run) ∧ V.cell? ⟨A, 3, none⟩ = some (.int .i64 frm) ∧ V.cell? ⟨A, 4, none⟩ = some (.int .i64 unt) ∧ V.cell? ⟨A, 5, none⟩ = some (.slice ao ls.length cp) ∧ V.cell? ⟨A, 6, none⟩ = some (.string se) ∧ WS.grownBy V none) (hy : Blk V y 9 (strs ls)) => (eqCap_any V tn sp run frm unt (some ⟨x1, 0, none⟩) (some ⟨y, 0, none⟩) ls.length ls.length ls se x1 y (HXS.out.kept h.2.2.2.2.2.2.2.2.2.2.2.2.2.2 (by simp)).lies hy.lies HN1.out).mono (R' := fun e w' => e = .returned (.bool true) ∧ (w'.cell? ⟨BX, 0, none⟩ = some (.string tn) ∧ w'.cell? ⟨BX, 1, none⟩ = some (.string sp) ∧ w'.cell? ⟨BX, 2, none⟩ = some (.int .i64 run) ∧ w'.cell? ⟨BX, 3, none⟩ = some (.int .i64 frm) ∧ w'.cell? ⟨BX, 4, none⟩ = some (.int .i64 unt) ∧ w'.cell? ⟨BX, 5, none⟩ = some (.slice (some ⟨x1, 0, none⟩) ls.length ls.length) ∧ w'.cell? ⟨BX, 6, none⟩ = some (.string se) ∧ w'.cell? ⟨A, 0, none⟩ = some (.string tn) ∧ w'.cell? ⟨A, 1, none⟩ = some (.string sp) ∧ w'.cell? ⟨A, 2, none⟩ = some (.int .i64 run) ∧ w'.cell? ⟨A, 3, none⟩ = some (.int .i64 frm) ∧ w'.cell? ⟨A, 4, none⟩ = some (.int .i64 unt) ∧ w'.cell? ⟨A, 5, none⟩ = some (.slice ao ls.length cp) ∧ w'.cell? ⟨A, 6, none⟩ = some (.string se) ∧ WS.grownBy w' none)) (fun e w' q => ⟨q.1, HKP.out V w' h q.2⟩))
  clear HTO HTS HTI HER HA5 HX5 HB5 HG5
  go_wp2
  go_region_held3 (fun V => V.cell? ⟨BX, 0, none⟩ = some (.string tn) ∧ V.cell? ⟨BX, 1, none⟩ = some (.string sp) ∧ V.cell? ⟨BX, 2, none⟩ = some (.int .i64 run) ∧ V.cell? ⟨BX, 3, none⟩ = some (.int .i64 frm) ∧ V.cell? ⟨BX, 4, none⟩ = some (.int .i64 unt) ∧ V.cell? ⟨BX, 5, none⟩ = some (.slice (some ⟨x1, 0, none⟩) ls.length ls.length) ∧ V.cell? ⟨BX, 6, none⟩ = some (.string se) ∧ V.cell? ⟨A, 0, none⟩ = some (.string tn) ∧ V.cell? ⟨A, 1, none⟩ = some (.string sp) ∧ V.cell? ⟨A, 2, none⟩ = some (.int .i64 run) ∧ V.cell? ⟨A, 3, none⟩ = some (.int .i64 frm) ∧ V.cell? ⟨A, 4, none⟩ = some (.int .i64 unt) ∧ V.cell? ⟨A, 5, none⟩ = some (.slice ao ls.length cp) ∧ V.cell? ⟨A, 6, none⟩ = some (.string se) ∧ WS.grownBy V none) (first | assumption | (with_reducible exact HSD.out))
    (first
      | (go_at_call 9; refine (HTR.out _ (by assumption)).mono ?_; rintro e wa ⟨y, rfl, hSa, hy⟩; have HY := Lib.hid hy; clear hy)
      | (go_at_call 11; refine (HER2.out _ y (by assumption) HY.out).mono ?_; rintro e wb ⟨rfl, hSb⟩; have HSB := Lib.hid hSb))
  all_goals
    go_wp2
    go_ret
    exact ⟨rfl, grown_trans HGS.out HSB.out.2.2.2.2.2.2.2.2.2.2.2.2.2.2⟩
end Go.Proofs.YtecekbhkombnnaaGreatDoor
