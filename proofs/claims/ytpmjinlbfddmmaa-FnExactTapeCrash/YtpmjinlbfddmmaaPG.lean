/- FnExactTapeCrash, walked. -/
import Derived.Test.YtpmjinlbfddmmaaP9
import Derived.Test.YtpmjinlbfddmmaaPF
namespace Go.Proofs.Ytpmjinlbfddmmaa
open Go.RowKit

theorem bulkS_at2 (ss : List ByteArray) (s : ByteArray) (h : s ∈ ss) : s.size ≤ bulkS ss := by
  induction ss with
  | nil => cases h
  | cons x xs ih =>
    rcases List.mem_cons.1 h with rfl | h
    · simp [bulkS]
    · have := ih h
      simp [bulkS]; omega

set_option maxRecDepth 100000 in
set_option maxHeartbeats 4000000 in
theorem exactTapeCrash_walk (w : World) (whole torn : Int) (a1 a2 : Option Addr) (c1 c2 : Nat) (ss ls : List ByteArray) (h1 : Lies w 0 a1 ss) (h2 : Lies w 0 a2 ls) (n1 : ss.length ≤ 9223372036854775807) (n2 : ls.length ≤ 9223372036854775807) (z1 : ∀ s ∈ ss, s.size ≤ 9223372036854775807) (z2 : ∀ s ∈ ls, s.size ≤ 9223372036854775807) :
    Calls Try.prog 4 #[.agg #[.slice a1 ss.length c1, .slice a2 ls.length c2], .int .i64 whole, .int .i64 torn] w fun e w' => e = .returned (.bool true) ∧ w.grownBy w' none := by
  have HGA := Lib.hid (show w.grownBy (w.alloc (Obj.cells #[Value.slice a1 ss.length c1, .slice a2 ls.length c2] 24)) none from grown_alloc (grown_refl _ _) _)
  have HBA := Lib.hid (Blk.new w 24 [Value.slice a1 ss.length c1, .slice a2 ls.length c2])
  have HSZ := Lib.hid (szTape_any (w.alloc (Obj.cells #[Value.slice a1 ss.length c1, .slice a2 ls.length c2] 24)) a1 a2 c1 c2 ss ls (h1.kept HGA.out (fun q e => by cases e)) (h2.kept HGA.out (fun q e => by cases e)) n1 n2 z1 z2)
  have H1 := Lib.hid h1
  have H2 := Lib.hid h2
  clear h1 h2 z1 z2 n1 n2
  go_enter Try.func4, Try.ntmps4
  go_wp2_with fail
  refine HSZ.out.mono ?_
  rintro e w1 ⟨r, rfl, hr, hg1⟩
  have HG1 := Lib.hid (grown_trans HGA.out hg1)
  have HA1 := Lib.hid (HBA.out.kept hg1 (by simp))
  clear hg1 HSZ HBA HGA
  rcases hr with hr | ⟨hr0, hbu⟩
  · go_wp2
    go_ret
    exact ⟨rfl, HG1.out⟩
  have hr' : ¬ r < 0 := by omega
  have n1 : ss.length ≤ 1048576 := by omega
  have n2 : ls.length ≤ 1048576 := by omega
  obtain ⟨L, hL⟩ : ∃ L, crashL ss ls whole torn = L := ⟨_, rfl⟩
  have nL : L.length ≤ 1048576 := by rw [← hL]; have := crashL_len ss ls whole torn; omega
  have HZ := Lib.hid (show ∀ s ∈ ss ++ ls, s.size ≤ 1048576 from fun s hs => by
    rcases List.mem_append.1 hs with h | h
    · have := bulkS_at2 ss s h
      omega
    · have := bulkS_at2 ls s h
      omega)
  have HTO := Lib.hid (fun (W : World) (hW : w.grownBy W none) => toTape_any W 0 0 a1 a2 c1 c2 ss ls (H1.out.kept hW (fun q e => by cases e)) (H2.out.kept hW (fun q e => by cases e)) n1 n2)
  have HSY := Lib.hid (fun (W : World) (g1 g2 : Nat) (k1 : At W ⟨g1, 0, none⟩ ss) (k2 : At W ⟨g2, 0, none⟩ ls) => crash_any W g1 ss.length g2 ls.length ss ls k1 k2 n1 n2 (Nat.le_refl _) whole torn)
  have HIS := Lib.hid (fun (W : World) (g1 g2 : Nat) (k1 : At W ⟨g1, 0, none⟩ ss) (k2 : At W ⟨g2, 0, none⟩ ls) => icrash_any W g1 ss.length g2 ls.length ss ls k1 k2 n1 n2 (Nat.le_refl _) whole torn HZ.out)
  rw [hL] at HSY HIS
  clear hL hbu HZ
  have d0 : w1.cell? ⟨w.heap.size, 0, none⟩ = some (.slice a1 ss.length c1) := HA1.out.cell rfl
  have d1 : w1.cell? ⟨w.heap.size, 1, none⟩ = some (.slice a2 ls.length c2) := HA1.out.cell rfl
  go_wp2_with fail
  refine (HTO.out w1 HG1.out).mono ?_
  rintro e w2 ⟨g1, g2, rfl, hq1, hq2, hb1, hb2, hg2⟩
  have HG2 := Lib.hid (grown_trans HG1.out hg2)
  have HA2 := Lib.hid (HA1.out.kept hg2 (by simp))
  have HC := Lib.hid (HSY.out w2 g1 g2 hb1.at hb2.at)
  clear hq1 hq2 hb1 hb2 hg2 d0 d1 HSY
  go_wp2_with fail
  refine HC.out.mono ?_
  rintro e w3 ⟨v0, b2, e2, rfl, hr0w, hg3⟩
  have HG3 := Lib.hid (grown_trans HG2.out hg3)
  have HA3 := Lib.hid (HA2.out.kept hg3 (by simp))
  obtain ⟨an0, cn0, rfl, -⟩ := hr0w.lies
  have HR3 := Lib.hid (hr0w.base (show 0 ≤ w2.heap.size from Nat.zero_le _))
  clear hg3 HC hr0w
  obtain ⟨W4, hW4⟩ : ∃ W, w3.alloc (Obj.cells #[Value.slice an0 L.length cn0, .slice b2 0 e2] 26) = W := ⟨_, rfl⟩
  have HG4 := Lib.hid (show w.grownBy W4 none from by rw [← hW4]; exact grown_alloc HG3.out _)
  have HA4 := Lib.hid (show Blk W4 w.heap.size 24 [Value.slice a1 ss.length c1, .slice a2 ls.length c2] from by rw [← hW4]; exact HA3.out.alloc _)
  have HR4 := Lib.hid (show Row W4 0 (.slice an0 L.length cn0) (strs L) from by rw [← hW4]; exact HR3.out.alloc _)
  have HW4 := Lib.hid (show Blk W4 w3.heap.size 26 [Value.slice an0 L.length cn0, .slice b2 0 e2] from by rw [← hW4]; exact Blk.new w3 26 _)
  have HO4 := Lib.hid (show ∀ q, (Value.slice an0 L.length cn0).ownBlock = some q → q < w3.heap.size from fun q hq => (HR3.out.lt q hq).2)
  have HWE := Lib.hid hW4
  have d0 : W4.cell? ⟨w.heap.size, 0, none⟩ = some (.slice a1 ss.length c1) := HA4.out.cell rfl
  have d1 : W4.cell? ⟨w.heap.size, 1, none⟩ = some (.slice a2 ls.length c2) := HA4.out.cell rfl
  have d0' : w3.cell? ⟨w.heap.size, 0, none⟩ = some (.slice a1 ss.length c1) := HA3.out.cell rfl
  have d1' : w3.cell? ⟨w.heap.size, 1, none⟩ = some (.slice a2 ls.length c2) := HA3.out.cell rfl
  have hNA : w.heap.size < w3.heap.size := HA3.out.lt
  clear hW4
  go_wp2_with fail
  rw [HWE.out]
  refine (HTO.out W4 HG4.out).mono ?_
  rintro e w5 ⟨x1, x2, rfl, hx1, hx12, hbx1, hbx2, hg5⟩
  have HG5 := Lib.hid (grown_trans HG4.out hg5)
  have HA5 := Lib.hid (HA4.out.kept hg5 (by simp))
  have HR5 := Lib.hid (HR4.out.kept hg5 (by simp))
  have HW5 := Lib.hid (HW4.out.kept hg5 (by simp))
  have HX15 := Lib.hid hbx1
  have HX25 := Lib.hid hbx2
  have hB0 : w3.heap.size < x1 := by have := HW4.out.lt; omega
  have hx2l : x2 < w5.heap.size := hbx2.lt
  generalize w3.heap.size = B0 at HW4 HW5 HO4 hB0 hNA ⊢
  clear hbx1 hbx2 hg5 d0 d1 d0' d1' HR3 HA3 HG3 HWE hx1 HW4 HR4 HA4 HG4
  obtain ⟨W6, hW6⟩ : ∃ W, w5.alloc (Obj.cells #[Value.slice (some ⟨x1, 0, none⟩) ss.length ss.length, .slice (some ⟨x2, 0, none⟩) ls.length ls.length] 26) = W := ⟨_, rfl⟩
  have HG6 := Lib.hid (show w.grownBy W6 none from by rw [← hW6]; exact grown_alloc HG5.out _)
  have HA6 := Lib.hid (show Blk W6 w.heap.size 24 [Value.slice a1 ss.length c1, .slice a2 ls.length c2] from by rw [← hW6]; exact HA5.out.alloc _)
  have HR6 := Lib.hid (show Row W6 0 (.slice an0 L.length cn0) (strs L) from by rw [← hW6]; exact HR5.out.alloc _)
  have HW6 := Lib.hid (show Blk W6 B0 26 [Value.slice an0 L.length cn0, .slice b2 0 e2] from by rw [← hW6]; exact HW5.out.alloc _)
  have HX16 := Lib.hid (show Blk W6 x1 9 (strs ss) from by rw [← hW6]; exact HX15.out.alloc _)
  have HX26 := Lib.hid (show Blk W6 x2 9 (strs ls) from by rw [← hW6]; exact HX25.out.alloc _)
  have HX6 := Lib.hid (show Blk W6 w5.heap.size 26 [Value.slice (some ⟨x1, 0, none⟩) ss.length ss.length, .slice (some ⟨x2, 0, none⟩) ls.length ls.length] from by rw [← hW6]; exact Blk.new w5 26 _)
  have hB1 : w5.heap.size < W6.heap.size := HX6.out.lt
  have HWE := Lib.hid hW6
  have HC := Lib.hid (HIS.out W6 x1 x2 HX16.out.at HX26.out.at)
  clear hW6 HG5 HA5 HR5 HW5 HX15 HX25
  go_wp2_with fail
  rw [HWE.out]
  refine HC.out.mono ?_
  rintro e w7 ⟨vg, rfl, hrg, hg7⟩
  have HG7 := Lib.hid (grown_trans HG6.out hg7)
  have HA7 := Lib.hid (HA6.out.kept hg7 (by simp))
  have HR7 := Lib.hid (HR6.out.kept hg7 (by simp))
  have HW7 := Lib.hid (HW6.out.kept hg7 (by simp))
  have HX17 := Lib.hid (HX16.out.kept hg7 (by simp))
  have HX27 := Lib.hid (HX26.out.kept hg7 (by simp))
  have HX7 := Lib.hid (HX6.out.kept hg7 (by simp))
  obtain ⟨ang, cng, rfl, -⟩ := hrg.lies
  have HRG7 := Lib.hid hrg
  have hB12 : w5.heap.size < w7.heap.size := HX7.out.lt
  generalize w5.heap.size = B1 at HX7 HX6 hB1 hB12 hx2l ⊢
  generalize W6.heap.size = SB at HRG7 hB1
  clear hrg hg7 HC HWE HG6 HA6 HR6 HW6 HX16 HX26 HX6
  obtain ⟨W8, hW8⟩ : ∃ W, w7.alloc (Obj.cells #[Value.slice ang L.length cng, .slice none 0 0] 26) = W := ⟨_, rfl⟩
  have HG8 := Lib.hid (show w.grownBy W8 none from by rw [← hW8]; exact grown_alloc HG7.out _)
  have HA8 := Lib.hid (show Blk W8 w.heap.size 24 [Value.slice a1 ss.length c1, .slice a2 ls.length c2] from by rw [← hW8]; exact HA7.out.alloc _)
  have HR8 := Lib.hid (show Row W8 0 (.slice an0 L.length cn0) (strs L) from by rw [← hW8]; exact HR7.out.alloc _)
  have HW8 := Lib.hid (show Blk W8 B0 26 [Value.slice an0 L.length cn0, .slice b2 0 e2] from by rw [← hW8]; exact HW7.out.alloc _)
  have HX18 := Lib.hid (show Blk W8 x1 9 (strs ss) from by rw [← hW8]; exact HX17.out.alloc _)
  have HX28 := Lib.hid (show Blk W8 x2 9 (strs ls) from by rw [← hW8]; exact HX27.out.alloc _)
  have HX8 := Lib.hid (show Blk W8 B1 26 [Value.slice (some ⟨x1, 0, none⟩) ss.length ss.length, .slice (some ⟨x2, 0, none⟩) ls.length ls.length] from by rw [← hW8]; exact HX7.out.alloc _)
  have HGV8 := Lib.hid (show Blk W8 w7.heap.size 26 [Value.slice ang L.length cng, .slice none 0 0] from by rw [← hW8]; exact Blk.new w7 26 _)
  have HRG8 := Lib.hid (show Row W8 SB (.slice ang L.length cng) (strs L) from by rw [← hW8]; exact HRG7.out.alloc _)
  have HOG := Lib.hid (show ∀ q, (Value.slice ang L.length cng).ownBlock = some q → SB ≤ q ∧ q < w7.heap.size from fun q hq => HRG7.out.lt q hq)
  have c0 : (w7.alloc (Obj.cells #[Value.slice ang L.length cng, .slice none 0 0] 26)).cell? ⟨B0, 0, none⟩ = some (.slice an0 L.length cn0) := (HW7.out.alloc _).cell rfl
  have c1' : (w7.alloc (Obj.cells #[Value.slice ang L.length cng, .slice none 0 0] 26)).cell? ⟨B0, 1, none⟩ = some (.slice b2 0 e2) := (HW7.out.alloc _).cell rfl
  have HWE := Lib.hid hW8
  obtain ⟨an0', cn0', he0, hl0⟩ := HR8.out.lies
  cases he0
  obtain ⟨ang', cng', heg, hlg⟩ := HRG8.out.lies
  cases heg
  have HE := Lib.hid (eqTape_any W8 _ 0 _ 0 ang none an0 b2 cng 0 cn0 e2 L [] hlg (.inl rfl) hl0 (.inl rfl) nL (by simp))
  simp only [List.length_nil] at HE
  clear hW8 hl0 hlg HG7 HA7 HR7 HW7 HX17 HX27 HX7 HRG7
  go_wp2_with fail
  rw [HWE.out]
  refine HE.out.mono ?_
  rintro e w9 ⟨rfl, hg9⟩
  have HG9 := Lib.hid (grown_trans HG8.out hg9)
  have HA9 := Lib.hid (HA8.out.kept hg9 (by simp))
  have HR9 := Lib.hid (HR8.out.kept hg9 (by simp))
  have HW9 := Lib.hid (HW8.out.kept hg9 (by simp))
  have HX19 := Lib.hid (HX18.out.kept hg9 (by simp))
  have HX29 := Lib.hid (HX28.out.kept hg9 (by simp))
  have HX9 := Lib.hid (HX8.out.kept hg9 (by simp))
  have HGV9 := Lib.hid (HGV8.out.kept hg9 (by simp))
  have HRG9 := Lib.hid (HRG8.out.kept hg9 (by simp))
  generalize w7.heap.size = B2 at HGV8 HGV9 HOG hB12 ⊢
  clear hg9 HE c0 c1' HWE HG8 HA8 HR8 HW8 HX18 HX28 HX8 HGV8 HRG8
  have HS9 := Lib.hid (show w9.drew.cell? ⟨B1, 0, none⟩ = some (.slice (some ⟨x1, 0, none⟩) ss.length ss.length) ∧ w9.drew.cell? ⟨B1, 1, none⟩ = some (.slice (some ⟨x2, 0, none⟩) ls.length ls.length) ∧ w9.drew.cell? ⟨w.heap.size, 0, none⟩ = some (.slice a1 ss.length c1) ∧ w9.drew.cell? ⟨w.heap.size, 1, none⟩ = some (.slice a2 ls.length c2) ∧ w9.grownBy w9.drew none from ⟨HX9.out.cell rfl, HX9.out.cell rfl, HA9.out.cell rfl, HA9.out.cell rfl, grown_drew (grown_refl _ _)⟩)
  have HT9 := Lib.hid (fun (W : World) (hW : W.cell? ⟨B1, 0, none⟩ = some (.slice (some ⟨x1, 0, none⟩) ss.length ss.length) ∧ W.cell? ⟨B1, 1, none⟩ = some (.slice (some ⟨x2, 0, none⟩) ls.length ls.length) ∧ W.cell? ⟨w.heap.size, 0, none⟩ = some (.slice a1 ss.length c1) ∧ W.cell? ⟨w.heap.size, 1, none⟩ = some (.slice a2 ls.length c2) ∧ w9.grownBy W none) => (HTO.out W (grown_trans HG9.out hW.2.2.2.2)).mono (R' := fun e w' => ∃ y1 y2, e = .returned (.agg #[.slice (some ⟨y1, 0, none⟩) ss.length ss.length, .slice (some ⟨y2, 0, none⟩) ls.length ls.length]) ∧ (w'.cell? ⟨B1, 0, none⟩ = some (.slice (some ⟨x1, 0, none⟩) ss.length ss.length) ∧ w'.cell? ⟨B1, 1, none⟩ = some (.slice (some ⟨x2, 0, none⟩) ls.length ls.length) ∧ w'.cell? ⟨w.heap.size, 0, none⟩ = some (.slice a1 ss.length c1) ∧ w'.cell? ⟨w.heap.size, 1, none⟩ = some (.slice a2 ls.length c2) ∧ w9.grownBy w' none) ∧ Blk w' y1 9 (strs ss) ∧ Blk w' y2 9 (strs ls)) (fun e w' ⟨y1, y2, q1, _, _, q4, q5, q6⟩ => ⟨y1, y2, q1, ⟨q6.cell hW.1 (by simp), q6.cell hW.2.1 (by simp), q6.cell hW.2.2.1 (by simp), q6.cell hW.2.2.2.1 (by simp), grown_trans hW.2.2.2.2 q6⟩, q4, q5⟩))
  have HE9 := Lib.hid (fun (W : World) (y1 y2 : Nat) (hW : W.cell? ⟨B1, 0, none⟩ = some (.slice (some ⟨x1, 0, none⟩) ss.length ss.length) ∧ W.cell? ⟨B1, 1, none⟩ = some (.slice (some ⟨x2, 0, none⟩) ls.length ls.length) ∧ W.cell? ⟨w.heap.size, 0, none⟩ = some (.slice a1 ss.length c1) ∧ W.cell? ⟨w.heap.size, 1, none⟩ = some (.slice a2 ls.length c2) ∧ w9.grownBy W none) (k1 : Blk W y1 9 (strs ss)) (k2 : Blk W y2 9 (strs ls)) => (eqTape_any W _ _ _ _ _ _ _ _ ss.length ls.length ss.length ls.length ss ls (HX19.out.kept hW.2.2.2.2 (by simp)).lies (HX29.out.kept hW.2.2.2.2 (by simp)).lies k1.lies k2.lies n1 n2).mono (R' := fun e w' => e = .returned (.bool true) ∧ (w'.cell? ⟨B1, 0, none⟩ = some (.slice (some ⟨x1, 0, none⟩) ss.length ss.length) ∧ w'.cell? ⟨B1, 1, none⟩ = some (.slice (some ⟨x2, 0, none⟩) ls.length ls.length) ∧ w'.cell? ⟨w.heap.size, 0, none⟩ = some (.slice a1 ss.length c1) ∧ w'.cell? ⟨w.heap.size, 1, none⟩ = some (.slice a2 ls.length c2) ∧ w9.grownBy w' none)) (fun e w' ⟨q1, q6⟩ => ⟨q1, q6.cell hW.1 (by simp), q6.cell hW.2.1 (by simp), q6.cell hW.2.2.1 (by simp), q6.cell hW.2.2.2.1 (by simp), grown_trans hW.2.2.2.2 q6⟩))
  go_wp2
  go_region_held3 (fun w' => w'.cell? ⟨B1, 0, none⟩ = some (.slice (some ⟨x1, 0, none⟩) ss.length ss.length) ∧ w'.cell? ⟨B1, 1, none⟩ = some (.slice (some ⟨x2, 0, none⟩) ls.length ls.length) ∧ w'.cell? ⟨w.heap.size, 0, none⟩ = some (.slice a1 ss.length c1) ∧ w'.cell? ⟨w.heap.size, 1, none⟩ = some (.slice a2 ls.length c2) ∧ w9.grownBy w' none) (first | assumption | exact HS9.out)
    (first
      | (go_at_call 11; refine (HT9.out _ (by assumption)).mono ?_; rintro e wa ⟨y1, y2, rfl, hSa, hy1, hy2⟩; have HY1 := Lib.hid hy1; have HY2 := Lib.hid hy2; clear hy1 hy2)
      | (go_at_call 13; refine (HE9.out _ y1 y2 (by assumption) HY1.out HY2.out).mono ?_; rintro e wb ⟨rfl, hSb⟩; have HSB := Lib.hid hSb))
  have hg10 := HSB.out.2.2.2.2
  have HG10 := Lib.hid (grown_trans HG9.out hg10)
  have HA10 := Lib.hid (HA9.out.kept hg10 (by simp))
  have HR10 := Lib.hid (HR9.out.kept hg10 (by simp))
  have HW10 := Lib.hid (HW9.out.kept hg10 (by simp))
  have HX10 := Lib.hid (HX9.out.kept hg10 (by simp))
  have HGV10 := Lib.hid (HGV9.out.kept hg10 (by simp))
  have HRG10 := Lib.hid (HRG9.out.kept hg10 (by simp))
  have HMX := Lib.hid (markTape_any wb 0 (some ⟨x1, 0, none⟩) (some ⟨x2, 0, none⟩) ss.length ls.length ss ls ((HX19.out.kept hg10 (by simp)).row 0 (Nat.zero_le _)) ((HX29.out.kept hg10 (by simp)).row 0 (Nat.zero_le _)) (fun q hq e => by simp [Value.ownBlock] at hq e; omega) n1 n2)
  have HOX := Lib.hid (show ∀ q, Own2 (.slice (some ⟨x1, 0, none⟩) ss.length ss.length) (.slice (some ⟨x2, 0, none⟩) ls.length ls.length) q → q = x1 ∨ q = x2 from fun q hq => by
    rcases hq with h | h
    · simp [Value.ownBlock] at h; exact .inl h.symm
    · simp [Value.ownBlock] at h; exact .inr h.symm)
  clear hg10 hSa hSb HSB HS9 HT9 HE9 HY1 HY2 HG9 HA9 HR9 HW9 HX9 HGV9 HRG9 HX19 HX29
  have p0 : wb.cell? ⟨B1, 0, none⟩ = some (.slice (some ⟨x1, 0, none⟩) ss.length ss.length) := HX10.out.cell rfl
  have p1 : wb.cell? ⟨B1, 1, none⟩ = some (.slice (some ⟨x2, 0, none⟩) ls.length ls.length) := HX10.out.cell rfl
  go_wp2_with fail
  refine HMX.out.mono ?_
  rintro e w11 ⟨rfl, -, -, hfr⟩
  have HG11 := Lib.hid (Fr.grown HG10.out hfr (fun i hi h => by rcases HOX.out i h with h | h <;> omega))
  have HA11 := Lib.hid (hfr.blk HA10.out (fun h => by rcases HOX.out _ h with h | h <;> omega))
  have HW11 := Lib.hid (hfr.blk HW10.out (fun h => by rcases HOX.out _ h with h | h <;> omega))
  have HGV11 := Lib.hid (hfr.blk HGV10.out (fun h => by rcases HOX.out _ h with h | h <;> omega))
  have HR11 := Lib.hid (hfr.row HR10.out (fun q hq h => by have := HO4.out q hq; rcases HOX.out _ h with h | h <;> omega))
  have HRG11 := Lib.hid (hfr.row HRG10.out (fun q hq h => by have := (HOG.out q hq).1; rcases HOX.out _ h with h | h <;> omega))
  obtain ⟨KX, hKX⟩ : ∃ K, K = 1 + ss.length + ls.length := ⟨_, rfl⟩
  rw [← hKX]
  have kx : ¬ (KX : Int) < 0 := by omega
  clear hfr HMX p0 p1 hKX HG10 HA10 HR10 HW10 HX10 HGV10 HRG10
  obtain ⟨an0', cn0', he0, hl0⟩ := HR11.out.lies
  cases he0
  obtain ⟨ang', cng', heg, hlg⟩ := HRG11.out.lies
  cases heg
  have HE := Lib.hid (eqTape_any w11 _ 0 _ 0 ang none an0 b2 cng 0 cn0 e2 L [] hlg (.inl rfl) hl0 (.inl rfl) nL (by simp))
  simp only [List.length_nil] at HE
  clear hl0 hlg
  have p0 : w11.cell? ⟨B2, 0, none⟩ = some (.slice ang L.length cng) := HGV11.out.cell rfl
  have p1 : w11.cell? ⟨B2, 1, none⟩ = some (.slice none 0 0) := HGV11.out.cell rfl
  have p2 : w11.cell? ⟨B0, 0, none⟩ = some (.slice an0 L.length cn0) := HW11.out.cell rfl
  have p3 : w11.cell? ⟨B0, 1, none⟩ = some (.slice b2 0 e2) := HW11.out.cell rfl
  go_wp2_with fail
  refine HE.out.mono ?_
  rintro e w12 ⟨rfl, hg12⟩
  have HG12 := Lib.hid (grown_trans HG11.out hg12)
  have HA12 := Lib.hid (HA11.out.kept hg12 (by simp))
  have HW12 := Lib.hid (HW11.out.kept hg12 (by simp))
  have HGV12 := Lib.hid (HGV11.out.kept hg12 (by simp))
  have HR12 := Lib.hid (HR11.out.kept hg12 (by simp))
  have HRG12 := Lib.hid (HRG11.out.kept hg12 (by simp))
  have HMG := Lib.hid (markTape_any w12 SB ang none cng 0 L [] HRG12.out (Row.nil _ _) (fun q hq e => by simp [Value.ownBlock] at e) nL (by simp))
  simp only [List.length_nil] at HMG
  have HOG2 := Lib.hid (show ∀ q, Own2 (.slice ang L.length cng) (.slice none 0 0) q → SB ≤ q ∧ q < B2 from fun q hq => by
    rcases hq with h | h
    · exact HOG.out q h
    · simp [Value.ownBlock] at h)
  clear hg12 HE p0 p1 p2 p3 HG11 HA11 HR11 HW11 HGV11 HRG11
  have p0 : w12.cell? ⟨B2, 0, none⟩ = some (.slice ang L.length cng) := HGV12.out.cell rfl
  have p1 : w12.cell? ⟨B2, 1, none⟩ = some (.slice none 0 0) := HGV12.out.cell rfl
  go_wp2_with fail
  refine HMG.out.mono ?_
  rintro e w13 ⟨rfl, hrm, -, hfr⟩
  have HG13 := Lib.hid (Fr.grown HG12.out hfr (fun i hi h => by have := HOG2.out i h; omega))
  have HA13 := Lib.hid (hfr.blk HA12.out (fun h => by have := HOG2.out _ h; omega))
  have HW13 := Lib.hid (hfr.blk HW12.out (fun h => by have := HOG2.out _ h; omega))
  have HGV13 := Lib.hid (hfr.blk HGV12.out (fun h => by have := HOG2.out _ h; omega))
  have HR13 := Lib.hid (hfr.row HR12.out (fun q hq h => by have h1 := HO4.out q hq; have h2 := HOG2.out _ h; omega))
  have HRM13 := Lib.hid hrm
  have HHE := Lib.hid (fun (W : World) (hW : w13.grownBy W none) => heldTape_any W SB ang none L.length 0 cng 0 L.length 0 (HRM13.out.kept hW (by simp)) (by simpa [marks, strs] using Row.nil W SB) nL (by omega))
  obtain ⟨KM, hKM⟩ : ∃ K, K = 1 + L.length + 0 := ⟨_, rfl⟩
  rw [← hKM] at HHE ⊢
  have km : ¬ (KM : Int) < 0 := by omega
  clear hrm hfr HMG p0 p1 hKM HG12 HA12 HR12 HW12 HGV12 HRG12
  have p0 : w13.cell? ⟨B2, 0, none⟩ = some (.slice ang L.length cng) := HGV13.out.cell rfl
  have p1 : w13.cell? ⟨B2, 1, none⟩ = some (.slice none 0 0) := HGV13.out.cell rfl
  go_wp2_with fail
  refine (HHE.out w13 (grown_refl _ _)).mono ?_
  rintro e w14 ⟨rfl, hg14⟩
  have HGM14 := Lib.hid hg14
  have HG14 := Lib.hid (grown_trans HG13.out hg14)
  have HA14 := Lib.hid (HA13.out.kept hg14 (by simp))
  have HW14 := Lib.hid (HW13.out.kept hg14 (by simp))
  have HGV14 := Lib.hid (HGV13.out.kept hg14 (by simp))
  have HR14 := Lib.hid (HR13.out.kept hg14 (by simp))
  clear hg14 p0 p1
  have p0 : w14.cell? ⟨w.heap.size, 0, none⟩ = some (.slice a1 ss.length c1) := HA14.out.cell rfl
  have p1 : w14.cell? ⟨w.heap.size, 1, none⟩ = some (.slice a2 ls.length c2) := HA14.out.cell rfl
  go_wp2_with fail
  refine (HTO.out w14 HG14.out).mono ?_
  rintro e w15 ⟨y1, y2, rfl, -, -, hby1, hby2, hg15⟩
  have HGM15 := Lib.hid (grown_trans HGM14.out hg15)
  have HG15 := Lib.hid (grown_trans HG14.out hg15)
  have HW15 := Lib.hid (HW14.out.kept hg15 (by simp))
  have HGV15 := Lib.hid (HGV14.out.kept hg15 (by simp))
  have HR15 := Lib.hid (HR14.out.kept hg15 (by simp))
  have HC := Lib.hid (HIS.out w15 y1 y2 hby1.at hby2.at)
  clear hby1 hby2 hg15 p0 p1
  go_wp2_with fail
  refine HC.out.mono ?_
  rintro e w16 ⟨vh, rfl, hrh, hg16⟩
  have HGM16 := Lib.hid (grown_trans HGM15.out hg16)
  have HG16 := Lib.hid (grown_trans HG15.out hg16)
  have HW16 := Lib.hid (HW15.out.kept hg16 (by simp))
  have HGV16 := Lib.hid (HGV15.out.kept hg16 (by simp))
  have HR16 := Lib.hid (HR15.out.kept hg16 (by simp))
  obtain ⟨anh, cnh, rfl, -⟩ := hrh.lies
  have HRH := Lib.hid hrh
  clear hrh hg16 HC
  have hga := show w16.grownBy (w16.alloc (Obj.cells #[Value.slice anh L.length cnh, .slice none 0 0] 26)) none from grown_alloc (grown_refl _ _) _
  obtain ⟨an0', cn0', he0, hl0⟩ := (HR16.out.alloc (Obj.cells #[Value.slice anh L.length cnh, .slice none 0 0] 26)).lies
  cases he0
  obtain ⟨anh', cnh', heh, hlh⟩ := (HRH.out.alloc (Obj.cells #[Value.slice anh L.length cnh, .slice none 0 0] 26)).lies
  cases heh
  have HE := Lib.hid (eqTape_any _ _ 0 _ 0 anh none an0 b2 cnh 0 cn0 e2 L [] hlh (.inl rfl) hl0 (.inl rfl) nL (by simp))
  simp only [List.length_nil] at HE
  have HGA16 := Lib.hid hga
  have p2 : (w16.alloc (Obj.cells #[Value.slice anh L.length cnh, .slice none 0 0] 26)).cell? ⟨B0, 0, none⟩ = some (.slice an0 L.length cn0) := (HW16.out.alloc _).cell rfl
  have p3 : (w16.alloc (Obj.cells #[Value.slice anh L.length cnh, .slice none 0 0] 26)).cell? ⟨B0, 1, none⟩ = some (.slice b2 0 e2) := (HW16.out.alloc _).cell rfl
  clear hl0 hlh hga
  go_wp2_with fail
  refine HE.out.mono ?_
  rintro e w18 ⟨rfl, hg18⟩
  have hgq := grown_trans HGA16.out hg18
  have HGM18 := Lib.hid (grown_trans HGM16.out hgq)
  have HG18 := Lib.hid (grown_trans HG16.out hgq)
  have HGV18 := Lib.hid (HGV16.out.kept hgq (by simp))
  clear hg18 hgq HE p2 p3
  have p0 : w18.cell? ⟨B2, 0, none⟩ = some (.slice ang L.length cng) := HGV18.out.cell rfl
  have p1 : w18.cell? ⟨B2, 1, none⟩ = some (.slice none 0 0) := HGV18.out.cell rfl
  go_wp2_with fail
  refine (HHE.out w18 HGM18.out).mono ?_
  rintro e w19 ⟨rfl, hg19⟩
  have HG19 := Lib.hid (grown_trans HG18.out hg19)
  clear hg19 p0 p1
  go_wp2
  go_ret
  exact ⟨rfl, HG19.out⟩
end Go.Proofs.Ytpmjinlbfddmmaa
