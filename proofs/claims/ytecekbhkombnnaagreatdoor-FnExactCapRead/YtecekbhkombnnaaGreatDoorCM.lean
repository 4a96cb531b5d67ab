/- Limits, by both. -/
import Derived.Test.YtecekbhkombnnaaGreatDoorCL
namespace Go.Proofs.YtecekbhkombnnaaGreatDoor
open Go.RowKit

/-- until a tick -/
def LimU (l : ByteArray) (n : Int) : Prop := (headB 32 l).toList = [117, 110, 116, 105, 108] ∧ restB 32 l = decI n ∧ 0 ≤ n ∧ n ≤ 999999
/-- only a thing -/
def LimO (l : ByteArray) : Prop := (headB 32 l).toList = [111, 110, 108, 121] ∧ IdP (restB 32 l)
def LimP (l : ByteArray) : Prop := (∃ n, LimU l n) ∨ LimO l
def LimE (e : Ending) (l : ByteArray) : Prop := ∃ r : Int, e = .returned (.int .i64 r) ∧ ((r = 1 ∧ ∃ n, LimU l n) ∨ (r = 2 ∧ LimO l) ∨ (r = 0 ∧ ¬ LimP l))
theorem LimE.one {l : ByteArray} {n : Int} (h : LimU l n) : LimE (.returned (.int .i64 1)) l := ⟨1, rfl, .inl ⟨rfl, n, h⟩⟩
theorem LimE.two {l : ByteArray} (h : LimO l) : LimE (.returned (.int .i64 2)) l := ⟨2, rfl, .inr (.inl ⟨rfl, h⟩)⟩
theorem LimE.none {l : ByteArray} (h : ¬ LimP l) : LimE (.returned (.int .i64 0)) l := ⟨0, rfl, .inr (.inr ⟨rfl, h⟩)⟩
theorem lim_apart {l : ByteArray} {n : Int} (h1 : LimU l n) (h2 : LimO l) : False := by
  have h := h1.1.symm.trans h2.1
  exact absurd h (by decide)
theorem LimU.same {l : ByteArray} {n m : Int} (h1 : LimU l n) (h2 : LimU l m) : n = m :=
  decI_inj (by have := h1.2.2.1; omega) (by have := h1.2.2.2; omega) (by have := h2.2.2.1; omega) (by have := h2.2.2.2; omega) (h1.2.1.symm.trans h2.2.1)

set_option maxRecDepth 100000 in
set_option maxHeartbeats 8000000 in
theorem slim_any (w : World) (l : ByteArray) (hs : l.size ≤ 1048576) : Calls Tryz.prog 22 #[.string l] w fun e w' => LimE e l ∧ w.grownBy w' none := by
  obtain ⟨X, hX⟩ : ∃ X, headB 32 l = X := ⟨_, rfl⟩
  obtain ⟨Y, hY⟩ : ∃ Y, restB 32 l = Y := ⟨_, rfl⟩
  have hys : Y.size ≤ 1048576 := by rw [← hY]; exact Nat.le_trans (restB_size 32 l) hs
  have HHD := Lib.hid (shead_any w l hs)
  have HXY := Lib.hid (show headB 32 l = X ∧ restB 32 l = Y from ⟨hX, hY⟩)
  have HNM := Lib.hid (fun V => snum_any V Y hys)
  have HID := Lib.hid (fun V => sid_any V Y hys)
  rw [hX, hY] at HHD
  have HAP := Lib.hid (show X.toList = [117, 110, 116, 105, 108] → X.toList = [111, 110, 108, 121] → False from fun h1 h2 => absurd (h1.symm.trans h2) (by decide))
  clear hX hY hys
  by_cases hu : X.toList = [117, 110, 116, 105, 108]
  · have hub : (X.toList == [117, 110, 116, 105, 108]) = true := by rw [beq_iff_eq]; exact hu
    have hob : (X.toList == [111, 110, 108, 121]) = false := by rw [beq_eq_false_iff_ne]; exact fun h => HAP.out hu h
    have HU := Lib.hid hu
    clear hu
    go_enter Tryz.func22, Tryz.ntmps22
    go_wp2_with fail
    refine HHD.out.mono ?_
    rintro e w1 ⟨rfl, hg⟩
    have HG := Lib.hid hg
    clear hg HHD
    go_wp2_with fail
    refine (HNM.out w1).mono ?_
    rintro e wx ⟨⟨n, b, rfl, hn⟩, hw⟩
    have hw := hw.symm
    subst hw
    have HN := Lib.hid hn
    clear hn HNM
    have HNO := Lib.hid (fun (h : ¬ (b = true ∧ 0 ≤ n)) => show LimE (.returned (.int .i64 0)) l from .none (fun hp => by
      rcases hp with ⟨m, h1, h2, h3, h4⟩ | ⟨h1, -⟩
      · rw [HXY.out.2] at h2
        obtain ⟨e1, e2⟩ := HN.out.of_dec (by omega) h4 h2
        exact h ⟨e2, by omega⟩
      · rw [HXY.out.1] at h1
        exact HAP.out HU.out h1))
    cases b
    · have HD := Lib.hid (HNO.out (fun h => by cases h.1))
      clear HNO
      go_wp2
      go_ret
      exact ⟨HD.out, HG.out⟩
    by_cases h0 : 0 ≤ n
    · have h9 : n ≤ 999999 := by
        rcases HN.out with ⟨-, -, -, h⟩ | ⟨h, -⟩
        · exact h
        · cases h
      have HD := Lib.hid (show LimE (.returned (.int .i64 1)) l from .one (n := n) ⟨by rw [HXY.out.1]; exact HU.out, (by
        rw [HXY.out.2]
        rcases HN.out with ⟨-, h, -, -⟩ | ⟨h, -⟩
        · exact h
        · cases h), h0, h9⟩)
      clear HNO
      go_wp2_with (first | (go_at_call 34; go_in))
      go_ret
      exact ⟨HD.out, HG.out⟩
    · have HD := Lib.hid (HNO.out (fun h => h0 h.2))
      clear HNO
      go_wp2_with (first | (go_at_call 34; go_in))
      go_ret
      exact ⟨HD.out, HG.out⟩
  have hub : (X.toList == [117, 110, 116, 105, 108]) = false := by rw [beq_eq_false_iff_ne]; exact hu
  have HNU := Lib.hid (fun (m : Int) (h : LimU l m) => hu (by rw [← HXY.out.1]; exact h.1))
  clear hu
  by_cases ho : X.toList = [111, 110, 108, 121]
  · have hob : (X.toList == [111, 110, 108, 121]) = true := by rw [beq_iff_eq]; exact ho
    have HO := Lib.hid ho
    clear ho
    go_enter Tryz.func22, Tryz.ntmps22
    go_wp2_with fail
    refine HHD.out.mono ?_
    rintro e w1 ⟨rfl, hg⟩
    have HG := Lib.hid hg
    clear hg HHD
    go_wp2_with fail
    refine (HNM.out w1).mono ?_
    rintro e wx ⟨⟨n, b, rfl, -⟩, hw⟩
    have hw := hw.symm
    subst hw
    clear HNM
    go_wp2_with fail
    refine (HID.out w1).mono ?_
    rintro e wx ⟨⟨c, rfl, hc⟩, hw⟩
    have hw := hw.symm
    subst hw
    have HC := Lib.hid hc
    clear hc HID
    cases c
    · have HD := Lib.hid (show LimE (.returned (.int .i64 0)) l from .none (fun hp => by
        rcases hp with ⟨m, h1⟩ | ⟨-, h1⟩
        · exact HNU.out m h1
        · rw [HXY.out.2] at h1
          have := HC.out.2 h1
          cases this))
      go_wp2
      go_ret
      exact ⟨HD.out, HG.out⟩
    · have HD := Lib.hid (show LimE (.returned (.int .i64 2)) l from .two ⟨by rw [HXY.out.1]; exact HO.out, by rw [HXY.out.2]; exact HC.out.1 (by first | trivial | rfl)⟩)
      go_wp2
      go_ret
      exact ⟨HD.out, HG.out⟩
  · have hob : (X.toList == [111, 110, 108, 121]) = false := by rw [beq_eq_false_iff_ne]; exact ho
    have HD := Lib.hid (show LimE (.returned (.int .i64 0)) l from .none (fun hp => by
      rcases hp with ⟨m, h1⟩ | ⟨h1, -⟩
      · exact HNU.out m h1
      · exact ho (by rw [← HXY.out.1]; exact h1)))
    clear ho
    go_enter Tryz.func22, Tryz.ntmps22
    go_wp2_with fail
    refine HHD.out.mono ?_
    rintro e w1 ⟨rfl, hg⟩
    have HG := Lib.hid hg
    clear hg HHD
    go_wp2_with fail
    refine (HNM.out w1).mono ?_
    rintro e wx ⟨⟨n, b, rfl, -⟩, hw⟩
    have hw := hw.symm
    subst hw
    clear HNM
    go_wp2
    go_ret
    exact ⟨HD.out, HG.out⟩

/-- what a limit is, as a function -/
def LimV (V : World) (base : Nat) (f : Value) (l : ByteArray) : Prop :=
  (∃ (n : Int) (q : Nat), LimU l n ∧ f = .func (.func 80) #[] #[.pointer (some ⟨q, 0, none⟩)] ∧ base ≤ q ∧ q < V.heap.size ∧ V.cell? ⟨q, 0, none⟩ = some (.int .i64 n)) ∨
  (∃ q : Nat, LimO l ∧ f = .func (.func 81) #[] #[.pointer (some ⟨q, 0, none⟩)] ∧ base ≤ q ∧ q < V.heap.size ∧ V.cell? ⟨q, 0, none⟩ = some (.string (restB 32 l)))
/-- how a call ends that makes a limit of a text -/
def LimR (w : World) (e : Ending) (l : ByteArray) (V : World) : Prop := ∃ (f : Value) (b : Bool), e = .returned (.tuple #[f, .bool b]) ∧ ((b = true ∧ LimV V w.heap.size f l) ∨ (b = false ∧ ¬ LimP l))

set_option maxRecDepth 100000 in
set_option maxHeartbeats 8000000 in
theorem ilim_any (w : World) (l : ByteArray) (hs : l.size ≤ 1048576) (hE : ErrC w) (hP : Pow w) : Calls Tryz.prog 57 #[.string l] w fun e w' => LimR w e l w' ∧ w.grownBy w' none := by
  obtain ⟨X, hX⟩ : ∃ X, headB 32 l = X := ⟨_, rfl⟩
  obtain ⟨Y, hY⟩ : ∃ Y, restB 32 l = Y := ⟨_, rfl⟩
  have hys : Y.size ≤ 1048576 := by rw [← hY]; exact Nat.le_trans (restB_size 32 l) hs
  have HC := Lib.hid (cut_32 w l hs)
  have HXY := Lib.hid (show headB 32 l = X ∧ restB 32 l = Y from ⟨hX, hY⟩)
  have HDC := Lib.hid (fun (V : World) (hV : w.grownBy V none) => idec_any V Y hys (hE.grown hV) (hP.grown hV))
  have HID := Lib.hid (fun V => iid_any V Y hys)
  rw [hX, hY] at HC
  generalize decide (0 ≤ atB 32 l) = z at HC
  have HAP := Lib.hid (show X.toList = [117, 110, 116, 105, 108] → X.toList = [111, 110, 108, 121] → False from fun h1 h2 => absurd (h1.symm.trans h2) (by decide))
  clear hX hY hys hE hP
  by_cases hu : X.toList = [117, 110, 116, 105, 108]
  · have hub : (X.toList == [117, 110, 116, 105, 108]) = true := by rw [beq_iff_eq]; exact hu
    have HU := Lib.hid hu
    clear hu
    go_enter Tryz.func57, Tryz.ntmps57
    go_wp2_with fail
    refine HC.out.mono ?_
    rintro e w1 ⟨rfl, hg⟩
    have HG := Lib.hid (show w.grownBy (w1.alloc (Obj.cells #[.string Y] 9)) none from grown_alloc hg _)
    clear hg HC
    go_wp2_with fail
    refine (HDC.out _ HG.out).mono ?_
    rintro e w2 ⟨⟨n, b, rfl, hn⟩, hg2⟩
    have HG2 := Lib.hid (grown_trans HG.out hg2)
    have HN := Lib.hid hn
    clear hn hg2 HDC HG
    have HG3 := Lib.hid (show w.grownBy (w2.alloc (Obj.cells #[.int .i64 n] 3)) none from grown_alloc HG2.out _)
    have HNO := Lib.hid (fun (h : ¬ (b = true ∧ 0 ≤ n ∧ n ≤ 999999)) => show ¬ LimP l from fun hp => by
      rcases hp with ⟨m, h1, h2, h3, h4⟩ | ⟨h1, -⟩
      · rw [HXY.out.2] at h2
        obtain ⟨e1, e2⟩ := HN.out.of_dec (by omega) (by omega) h2
        exact h ⟨e2, by omega, by omega⟩
      · rw [HXY.out.1] at h1
        exact HAP.out HU.out h1)
    cases b
    · have HD := Lib.hid (HNO.out (fun h => by cases h.1))
      clear HNO
      go_wp2_with (first | (go_at_call 76; go_in))
      go_ret2
      exact ⟨⟨_, _, rfl, .inr ⟨by first | rfl | (simp; omega), HD.out⟩⟩, HG3.out⟩
    by_cases h0 : 0 ≤ n
    case neg =>
      have HD := Lib.hid (HNO.out (fun h => h0 h.2.1))
      clear HNO
      go_wp2_with (first | (go_at_call 76; go_in))
      go_ret2
      exact ⟨⟨_, _, rfl, .inr ⟨by first | rfl | (simp; omega), HD.out⟩⟩, HG3.out⟩
    by_cases h9 : n ≤ 999999
    case neg =>
      have HD := Lib.hid (HNO.out (fun h => h9 h.2.2))
      clear HNO
      go_wp2_with (first | (go_at_call 76; go_in))
      go_ret2
      exact ⟨⟨_, _, rfl, .inr ⟨by first | rfl | (simp; omega), HD.out⟩⟩, HG3.out⟩
    have HD := Lib.hid (show LimV (w2.alloc (Obj.cells #[.int .i64 n] 3)) w.heap.size (.func (.func 80) #[] #[.pointer (some ⟨w2.heap.size, 0, none⟩)]) l from .inl ⟨n, w2.heap.size, ⟨by rw [HXY.out.1]; exact HU.out, (by
        rw [HXY.out.2]
        rcases HN.out with ⟨-, h, -, -⟩ | ⟨h, -⟩
        · exact h
        · cases h), h0, h9⟩, rfl, HG2.out.size, by simp, (Blk.new w2 3 [.int .i64 n]).cell rfl⟩)
    clear HNO
    go_wp2_with (first | (go_at_call 76; go_in))
    go_ret2
    exact ⟨⟨_, _, rfl, .inl ⟨rfl, HD.out⟩⟩, HG3.out⟩
  have hub : (X.toList == [117, 110, 116, 105, 108]) = false := by rw [beq_eq_false_iff_ne]; exact hu
  have HNU := Lib.hid (fun (m : Int) (h : LimU l m) => hu (by rw [← HXY.out.1]; exact h.1))
  clear hu
  by_cases ho : X.toList = [111, 110, 108, 121]
  · have hob : (X.toList == [111, 110, 108, 121]) = true := by rw [beq_iff_eq]; exact ho
    have HO := Lib.hid ho
    clear ho
    go_enter Tryz.func57, Tryz.ntmps57
    go_wp2_with fail
    refine HC.out.mono ?_
    rintro e w1 ⟨rfl, hg⟩
    have HG := Lib.hid (show w.grownBy (w1.alloc (Obj.cells #[.string Y] 9)) none from grown_alloc hg _)
    have HSZ := Lib.hid hg.size
    clear hg HC
    go_wp2_with fail
    refine (HID.out _).mono ?_
    rintro e w2 ⟨⟨c, rfl, hc⟩, hg2⟩
    have HCC := Lib.hid hc
    have HG2 := Lib.hid (grown_trans HG.out hg2)
    have HCL := Lib.hid (show w1.heap.size < w2.heap.size ∧ w2.cell? ⟨w1.heap.size, 0, none⟩ = some (.string Y) from ⟨by have := hg2.size; simp at this; omega, hg2.cell ((Blk.new w1 9 [.string Y]).cell rfl) (by simp)⟩)
    clear hc hg2 HID HG
    cases c
    · have HD := Lib.hid (show ¬ LimP l from fun hp => by
        rcases hp with ⟨m, h1⟩ | ⟨-, h1⟩
        · exact HNU.out m h1
        · rw [HXY.out.2] at h1
          have := HCC.out.2 h1
          cases this)
      go_wp2
      go_ret2
      exact ⟨⟨_, _, rfl, .inr ⟨rfl, HD.out⟩⟩, HG2.out⟩
    · have HD := Lib.hid (show LimV w2 w.heap.size (.func (.func 81) #[] #[.pointer (some ⟨w1.heap.size, 0, none⟩)]) l from .inr ⟨w1.heap.size, ⟨by rw [HXY.out.1]; exact HO.out, by rw [HXY.out.2]; exact HCC.out.1 (by first | trivial | rfl)⟩, rfl, HSZ.out, HCL.out.1, by rw [HXY.out.2]; exact HCL.out.2⟩)
      go_wp2
      go_ret2
      exact ⟨⟨_, _, rfl, .inl ⟨rfl, HD.out⟩⟩, HG2.out⟩
  · have hob : (X.toList == [111, 110, 108, 121]) = false := by rw [beq_eq_false_iff_ne]; exact ho
    have HD := Lib.hid (show ¬ LimP l from fun hp => by
      rcases hp with ⟨m, h1⟩ | ⟨h1, -⟩
      · exact HNU.out m h1
      · exact ho (by rw [← HXY.out.1]; exact h1))
    clear ho
    go_enter Tryz.func57, Tryz.ntmps57
    go_wp2_with fail
    refine HC.out.mono ?_
    rintro e w1 ⟨rfl, hg⟩
    have HG := Lib.hid (show w.grownBy (w1.alloc (Obj.cells #[.string Y] 9)) none from grown_alloc hg _)
    clear hg HC
    go_wp2
    go_ret2
    exact ⟨⟨_, _, rfl, .inr ⟨rfl, HD.out⟩⟩, HG.out⟩

theorem LimV.limp {V : World} {base : Nat} {f : Value} {l : ByteArray} (h : LimV V base f l) : LimP l := by
  rcases h with ⟨n, q, h, -⟩ | ⟨q, h, -⟩
  · exact .inl ⟨n, h⟩
  · exact .inr h

set_option maxRecDepth 100000 in
set_option maxHeartbeats 4000000 in
theorem ilimOk_any (w : World) (l : ByteArray) (hs : l.size ≤ 1048576) (hE : ErrC w) (hP : Pow w) : Calls Tryz.prog 26 #[.string l] w fun e w' => Says e (LimP l) ∧ w.grownBy w' none := by
  have HC := Lib.hid (ilim_any w l hs hE hP)
  clear hE hP
  go_enter Tryz.func26, Tryz.ntmps26
  go_wp2_with fail
  refine HC.out.mono ?_
  rintro e w1 ⟨⟨f, b, rfl, hb⟩, hg⟩
  have HG := Lib.hid hg
  have HD := Lib.hid (show Says (.returned (.bool b)) (LimP l) from ⟨b, rfl, by
    rcases hb with ⟨rfl, h⟩ | ⟨rfl, h⟩
    · exact ⟨fun _ => h.limp, fun _ => rfl⟩
    · exact ⟨(fun h2 => by cases h2), fun h2 => absurd h2 h⟩⟩)
  clear hg HC hb
  go_wp2
  go_ret
  exact ⟨HD.out, HG.out⟩

set_option maxRecDepth 100000 in
set_option maxHeartbeats 4000000 in
theorem iseal_any (w : World) (s : ByteArray) (hs : s.size ≤ 1048576) : Calls Tryz.prog 56 #[.string s] w fun e w' => Says e (SealP s) ∧ w.grownBy w' none := by
  by_cases h64 : (s.size : Int) = 64
  case neg =>
    have h64b : ((s.size : Int) == 64) = false := by rw [beq_eq_false_iff_ne]; exact h64
    have HD := Lib.hid (show Says (.returned (.bool false)) (SealP s) from .no (fun h => h64 (by have := h.1; omega)))
    clear h64
    go_enter Tryz.func56, Tryz.ntmps56
    go_wp2
    go_ret
    exact ⟨HD.out, grown_refl _ _⟩
  have h64b : ((s.size : Int) == 64) = true := by rw [beq_iff_eq]; exact h64
  have H64 := Lib.hid h64
  clear h64
  obtain ⟨T, hT⟩ : ∃ T : ByteArray, ⟨(Lib.trimS s.data.toList hexC.data.toList).toArray⟩ = T := ⟨_, rfl⟩
  have HTR := Lib.hid (show Calls Tryz.prog 79 #[.string s, .string hexC] w (fun e w' => e = .returned (.string T) ∧ w.grownBy w' none) from by
    rw [← hT]
    exact (Any.strings_Trim_laid Tryz.laysTrim (by kernel_rfl) s hexC w (by omega) (by decide) (ascii_of_all (by decide +kernel))).mono fun e w' q => ⟨q.1, grown_of_below q.2 none⟩)
  have HTE := Lib.hid (show T.toList.isEmpty = true ↔ ∀ j (h : j < s.size), HexB s[j].toNat from by
    rw [← trim_nil, ← hT, ByteArray.toList_eq, List.isEmpty_iff])
  have HDD := Lib.hid (fun (b : Bool) (h : b = true ↔ ∀ j (h : j < s.size), HexB s[j].toNat) => show Says (.returned (.bool b)) (SealP s) from ⟨b, rfl, by
    rw [h]
    exact ⟨fun h => ⟨by have := H64.out; omega, h⟩, fun h => h.2⟩⟩)
  clear hT
  by_cases hq : T.toList.isEmpty = true
  · have HD := Lib.hid (HDD.out true ⟨fun _ => HTE.out.1 hq, fun _ => rfl⟩)
    go_enter Tryz.func56, Tryz.ntmps56
    go_wp2_with fail
    refine HTR.out.mono ?_
    rintro e w1 ⟨rfl, hg⟩
    have HG := Lib.hid hg
    clear hg HTR
    go_wp2
    go_ret
    exact ⟨HD.out, HG.out⟩
  · have hq2 : T.toList.isEmpty = false := by simpa using hq
    have HD := Lib.hid (HDD.out false ⟨(fun h => by cases h), fun h => absurd (HTE.out.2 h) hq⟩)
    clear hq
    go_enter Tryz.func56, Tryz.ntmps56
    go_wp2_with fail
    refine HTR.out.mono ?_
    rintro e w1 ⟨rfl, hg⟩
    have HG := Lib.hid hg
    clear hg HTR
    go_wp2
    go_ret
    exact ⟨HD.out, HG.out⟩
end Go.Proofs.YtecekbhkombnnaaGreatDoor
