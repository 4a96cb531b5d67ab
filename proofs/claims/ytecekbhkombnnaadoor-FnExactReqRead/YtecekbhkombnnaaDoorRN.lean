/- The words of requests, read by the program. -/
import Derived.Test.YtecekbhkombnnaaDoorNI
import Derived.Test.YtecekbhkombnnaaDoorRQ2
import Derived.Test.YtecekbhkombnnaaDoorU8
namespace Go.Proofs.YtecekbhkombnnaaDoor
open Go.RowKit

theorem run_append_nothing {P : Program} (w : World) (t ty e : TypeId) (i : TypeInfo) (h1 : P.underlying t = some (.slice e)) (h2 : P.info? e = some i) (b : Addr) (n cap c : Nat) (hcap : n ≤ cap) :
    (Builtin.append_ #[t, t] ty #[.slice (some b) n cap, .slice none 0 c]).run P w = .ok (.slice (some b) n cap) w := by
  simp [Builtin.append_, run_underlying h1, sizeOf, typeInfo, h2, Builtin.lenOf, Builtin.firstCells, hcap, storeCells]
theorem wpList_append_nothing {P : Program} {w : World} {ops : Array Oper} {rest : List Oper} {o : Oper} {a : Act} {Q : Exit → Act → World → Prop} (hgd : o.guard = none) (s x : Operand) (t : TypeId)
    (ho : o.op = .call { callee := .builtin .append, args := #[s, x], argTypes := #[t, t] }) (e : TypeId) (i : TypeInfo) (h1 : P.underlying t = some (.slice e)) (h2 : P.info? e = some i)
    (b : Addr) (n cap : Nat) (hs : a.eval s = .slice (some b) n cap) (hx : a.eval x = .slice none 0 0) (hcap : n ≤ cap)
    (h : wpList P ops Q rest (a.put o.dst (.slice (some b) n cap)) w) : wpList P ops Q (o :: rest) a w := by
  refine wpList_plain hgd fun K hK => ?_
  have hrun := run_append_nothing (P := P) w t o.type e i h1 h2 b n cap 0 hcap
  unfold Oper.wp
  simp [execOp, ho, resolve, invoke, builtin, hs, hx, hrun, Result.andThen]
  exact hK _ _ h

set_option maxRecDepth 100000 in
set_option maxHeartbeats 2000000 in
theorem concat_nil (w : World) (c g1 o1 c1 : Nat) (s1 : List ByteArray) (hne : 0 < s1.length) (h1 : At w ⟨g1, o1, none⟩ s1) (n1 : s1.length ≤ 1048576)
    (d0 : w.cell? ⟨c, 0, none⟩ = some (.slice (some ⟨g1, o1, none⟩) s1.length c1)) (d1 : w.cell? ⟨c, 1, none⟩ = some (.slice none 0 0)) :
    Calls Tryd.prog 73 #[.slice (some ⟨c, 0, none⟩) 2 2] w fun e w' => ∃ v, e = .returned v ∧ Row w' w.heap.size v (strs s1) ∧ w.grownBy w' none := by
  have H1 := Lib.hid h1
  have HD0 := Lib.hid d0
  have HD1 := Lib.hid d1
  clear h1
  obtain ⟨i9, hi9, hz0, hz1, hz2⟩ := info_parts info9g
  go_enter Tryd.func73, Tryd.ntmps73
  go_wp2
  go_loopw [3, 11] (fun sv i wr => ((i = .int .i64 0 ∧ sv = .int .i64 0) ∨ (i = .int .i64 1 ∧ sv = .int .i64 (s1.length : Int)) ∨ (i = .int .i64 2 ∧ sv = .int .i64 (s1.length : Int))) ∧ wr = w) (fun _ i _ => 2 - (intOf i).toNat)
  case atStart => exact ⟨.inl ⟨rfl, rfl⟩, rfl⟩
  case round =>
    obtain ⟨hcase, hwr⟩ := hrel
    have hwr := hwr.symm
    subst hwr
    rcases hcase with ⟨rfl, rfl⟩ | ⟨rfl, rfl⟩ | ⟨rfl, rfl⟩
    · have q1 : ¬ (s1.length : Int) < 0 := by omega
      go_wp2
      go_roundw
      case rel => exact ⟨.inr (.inl ⟨by go_num, by simp⟩), by trivial⟩
      case measure => simp [intOf]
    · have q1 : ¬ (s1.length : Int) < 0 := by omega
      go_wp2
      go_roundw
      case rel => exact ⟨.inr (.inr ⟨by go_num, by simp⟩), by trivial⟩
      case measure => simp [intOf]
    · have HGR := Lib.hid (grow_any w s1.length (by omega))
      clear d0 d1
      go_wp2_with fail
      refine HGR.out.mono ?_
      rintro e w1 ⟨v1, rfl, hr1, hg1⟩
      have HR1 := Lib.hid hr1
      have HG1 := Lib.hid hg1
      clear hr1 hg1 HGR
      go_wp2
      go_loopw [6, 27] (fun lv i wx => w.grownBy wx none ∧ ((i = .int .i64 0 ∧ Hid (Row wx w.heap.size lv (strs []))) ∨ (i = .int .i64 1 ∧ Hid (Row wx w.heap.size lv (strs s1))) ∨ (i = .int .i64 2 ∧ Hid (Row wx w.heap.size lv (strs s1))))) (fun _ i _ => 2 - (intOf i).toNat)
      case atStart => exact ⟨HG1.out, .inl ⟨rfl, HR1⟩⟩
      case round =>
        obtain ⟨hgx, hcase⟩ := hrel
        have HGX := Lib.hid hgx
        have hszw := hgx.size
        rcases hcase with ⟨rfl, HR⟩ | ⟨rfl, HR⟩ | ⟨rfl, HR⟩
        · have d0 := hgx.cell HD0.out (by simp)
          have HA := Lib.hid (H1.out.kept hgx (by simp))
          have HE := Lib.hid (show strs [] ++ strs s1 = strs s1 from rfl)
          clear hgx
          go_wp2_with (first | (at_builtin; refine wpList_append_row2 rfl _ _ 22 rfl 9 i9 (.string ⟨#[]⟩) 16 Tryd.underlying22 hi9 hz0 hz1 hz2 rfl w.heap.size _ (strs []) rfl HR.out ⟨g1, o1, none⟩ s1.length c1 (strs s1) rfl (strs_len _) HA.out (strs_one _) (by rw [strs_len]; simp only [List.length_nil]; unfold maxLen; omega) (by rw [strs_len]; simp only [List.length_nil]; omega) hszw ?_; intro v2 w2 HR2 HG2 HO2))
          go_roundw
          case rel => exact ⟨grown_own HGX.out HG2.out (fun q hq => (HR.out.lt q hq).1), .inr (.inl ⟨by go_num, Lib.hid (by rw [← HE.out]; exact HR2.out)⟩)⟩
          case measure => simp [intOf]
        · have d1 := hgx.cell HD1.out (by simp)
          rcases HR.out with ⟨-, h0⟩ | ⟨g, cap, rfl, -, hgl, hcap, -, -⟩
          · rw [← List.length_eq_zero_iff, strs_len] at h0; omega
          rw [strs_len] at hcap HR ⊢
          clear hgx
          go_wp2_with (first | (at_builtin; refine wpList_append_nothing rfl _ _ 22 rfl 9 i9 Tryd.underlying22 hi9 ⟨g, 0, none⟩ s1.length cap rfl rfl hcap ?_))
          go_roundw
          case rel => exact ⟨HGX.out, .inr (.inr ⟨by go_num, HR⟩)⟩
          case measure => simp [intOf]
        · clear hgx
          go_wp2
          go_ret
          exact ⟨_, rfl, HR.out, HGX.out⟩

theorem joinT_one (k : ByteArray) : joinT [k] = k := by
  unfold joinT
  apply bytes_ext
  simp [Lib.join]

set_option maxRecDepth 100000 in
set_option maxHeartbeats 4000000 in
theorem line_nil (w : World) (k : ByteArray) (hk : k.size ≤ 1048576) :
    Calls Tryd.prog 60 #[.string k, .slice none 0 0] w fun e w' => e = .returned (.string k) ∧ w.grownBy w' none := by
  obtain ⟨W1, hW1⟩ : ∃ W1, w.alloc (Obj.cells #[Value.string k] 9) = W1 := ⟨_, rfl⟩
  obtain ⟨W2, hW2⟩ : ∃ W2, W1.alloc (Obj.cells #[Value.slice (some ⟨w.heap.size, 0, none⟩) 1 1, .slice none 0 0] 22) = W2 := ⟨_, rfl⟩
  have hg1 : w.grownBy W1 none := by rw [← hW1]; exact grown_alloc (grown_refl _ _) _
  have hg2 : W1.grownBy W2 none := by rw [← hW2]; exact grown_alloc (grown_refl _ _) _
  have hs1 : W1.heap.size = w.heap.size + 1 := by rw [← hW1]; simp
  have HG := Lib.hid (grown_trans hg1 hg2)
  have hb1 : Blk W1 w.heap.size 9 (strs [k]) := by rw [← hW1]; exact Blk.new w 9 _
  have hb2 : Blk W2 (w.heap.size + 1) 22 [Value.slice (some ⟨w.heap.size, 0, none⟩) 1 1, .slice none 0 0] := by
    rw [← hW2]
    have := Blk.new W1 22 [Value.slice (some ⟨w.heap.size, 0, none⟩) 1 1, .slice none 0 0]
    rw [hs1] at this
    exact this
  have hA1 : At W2 ⟨w.heap.size, 0, none⟩ [k] := fun j u hu => by
    have := (hb1.kept hg2 (by simp)).cell hu
    rw [Addr.add_mid, Nat.zero_add]
    exact this
  have HC := Lib.hid (concat_nil W2 (w.heap.size + 1) w.heap.size 0 1 [k] (by simp) hA1 (by simp) (hb2.cell rfl) (hb2.cell rfl))
  have HW1 := Lib.hid hW1
  have HW2 := Lib.hid hW2
  have HJ1 := Lib.hid (joinT_one k)
  clear hg1 hg2 hb1 hb2 hA1 hW1 hW2
  go_enter Tryd.func60, Tryd.ntmps60
  go_wp2_with fail
  rw [HW1.out, HW2.out]
  refine HC.out.mono ?_
  rintro e w1 ⟨v, rfl, hr, hg⟩
  have HG1 := Lib.hid (grown_trans HG.out hg)
  have HJ := Lib.hid (join_row w1 W2.heap.size v [k] hr (by simp) (by simp) (by simp [Lib.join]; omega))
  rw [HJ1.out] at HJ
  clear hr hg HC
  go_wp2_with fail
  refine HJ.out.mono ?_
  rintro e w2 ⟨rfl, hg⟩
  have HG2 := Lib.hid (grown_trans HG1.out hg)
  clear hg HJ
  go_wp2
  go_ret
  exact ⟨rfl, HG2.out⟩

set_option maxHeartbeats 1000000 in
theorem inamed_any (w : World) (s : ByteArray) : Calls Tryd.prog 29 #[.string s] w fun e w' => e = .returned (.string (namedT s)) ∧ w' = w := by
  by_cases h0 : s.toList = [45]
  · have hb : (s.toList == [45]) = true := by rw [beq_iff_eq]; exact h0
    have HD := Lib.hid (show namedT s = ⟨#[]⟩ from by unfold namedT; rw [if_pos h0])
    clear h0
    go_enter Tryd.func29, Tryd.ntmps29
    go_wp2
    go_ret
    exact ⟨by rw [HD.out]; rfl, rfl⟩
  · have hb : (s.toList == [45]) = false := by rw [beq_eq_false_iff_ne]; exact h0
    have HD := Lib.hid (show namedT s = s from by unfold namedT; rw [if_neg h0])
    clear h0
    go_enter Tryd.func29, Tryd.ntmps29
    go_wp2
    go_ret
    exact ⟨by rw [HD.out]; rfl, rfl⟩

set_option maxRecDepth 100000 in
set_option maxHeartbeats 8000000 in
theorem ikindof_any (w : World) (s : ByteArray) : Calls Tryd.prog 28 #[.string s] w fun e w' => e = .returned (.int .i64 (kindTo s 11 : Nat)) ∧ w.grownBy w' none := by
  have HK := Lib.hid (ikinds_any w)
  go_enter Tryd.func28, Tryd.ntmps28
  go_wp2_with fail
  refine HK.out.mono ?_
  rintro e w1 ⟨rfl, hg1⟩
  have HG1 := Lib.hid hg1
  clear hg1 HK
  go_wp2
  go_loopw [6] (fun i wr => ∃ k : Nat, k ≤ 11 ∧ i = .int .i64 k ∧ Hid (∀ j, 1 ≤ j → j < k → (kindW j).toList ≠ s.toList) ∧ w.grownBy wr none) (fun i _ => 11 - (intOf i).toNat)
  case atStart => exact ⟨0, by omega, rfl, Lib.hid fun j h1 h2 => by omega, HG1.out⟩
  case round =>
    clear HG1
    obtain ⟨k, hk, rfl, HA, hg⟩ := hrel
    have HG := Lib.hid hg
    clear hg
    by_cases hlt : k < 11
    · have hcase : k = 0 ∨ k = 1 ∨ k = 2 ∨ k = 3 ∨ k = 4 ∨ k = 5 ∨ k = 6 ∨ k = 7 ∨ k = 8 ∨ k = 9 ∨ k = 10 := by omega
      clear hlt hk
      rcases hcase with rfl | rfl | rfl | rfl | rfl | rfl | rfl | rfl | rfl | rfl | rfl
      · have HA2 := Lib.hid (show ∀ j, 1 ≤ j → j < 0 + 1 → (kindW j).toList ≠ s.toList from fun j h1 h2 => by omega)
        have hkv : ∀ W, (Instr.index 61 (.agg kindsC.toArray) (.int .i64 0)).run Tryd.prog W = .ok .nilFunc W := fun W => by kernel_rfl
        go_wp2_with (first | (go_at_call 46; go_in))
        go_roundw
        case rel => exact ⟨0 + 1, by omega, by go_num, HA2, HG.out⟩
        case measure => simp [intOf]
      · have HL := Lib.hid (line_nil wr (kindW 1) (by have := kindW_size 1 (by decide); omega))
        have hkv : ∀ W, (Instr.index 61 (.agg kindsC.toArray) (.int .i64 1)).run Tryd.prog W = .ok (.func (.func 60) #[.string (kindW 1)] #[]) W := fun W => by kernel_rfl
        obtain ⟨K, hK⟩ : ∃ K, kindW 1 = K := ⟨_, rfl⟩
        by_cases hq : K.toList = s.toList
        · have hqb : (K.toList == s.toList) = true := by rw [beq_iff_eq]; exact hq
          have HD := Lib.hid (show kindTo s 11 = 1 from kindTo_some s 1 (by decide) (by rw [hK]; exact hq) 11 (by decide) (Nat.le_refl _))
          rw [hK] at HL hkv
          clear hq hK
          go_wp2_with (first | (go_at_call 46; go_in))
          refine HL.out.mono ?_
          rintro e w2 ⟨rfl, hg2⟩
          have HG2 := Lib.hid (grown_trans HG.out hg2)
          clear hg2 HL
          go_wp2
          go_ret
          exact ⟨by rw [HD.out]; rfl, HG2.out⟩
        · have hqb : (K.toList == s.toList) = false := by rw [beq_eq_false_iff_ne]; exact hq
          have HA2 := Lib.hid (show ∀ j, 1 ≤ j → j < 1 + 1 → (kindW j).toList ≠ s.toList from fun j h1 h2 => by
            by_cases e : j = 1
            · subst e; rw [hK]; exact hq
            · exact HA.out j h1 (by omega))
          rw [hK] at HL hkv
          clear hq hK
          go_wp2_with (first | (go_at_call 46; go_in))
          refine HL.out.mono ?_
          rintro e w2 ⟨rfl, hg2⟩
          have HG2 := Lib.hid (grown_trans HG.out hg2)
          clear hg2 HL
          go_wp2
          go_roundw
          case rel => exact ⟨1 + 1, by omega, by go_num, HA2, HG2.out⟩
          case measure => simp [intOf]
      · have HL := Lib.hid (line_nil wr (kindW 2) (by have := kindW_size 2 (by decide); omega))
        have hkv : ∀ W, (Instr.index 61 (.agg kindsC.toArray) (.int .i64 2)).run Tryd.prog W = .ok (.func (.func 60) #[.string (kindW 2)] #[]) W := fun W => by kernel_rfl
        obtain ⟨K, hK⟩ : ∃ K, kindW 2 = K := ⟨_, rfl⟩
        by_cases hq : K.toList = s.toList
        · have hqb : (K.toList == s.toList) = true := by rw [beq_iff_eq]; exact hq
          have HD := Lib.hid (show kindTo s 11 = 2 from kindTo_some s 2 (by decide) (by rw [hK]; exact hq) 11 (by decide) (Nat.le_refl _))
          rw [hK] at HL hkv
          clear hq hK
          go_wp2_with (first | (go_at_call 46; go_in))
          refine HL.out.mono ?_
          rintro e w2 ⟨rfl, hg2⟩
          have HG2 := Lib.hid (grown_trans HG.out hg2)
          clear hg2 HL
          go_wp2
          go_ret
          exact ⟨by rw [HD.out]; rfl, HG2.out⟩
        · have hqb : (K.toList == s.toList) = false := by rw [beq_eq_false_iff_ne]; exact hq
          have HA2 := Lib.hid (show ∀ j, 1 ≤ j → j < 2 + 1 → (kindW j).toList ≠ s.toList from fun j h1 h2 => by
            by_cases e : j = 2
            · subst e; rw [hK]; exact hq
            · exact HA.out j h1 (by omega))
          rw [hK] at HL hkv
          clear hq hK
          go_wp2_with (first | (go_at_call 46; go_in))
          refine HL.out.mono ?_
          rintro e w2 ⟨rfl, hg2⟩
          have HG2 := Lib.hid (grown_trans HG.out hg2)
          clear hg2 HL
          go_wp2
          go_roundw
          case rel => exact ⟨2 + 1, by omega, by go_num, HA2, HG2.out⟩
          case measure => simp [intOf]
      · have HL := Lib.hid (line_nil wr (kindW 3) (by have := kindW_size 3 (by decide); omega))
        have hkv : ∀ W, (Instr.index 61 (.agg kindsC.toArray) (.int .i64 3)).run Tryd.prog W = .ok (.func (.func 60) #[.string (kindW 3)] #[]) W := fun W => by kernel_rfl
        obtain ⟨K, hK⟩ : ∃ K, kindW 3 = K := ⟨_, rfl⟩
        by_cases hq : K.toList = s.toList
        · have hqb : (K.toList == s.toList) = true := by rw [beq_iff_eq]; exact hq
          have HD := Lib.hid (show kindTo s 11 = 3 from kindTo_some s 3 (by decide) (by rw [hK]; exact hq) 11 (by decide) (Nat.le_refl _))
          rw [hK] at HL hkv
          clear hq hK
          go_wp2_with (first | (go_at_call 46; go_in))
          refine HL.out.mono ?_
          rintro e w2 ⟨rfl, hg2⟩
          have HG2 := Lib.hid (grown_trans HG.out hg2)
          clear hg2 HL
          go_wp2
          go_ret
          exact ⟨by rw [HD.out]; rfl, HG2.out⟩
        · have hqb : (K.toList == s.toList) = false := by rw [beq_eq_false_iff_ne]; exact hq
          have HA2 := Lib.hid (show ∀ j, 1 ≤ j → j < 3 + 1 → (kindW j).toList ≠ s.toList from fun j h1 h2 => by
            by_cases e : j = 3
            · subst e; rw [hK]; exact hq
            · exact HA.out j h1 (by omega))
          rw [hK] at HL hkv
          clear hq hK
          go_wp2_with (first | (go_at_call 46; go_in))
          refine HL.out.mono ?_
          rintro e w2 ⟨rfl, hg2⟩
          have HG2 := Lib.hid (grown_trans HG.out hg2)
          clear hg2 HL
          go_wp2
          go_roundw
          case rel => exact ⟨3 + 1, by omega, by go_num, HA2, HG2.out⟩
          case measure => simp [intOf]
      · have HL := Lib.hid (line_nil wr (kindW 4) (by have := kindW_size 4 (by decide); omega))
        have hkv : ∀ W, (Instr.index 61 (.agg kindsC.toArray) (.int .i64 4)).run Tryd.prog W = .ok (.func (.func 60) #[.string (kindW 4)] #[]) W := fun W => by kernel_rfl
        obtain ⟨K, hK⟩ : ∃ K, kindW 4 = K := ⟨_, rfl⟩
        by_cases hq : K.toList = s.toList
        · have hqb : (K.toList == s.toList) = true := by rw [beq_iff_eq]; exact hq
          have HD := Lib.hid (show kindTo s 11 = 4 from kindTo_some s 4 (by decide) (by rw [hK]; exact hq) 11 (by decide) (Nat.le_refl _))
          rw [hK] at HL hkv
          clear hq hK
          go_wp2_with (first | (go_at_call 46; go_in))
          refine HL.out.mono ?_
          rintro e w2 ⟨rfl, hg2⟩
          have HG2 := Lib.hid (grown_trans HG.out hg2)
          clear hg2 HL
          go_wp2
          go_ret
          exact ⟨by rw [HD.out]; rfl, HG2.out⟩
        · have hqb : (K.toList == s.toList) = false := by rw [beq_eq_false_iff_ne]; exact hq
          have HA2 := Lib.hid (show ∀ j, 1 ≤ j → j < 4 + 1 → (kindW j).toList ≠ s.toList from fun j h1 h2 => by
            by_cases e : j = 4
            · subst e; rw [hK]; exact hq
            · exact HA.out j h1 (by omega))
          rw [hK] at HL hkv
          clear hq hK
          go_wp2_with (first | (go_at_call 46; go_in))
          refine HL.out.mono ?_
          rintro e w2 ⟨rfl, hg2⟩
          have HG2 := Lib.hid (grown_trans HG.out hg2)
          clear hg2 HL
          go_wp2
          go_roundw
          case rel => exact ⟨4 + 1, by omega, by go_num, HA2, HG2.out⟩
          case measure => simp [intOf]
      · have HL := Lib.hid (line_nil wr (kindW 5) (by have := kindW_size 5 (by decide); omega))
        have hkv : ∀ W, (Instr.index 61 (.agg kindsC.toArray) (.int .i64 5)).run Tryd.prog W = .ok (.func (.func 60) #[.string (kindW 5)] #[]) W := fun W => by kernel_rfl
        obtain ⟨K, hK⟩ : ∃ K, kindW 5 = K := ⟨_, rfl⟩
        by_cases hq : K.toList = s.toList
        · have hqb : (K.toList == s.toList) = true := by rw [beq_iff_eq]; exact hq
          have HD := Lib.hid (show kindTo s 11 = 5 from kindTo_some s 5 (by decide) (by rw [hK]; exact hq) 11 (by decide) (Nat.le_refl _))
          rw [hK] at HL hkv
          clear hq hK
          go_wp2_with (first | (go_at_call 46; go_in))
          refine HL.out.mono ?_
          rintro e w2 ⟨rfl, hg2⟩
          have HG2 := Lib.hid (grown_trans HG.out hg2)
          clear hg2 HL
          go_wp2
          go_ret
          exact ⟨by rw [HD.out]; rfl, HG2.out⟩
        · have hqb : (K.toList == s.toList) = false := by rw [beq_eq_false_iff_ne]; exact hq
          have HA2 := Lib.hid (show ∀ j, 1 ≤ j → j < 5 + 1 → (kindW j).toList ≠ s.toList from fun j h1 h2 => by
            by_cases e : j = 5
            · subst e; rw [hK]; exact hq
            · exact HA.out j h1 (by omega))
          rw [hK] at HL hkv
          clear hq hK
          go_wp2_with (first | (go_at_call 46; go_in))
          refine HL.out.mono ?_
          rintro e w2 ⟨rfl, hg2⟩
          have HG2 := Lib.hid (grown_trans HG.out hg2)
          clear hg2 HL
          go_wp2
          go_roundw
          case rel => exact ⟨5 + 1, by omega, by go_num, HA2, HG2.out⟩
          case measure => simp [intOf]
      · have HL := Lib.hid (line_nil wr (kindW 6) (by have := kindW_size 6 (by decide); omega))
        have hkv : ∀ W, (Instr.index 61 (.agg kindsC.toArray) (.int .i64 6)).run Tryd.prog W = .ok (.func (.func 60) #[.string (kindW 6)] #[]) W := fun W => by kernel_rfl
        obtain ⟨K, hK⟩ : ∃ K, kindW 6 = K := ⟨_, rfl⟩
        by_cases hq : K.toList = s.toList
        · have hqb : (K.toList == s.toList) = true := by rw [beq_iff_eq]; exact hq
          have HD := Lib.hid (show kindTo s 11 = 6 from kindTo_some s 6 (by decide) (by rw [hK]; exact hq) 11 (by decide) (Nat.le_refl _))
          rw [hK] at HL hkv
          clear hq hK
          go_wp2_with (first | (go_at_call 46; go_in))
          refine HL.out.mono ?_
          rintro e w2 ⟨rfl, hg2⟩
          have HG2 := Lib.hid (grown_trans HG.out hg2)
          clear hg2 HL
          go_wp2
          go_ret
          exact ⟨by rw [HD.out]; rfl, HG2.out⟩
        · have hqb : (K.toList == s.toList) = false := by rw [beq_eq_false_iff_ne]; exact hq
          have HA2 := Lib.hid (show ∀ j, 1 ≤ j → j < 6 + 1 → (kindW j).toList ≠ s.toList from fun j h1 h2 => by
            by_cases e : j = 6
            · subst e; rw [hK]; exact hq
            · exact HA.out j h1 (by omega))
          rw [hK] at HL hkv
          clear hq hK
          go_wp2_with (first | (go_at_call 46; go_in))
          refine HL.out.mono ?_
          rintro e w2 ⟨rfl, hg2⟩
          have HG2 := Lib.hid (grown_trans HG.out hg2)
          clear hg2 HL
          go_wp2
          go_roundw
          case rel => exact ⟨6 + 1, by omega, by go_num, HA2, HG2.out⟩
          case measure => simp [intOf]
      · have HL := Lib.hid (line_nil wr (kindW 7) (by have := kindW_size 7 (by decide); omega))
        have hkv : ∀ W, (Instr.index 61 (.agg kindsC.toArray) (.int .i64 7)).run Tryd.prog W = .ok (.func (.func 60) #[.string (kindW 7)] #[]) W := fun W => by kernel_rfl
        obtain ⟨K, hK⟩ : ∃ K, kindW 7 = K := ⟨_, rfl⟩
        by_cases hq : K.toList = s.toList
        · have hqb : (K.toList == s.toList) = true := by rw [beq_iff_eq]; exact hq
          have HD := Lib.hid (show kindTo s 11 = 7 from kindTo_some s 7 (by decide) (by rw [hK]; exact hq) 11 (by decide) (Nat.le_refl _))
          rw [hK] at HL hkv
          clear hq hK
          go_wp2_with (first | (go_at_call 46; go_in))
          refine HL.out.mono ?_
          rintro e w2 ⟨rfl, hg2⟩
          have HG2 := Lib.hid (grown_trans HG.out hg2)
          clear hg2 HL
          go_wp2
          go_ret
          exact ⟨by rw [HD.out]; rfl, HG2.out⟩
        · have hqb : (K.toList == s.toList) = false := by rw [beq_eq_false_iff_ne]; exact hq
          have HA2 := Lib.hid (show ∀ j, 1 ≤ j → j < 7 + 1 → (kindW j).toList ≠ s.toList from fun j h1 h2 => by
            by_cases e : j = 7
            · subst e; rw [hK]; exact hq
            · exact HA.out j h1 (by omega))
          rw [hK] at HL hkv
          clear hq hK
          go_wp2_with (first | (go_at_call 46; go_in))
          refine HL.out.mono ?_
          rintro e w2 ⟨rfl, hg2⟩
          have HG2 := Lib.hid (grown_trans HG.out hg2)
          clear hg2 HL
          go_wp2
          go_roundw
          case rel => exact ⟨7 + 1, by omega, by go_num, HA2, HG2.out⟩
          case measure => simp [intOf]
      · have HL := Lib.hid (line_nil wr (kindW 8) (by have := kindW_size 8 (by decide); omega))
        have hkv : ∀ W, (Instr.index 61 (.agg kindsC.toArray) (.int .i64 8)).run Tryd.prog W = .ok (.func (.func 60) #[.string (kindW 8)] #[]) W := fun W => by kernel_rfl
        obtain ⟨K, hK⟩ : ∃ K, kindW 8 = K := ⟨_, rfl⟩
        by_cases hq : K.toList = s.toList
        · have hqb : (K.toList == s.toList) = true := by rw [beq_iff_eq]; exact hq
          have HD := Lib.hid (show kindTo s 11 = 8 from kindTo_some s 8 (by decide) (by rw [hK]; exact hq) 11 (by decide) (Nat.le_refl _))
          rw [hK] at HL hkv
          clear hq hK
          go_wp2_with (first | (go_at_call 46; go_in))
          refine HL.out.mono ?_
          rintro e w2 ⟨rfl, hg2⟩
          have HG2 := Lib.hid (grown_trans HG.out hg2)
          clear hg2 HL
          go_wp2
          go_ret
          exact ⟨by rw [HD.out]; rfl, HG2.out⟩
        · have hqb : (K.toList == s.toList) = false := by rw [beq_eq_false_iff_ne]; exact hq
          have HA2 := Lib.hid (show ∀ j, 1 ≤ j → j < 8 + 1 → (kindW j).toList ≠ s.toList from fun j h1 h2 => by
            by_cases e : j = 8
            · subst e; rw [hK]; exact hq
            · exact HA.out j h1 (by omega))
          rw [hK] at HL hkv
          clear hq hK
          go_wp2_with (first | (go_at_call 46; go_in))
          refine HL.out.mono ?_
          rintro e w2 ⟨rfl, hg2⟩
          have HG2 := Lib.hid (grown_trans HG.out hg2)
          clear hg2 HL
          go_wp2
          go_roundw
          case rel => exact ⟨8 + 1, by omega, by go_num, HA2, HG2.out⟩
          case measure => simp [intOf]
      · have HL := Lib.hid (line_nil wr (kindW 9) (by have := kindW_size 9 (by decide); omega))
        have hkv : ∀ W, (Instr.index 61 (.agg kindsC.toArray) (.int .i64 9)).run Tryd.prog W = .ok (.func (.func 60) #[.string (kindW 9)] #[]) W := fun W => by kernel_rfl
        obtain ⟨K, hK⟩ : ∃ K, kindW 9 = K := ⟨_, rfl⟩
        by_cases hq : K.toList = s.toList
        · have hqb : (K.toList == s.toList) = true := by rw [beq_iff_eq]; exact hq
          have HD := Lib.hid (show kindTo s 11 = 9 from kindTo_some s 9 (by decide) (by rw [hK]; exact hq) 11 (by decide) (Nat.le_refl _))
          rw [hK] at HL hkv
          clear hq hK
          go_wp2_with (first | (go_at_call 46; go_in))
          refine HL.out.mono ?_
          rintro e w2 ⟨rfl, hg2⟩
          have HG2 := Lib.hid (grown_trans HG.out hg2)
          clear hg2 HL
          go_wp2
          go_ret
          exact ⟨by rw [HD.out]; rfl, HG2.out⟩
        · have hqb : (K.toList == s.toList) = false := by rw [beq_eq_false_iff_ne]; exact hq
          have HA2 := Lib.hid (show ∀ j, 1 ≤ j → j < 9 + 1 → (kindW j).toList ≠ s.toList from fun j h1 h2 => by
            by_cases e : j = 9
            · subst e; rw [hK]; exact hq
            · exact HA.out j h1 (by omega))
          rw [hK] at HL hkv
          clear hq hK
          go_wp2_with (first | (go_at_call 46; go_in))
          refine HL.out.mono ?_
          rintro e w2 ⟨rfl, hg2⟩
          have HG2 := Lib.hid (grown_trans HG.out hg2)
          clear hg2 HL
          go_wp2
          go_roundw
          case rel => exact ⟨9 + 1, by omega, by go_num, HA2, HG2.out⟩
          case measure => simp [intOf]
      · have HL := Lib.hid (line_nil wr (kindW 10) (by have := kindW_size 10 (by decide); omega))
        have hkv : ∀ W, (Instr.index 61 (.agg kindsC.toArray) (.int .i64 10)).run Tryd.prog W = .ok (.func (.func 60) #[.string (kindW 10)] #[]) W := fun W => by kernel_rfl
        obtain ⟨K, hK⟩ : ∃ K, kindW 10 = K := ⟨_, rfl⟩
        by_cases hq : K.toList = s.toList
        · have hqb : (K.toList == s.toList) = true := by rw [beq_iff_eq]; exact hq
          have HD := Lib.hid (show kindTo s 11 = 10 from kindTo_some s 10 (by decide) (by rw [hK]; exact hq) 11 (by decide) (Nat.le_refl _))
          rw [hK] at HL hkv
          clear hq hK
          go_wp2_with (first | (go_at_call 46; go_in))
          refine HL.out.mono ?_
          rintro e w2 ⟨rfl, hg2⟩
          have HG2 := Lib.hid (grown_trans HG.out hg2)
          clear hg2 HL
          go_wp2
          go_ret
          exact ⟨by rw [HD.out]; rfl, HG2.out⟩
        · have hqb : (K.toList == s.toList) = false := by rw [beq_eq_false_iff_ne]; exact hq
          have HA2 := Lib.hid (show ∀ j, 1 ≤ j → j < 10 + 1 → (kindW j).toList ≠ s.toList from fun j h1 h2 => by
            by_cases e : j = 10
            · subst e; rw [hK]; exact hq
            · exact HA.out j h1 (by omega))
          rw [hK] at HL hkv
          clear hq hK
          go_wp2_with (first | (go_at_call 46; go_in))
          refine HL.out.mono ?_
          rintro e w2 ⟨rfl, hg2⟩
          have HG2 := Lib.hid (grown_trans HG.out hg2)
          clear hg2 HL
          go_wp2
          go_roundw
          case rel => exact ⟨10 + 1, by omega, by go_num, HA2, HG2.out⟩
          case measure => simp [intOf]
    · obtain rfl : k = 11 := by omega
      have HD := Lib.hid (show kindTo s 11 = 0 from kindTo_none s 11 HA.out)
      go_wp2
      go_ret
      exact ⟨by rw [HD.out]; rfl, HG.out⟩
end Go.Proofs.YtecekbhkombnnaaDoor
