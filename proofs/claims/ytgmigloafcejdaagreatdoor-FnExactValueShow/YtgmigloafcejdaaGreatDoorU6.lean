/- The document's values, part by part: objects. -/
import Derived.Test.YtgmigloafcejdaaGreatDoorU5
import Derived.Test.YtgmigloafcejdaaGreatDoorB0
namespace Go.Proofs.YtgmigloafcejdaaGreatDoor
open Go.RowKit

theorem Says.is_yes {e : Ending} {p : Prop} (h : Says e p) (hp : p) : e = .returned (.bool true) := by
  obtain ⟨b, rfl, hb⟩ := h
  rw [hb.2 hp]
theorem Says.is_no {e : Ending} {p : Prop} (h : Says e p) (hp : ¬ p) : e = .returned (.bool false) := by
  obtain ⟨b, rfl, hb⟩ := h
  cases b
  · rfl
  · exact absurd (hb.1 rfl) hp

set_option maxRecDepth 100000 in
set_option maxHeartbeats 2000000 in
theorem plain_6 (W : World) (base : Nat) (n : Int) (t : ByteArray) (ns : List ByteArray) (nk : Nat) (an ak : Option Addr) (cn ck : Nat) (hl : Lies W base an ns) (hnl : ns.length ≤ 1048576) (hsl : ∀ s ∈ ns, s.size ≤ 1048576) :
    Calls Tryz.prog 73 #[.agg #[.int .i64 6, .int .i64 n, .string t, .slice an ns.length cn, .slice ak nk ck]] W fun e w' => Says e (Plain 6 n t ns nk) ∧ W.grownBy w' none := by
  have HET := Lib.hid (empty_iff t)
  have HL := Lib.hid hl
  have HSL := Lib.hid hsl
  clear hl hsl
  obtain ⟨p, hp⟩ : ∃ p : Prop, p = Plain 6 n t ns nk := ⟨_, rfl⟩
  rw [← hp]
  have HPP := Lib.hid hp
  clear hp
  by_cases ht0 : t.size = 0
  case neg =>
    have hte : t.toList.isEmpty = false := by rw [HET.out]; exact decide_eq_false ht0
    have HD := Lib.hid (show Says (.returned (.bool false)) p from by rw [HPP.out]; exact .no (fun h => ht0 (h.2.1 (by decide))))
    go_enter Tryz.func73, Tryz.ntmps73
    go_wp2
    go_ret
    exact ⟨HD.out, grown_alloc (grown_refl _ _) _⟩
  have hte : t.toList.isEmpty = true := by rw [HET.out]; exact decide_eq_true ht0
  have HT0 := Lib.hid ht0
  have HBA := Lib.hid (Blk.new W 27 [.int .i64 6, .int .i64 n, .string t, .slice an ns.length cn, .slice ak nk ck])
  have HGA := Lib.hid (show W.grownBy (W.alloc (Obj.cells #[Value.int .i64 6, .int .i64 n, .string t, .slice an ns.length cn, .slice ak nk ck] 27)) none from grown_alloc (grown_refl _ _) _)
  clear ht0
  go_enter Tryz.func73, Tryz.ntmps73
  go_wp2
  clear hte
  go_loopw [4] (fun i wr => ∃ k : Nat, k ≤ ns.length ∧ i = .int .i64 k ∧ Hid (NamesOk (ns.take k)) ∧ Blk wr W.heap.size 27 [.int .i64 6, .int .i64 n, .string t, .slice an ns.length cn, .slice ak nk ck] ∧ W.grownBy wr none) (fun i _ => ns.length - (intOf i).toNat)
  case atStart => exact ⟨0, Nat.zero_le _, rfl, Lib.hid (fun i h => by simp at h), HBA.out, HGA.out⟩
  case round =>
    obtain ⟨k, hk, rfl, HA, hb, hg⟩ := hrel
    have HB := Lib.hid hb
    have HG := Lib.hid hg
    have d1 : wr.cell? ⟨W.heap.size, 1, none⟩ = some (.int .i64 n) := hb.cell rfl
    have d3 : wr.cell? ⟨W.heap.size, 3, none⟩ = some (.slice an ns.length cn) := hb.cell rfl
    have d4 : wr.cell? ⟨W.heap.size, 4, none⟩ = some (.slice ak nk ck) := hb.cell rfl
    clear hb hg
    by_cases hlt : k < ns.length
    · rcases HL.out with h0 | ⟨ab, o, rfl, -, hc⟩
      · omega
      obtain ⟨x, hx⟩ : ∃ x, x = ns.getD k ByteArray.empty := ⟨_, rfl⟩
      have hge : ns[k] = x := by rw [hx]; simp [hlt]
      have e0 := HG.out.cell (hc k hlt) (by simp)
      rw [← hx] at e0
      have hxs := HSL.out x (by rw [← hge]; exact List.getElem_mem hlt)
      have HNM := Lib.hid (fun X : World => nameOkS_any X x hxs)
      have hkI : (k : Int) < ns.length := by omega
      clear hx
      have HX := Lib.hid hge
      by_cases hN : NameOk x
      · by_cases hk0 : k = 0
        · have hkn : ¬ 0 < k := by omega
          have HAN := Lib.hid (show NamesOk (ns.take (k + 1)) from fun i h => by
            have hi : i = 0 := by simp at h; omega
            subst hi
            have h0 : ns[k] = ns[0]'(by omega) := by congr 1
            refine ⟨?_, fun h => absurd h (Nat.lt_irrefl _)⟩
            have : (ns.take (k + 1))[0] = x := by rw [← HX.out, h0]; simp
            rw [this]
            exact hN)
          clear hk0 hge hc
          go_wp2
          refine wp_still (by kernel_rfl) (by kernel_rfl) (fun wx => W.grownBy wx none ∧ Blk wx W.heap.size 27 [.int .i64 6, .int .i64 n, .string t, .slice (some ⟨ab, o, none⟩) ns.length cn, .slice ak nk ck] ∧ wx.cell? ⟨ab, o + k, none⟩ = some (.string x)) ⟨grown_drew HG.out, HB.out.drew, e0⟩ ?_
          rintro wx ⟨hgx, hbx, q0⟩
          have HGX := Lib.hid hgx
          have HBX := Lib.hid hbx
          have q3 : wx.cell? ⟨W.heap.size, 3, none⟩ = some (.slice (some ⟨ab, o, none⟩) ns.length cn) := hbx.cell rfl
          have HCL := Lib.hid ((HNM.out wx).mono (R' := fun e w' => e = .returned (.bool true) ∧ w' = wx) (fun e w' h => ⟨h.1.is_yes hN, h.2⟩))
          clear hgx hbx d1 d3 d4 e0
          iterate 5 ((with_reducible refine wpStill_step ?_); intro K hK; replace hK := Lib.hid hK; go_simp; (with_reducible refine hK.out _ ?_); clear hK K)
          ((with_reducible refine wpStill_step ?_); intro K hK; replace hK := Lib.hid hK; go_simp; refine ⟨_, HCL.out, ?_⟩; (with_reducible refine hK.out _ ?_); clear hK K)
          repeat ((with_reducible refine wpStill_step ?_); intro K hK; replace hK := Lib.hid hK; go_simp; (with_reducible refine hK.out _ ?_); clear hK K)
          refine wpStill_nil ?_
          clear q0 q3 HCL hkn
          go_wp2
          go_roundw
          case rel => exact ⟨k + 1, by omega, by go_num, HAN, HBX.out, HGX.out⟩
          case measure => simp [intOf]; omega
        · obtain ⟨j, hj⟩ : ∃ j, k = j + 1 := ⟨k - 1, by omega⟩
          have HJ := Lib.hid hj
          obtain ⟨y, hy⟩ : ∃ y, y = ns.getD j ByteArray.empty := ⟨_, rfl⟩
          have e1 := HG.out.cell (hc j (by omega)) (by simp)
          rw [← hy] at e1
          have HY := Lib.hid hy
          have hj1 : (k : Int) - 1 = (j : Int) := by omega
          have hwr : IntKind.i64.wrap ((k : Int) - 1) = (j : Int) := by rw [hj1, IntKind.wrap_i64]; omega
          have hjI : (j : Int) < ns.length := by omega
          have hpos : 0 < k := by omega
          clear hj hj1 hk0 hy hge hc
          cases hcmp : Op.bytesLess y.toList x.toList
          · have HCM := Lib.hid hcmp
            have HD := Lib.hid (show Says (.returned (.bool false)) p from by rw [HPP.out]; exact .no (fun h => by rcases h.2.2 with h | h | h | h | h | h <;> first | (exact absurd h.1 (by decide)) | (exact by have h2 := (h.2.2.2.2 k hlt).2 hpos; rw [HX.out, show k - 1 = j from by have := HJ.out; omega, ← HY.out, HCM.out] at h2; cases h2)))
            go_wp2
            refine wp_still (by kernel_rfl) (by kernel_rfl) (fun wx => W.grownBy wx none ∧ Blk wx W.heap.size 27 [.int .i64 6, .int .i64 n, .string t, .slice (some ⟨ab, o, none⟩) ns.length cn, .slice ak nk ck] ∧ wx.cell? ⟨ab, o + k, none⟩ = some (.string x) ∧ wx.cell? ⟨ab, o + j, none⟩ = some (.string y)) ⟨grown_drew HG.out, HB.out.drew, e0, e1⟩ ?_
            rintro wx ⟨hgx, hbx, q0, q1⟩
            have HGX := Lib.hid hgx
            have HBX := Lib.hid hbx
            have q3 : wx.cell? ⟨W.heap.size, 3, none⟩ = some (.slice (some ⟨ab, o, none⟩) ns.length cn) := hbx.cell rfl
            have HCL := Lib.hid ((HNM.out wx).mono (R' := fun e w' => e = .returned (.bool true) ∧ w' = wx) (fun e w' h => ⟨h.1.is_yes hN, h.2⟩))
            clear hgx hbx d1 d3 d4 e0 e1
            iterate 5 ((with_reducible refine wpStill_step ?_); intro K hK; replace hK := Lib.hid hK; go_simp; (with_reducible refine hK.out _ ?_); clear hK K)
            ((with_reducible refine wpStill_step ?_); intro K hK; replace hK := Lib.hid hK; go_simp; refine ⟨_, HCL.out, ?_⟩; (with_reducible refine hK.out _ ?_); clear hK K)
            repeat ((with_reducible refine wpStill_step ?_); intro K hK; replace hK := Lib.hid hK; go_simp; (with_reducible refine hK.out _ ?_); clear hK K)
            refine wpStill_nil ?_
            clear q0 q3 HCL q1 hcmp hpos hwr
            go_wp2
            go_ret
            exact ⟨HD.out, HGX.out⟩
          · have HCM := Lib.hid hcmp
            have HAN := Lib.hid (show NamesOk (ns.take (k + 1)) from fun i h => by
              have hi : i < k + 1 := by simp at h; omega
              have hin : i < ns.length := by omega
              have hti : (ns.take (k + 1))[i] = ns[i] := by simp
              have htd : (ns.take (k + 1)).getD (i - 1) ByteArray.empty = ns.getD (i - 1) ByteArray.empty := by
                simp [show i - 1 < k + 1 from by omega]
              rw [hti, htd]
              by_cases e : i = k
              · subst e
                rw [HX.out]
                exact ⟨hN, fun _ => by rw [show i - 1 = j from by have := HJ.out; omega, ← HY.out]; exact HCM.out⟩
              · have h2 := HA.out i (by simp; omega)
                have hti2 : (ns.take k)[i]'(by simp; omega) = ns[i] := by simp
                have htd2 : (ns.take k).getD (i - 1) ByteArray.empty = ns.getD (i - 1) ByteArray.empty := by
                  simp [show i - 1 < k from by omega]
                rw [hti2, htd2] at h2
                exact h2)
            go_wp2
            refine wp_still (by kernel_rfl) (by kernel_rfl) (fun wx => W.grownBy wx none ∧ Blk wx W.heap.size 27 [.int .i64 6, .int .i64 n, .string t, .slice (some ⟨ab, o, none⟩) ns.length cn, .slice ak nk ck] ∧ wx.cell? ⟨ab, o + k, none⟩ = some (.string x) ∧ wx.cell? ⟨ab, o + j, none⟩ = some (.string y)) ⟨grown_drew HG.out, HB.out.drew, e0, e1⟩ ?_
            rintro wx ⟨hgx, hbx, q0, q1⟩
            have HGX := Lib.hid hgx
            have HBX := Lib.hid hbx
            have q3 : wx.cell? ⟨W.heap.size, 3, none⟩ = some (.slice (some ⟨ab, o, none⟩) ns.length cn) := hbx.cell rfl
            have HCL := Lib.hid ((HNM.out wx).mono (R' := fun e w' => e = .returned (.bool true) ∧ w' = wx) (fun e w' h => ⟨h.1.is_yes hN, h.2⟩))
            clear hgx hbx d1 d3 d4 e0 e1
            iterate 5 ((with_reducible refine wpStill_step ?_); intro K hK; replace hK := Lib.hid hK; go_simp; (with_reducible refine hK.out _ ?_); clear hK K)
            ((with_reducible refine wpStill_step ?_); intro K hK; replace hK := Lib.hid hK; go_simp; refine ⟨_, HCL.out, ?_⟩; (with_reducible refine hK.out _ ?_); clear hK K)
            repeat ((with_reducible refine wpStill_step ?_); intro K hK; replace hK := Lib.hid hK; go_simp; (with_reducible refine hK.out _ ?_); clear hK K)
            refine wpStill_nil ?_
            clear q0 q3 HCL q1 hcmp hpos hwr
            go_wp2
            go_roundw
            case rel => exact ⟨k + 1, by omega, by go_num, HAN, HBX.out, HGX.out⟩
            case measure => simp [intOf]; omega
      · have HD := Lib.hid (show Says (.returned (.bool false)) p from by rw [HPP.out]; exact .no (fun h => by rcases h.2.2 with h | h | h | h | h | h <;> first | (exact absurd h.1 (by decide)) | (exact hN (by have h2 := (h.2.2.2.2 k hlt).1; rwa [HX.out] at h2))))
        clear hge hc
        go_wp2
        refine wp_still (by kernel_rfl) (by kernel_rfl) (fun wx => W.grownBy wx none ∧ Blk wx W.heap.size 27 [.int .i64 6, .int .i64 n, .string t, .slice (some ⟨ab, o, none⟩) ns.length cn, .slice ak nk ck] ∧ wx.cell? ⟨ab, o + k, none⟩ = some (.string x)) ⟨grown_drew HG.out, HB.out.drew, e0⟩ ?_
        rintro wx ⟨hgx, hbx, q0⟩
        have HGX := Lib.hid hgx
        have HBX := Lib.hid hbx
        have q3 : wx.cell? ⟨W.heap.size, 3, none⟩ = some (.slice (some ⟨ab, o, none⟩) ns.length cn) := hbx.cell rfl
        have HCL := Lib.hid ((HNM.out wx).mono (R' := fun e w' => e = .returned (.bool false) ∧ w' = wx) (fun e w' h => ⟨h.1.is_no hN, h.2⟩))
        clear hgx hbx d1 d3 d4 e0
        iterate 5 ((with_reducible refine wpStill_step ?_); intro K hK; replace hK := Lib.hid hK; go_simp; (with_reducible refine hK.out _ ?_); clear hK K)
        ((with_reducible refine wpStill_step ?_); intro K hK; replace hK := Lib.hid hK; go_simp; refine ⟨_, HCL.out, ?_⟩; (with_reducible refine hK.out _ ?_); clear hK K)
        iterate 5 ((with_reducible refine wpStill_step ?_); intro K hK; replace hK := Lib.hid hK; go_simp; (with_reducible refine hK.out _ ?_); clear hK K)
        iterate 12 ((with_reducible refine wpStill_step ?_); intro K hK; replace hK := Lib.hid hK; go_simp; rw [if_neg (by decide)]; (with_reducible refine hK.out _ ?_); clear hK K)
        repeat ((with_reducible refine wpStill_step ?_); intro K hK; replace hK := Lib.hid hK; go_simp; (with_reducible refine hK.out _ ?_); clear hK K)
        refine wpStill_nil ?_
        clear q0 q3 HCL
        go_wp2
        go_ret
        exact ⟨HD.out, HGX.out⟩
    · obtain rfl : k = ns.length := by omega
      have HAL := Lib.hid (show NamesOk ns from by have := HA.out; rwa [List.take_length] at this)
      by_cases hz : n = 0
      case neg =>
        have hzb : (n == 0) = false := by rw [beq_eq_false_iff_ne]; exact hz
        have HD := Lib.hid (show Says (.returned (.bool false)) p from by rw [HPP.out]; exact .no (fun h => by rcases h.2.2 with h | h | h | h | h | h <;> first | (exact absurd h.1 (by decide)) | (exact hz h.2.1)))
        go_wp2
        go_ret
        exact ⟨HD.out, HG.out⟩
      by_cases hk1 : nk = ns.length
      case neg =>
        have hkb : ((nk : Int) == (ns.length : Int)) = false := by rw [beq_eq_false_iff_ne]; omega
        have HD := Lib.hid (show Says (.returned (.bool false)) p from by rw [HPP.out]; exact .no (fun h => by rcases h.2.2 with h | h | h | h | h | h <;> first | (exact absurd h.1 (by decide)) | (exact hk1 h.2.2.1)))
        go_wp2
        go_ret
        exact ⟨HD.out, HG.out⟩
      by_cases hk5 : (ns.length : Int) ≤ 5
      case neg =>
        have HD := Lib.hid (show Says (.returned (.bool false)) p from by rw [HPP.out]; exact .no (fun h => by rcases h.2.2 with h | h | h | h | h | h <;> first | (exact absurd h.1 (by decide)) | (exact hk5 (by have := h.2.2.2.1; omega))))
        go_wp2
        go_ret
        exact ⟨HD.out, HG.out⟩
      have HD := Lib.hid (show Says (.returned (.bool true)) p from by rw [HPP.out]; exact .yes ⟨fun h => absurd rfl h, fun _ => HT0.out, .inr (.inr (.inr (.inr (.inr ⟨rfl, hz, hk1, by omega, HAL.out⟩))))⟩)
      go_wp2
      go_ret
      exact ⟨HD.out, HG.out⟩
end Go.Proofs.YtgmigloafcejdaaGreatDoor
