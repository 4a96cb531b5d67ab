/- Users, checked by the document. -/
import Derived.Test.YtpmjinlbfddmmaaM6
import Derived.Deep.RegionHeld3
namespace Go.Proofs.Ytpmjinlbfddmmaa
open Go.RowKit

def rolesObj : Obj := Obj.cells #[Value.string ⟨#[97, 112, 112, 114, 111, 118, 101]⟩, .string ⟨#[111, 119, 110, 101, 114]⟩, .string ⟨#[112, 108, 97, 110]⟩, .string ⟨#[119, 114, 105, 116, 101]⟩] 9
set_option maxHeartbeats 1000000 in
theorem roles_call (W : World) : Calls Try.prog 54 #[] W fun e w' => e = .returned (.slice (some ⟨W.heap.size, 0, none⟩) 4 4) ∧ w' = W.alloc rolesObj := by
  go_enter Try.func54, Try.ntmps54
  go_wp2
  go_ret
  exact ⟨rfl, rfl⟩
theorem roles_lies (W : World) : Lies (W.alloc rolesObj) W.heap.size (some ⟨W.heap.size, 0, none⟩) roles4 := by
  refine .inr ⟨W.heap.size, 0, rfl, Nat.le_refl _, fun j hj => ?_⟩
  rw [Nat.zero_add]
  refine (Blk.new W 9 (strs roles4)).cell ?_
  have h4 : j = 0 ∨ j = 1 ∨ j = 2 ∨ j = 3 := by
    have : j < 4 := hj
    omega
  rcases h4 with rfl | rfl | rfl | rfl <;> rfl

set_option maxRecDepth 100000 in
set_option maxHeartbeats 4000000 in
theorem users_any (w : World) (base : Nat) (us : List (ByteArray × List ByteArray)) (ao : Option Addr) (cap : Nat) (hl : ULies w base ao us) (hn : us.length + bulkU us ≤ 1048576) :
    Calls Try.prog 23 #[.slice ao us.length cap] w fun e w' => Says e (UsersP us) ∧ w.grownBy w' none := by
  obtain ⟨p, hp⟩ : ∃ p : Prop, p = UsersP us := ⟨_, rfl⟩
  rw [← hp]
  have HPP := Lib.hid hp
  have HP := Lib.hid hl
  clear hp hl
  have HNS := Lib.hid (names_size us hn)
  have HRS := Lib.hid (fun (j : Nat) (h : j < us.length) => And.intro (roles_len us 1048576 hn j h) (roles_size us hn j h))
  have hn' : us.length ≤ 1048576 := by omega
  go_enter Try.func23, Try.ntmps23
  go_wp2
  go_loopw [3] (fun i wr => ∃ k : Nat, k ≤ us.length ∧ i = .int .i64 k ∧ Hid (AscBy NameOk ((us.map (·.1)).take k)) ∧ Hid (∀ j (h : j < us.length), j < k → AscBy RoleOk us[j].2) ∧ w.grownBy wr none) (fun i _ => us.length - (intOf i).toNat)
  case atStart => exact ⟨0, Nat.zero_le _, rfl, Lib.hid (fun i h => by simp at h), Lib.hid (fun j _ h => absurd h (Nat.not_lt_zero _)), grown_refl _ _⟩
  case round =>
    obtain ⟨k, hk, rfl, HN, HA, hg⟩ := hrel
    have HG := Lib.hid hg
    clear hg
    by_cases hlt : k < us.length
    · rcases HP.out with h00 | ⟨b, o, rfl, -, hc⟩
      · omega
      obtain ⟨ar, cr, ht⟩ := hc k hlt
      obtain ⟨d0, d1, hls⟩ := ht.kept HG.out (by simp) (fun q e => by cases e)
      obtain ⟨z1, z2⟩ := HRS.out k hlt
      have z3 := HNS.out us[k].1 (List.mem_map.2 ⟨us[k], List.getElem_mem hlt, rfl⟩)
      obtain ⟨u, hu⟩ : ∃ u, us[k] = u := ⟨_, rfl⟩
      have HU := Lib.hid hu
      rw [hu] at d0 d1 hls z1 z2 z3
      have HLS := Lib.hid hls
      have HNM := Lib.hid (fun W => nameOkS_any W u.1 z3)
      have hkI : (k : Int) < us.length := by omega
      have HNK := Lib.hid (show (us.map (·.1))[k]'(by simpa using hlt) = u.1 from by simp [HU.out])
      clear hls hu z2
      by_cases hQ : NameOk u.1
      case neg =>
        have HCL := Lib.hid (fun W => (HNM.out W).mono (R' := fun e w' => e = .returned (.bool false) ∧ w' = W) (fun e w' h => ⟨h.1.is_no hQ, h.2⟩))
        have HD := Lib.hid (show Says (.returned (.bool false)) p from by rw [HPP.out]; exact .no (fun h => hQ (by have := (h.2.2 k (by simpa using hlt)).1; rwa [HNK.out] at this)))
        clear hQ HNM hc ht
        go_wp2
        go_quiet ((go_at_call 53; exact Calls.quiet_of_same (HCL.out _)))
        go_wp2
        go_ret
        exact ⟨HD.out, grown_drewN (grown_alloc HG.out _) _⟩
      have HCL := Lib.hid (fun W => (HNM.out W).mono (R' := fun e w' => e = .returned (.bool true) ∧ w' = W) (fun e w' h => ⟨h.1.is_yes hQ, h.2⟩))
      have HQ := Lib.hid hQ
      clear hQ HNM
      by_cases hk0 : k = 0
      · have hkn : ¬ (0 : Int) < k := by omega
        have hkd : decide ((0 : Int) < (k : Int)) = false := decide_eq_false hkn
        have hkm : ¬ 0 < k := by omega
        have hkm2 : decide (0 < k) = false := decide_eq_false hkm
        have HAN := Lib.hid (show AscBy NameOk ((us.map (·.1)).take (k + 1)) from by
          subst hk0
          exact asc_zero NameOk _ u.1 (by simpa using hlt) HNK.out HQ.out)
        clear hk0 hc ht
        go_wp2
        go_quiet ((go_at_call 53; exact Calls.quiet_of_same (HCL.out _)))
        obtain ⟨W1, hW1⟩ : ∃ W1, W1 = (wr.alloc (Obj.cells #[Value.string u.1, .slice ar u.2.length cr] 70)).drewN nq := ⟨_, rfl⟩
        have HG1 := Lib.hid (show w.grownBy W1 none from by rw [hW1]; exact grown_drewN (grown_alloc HG.out _) _)
        have HB1 := Lib.hid (show Blk W1 wr.heap.size 70 [Value.string u.1, .slice ar u.2.length cr] from by rw [hW1]; exact (Blk.new wr 70 _).drewN _)
        have HL1 := Lib.hid (show Lies W1 base ar u.2 from by rw [hW1]; exact HLS.out.kept (grown_drewN (grown_alloc (grown_refl _ none) _) _) (fun q e => by cases e))
        rw [← hW1]
        clear hW1 d0 d1 HCL HLS
        generalize wr.heap.size = N at HB1 ⊢
        go_wp2
        go_loopw [5] (fun i wx => ∃ m : Nat, m ≤ u.2.length ∧ i = .int .i64 m ∧ Hid (AscBy RoleOk (u.2.take m)) ∧ W1.grownBy wx none) (fun i _ => u.2.length - (intOf i).toNat)
        case atStart => exact ⟨0, Nat.zero_le _, rfl, Lib.hid (fun i h => by simp at h), grown_refl _ _⟩
        case round =>
          obtain ⟨m, hm, rfl, HM, hgx⟩ := hrel
          have HGX := Lib.hid hgx
          have c1 : wr.cell? ⟨N, 1, none⟩ = some (.slice ar u.2.length cr) := (HB1.out.kept hgx (by simp)).cell rfl
          have HLX := Lib.hid (HL1.out.kept hgx (fun q e => by cases e))
          clear hgx
          by_cases hml : m < u.2.length
          · rcases HLX.out with h0 | ⟨ab, oo, rfl, -, hcc⟩
            · omega
            obtain ⟨x, hx⟩ : ∃ x, x = u.2.getD m ByteArray.empty := ⟨_, rfl⟩
            have hge : u.2[m] = x := by rw [hx]; simp [hml]
            have e0 := hcc m hml
            rw [← hx] at e0
            have HXE := Lib.hid hge
            have hmI : (m : Int) < u.2.length := by omega
            have HGR := Lib.hid (show wr.grownBy (wr.alloc rolesObj) none from grown_alloc (grown_refl _ _) _)
            have c1r : (wr.alloc rolesObj).cell? ⟨N, 1, none⟩ = some (.slice (some ⟨ab, oo, none⟩) u.2.length cr) := HGR.out.cell c1 (by simp)
            have e0r : (wr.alloc rolesObj).cell? ⟨ab, oo + m, none⟩ = some (.string x) := HGR.out.cell e0 (by simp)
            have HRL := Lib.hid (roles_lies wr)
            have HHS0 := Lib.hid (fun (W : World) (hW : Lies W wr.heap.size (some ⟨wr.heap.size, 0, none⟩) roles4) => has_any W wr.heap.size roles4 _ 4 hW (by decide) x)
            clear hx hge
            by_cases hR : RoleOk x
            case neg =>
              have HHS := Lib.hid (fun W hW => (HHS0.out W hW).mono (R' := fun e w' => e = .returned (.bool false) ∧ w' = W) (fun e w' h => ⟨h.1.is_no hR, h.2⟩))
              have HD := Lib.hid (show Says (.returned (.bool false)) p from by rw [HPP.out]; exact .no (fun h => hR (by have h1 := h.2.1 k hlt; rw [HU.out] at h1; have h2 := (h1 m hml).1; rwa [HXE.out] at h2)))
              have HS0 := Lib.hid (show wr.drew.cell? ⟨N, 1, none⟩ = some (.slice (some ⟨ab, oo, none⟩) u.2.length cr) ∧ wr.drew.cell? ⟨ab, oo + m, none⟩ = some (.string x) ∧ True from ⟨c1, e0, trivial⟩)
              have HS1 := Lib.hid (show (wr.alloc rolesObj).drew.cell? ⟨N, 1, none⟩ = some (.slice (some ⟨ab, oo, none⟩) u.2.length cr) ∧ (wr.alloc rolesObj).drew.cell? ⟨ab, oo + m, none⟩ = some (.string x) ∧ True from ⟨c1r, e0r, trivial⟩)
              clear hR HHS0 hcc
              go_wp2
              refine wp_region_held_drew (S := fun w' => w'.cell? ⟨N, 1, none⟩ = some (.slice (some ⟨ab, oo, none⟩) u.2.length cr) ∧ w'.cell? ⟨ab, oo + m, none⟩ = some (.string x) ∧ True) (by kernel_rfl) HS0.out (fun hS => ?_)
              refine wpAnyH_take (i := 1) (oi := ⟨some 43, _, _, _, _, _⟩) (v := (.pointer (some ⟨N, 1, none⟩))) rfl (by kernel_rfl) (by kernel_rfl) (by kernel_rfl) (fun _ _ _ h => h) (Or.inl ⟨by kernel_rfl, fun w' hSw => ?_⟩) hS ?_
              · obtain ⟨s1, s2, s3⟩ := hSw
                go_simp
                all_goals first | rfl | (rw [IntKind.wrap_i64]; omega)
              simp only [Act.put, List.setIfInBounds_toArray, List.set_cons_zero, List.set_cons_succ]
              refine wpAnyH_take (i := 2) (oi := ⟨some 44, _, _, _, _, _⟩) (v := (.slice (some ⟨ab, oo, none⟩) u.2.length cr)) rfl (by kernel_rfl) (by kernel_rfl) (by kernel_rfl) (fun _ _ _ h => h) (Or.inl ⟨by kernel_rfl, fun w' hSw => ?_⟩) hS ?_
              · obtain ⟨s1, s2, s3⟩ := hSw
                go_simp
                all_goals first | rfl | (rw [IntKind.wrap_i64]; omega)
              simp only [Act.put, List.setIfInBounds_toArray, List.set_cons_zero, List.set_cons_succ]
              refine wpAnyH_take (i := 3) (oi := ⟨some 45, _, _, _, _, _⟩) (v := (.int .i64 (m : Int))) rfl (by kernel_rfl) (by kernel_rfl) (by kernel_rfl) (fun _ _ _ h => h) (Or.inl ⟨by kernel_rfl, fun w' hSw => ?_⟩) hS ?_
              · obtain ⟨s1, s2, s3⟩ := hSw
                go_simp
                all_goals first | rfl | (rw [IntKind.wrap_i64]; omega)
              simp only [Act.put, List.setIfInBounds_toArray, List.set_cons_zero, List.set_cons_succ]
              refine wpAnyH_take (i := 4) (oi := ⟨some 46, _, _, _, _, _⟩) (v := (.pointer (some ⟨ab, oo + m, none⟩))) rfl (by kernel_rfl) (by kernel_rfl) (by kernel_rfl) (fun _ _ _ h => h) (Or.inl ⟨by kernel_rfl, fun w' hSw => ?_⟩) hS ?_
              · obtain ⟨s1, s2, s3⟩ := hSw
                go_simp
                all_goals first | rfl | (rw [IntKind.wrap_i64]; omega)
              simp only [Act.put, List.setIfInBounds_toArray, List.set_cons_zero, List.set_cons_succ]
              refine wpAnyH_take (i := 5) (oi := ⟨some 47, _, _, _, _, _⟩) (v := (.string x)) rfl (by kernel_rfl) (by kernel_rfl) (by kernel_rfl) (fun _ _ _ h => h) (Or.inl ⟨by kernel_rfl, fun w' hSw => ?_⟩) hS ?_
              · obtain ⟨s1, s2, s3⟩ := hSw
                go_simp
                all_goals first | rfl | (rw [IntKind.wrap_i64]; omega)
              simp only [Act.put, List.setIfInBounds_toArray, List.set_cons_zero, List.set_cons_succ]
              refine wpAnyH_ready (rs := [0]) (by kernel_rfl) (by simp) ?_
              refine AllReadyH.cons (o := ⟨some 42, _, _, _, _, _⟩) rfl (fun K hK => ?_) AllReadyH.nil
              go_simp
              refine (roles_call _).mono ?_
              rintro e w' ⟨rfl, rfl⟩
              go_simp
              refine hK.out _ _ HS1.out (fun hS => ?_)
              clear hK
              refine wpAnyH_ready (rs := [6]) (by kernel_rfl) (by simp) ?_
              refine AllReadyH.cons (o := ⟨some 48, _, _, _, _, _⟩) rfl (fun K hK => ?_) AllReadyH.nil
              go_simp
              refine (HHS.out _ (by exact HRL.out)).mono ?_
              rintro e w' ⟨rfl, rfl⟩
              go_simp
              refine hK.out _ _ HS1.out (fun hS => ?_)
              clear hK
              refine wpAnyH_take (i := 7) (oi := ⟨some 49, _, _, _, _, _⟩) (v := (.bool true)) rfl (by kernel_rfl) (by kernel_rfl) (by kernel_rfl) (fun _ _ _ h => h) (Or.inl ⟨by kernel_rfl, fun w' hSw => ?_⟩) hS ?_
              · obtain ⟨s1, s2, s3⟩ := hSw
                go_simp
                all_goals first | rfl | (rw [IntKind.wrap_i64]; omega)
              simp only [Act.put, List.setIfInBounds_toArray, List.set_cons_zero, List.set_cons_succ]
              refine wpAnyH_take (i := 8) (oi := ⟨some 50, _, _, _, _, _⟩) (v := (.bool true)) rfl (by kernel_rfl) (by kernel_rfl) (by kernel_rfl) (fun _ _ _ h => h) (Or.inl ⟨by kernel_rfl, fun w' hSw => ?_⟩) hS ?_
              · obtain ⟨s1, s2, s3⟩ := hSw
                go_simp
                all_goals first | rfl | (rw [IntKind.wrap_i64]; omega)
              simp only [Act.put, List.setIfInBounds_toArray, List.set_cons_zero, List.set_cons_succ]
              refine wpAnyH_take (i := 9) (oi := ⟨some 51, _, _, _, _, _⟩) (v := undef) rfl (by kernel_rfl) (by kernel_rfl) (by kernel_rfl) (fun _ _ _ h => h) (Or.inr ⟨by kernel_rfl, rfl⟩) hS ?_
              simp only [Act.put, List.setIfInBounds_toArray, List.set_cons_zero, List.set_cons_succ]
              refine wpAnyH_take (i := 10) (oi := ⟨some 52, _, _, _, _, _⟩) (v := undef) rfl (by kernel_rfl) (by kernel_rfl) (by kernel_rfl) (fun _ _ _ h => h) (Or.inr ⟨by kernel_rfl, rfl⟩) hS ?_
              simp only [Act.put, List.setIfInBounds_toArray, List.set_cons_zero, List.set_cons_succ]
              refine wpAnyH_take (i := 11) (oi := ⟨some 53, _, _, _, _, _⟩) (v := undef) rfl (by kernel_rfl) (by kernel_rfl) (by kernel_rfl) (fun _ _ _ h => h) (Or.inr ⟨by kernel_rfl, rfl⟩) hS ?_
              simp only [Act.put, List.setIfInBounds_toArray, List.set_cons_zero, List.set_cons_succ]
              refine wpAnyH_take (i := 12) (oi := ⟨some 54, _, _, _, _, _⟩) (v := undef) rfl (by kernel_rfl) (by kernel_rfl) (by kernel_rfl) (fun _ _ _ h => h) (Or.inr ⟨by kernel_rfl, rfl⟩) hS ?_
              simp only [Act.put, List.setIfInBounds_toArray, List.set_cons_zero, List.set_cons_succ]
              refine wpAnyH_take (i := 13) (oi := ⟨some 55, _, _, _, _, _⟩) (v := undef) rfl (by kernel_rfl) (by kernel_rfl) (by kernel_rfl) (fun _ _ _ h => h) (Or.inr ⟨by kernel_rfl, rfl⟩) hS ?_
              simp only [Act.put, List.setIfInBounds_toArray, List.set_cons_zero, List.set_cons_succ]
              refine wpAnyH_take (i := 14) (oi := ⟨some 56, _, _, _, _, _⟩) (v := undef) rfl (by kernel_rfl) (by kernel_rfl) (by kernel_rfl) (fun _ _ _ h => h) (Or.inr ⟨by kernel_rfl, rfl⟩) hS ?_
              simp only [Act.put, List.setIfInBounds_toArray, List.set_cons_zero, List.set_cons_succ]
              refine wpAnyH_take (i := 15) (oi := ⟨some 57, _, _, _, _, _⟩) (v := undef) rfl (by kernel_rfl) (by kernel_rfl) (by kernel_rfl) (fun _ _ _ h => h) (Or.inr ⟨by kernel_rfl, rfl⟩) hS ?_
              simp only [Act.put, List.setIfInBounds_toArray, List.set_cons_zero, List.set_cons_succ]
              refine wpAnyH_take (i := 16) (oi := ⟨some 58, _, _, _, _, _⟩) (v := undef) rfl (by kernel_rfl) (by kernel_rfl) (by kernel_rfl) (fun _ _ _ h => h) (Or.inr ⟨by kernel_rfl, rfl⟩) hS ?_
              simp only [Act.put, List.setIfInBounds_toArray, List.set_cons_zero, List.set_cons_succ]
              refine wpAnyH_take (i := 17) (oi := ⟨some 59, _, _, _, _, _⟩) (v := undef) rfl (by kernel_rfl) (by kernel_rfl) (by kernel_rfl) (fun _ _ _ h => h) (Or.inr ⟨by kernel_rfl, rfl⟩) hS ?_
              simp only [Act.put, List.setIfInBounds_toArray, List.set_cons_zero, List.set_cons_succ]
              refine wpAnyH_take (i := 18) (oi := ⟨some 60, _, _, _, _, _⟩) (v := undef) rfl (by kernel_rfl) (by kernel_rfl) (by kernel_rfl) (fun _ _ _ h => h) (Or.inr ⟨by kernel_rfl, rfl⟩) hS ?_
              simp only [Act.put, List.setIfInBounds_toArray, List.set_cons_zero, List.set_cons_succ]
              refine wpAnyH_take (i := 19) (oi := ⟨some 61, _, _, _, _, _⟩) (v := undef) rfl (by kernel_rfl) (by kernel_rfl) (by kernel_rfl) (fun _ _ _ h => h) (Or.inr ⟨by kernel_rfl, rfl⟩) hS ?_
              simp only [Act.put, List.setIfInBounds_toArray, List.set_cons_zero, List.set_cons_succ]
              refine wpAnyH_take (i := 20) (oi := ⟨some 62, _, _, _, _, _⟩) (v := undef) rfl (by kernel_rfl) (by kernel_rfl) (by kernel_rfl) (fun _ _ _ h => h) (Or.inr ⟨by kernel_rfl, rfl⟩) hS ?_
              simp only [Act.put, List.setIfInBounds_toArray, List.set_cons_zero, List.set_cons_succ]
              refine wpAnyH_take (i := 21) (oi := ⟨some 63, _, _, _, _, _⟩) (v := undef) rfl (by kernel_rfl) (by kernel_rfl) (by kernel_rfl) (fun _ _ _ h => h) (Or.inr ⟨by kernel_rfl, rfl⟩) hS ?_
              simp only [Act.put, List.setIfInBounds_toArray, List.set_cons_zero, List.set_cons_succ]
              refine wpAnyH_take (i := 22) (oi := ⟨some 64, _, _, _, _, _⟩) (v := undef) rfl (by kernel_rfl) (by kernel_rfl) (by kernel_rfl) (fun _ _ _ h => h) (Or.inr ⟨by kernel_rfl, rfl⟩) hS ?_
              simp only [Act.put, List.setIfInBounds_toArray, List.set_cons_zero, List.set_cons_succ]
              refine wpAnyH_take (i := 23) (oi := ⟨some 65, _, _, _, _, _⟩) (v := undef) rfl (by kernel_rfl) (by kernel_rfl) (by kernel_rfl) (fun _ _ _ h => h) (Or.inr ⟨by kernel_rfl, rfl⟩) hS ?_
              simp only [Act.put, List.setIfInBounds_toArray, List.set_cons_zero, List.set_cons_succ]
              refine wpAnyH_take (i := 24) (oi := ⟨some 66, _, _, _, _, _⟩) (v := undef) rfl (by kernel_rfl) (by kernel_rfl) (by kernel_rfl) (fun _ _ _ h => h) (Or.inr ⟨by kernel_rfl, rfl⟩) hS ?_
              simp only [Act.put, List.setIfInBounds_toArray, List.set_cons_zero, List.set_cons_succ]
              refine wpAnyH_take (i := 25) (oi := ⟨some 67, _, _, _, _, _⟩) (v := (.bool true)) rfl (by kernel_rfl) (by kernel_rfl) (by kernel_rfl) (fun _ _ _ h => h) (Or.inl ⟨by kernel_rfl, fun w' hSw => ?_⟩) hS ?_
              · obtain ⟨s1, s2, s3⟩ := hSw
                go_simp
                all_goals first | rfl | (rw [IntKind.wrap_i64]; omega)
              simp only [Act.put, List.setIfInBounds_toArray, List.set_cons_zero, List.set_cons_succ]
              refine wpAnyH_done (by kernel_rfl) ?_ _
              go_wp2
              go_ret
              exact ⟨HD.out, grown_trans HG1.out (grown_drewN (grown_alloc HGX.out _) _)⟩
            have HHS := Lib.hid (fun W hW => (HHS0.out W hW).mono (R' := fun e w' => e = .returned (.bool true) ∧ w' = W) (fun e w' h => ⟨h.1.is_yes hR, h.2⟩))
            have HRX := Lib.hid hR
            clear hR HHS0
            by_cases hm0 : m = 0
            · have hmn : ¬ (0 : Int) < m := by omega
              have hmd : decide ((0 : Int) < (m : Int)) = false := decide_eq_false hmn
              have hmm : ¬ 0 < m := by omega
              have hmm2 : decide (0 < m) = false := decide_eq_false hmm
              have HMN := Lib.hid (show AscBy RoleOk (u.2.take (m + 1)) from by
                subst hm0
                exact asc_zero RoleOk _ x hml HXE.out HRX.out)
              have HS0 := Lib.hid (show wr.drew.cell? ⟨N, 1, none⟩ = some (.slice (some ⟨ab, oo, none⟩) u.2.length cr) ∧ wr.drew.cell? ⟨ab, oo + m, none⟩ = some (.string x) ∧ True from ⟨c1, e0, trivial⟩)
              have HS1 := Lib.hid (show (wr.alloc rolesObj).drew.cell? ⟨N, 1, none⟩ = some (.slice (some ⟨ab, oo, none⟩) u.2.length cr) ∧ (wr.alloc rolesObj).drew.cell? ⟨ab, oo + m, none⟩ = some (.string x) ∧ True from ⟨c1r, e0r, trivial⟩)
              clear hm0 hcc
              go_wp2
              refine wp_region_held_drew (S := fun w' => w'.cell? ⟨N, 1, none⟩ = some (.slice (some ⟨ab, oo, none⟩) u.2.length cr) ∧ w'.cell? ⟨ab, oo + m, none⟩ = some (.string x) ∧ True) (by kernel_rfl) HS0.out (fun hS => ?_)
              refine wpAnyH_take (i := 1) (oi := ⟨some 43, _, _, _, _, _⟩) (v := (.pointer (some ⟨N, 1, none⟩))) rfl (by kernel_rfl) (by kernel_rfl) (by kernel_rfl) (fun _ _ _ h => h) (Or.inl ⟨by kernel_rfl, fun w' hSw => ?_⟩) hS ?_
              · obtain ⟨s1, s2, s3⟩ := hSw
                go_simp
                all_goals first | rfl | (rw [IntKind.wrap_i64]; omega)
              simp only [Act.put, List.setIfInBounds_toArray, List.set_cons_zero, List.set_cons_succ]
              refine wpAnyH_take (i := 2) (oi := ⟨some 44, _, _, _, _, _⟩) (v := (.slice (some ⟨ab, oo, none⟩) u.2.length cr)) rfl (by kernel_rfl) (by kernel_rfl) (by kernel_rfl) (fun _ _ _ h => h) (Or.inl ⟨by kernel_rfl, fun w' hSw => ?_⟩) hS ?_
              · obtain ⟨s1, s2, s3⟩ := hSw
                go_simp
                all_goals first | rfl | (rw [IntKind.wrap_i64]; omega)
              simp only [Act.put, List.setIfInBounds_toArray, List.set_cons_zero, List.set_cons_succ]
              refine wpAnyH_take (i := 3) (oi := ⟨some 45, _, _, _, _, _⟩) (v := (.int .i64 (m : Int))) rfl (by kernel_rfl) (by kernel_rfl) (by kernel_rfl) (fun _ _ _ h => h) (Or.inl ⟨by kernel_rfl, fun w' hSw => ?_⟩) hS ?_
              · obtain ⟨s1, s2, s3⟩ := hSw
                go_simp
                all_goals first | rfl | (rw [IntKind.wrap_i64]; omega)
              simp only [Act.put, List.setIfInBounds_toArray, List.set_cons_zero, List.set_cons_succ]
              refine wpAnyH_take (i := 4) (oi := ⟨some 46, _, _, _, _, _⟩) (v := (.pointer (some ⟨ab, oo + m, none⟩))) rfl (by kernel_rfl) (by kernel_rfl) (by kernel_rfl) (fun _ _ _ h => h) (Or.inl ⟨by kernel_rfl, fun w' hSw => ?_⟩) hS ?_
              · obtain ⟨s1, s2, s3⟩ := hSw
                go_simp
                all_goals first | rfl | (rw [IntKind.wrap_i64]; omega)
              simp only [Act.put, List.setIfInBounds_toArray, List.set_cons_zero, List.set_cons_succ]
              refine wpAnyH_take (i := 5) (oi := ⟨some 47, _, _, _, _, _⟩) (v := (.string x)) rfl (by kernel_rfl) (by kernel_rfl) (by kernel_rfl) (fun _ _ _ h => h) (Or.inl ⟨by kernel_rfl, fun w' hSw => ?_⟩) hS ?_
              · obtain ⟨s1, s2, s3⟩ := hSw
                go_simp
                all_goals first | rfl | (rw [IntKind.wrap_i64]; omega)
              simp only [Act.put, List.setIfInBounds_toArray, List.set_cons_zero, List.set_cons_succ]
              refine wpAnyH_ready (rs := [0]) (by kernel_rfl) (by simp) ?_
              refine AllReadyH.cons (o := ⟨some 42, _, _, _, _, _⟩) rfl (fun K hK => ?_) AllReadyH.nil
              go_simp
              refine (roles_call _).mono ?_
              rintro e w' ⟨rfl, rfl⟩
              go_simp
              refine hK.out _ _ HS1.out (fun hS => ?_)
              clear hK
              refine wpAnyH_ready (rs := [6]) (by kernel_rfl) (by simp) ?_
              refine AllReadyH.cons (o := ⟨some 48, _, _, _, _, _⟩) rfl (fun K hK => ?_) AllReadyH.nil
              go_simp
              refine (HHS.out _ (by exact HRL.out)).mono ?_
              rintro e w' ⟨rfl, rfl⟩
              go_simp
              refine hK.out _ _ HS1.out (fun hS => ?_)
              clear hK
              refine wpAnyH_take (i := 7) (oi := ⟨some 49, _, _, _, _, _⟩) (v := (.bool false)) rfl (by kernel_rfl) (by kernel_rfl) (by kernel_rfl) (fun _ _ _ h => h) (Or.inl ⟨by kernel_rfl, fun w' hSw => ?_⟩) hS ?_
              · obtain ⟨s1, s2, s3⟩ := hSw
                go_simp
                all_goals first | rfl | (rw [IntKind.wrap_i64]; omega)
              simp only [Act.put, List.setIfInBounds_toArray, List.set_cons_zero, List.set_cons_succ]
              refine wpAnyH_take (i := 8) (oi := ⟨some 50, _, _, _, _, _⟩) (v := (.bool false)) rfl (by kernel_rfl) (by kernel_rfl) (by kernel_rfl) (fun _ _ _ h => h) (Or.inl ⟨by kernel_rfl, fun w' hSw => ?_⟩) hS ?_
              · obtain ⟨s1, s2, s3⟩ := hSw
                go_simp
                all_goals first | rfl | (rw [IntKind.wrap_i64]; omega)
              simp only [Act.put, List.setIfInBounds_toArray, List.set_cons_zero, List.set_cons_succ]
              refine wpAnyH_take (i := 9) (oi := ⟨some 51, _, _, _, _, _⟩) (v := (.int .i64 (m : Int))) rfl (by kernel_rfl) (by kernel_rfl) (by kernel_rfl) (fun _ _ _ h => h) (Or.inl ⟨by kernel_rfl, fun w' hSw => ?_⟩) hS ?_
              · obtain ⟨s1, s2, s3⟩ := hSw
                go_simp
                all_goals first | rfl | (rw [IntKind.wrap_i64]; omega)
              simp only [Act.put, List.setIfInBounds_toArray, List.set_cons_zero, List.set_cons_succ]
              refine wpAnyH_take (i := 10) (oi := ⟨some 52, _, _, _, _, _⟩) (v := (.bool false)) rfl (by kernel_rfl) (by kernel_rfl) (by kernel_rfl) (fun _ _ _ h => h) (Or.inl ⟨by kernel_rfl, fun w' hSw => ?_⟩) hS ?_
              · obtain ⟨s1, s2, s3⟩ := hSw
                go_simp
                all_goals first | rfl | (rw [IntKind.wrap_i64]; omega)
              simp only [Act.put, List.setIfInBounds_toArray, List.set_cons_zero, List.set_cons_succ]
              refine wpAnyH_take (i := 11) (oi := ⟨some 53, _, _, _, _, _⟩) (v := (.bool false)) rfl (by kernel_rfl) (by kernel_rfl) (by kernel_rfl) (fun _ _ _ h => h) (Or.inl ⟨by kernel_rfl, fun w' hSw => ?_⟩) hS ?_
              · obtain ⟨s1, s2, s3⟩ := hSw
                go_simp
                all_goals first | rfl | (rw [IntKind.wrap_i64]; omega)
              simp only [Act.put, List.setIfInBounds_toArray, List.set_cons_zero, List.set_cons_succ]
              refine wpAnyH_take (i := 12) (oi := ⟨some 54, _, _, _, _, _⟩) (v := undef) rfl (by kernel_rfl) (by kernel_rfl) (by kernel_rfl) (fun _ _ _ h => h) (Or.inr ⟨by kernel_rfl, rfl⟩) hS ?_
              simp only [Act.put, List.setIfInBounds_toArray, List.set_cons_zero, List.set_cons_succ]
              refine wpAnyH_take (i := 13) (oi := ⟨some 55, _, _, _, _, _⟩) (v := undef) rfl (by kernel_rfl) (by kernel_rfl) (by kernel_rfl) (fun _ _ _ h => h) (Or.inr ⟨by kernel_rfl, rfl⟩) hS ?_
              simp only [Act.put, List.setIfInBounds_toArray, List.set_cons_zero, List.set_cons_succ]
              refine wpAnyH_take (i := 14) (oi := ⟨some 56, _, _, _, _, _⟩) (v := undef) rfl (by kernel_rfl) (by kernel_rfl) (by kernel_rfl) (fun _ _ _ h => h) (Or.inr ⟨by kernel_rfl, rfl⟩) hS ?_
              simp only [Act.put, List.setIfInBounds_toArray, List.set_cons_zero, List.set_cons_succ]
              refine wpAnyH_take (i := 15) (oi := ⟨some 57, _, _, _, _, _⟩) (v := undef) rfl (by kernel_rfl) (by kernel_rfl) (by kernel_rfl) (fun _ _ _ h => h) (Or.inr ⟨by kernel_rfl, rfl⟩) hS ?_
              simp only [Act.put, List.setIfInBounds_toArray, List.set_cons_zero, List.set_cons_succ]
              refine wpAnyH_take (i := 16) (oi := ⟨some 58, _, _, _, _, _⟩) (v := undef) rfl (by kernel_rfl) (by kernel_rfl) (by kernel_rfl) (fun _ _ _ h => h) (Or.inr ⟨by kernel_rfl, rfl⟩) hS ?_
              simp only [Act.put, List.setIfInBounds_toArray, List.set_cons_zero, List.set_cons_succ]
              refine wpAnyH_take (i := 17) (oi := ⟨some 59, _, _, _, _, _⟩) (v := undef) rfl (by kernel_rfl) (by kernel_rfl) (by kernel_rfl) (fun _ _ _ h => h) (Or.inr ⟨by kernel_rfl, rfl⟩) hS ?_
              simp only [Act.put, List.setIfInBounds_toArray, List.set_cons_zero, List.set_cons_succ]
              refine wpAnyH_take (i := 18) (oi := ⟨some 60, _, _, _, _, _⟩) (v := undef) rfl (by kernel_rfl) (by kernel_rfl) (by kernel_rfl) (fun _ _ _ h => h) (Or.inr ⟨by kernel_rfl, rfl⟩) hS ?_
              simp only [Act.put, List.setIfInBounds_toArray, List.set_cons_zero, List.set_cons_succ]
              refine wpAnyH_take (i := 19) (oi := ⟨some 61, _, _, _, _, _⟩) (v := undef) rfl (by kernel_rfl) (by kernel_rfl) (by kernel_rfl) (fun _ _ _ h => h) (Or.inr ⟨by kernel_rfl, rfl⟩) hS ?_
              simp only [Act.put, List.setIfInBounds_toArray, List.set_cons_zero, List.set_cons_succ]
              refine wpAnyH_take (i := 20) (oi := ⟨some 62, _, _, _, _, _⟩) (v := undef) rfl (by kernel_rfl) (by kernel_rfl) (by kernel_rfl) (fun _ _ _ h => h) (Or.inr ⟨by kernel_rfl, rfl⟩) hS ?_
              simp only [Act.put, List.setIfInBounds_toArray, List.set_cons_zero, List.set_cons_succ]
              refine wpAnyH_take (i := 21) (oi := ⟨some 63, _, _, _, _, _⟩) (v := undef) rfl (by kernel_rfl) (by kernel_rfl) (by kernel_rfl) (fun _ _ _ h => h) (Or.inr ⟨by kernel_rfl, rfl⟩) hS ?_
              simp only [Act.put, List.setIfInBounds_toArray, List.set_cons_zero, List.set_cons_succ]
              refine wpAnyH_take (i := 22) (oi := ⟨some 64, _, _, _, _, _⟩) (v := undef) rfl (by kernel_rfl) (by kernel_rfl) (by kernel_rfl) (fun _ _ _ h => h) (Or.inr ⟨by kernel_rfl, rfl⟩) hS ?_
              simp only [Act.put, List.setIfInBounds_toArray, List.set_cons_zero, List.set_cons_succ]
              refine wpAnyH_take (i := 23) (oi := ⟨some 65, _, _, _, _, _⟩) (v := undef) rfl (by kernel_rfl) (by kernel_rfl) (by kernel_rfl) (fun _ _ _ h => h) (Or.inr ⟨by kernel_rfl, rfl⟩) hS ?_
              simp only [Act.put, List.setIfInBounds_toArray, List.set_cons_zero, List.set_cons_succ]
              refine wpAnyH_take (i := 24) (oi := ⟨some 66, _, _, _, _, _⟩) (v := (.bool false)) rfl (by kernel_rfl) (by kernel_rfl) (by kernel_rfl) (fun _ _ _ h => h) (Or.inl ⟨by kernel_rfl, fun w' hSw => ?_⟩) hS ?_
              · obtain ⟨s1, s2, s3⟩ := hSw
                go_simp
                all_goals first | rfl | (rw [IntKind.wrap_i64]; omega)
              simp only [Act.put, List.setIfInBounds_toArray, List.set_cons_zero, List.set_cons_succ]
              refine wpAnyH_take (i := 25) (oi := ⟨some 67, _, _, _, _, _⟩) (v := (.bool false)) rfl (by kernel_rfl) (by kernel_rfl) (by kernel_rfl) (fun _ _ _ h => h) (Or.inl ⟨by kernel_rfl, fun w' hSw => ?_⟩) hS ?_
              · obtain ⟨s1, s2, s3⟩ := hSw
                go_simp
                all_goals first | rfl | (rw [IntKind.wrap_i64]; omega)
              simp only [Act.put, List.setIfInBounds_toArray, List.set_cons_zero, List.set_cons_succ]
              refine wpAnyH_done (by kernel_rfl) ?_ _
              go_wp2
              go_roundw
              case rel => exact ⟨m + 1, by omega, by go_num, HMN, grown_drewN (grown_alloc HGX.out _) _⟩
              case measure => simp [intOf]; omega
            · obtain ⟨n1, hn1⟩ : ∃ n1, m = n1 + 1 := ⟨m - 1, by omega⟩
              have HN1 := Lib.hid hn1
              obtain ⟨y, hy⟩ : ∃ y, y = u.2.getD n1 ByteArray.empty := ⟨_, rfl⟩
              have e1 := hcc n1 (by omega)
              rw [← hy] at e1
              have e1r : (wr.alloc rolesObj).cell? ⟨ab, oo + n1, none⟩ = some (.string y) := HGR.out.cell e1 (by simp)
              have HY := Lib.hid hy
              have hn1I : (m : Int) - 1 = (n1 : Int) := by omega
              have hn1L : (n1 : Int) < u.2.length := by omega
              have hmp : (0 : Int) < m := by omega
              have hmq : 0 < m := by omega
              have HS0 := Lib.hid (show wr.drew.cell? ⟨N, 1, none⟩ = some (.slice (some ⟨ab, oo, none⟩) u.2.length cr) ∧ wr.drew.cell? ⟨ab, oo + m, none⟩ = some (.string x) ∧ wr.drew.cell? ⟨ab, oo + n1, none⟩ = some (.string y) from ⟨c1, e0, e1⟩)
              have HS1 := Lib.hid (show (wr.alloc rolesObj).drew.cell? ⟨N, 1, none⟩ = some (.slice (some ⟨ab, oo, none⟩) u.2.length cr) ∧ (wr.alloc rolesObj).drew.cell? ⟨ab, oo + m, none⟩ = some (.string x) ∧ (wr.alloc rolesObj).drew.cell? ⟨ab, oo + n1, none⟩ = some (.string y) from ⟨c1r, e0r, e1r⟩)
              clear hn1 hm0 hy hcc
              cases hcmp : Op.bytesLess y.toList x.toList
              · have HCM := Lib.hid hcmp
                have HD := Lib.hid (show Says (.returned (.bool false)) p from by rw [HPP.out]; exact .no (fun h => by have h1 := h.2.1 k hlt; rw [HU.out] at h1; have h2 := (h1 m hml).2 (by omega); rw [HXE.out, show m - 1 = n1 from by have := HN1.out; omega, ← HY.out, HCM.out] at h2; cases h2))
                go_wp2
                refine wp_region_held_drew (S := fun w' => w'.cell? ⟨N, 1, none⟩ = some (.slice (some ⟨ab, oo, none⟩) u.2.length cr) ∧ w'.cell? ⟨ab, oo + m, none⟩ = some (.string x) ∧ w'.cell? ⟨ab, oo + n1, none⟩ = some (.string y)) (by kernel_rfl) HS0.out (fun hS => ?_)
                refine wpAnyH_take (i := 1) (oi := ⟨some 43, _, _, _, _, _⟩) (v := (.pointer (some ⟨N, 1, none⟩))) rfl (by kernel_rfl) (by kernel_rfl) (by kernel_rfl) (fun _ _ _ h => h) (Or.inl ⟨by kernel_rfl, fun w' hSw => ?_⟩) hS ?_
                · obtain ⟨s1, s2, s3⟩ := hSw
                  go_simp
                  all_goals first | rfl | (rw [IntKind.wrap_i64]; omega)
                simp only [Act.put, List.setIfInBounds_toArray, List.set_cons_zero, List.set_cons_succ]
                refine wpAnyH_take (i := 2) (oi := ⟨some 44, _, _, _, _, _⟩) (v := (.slice (some ⟨ab, oo, none⟩) u.2.length cr)) rfl (by kernel_rfl) (by kernel_rfl) (by kernel_rfl) (fun _ _ _ h => h) (Or.inl ⟨by kernel_rfl, fun w' hSw => ?_⟩) hS ?_
                · obtain ⟨s1, s2, s3⟩ := hSw
                  go_simp
                  all_goals first | rfl | (rw [IntKind.wrap_i64]; omega)
                simp only [Act.put, List.setIfInBounds_toArray, List.set_cons_zero, List.set_cons_succ]
                refine wpAnyH_take (i := 3) (oi := ⟨some 45, _, _, _, _, _⟩) (v := (.int .i64 (m : Int))) rfl (by kernel_rfl) (by kernel_rfl) (by kernel_rfl) (fun _ _ _ h => h) (Or.inl ⟨by kernel_rfl, fun w' hSw => ?_⟩) hS ?_
                · obtain ⟨s1, s2, s3⟩ := hSw
                  go_simp
                  all_goals first | rfl | (rw [IntKind.wrap_i64]; omega)
                simp only [Act.put, List.setIfInBounds_toArray, List.set_cons_zero, List.set_cons_succ]
                refine wpAnyH_take (i := 4) (oi := ⟨some 46, _, _, _, _, _⟩) (v := (.pointer (some ⟨ab, oo + m, none⟩))) rfl (by kernel_rfl) (by kernel_rfl) (by kernel_rfl) (fun _ _ _ h => h) (Or.inl ⟨by kernel_rfl, fun w' hSw => ?_⟩) hS ?_
                · obtain ⟨s1, s2, s3⟩ := hSw
                  go_simp
                  all_goals first | rfl | (rw [IntKind.wrap_i64]; omega)
                simp only [Act.put, List.setIfInBounds_toArray, List.set_cons_zero, List.set_cons_succ]
                refine wpAnyH_take (i := 5) (oi := ⟨some 47, _, _, _, _, _⟩) (v := (.string x)) rfl (by kernel_rfl) (by kernel_rfl) (by kernel_rfl) (fun _ _ _ h => h) (Or.inl ⟨by kernel_rfl, fun w' hSw => ?_⟩) hS ?_
                · obtain ⟨s1, s2, s3⟩ := hSw
                  go_simp
                  all_goals first | rfl | (rw [IntKind.wrap_i64]; omega)
                simp only [Act.put, List.setIfInBounds_toArray, List.set_cons_zero, List.set_cons_succ]
                refine wpAnyH_ready (rs := [0]) (by kernel_rfl) (by simp) ?_
                refine AllReadyH.cons (o := ⟨some 42, _, _, _, _, _⟩) rfl (fun K hK => ?_) AllReadyH.nil
                go_simp
                refine (roles_call _).mono ?_
                rintro e w' ⟨rfl, rfl⟩
                go_simp
                refine hK.out _ _ HS1.out (fun hS => ?_)
                clear hK
                refine wpAnyH_ready (rs := [6]) (by kernel_rfl) (by simp) ?_
                refine AllReadyH.cons (o := ⟨some 48, _, _, _, _, _⟩) rfl (fun K hK => ?_) AllReadyH.nil
                go_simp
                refine (HHS.out _ (by exact HRL.out)).mono ?_
                rintro e w' ⟨rfl, rfl⟩
                go_simp
                refine hK.out _ _ HS1.out (fun hS => ?_)
                clear hK
                refine wpAnyH_take (i := 7) (oi := ⟨some 49, _, _, _, _, _⟩) (v := (.bool false)) rfl (by kernel_rfl) (by kernel_rfl) (by kernel_rfl) (fun _ _ _ h => h) (Or.inl ⟨by kernel_rfl, fun w' hSw => ?_⟩) hS ?_
                · obtain ⟨s1, s2, s3⟩ := hSw
                  go_simp
                  all_goals first | rfl | (rw [IntKind.wrap_i64]; omega)
                simp only [Act.put, List.setIfInBounds_toArray, List.set_cons_zero, List.set_cons_succ]
                refine wpAnyH_take (i := 8) (oi := ⟨some 50, _, _, _, _, _⟩) (v := (.bool false)) rfl (by kernel_rfl) (by kernel_rfl) (by kernel_rfl) (fun _ _ _ h => h) (Or.inl ⟨by kernel_rfl, fun w' hSw => ?_⟩) hS ?_
                · obtain ⟨s1, s2, s3⟩ := hSw
                  go_simp
                  all_goals first | rfl | (rw [IntKind.wrap_i64]; omega)
                simp only [Act.put, List.setIfInBounds_toArray, List.set_cons_zero, List.set_cons_succ]
                refine wpAnyH_take (i := 9) (oi := ⟨some 51, _, _, _, _, _⟩) (v := (.int .i64 (m : Int))) rfl (by kernel_rfl) (by kernel_rfl) (by kernel_rfl) (fun _ _ _ h => h) (Or.inl ⟨by kernel_rfl, fun w' hSw => ?_⟩) hS ?_
                · obtain ⟨s1, s2, s3⟩ := hSw
                  go_simp
                  all_goals first | rfl | (rw [IntKind.wrap_i64]; omega)
                simp only [Act.put, List.setIfInBounds_toArray, List.set_cons_zero, List.set_cons_succ]
                refine wpAnyH_take (i := 10) (oi := ⟨some 52, _, _, _, _, _⟩) (v := (.bool true)) rfl (by kernel_rfl) (by kernel_rfl) (by kernel_rfl) (fun _ _ _ h => h) (Or.inl ⟨by kernel_rfl, fun w' hSw => ?_⟩) hS ?_
                · obtain ⟨s1, s2, s3⟩ := hSw
                  go_simp
                  all_goals first | rfl | (rw [IntKind.wrap_i64]; omega)
                simp only [Act.put, List.setIfInBounds_toArray, List.set_cons_zero, List.set_cons_succ]
                refine wpAnyH_take (i := 11) (oi := ⟨some 53, _, _, _, _, _⟩) (v := (.bool true)) rfl (by kernel_rfl) (by kernel_rfl) (by kernel_rfl) (fun _ _ _ h => h) (Or.inl ⟨by kernel_rfl, fun w' hSw => ?_⟩) hS ?_
                · obtain ⟨s1, s2, s3⟩ := hSw
                  go_simp
                  all_goals first | rfl | (rw [IntKind.wrap_i64]; omega)
                simp only [Act.put, List.setIfInBounds_toArray, List.set_cons_zero, List.set_cons_succ]
                refine wpAnyH_take (i := 12) (oi := ⟨some 54, _, _, _, _, _⟩) (v := (.pointer (some ⟨N, 1, none⟩))) rfl (by kernel_rfl) (by kernel_rfl) (by kernel_rfl) (fun _ _ _ h => h) (Or.inl ⟨by kernel_rfl, fun w' hSw => ?_⟩) hS ?_
                · obtain ⟨s1, s2, s3⟩ := hSw
                  go_simp
                  all_goals first | rfl | (rw [IntKind.wrap_i64]; omega)
                simp only [Act.put, List.setIfInBounds_toArray, List.set_cons_zero, List.set_cons_succ]
                refine wpAnyH_take (i := 13) (oi := ⟨some 55, _, _, _, _, _⟩) (v := (.slice (some ⟨ab, oo, none⟩) u.2.length cr)) rfl (by kernel_rfl) (by kernel_rfl) (by kernel_rfl) (fun _ _ _ h => h) (Or.inl ⟨by kernel_rfl, fun w' hSw => ?_⟩) hS ?_
                · obtain ⟨s1, s2, s3⟩ := hSw
                  go_simp
                  all_goals first | rfl | (rw [IntKind.wrap_i64]; omega)
                simp only [Act.put, List.setIfInBounds_toArray, List.set_cons_zero, List.set_cons_succ]
                refine wpAnyH_take (i := 14) (oi := ⟨some 56, _, _, _, _, _⟩) (v := (.int .i64 (m : Int))) rfl (by kernel_rfl) (by kernel_rfl) (by kernel_rfl) (fun _ _ _ h => h) (Or.inl ⟨by kernel_rfl, fun w' hSw => ?_⟩) hS ?_
                · obtain ⟨s1, s2, s3⟩ := hSw
                  go_simp
                  all_goals first | rfl | (rw [IntKind.wrap_i64]; omega)
                simp only [Act.put, List.setIfInBounds_toArray, List.set_cons_zero, List.set_cons_succ]
                refine wpAnyH_take (i := 15) (oi := ⟨some 57, _, _, _, _, _⟩) (v := (.int .i64 (n1 : Int))) rfl (by kernel_rfl) (by kernel_rfl) (by kernel_rfl) (fun _ _ _ h => h) (Or.inl ⟨by kernel_rfl, fun w' hSw => ?_⟩) hS ?_
                · obtain ⟨s1, s2, s3⟩ := hSw
                  go_simp
                  all_goals first | rfl | (rw [IntKind.wrap_i64]; omega)
                simp only [Act.put, List.setIfInBounds_toArray, List.set_cons_zero, List.set_cons_succ]
                refine wpAnyH_take (i := 16) (oi := ⟨some 58, _, _, _, _, _⟩) (v := (.pointer (some ⟨ab, oo + n1, none⟩))) rfl (by kernel_rfl) (by kernel_rfl) (by kernel_rfl) (fun _ _ _ h => h) (Or.inl ⟨by kernel_rfl, fun w' hSw => ?_⟩) hS ?_
                · obtain ⟨s1, s2, s3⟩ := hSw
                  go_simp
                  all_goals first | rfl | (rw [IntKind.wrap_i64]; omega)
                simp only [Act.put, List.setIfInBounds_toArray, List.set_cons_zero, List.set_cons_succ]
                refine wpAnyH_take (i := 17) (oi := ⟨some 59, _, _, _, _, _⟩) (v := (.string y)) rfl (by kernel_rfl) (by kernel_rfl) (by kernel_rfl) (fun _ _ _ h => h) (Or.inl ⟨by kernel_rfl, fun w' hSw => ?_⟩) hS ?_
                · obtain ⟨s1, s2, s3⟩ := hSw
                  go_simp
                  all_goals first | rfl | (rw [IntKind.wrap_i64]; omega)
                simp only [Act.put, List.setIfInBounds_toArray, List.set_cons_zero, List.set_cons_succ]
                refine wpAnyH_take (i := 18) (oi := ⟨some 60, _, _, _, _, _⟩) (v := (.pointer (some ⟨N, 1, none⟩))) rfl (by kernel_rfl) (by kernel_rfl) (by kernel_rfl) (fun _ _ _ h => h) (Or.inl ⟨by kernel_rfl, fun w' hSw => ?_⟩) hS ?_
                · obtain ⟨s1, s2, s3⟩ := hSw
                  go_simp
                  all_goals first | rfl | (rw [IntKind.wrap_i64]; omega)
                simp only [Act.put, List.setIfInBounds_toArray, List.set_cons_zero, List.set_cons_succ]
                refine wpAnyH_take (i := 19) (oi := ⟨some 61, _, _, _, _, _⟩) (v := (.slice (some ⟨ab, oo, none⟩) u.2.length cr)) rfl (by kernel_rfl) (by kernel_rfl) (by kernel_rfl) (fun _ _ _ h => h) (Or.inl ⟨by kernel_rfl, fun w' hSw => ?_⟩) hS ?_
                · obtain ⟨s1, s2, s3⟩ := hSw
                  go_simp
                  all_goals first | rfl | (rw [IntKind.wrap_i64]; omega)
                simp only [Act.put, List.setIfInBounds_toArray, List.set_cons_zero, List.set_cons_succ]
                refine wpAnyH_take (i := 20) (oi := ⟨some 62, _, _, _, _, _⟩) (v := (.int .i64 (m : Int))) rfl (by kernel_rfl) (by kernel_rfl) (by kernel_rfl) (fun _ _ _ h => h) (Or.inl ⟨by kernel_rfl, fun w' hSw => ?_⟩) hS ?_
                · obtain ⟨s1, s2, s3⟩ := hSw
                  go_simp
                  all_goals first | rfl | (rw [IntKind.wrap_i64]; omega)
                simp only [Act.put, List.setIfInBounds_toArray, List.set_cons_zero, List.set_cons_succ]
                refine wpAnyH_take (i := 21) (oi := ⟨some 63, _, _, _, _, _⟩) (v := (.pointer (some ⟨ab, oo + m, none⟩))) rfl (by kernel_rfl) (by kernel_rfl) (by kernel_rfl) (fun _ _ _ h => h) (Or.inl ⟨by kernel_rfl, fun w' hSw => ?_⟩) hS ?_
                · obtain ⟨s1, s2, s3⟩ := hSw
                  go_simp
                  all_goals first | rfl | (rw [IntKind.wrap_i64]; omega)
                simp only [Act.put, List.setIfInBounds_toArray, List.set_cons_zero, List.set_cons_succ]
                refine wpAnyH_take (i := 22) (oi := ⟨some 64, _, _, _, _, _⟩) (v := (.string x)) rfl (by kernel_rfl) (by kernel_rfl) (by kernel_rfl) (fun _ _ _ h => h) (Or.inl ⟨by kernel_rfl, fun w' hSw => ?_⟩) hS ?_
                · obtain ⟨s1, s2, s3⟩ := hSw
                  go_simp
                  all_goals first | rfl | (rw [IntKind.wrap_i64]; omega)
                simp only [Act.put, List.setIfInBounds_toArray, List.set_cons_zero, List.set_cons_succ]
                refine wpAnyH_take (i := 23) (oi := ⟨some 65, _, _, _, _, _⟩) (v := (.bool true)) rfl (by kernel_rfl) (by kernel_rfl) (by kernel_rfl) (fun _ _ _ h => h) (Or.inl ⟨by kernel_rfl, fun w' hSw => ?_⟩) hS ?_
                · obtain ⟨s1, s2, s3⟩ := hSw
                  go_simp
                  all_goals first | rfl | (rw [IntKind.wrap_i64]; omega)
                simp only [Act.put, List.setIfInBounds_toArray, List.set_cons_zero, List.set_cons_succ]
                refine wpAnyH_take (i := 24) (oi := ⟨some 66, _, _, _, _, _⟩) (v := (.bool true)) rfl (by kernel_rfl) (by kernel_rfl) (by kernel_rfl) (fun _ _ _ h => h) (Or.inl ⟨by kernel_rfl, fun w' hSw => ?_⟩) hS ?_
                · obtain ⟨s1, s2, s3⟩ := hSw
                  go_simp
                  all_goals first | rfl | (rw [IntKind.wrap_i64]; omega)
                simp only [Act.put, List.setIfInBounds_toArray, List.set_cons_zero, List.set_cons_succ]
                refine wpAnyH_take (i := 25) (oi := ⟨some 67, _, _, _, _, _⟩) (v := (.bool true)) rfl (by kernel_rfl) (by kernel_rfl) (by kernel_rfl) (fun _ _ _ h => h) (Or.inl ⟨by kernel_rfl, fun w' hSw => ?_⟩) hS ?_
                · obtain ⟨s1, s2, s3⟩ := hSw
                  go_simp
                  all_goals first | rfl | (rw [IntKind.wrap_i64]; omega)
                simp only [Act.put, List.setIfInBounds_toArray, List.set_cons_zero, List.set_cons_succ]
                refine wpAnyH_done (by kernel_rfl) ?_ _
                go_wp2
                go_ret
                exact ⟨HD.out, grown_trans HG1.out (grown_drewN (grown_alloc HGX.out _) _)⟩
              · have HCM := Lib.hid hcmp
                have HMN := Lib.hid (asc_succ RoleOk u.2 x y m n1 hml HN1.out HXE.out HY.out HM.out HRX.out HCM.out)
                go_wp2
                refine wp_region_held_drew (S := fun w' => w'.cell? ⟨N, 1, none⟩ = some (.slice (some ⟨ab, oo, none⟩) u.2.length cr) ∧ w'.cell? ⟨ab, oo + m, none⟩ = some (.string x) ∧ w'.cell? ⟨ab, oo + n1, none⟩ = some (.string y)) (by kernel_rfl) HS0.out (fun hS => ?_)
                refine wpAnyH_take (i := 1) (oi := ⟨some 43, _, _, _, _, _⟩) (v := (.pointer (some ⟨N, 1, none⟩))) rfl (by kernel_rfl) (by kernel_rfl) (by kernel_rfl) (fun _ _ _ h => h) (Or.inl ⟨by kernel_rfl, fun w' hSw => ?_⟩) hS ?_
                · obtain ⟨s1, s2, s3⟩ := hSw
                  go_simp
                  all_goals first | rfl | (rw [IntKind.wrap_i64]; omega)
                simp only [Act.put, List.setIfInBounds_toArray, List.set_cons_zero, List.set_cons_succ]
                refine wpAnyH_take (i := 2) (oi := ⟨some 44, _, _, _, _, _⟩) (v := (.slice (some ⟨ab, oo, none⟩) u.2.length cr)) rfl (by kernel_rfl) (by kernel_rfl) (by kernel_rfl) (fun _ _ _ h => h) (Or.inl ⟨by kernel_rfl, fun w' hSw => ?_⟩) hS ?_
                · obtain ⟨s1, s2, s3⟩ := hSw
                  go_simp
                  all_goals first | rfl | (rw [IntKind.wrap_i64]; omega)
                simp only [Act.put, List.setIfInBounds_toArray, List.set_cons_zero, List.set_cons_succ]
                refine wpAnyH_take (i := 3) (oi := ⟨some 45, _, _, _, _, _⟩) (v := (.int .i64 (m : Int))) rfl (by kernel_rfl) (by kernel_rfl) (by kernel_rfl) (fun _ _ _ h => h) (Or.inl ⟨by kernel_rfl, fun w' hSw => ?_⟩) hS ?_
                · obtain ⟨s1, s2, s3⟩ := hSw
                  go_simp
                  all_goals first | rfl | (rw [IntKind.wrap_i64]; omega)
                simp only [Act.put, List.setIfInBounds_toArray, List.set_cons_zero, List.set_cons_succ]
                refine wpAnyH_take (i := 4) (oi := ⟨some 46, _, _, _, _, _⟩) (v := (.pointer (some ⟨ab, oo + m, none⟩))) rfl (by kernel_rfl) (by kernel_rfl) (by kernel_rfl) (fun _ _ _ h => h) (Or.inl ⟨by kernel_rfl, fun w' hSw => ?_⟩) hS ?_
                · obtain ⟨s1, s2, s3⟩ := hSw
                  go_simp
                  all_goals first | rfl | (rw [IntKind.wrap_i64]; omega)
                simp only [Act.put, List.setIfInBounds_toArray, List.set_cons_zero, List.set_cons_succ]
                refine wpAnyH_take (i := 5) (oi := ⟨some 47, _, _, _, _, _⟩) (v := (.string x)) rfl (by kernel_rfl) (by kernel_rfl) (by kernel_rfl) (fun _ _ _ h => h) (Or.inl ⟨by kernel_rfl, fun w' hSw => ?_⟩) hS ?_
                · obtain ⟨s1, s2, s3⟩ := hSw
                  go_simp
                  all_goals first | rfl | (rw [IntKind.wrap_i64]; omega)
                simp only [Act.put, List.setIfInBounds_toArray, List.set_cons_zero, List.set_cons_succ]
                refine wpAnyH_ready (rs := [0]) (by kernel_rfl) (by simp) ?_
                refine AllReadyH.cons (o := ⟨some 42, _, _, _, _, _⟩) rfl (fun K hK => ?_) AllReadyH.nil
                go_simp
                refine (roles_call _).mono ?_
                rintro e w' ⟨rfl, rfl⟩
                go_simp
                refine hK.out _ _ HS1.out (fun hS => ?_)
                clear hK
                refine wpAnyH_ready (rs := [6]) (by kernel_rfl) (by simp) ?_
                refine AllReadyH.cons (o := ⟨some 48, _, _, _, _, _⟩) rfl (fun K hK => ?_) AllReadyH.nil
                go_simp
                refine (HHS.out _ (by exact HRL.out)).mono ?_
                rintro e w' ⟨rfl, rfl⟩
                go_simp
                refine hK.out _ _ HS1.out (fun hS => ?_)
                clear hK
                refine wpAnyH_take (i := 7) (oi := ⟨some 49, _, _, _, _, _⟩) (v := (.bool false)) rfl (by kernel_rfl) (by kernel_rfl) (by kernel_rfl) (fun _ _ _ h => h) (Or.inl ⟨by kernel_rfl, fun w' hSw => ?_⟩) hS ?_
                · obtain ⟨s1, s2, s3⟩ := hSw
                  go_simp
                  all_goals first | rfl | (rw [IntKind.wrap_i64]; omega)
                simp only [Act.put, List.setIfInBounds_toArray, List.set_cons_zero, List.set_cons_succ]
                refine wpAnyH_take (i := 8) (oi := ⟨some 50, _, _, _, _, _⟩) (v := (.bool false)) rfl (by kernel_rfl) (by kernel_rfl) (by kernel_rfl) (fun _ _ _ h => h) (Or.inl ⟨by kernel_rfl, fun w' hSw => ?_⟩) hS ?_
                · obtain ⟨s1, s2, s3⟩ := hSw
                  go_simp
                  all_goals first | rfl | (rw [IntKind.wrap_i64]; omega)
                simp only [Act.put, List.setIfInBounds_toArray, List.set_cons_zero, List.set_cons_succ]
                refine wpAnyH_take (i := 9) (oi := ⟨some 51, _, _, _, _, _⟩) (v := (.int .i64 (m : Int))) rfl (by kernel_rfl) (by kernel_rfl) (by kernel_rfl) (fun _ _ _ h => h) (Or.inl ⟨by kernel_rfl, fun w' hSw => ?_⟩) hS ?_
                · obtain ⟨s1, s2, s3⟩ := hSw
                  go_simp
                  all_goals first | rfl | (rw [IntKind.wrap_i64]; omega)
                simp only [Act.put, List.setIfInBounds_toArray, List.set_cons_zero, List.set_cons_succ]
                refine wpAnyH_take (i := 10) (oi := ⟨some 52, _, _, _, _, _⟩) (v := (.bool true)) rfl (by kernel_rfl) (by kernel_rfl) (by kernel_rfl) (fun _ _ _ h => h) (Or.inl ⟨by kernel_rfl, fun w' hSw => ?_⟩) hS ?_
                · obtain ⟨s1, s2, s3⟩ := hSw
                  go_simp
                  all_goals first | rfl | (rw [IntKind.wrap_i64]; omega)
                simp only [Act.put, List.setIfInBounds_toArray, List.set_cons_zero, List.set_cons_succ]
                refine wpAnyH_take (i := 11) (oi := ⟨some 53, _, _, _, _, _⟩) (v := (.bool true)) rfl (by kernel_rfl) (by kernel_rfl) (by kernel_rfl) (fun _ _ _ h => h) (Or.inl ⟨by kernel_rfl, fun w' hSw => ?_⟩) hS ?_
                · obtain ⟨s1, s2, s3⟩ := hSw
                  go_simp
                  all_goals first | rfl | (rw [IntKind.wrap_i64]; omega)
                simp only [Act.put, List.setIfInBounds_toArray, List.set_cons_zero, List.set_cons_succ]
                refine wpAnyH_take (i := 12) (oi := ⟨some 54, _, _, _, _, _⟩) (v := (.pointer (some ⟨N, 1, none⟩))) rfl (by kernel_rfl) (by kernel_rfl) (by kernel_rfl) (fun _ _ _ h => h) (Or.inl ⟨by kernel_rfl, fun w' hSw => ?_⟩) hS ?_
                · obtain ⟨s1, s2, s3⟩ := hSw
                  go_simp
                  all_goals first | rfl | (rw [IntKind.wrap_i64]; omega)
                simp only [Act.put, List.setIfInBounds_toArray, List.set_cons_zero, List.set_cons_succ]
                refine wpAnyH_take (i := 13) (oi := ⟨some 55, _, _, _, _, _⟩) (v := (.slice (some ⟨ab, oo, none⟩) u.2.length cr)) rfl (by kernel_rfl) (by kernel_rfl) (by kernel_rfl) (fun _ _ _ h => h) (Or.inl ⟨by kernel_rfl, fun w' hSw => ?_⟩) hS ?_
                · obtain ⟨s1, s2, s3⟩ := hSw
                  go_simp
                  all_goals first | rfl | (rw [IntKind.wrap_i64]; omega)
                simp only [Act.put, List.setIfInBounds_toArray, List.set_cons_zero, List.set_cons_succ]
                refine wpAnyH_take (i := 14) (oi := ⟨some 56, _, _, _, _, _⟩) (v := (.int .i64 (m : Int))) rfl (by kernel_rfl) (by kernel_rfl) (by kernel_rfl) (fun _ _ _ h => h) (Or.inl ⟨by kernel_rfl, fun w' hSw => ?_⟩) hS ?_
                · obtain ⟨s1, s2, s3⟩ := hSw
                  go_simp
                  all_goals first | rfl | (rw [IntKind.wrap_i64]; omega)
                simp only [Act.put, List.setIfInBounds_toArray, List.set_cons_zero, List.set_cons_succ]
                refine wpAnyH_take (i := 15) (oi := ⟨some 57, _, _, _, _, _⟩) (v := (.int .i64 (n1 : Int))) rfl (by kernel_rfl) (by kernel_rfl) (by kernel_rfl) (fun _ _ _ h => h) (Or.inl ⟨by kernel_rfl, fun w' hSw => ?_⟩) hS ?_
                · obtain ⟨s1, s2, s3⟩ := hSw
                  go_simp
                  all_goals first | rfl | (rw [IntKind.wrap_i64]; omega)
                simp only [Act.put, List.setIfInBounds_toArray, List.set_cons_zero, List.set_cons_succ]
                refine wpAnyH_take (i := 16) (oi := ⟨some 58, _, _, _, _, _⟩) (v := (.pointer (some ⟨ab, oo + n1, none⟩))) rfl (by kernel_rfl) (by kernel_rfl) (by kernel_rfl) (fun _ _ _ h => h) (Or.inl ⟨by kernel_rfl, fun w' hSw => ?_⟩) hS ?_
                · obtain ⟨s1, s2, s3⟩ := hSw
                  go_simp
                  all_goals first | rfl | (rw [IntKind.wrap_i64]; omega)
                simp only [Act.put, List.setIfInBounds_toArray, List.set_cons_zero, List.set_cons_succ]
                refine wpAnyH_take (i := 17) (oi := ⟨some 59, _, _, _, _, _⟩) (v := (.string y)) rfl (by kernel_rfl) (by kernel_rfl) (by kernel_rfl) (fun _ _ _ h => h) (Or.inl ⟨by kernel_rfl, fun w' hSw => ?_⟩) hS ?_
                · obtain ⟨s1, s2, s3⟩ := hSw
                  go_simp
                  all_goals first | rfl | (rw [IntKind.wrap_i64]; omega)
                simp only [Act.put, List.setIfInBounds_toArray, List.set_cons_zero, List.set_cons_succ]
                refine wpAnyH_take (i := 18) (oi := ⟨some 60, _, _, _, _, _⟩) (v := (.pointer (some ⟨N, 1, none⟩))) rfl (by kernel_rfl) (by kernel_rfl) (by kernel_rfl) (fun _ _ _ h => h) (Or.inl ⟨by kernel_rfl, fun w' hSw => ?_⟩) hS ?_
                · obtain ⟨s1, s2, s3⟩ := hSw
                  go_simp
                  all_goals first | rfl | (rw [IntKind.wrap_i64]; omega)
                simp only [Act.put, List.setIfInBounds_toArray, List.set_cons_zero, List.set_cons_succ]
                refine wpAnyH_take (i := 19) (oi := ⟨some 61, _, _, _, _, _⟩) (v := (.slice (some ⟨ab, oo, none⟩) u.2.length cr)) rfl (by kernel_rfl) (by kernel_rfl) (by kernel_rfl) (fun _ _ _ h => h) (Or.inl ⟨by kernel_rfl, fun w' hSw => ?_⟩) hS ?_
                · obtain ⟨s1, s2, s3⟩ := hSw
                  go_simp
                  all_goals first | rfl | (rw [IntKind.wrap_i64]; omega)
                simp only [Act.put, List.setIfInBounds_toArray, List.set_cons_zero, List.set_cons_succ]
                refine wpAnyH_take (i := 20) (oi := ⟨some 62, _, _, _, _, _⟩) (v := (.int .i64 (m : Int))) rfl (by kernel_rfl) (by kernel_rfl) (by kernel_rfl) (fun _ _ _ h => h) (Or.inl ⟨by kernel_rfl, fun w' hSw => ?_⟩) hS ?_
                · obtain ⟨s1, s2, s3⟩ := hSw
                  go_simp
                  all_goals first | rfl | (rw [IntKind.wrap_i64]; omega)
                simp only [Act.put, List.setIfInBounds_toArray, List.set_cons_zero, List.set_cons_succ]
                refine wpAnyH_take (i := 21) (oi := ⟨some 63, _, _, _, _, _⟩) (v := (.pointer (some ⟨ab, oo + m, none⟩))) rfl (by kernel_rfl) (by kernel_rfl) (by kernel_rfl) (fun _ _ _ h => h) (Or.inl ⟨by kernel_rfl, fun w' hSw => ?_⟩) hS ?_
                · obtain ⟨s1, s2, s3⟩ := hSw
                  go_simp
                  all_goals first | rfl | (rw [IntKind.wrap_i64]; omega)
                simp only [Act.put, List.setIfInBounds_toArray, List.set_cons_zero, List.set_cons_succ]
                refine wpAnyH_take (i := 22) (oi := ⟨some 64, _, _, _, _, _⟩) (v := (.string x)) rfl (by kernel_rfl) (by kernel_rfl) (by kernel_rfl) (fun _ _ _ h => h) (Or.inl ⟨by kernel_rfl, fun w' hSw => ?_⟩) hS ?_
                · obtain ⟨s1, s2, s3⟩ := hSw
                  go_simp
                  all_goals first | rfl | (rw [IntKind.wrap_i64]; omega)
                simp only [Act.put, List.setIfInBounds_toArray, List.set_cons_zero, List.set_cons_succ]
                refine wpAnyH_take (i := 23) (oi := ⟨some 65, _, _, _, _, _⟩) (v := (.bool false)) rfl (by kernel_rfl) (by kernel_rfl) (by kernel_rfl) (fun _ _ _ h => h) (Or.inl ⟨by kernel_rfl, fun w' hSw => ?_⟩) hS ?_
                · obtain ⟨s1, s2, s3⟩ := hSw
                  go_simp
                  all_goals first | rfl | (rw [IntKind.wrap_i64]; omega)
                simp only [Act.put, List.setIfInBounds_toArray, List.set_cons_zero, List.set_cons_succ]
                refine wpAnyH_take (i := 24) (oi := ⟨some 66, _, _, _, _, _⟩) (v := (.bool false)) rfl (by kernel_rfl) (by kernel_rfl) (by kernel_rfl) (fun _ _ _ h => h) (Or.inl ⟨by kernel_rfl, fun w' hSw => ?_⟩) hS ?_
                · obtain ⟨s1, s2, s3⟩ := hSw
                  go_simp
                  all_goals first | rfl | (rw [IntKind.wrap_i64]; omega)
                simp only [Act.put, List.setIfInBounds_toArray, List.set_cons_zero, List.set_cons_succ]
                refine wpAnyH_take (i := 25) (oi := ⟨some 67, _, _, _, _, _⟩) (v := (.bool false)) rfl (by kernel_rfl) (by kernel_rfl) (by kernel_rfl) (fun _ _ _ h => h) (Or.inl ⟨by kernel_rfl, fun w' hSw => ?_⟩) hS ?_
                · obtain ⟨s1, s2, s3⟩ := hSw
                  go_simp
                  all_goals first | rfl | (rw [IntKind.wrap_i64]; omega)
                simp only [Act.put, List.setIfInBounds_toArray, List.set_cons_zero, List.set_cons_succ]
                refine wpAnyH_done (by kernel_rfl) ?_ _
                go_wp2
                go_roundw
                case rel => exact ⟨m + 1, by omega, by go_num, HMN, grown_drewN (grown_alloc HGX.out _) _⟩
                case measure => simp [intOf]; omega
          · obtain rfl : m = u.2.length := by omega
            have HRO := Lib.hid (show AscBy RoleOk u.2 from by have := HM.out; rwa [List.take_length] at this)
            go_wp2
            go_roundw
            case rel =>
              refine ⟨k + 1, by omega, by go_num, HAN, Lib.hid (fun j h hj => ?_), grown_trans HG1.out HGX.out⟩
              by_cases e : j = k
              · subst e; rw [HU.out]; exact HRO.out
              · exact HA.out j h (by omega)
            case measure => simp [intOf]; omega
      obtain ⟨j, hj⟩ : ∃ j, k = j + 1 := ⟨k - 1, by omega⟩
      have HJ := Lib.hid hj
      obtain ⟨ar0, cr0, ht0⟩ := hc j (by omega)
      have g0 := HG.out.cell ht0.1 (by simp)
      obtain ⟨v, hv⟩ : ∃ v, v = us[j].1 := ⟨_, rfl⟩
      rw [← hv] at g0
      have HV := Lib.hid (show v = (us.map (·.1)).getD j ByteArray.empty from by rw [hv]; simp [show j < us.length from by omega])
      have g0r : (wr.alloc (Obj.cells #[Value.string u.1, .slice ar u.2.length cr] 70)).cell? ⟨b, o + j * 2, none⟩ = some (.string v) := (show wr.grownBy (wr.alloc (Obj.cells #[Value.string u.1, .slice ar u.2.length cr] 70)) none from grown_alloc (grown_refl _ _) _).cell g0 (by simp)
      have hj1 : (k : Int) - 1 = (j : Int) := by omega
      have hjI : (j : Int) < us.length := by omega
      have hkp : (0 : Int) < k := by omega
      have hkq : 0 < k := by omega
      clear hj hk0 hv hc ht ht0
      cases hcmp : Op.bytesLess v.toList u.1.toList
      · have HCM := Lib.hid hcmp
        have HD := Lib.hid (show Says (.returned (.bool false)) p from by rw [HPP.out]; exact .no (fun h => by have h2 := (h.2.2 k (by simpa using hlt)).2 (by omega); rw [HNK.out, show k - 1 = j from by have := HJ.out; omega, ← HV.out, HCM.out] at h2; cases h2))
        go_wp2
        go_quiet ((go_at_call 53; exact Calls.quiet_of_same (HCL.out _)))
        go_wp2
        go_ret
        exact ⟨HD.out, grown_drewN (grown_alloc HG.out _) _⟩
      · have HCM := Lib.hid hcmp
        have HAN := Lib.hid (asc_succ NameOk (us.map (·.1)) u.1 v k j (by simpa using hlt) HJ.out HNK.out HV.out HN.out HQ.out HCM.out)
        go_wp2
        go_quiet ((go_at_call 53; exact Calls.quiet_of_same (HCL.out _)))
        obtain ⟨W1, hW1⟩ : ∃ W1, W1 = (wr.alloc (Obj.cells #[Value.string u.1, .slice ar u.2.length cr] 70)).drewN nq := ⟨_, rfl⟩
        have HG1 := Lib.hid (show w.grownBy W1 none from by rw [hW1]; exact grown_drewN (grown_alloc HG.out _) _)
        have HB1 := Lib.hid (show Blk W1 wr.heap.size 70 [Value.string u.1, .slice ar u.2.length cr] from by rw [hW1]; exact (Blk.new wr 70 _).drewN _)
        have HL1 := Lib.hid (show Lies W1 base ar u.2 from by rw [hW1]; exact HLS.out.kept (grown_drewN (grown_alloc (grown_refl _ none) _) _) (fun q e => by cases e))
        rw [← hW1]
        clear hW1 d0 d1 HCL HLS
        generalize wr.heap.size = N at HB1 ⊢
        go_wp2
        go_loopw [5] (fun i wx => ∃ m : Nat, m ≤ u.2.length ∧ i = .int .i64 m ∧ Hid (AscBy RoleOk (u.2.take m)) ∧ W1.grownBy wx none) (fun i _ => u.2.length - (intOf i).toNat)
        case atStart => exact ⟨0, Nat.zero_le _, rfl, Lib.hid (fun i h => by simp at h), grown_refl _ _⟩
        case round =>
          obtain ⟨m, hm, rfl, HM, hgx⟩ := hrel
          have HGX := Lib.hid hgx
          have c1 : wr.cell? ⟨N, 1, none⟩ = some (.slice ar u.2.length cr) := (HB1.out.kept hgx (by simp)).cell rfl
          have HLX := Lib.hid (HL1.out.kept hgx (fun q e => by cases e))
          clear hgx
          by_cases hml : m < u.2.length
          · rcases HLX.out with h0 | ⟨ab, oo, rfl, -, hcc⟩
            · omega
            obtain ⟨x, hx⟩ : ∃ x, x = u.2.getD m ByteArray.empty := ⟨_, rfl⟩
            have hge : u.2[m] = x := by rw [hx]; simp [hml]
            have e0 := hcc m hml
            rw [← hx] at e0
            have HXE := Lib.hid hge
            have hmI : (m : Int) < u.2.length := by omega
            have HGR := Lib.hid (show wr.grownBy (wr.alloc rolesObj) none from grown_alloc (grown_refl _ _) _)
            have c1r : (wr.alloc rolesObj).cell? ⟨N, 1, none⟩ = some (.slice (some ⟨ab, oo, none⟩) u.2.length cr) := HGR.out.cell c1 (by simp)
            have e0r : (wr.alloc rolesObj).cell? ⟨ab, oo + m, none⟩ = some (.string x) := HGR.out.cell e0 (by simp)
            have HRL := Lib.hid (roles_lies wr)
            have HHS0 := Lib.hid (fun (W : World) (hW : Lies W wr.heap.size (some ⟨wr.heap.size, 0, none⟩) roles4) => has_any W wr.heap.size roles4 _ 4 hW (by decide) x)
            clear hx hge
            by_cases hR : RoleOk x
            case neg =>
              have HHS := Lib.hid (fun W hW => (HHS0.out W hW).mono (R' := fun e w' => e = .returned (.bool false) ∧ w' = W) (fun e w' h => ⟨h.1.is_no hR, h.2⟩))
              have HD := Lib.hid (show Says (.returned (.bool false)) p from by rw [HPP.out]; exact .no (fun h => hR (by have h1 := h.2.1 k hlt; rw [HU.out] at h1; have h2 := (h1 m hml).1; rwa [HXE.out] at h2)))
              have HS0 := Lib.hid (show wr.drew.cell? ⟨N, 1, none⟩ = some (.slice (some ⟨ab, oo, none⟩) u.2.length cr) ∧ wr.drew.cell? ⟨ab, oo + m, none⟩ = some (.string x) ∧ True from ⟨c1, e0, trivial⟩)
              have HS1 := Lib.hid (show (wr.alloc rolesObj).drew.cell? ⟨N, 1, none⟩ = some (.slice (some ⟨ab, oo, none⟩) u.2.length cr) ∧ (wr.alloc rolesObj).drew.cell? ⟨ab, oo + m, none⟩ = some (.string x) ∧ True from ⟨c1r, e0r, trivial⟩)
              clear hR HHS0 hcc
              go_wp2
              refine wp_region_held_drew (S := fun w' => w'.cell? ⟨N, 1, none⟩ = some (.slice (some ⟨ab, oo, none⟩) u.2.length cr) ∧ w'.cell? ⟨ab, oo + m, none⟩ = some (.string x) ∧ True) (by kernel_rfl) HS0.out (fun hS => ?_)
              refine wpAnyH_take (i := 1) (oi := ⟨some 43, _, _, _, _, _⟩) (v := (.pointer (some ⟨N, 1, none⟩))) rfl (by kernel_rfl) (by kernel_rfl) (by kernel_rfl) (fun _ _ _ h => h) (Or.inl ⟨by kernel_rfl, fun w' hSw => ?_⟩) hS ?_
              · obtain ⟨s1, s2, s3⟩ := hSw
                go_simp
                all_goals first | rfl | (rw [IntKind.wrap_i64]; omega)
              simp only [Act.put, List.setIfInBounds_toArray, List.set_cons_zero, List.set_cons_succ]
              refine wpAnyH_take (i := 2) (oi := ⟨some 44, _, _, _, _, _⟩) (v := (.slice (some ⟨ab, oo, none⟩) u.2.length cr)) rfl (by kernel_rfl) (by kernel_rfl) (by kernel_rfl) (fun _ _ _ h => h) (Or.inl ⟨by kernel_rfl, fun w' hSw => ?_⟩) hS ?_
              · obtain ⟨s1, s2, s3⟩ := hSw
                go_simp
                all_goals first | rfl | (rw [IntKind.wrap_i64]; omega)
              simp only [Act.put, List.setIfInBounds_toArray, List.set_cons_zero, List.set_cons_succ]
              refine wpAnyH_take (i := 3) (oi := ⟨some 45, _, _, _, _, _⟩) (v := (.int .i64 (m : Int))) rfl (by kernel_rfl) (by kernel_rfl) (by kernel_rfl) (fun _ _ _ h => h) (Or.inl ⟨by kernel_rfl, fun w' hSw => ?_⟩) hS ?_
              · obtain ⟨s1, s2, s3⟩ := hSw
                go_simp
                all_goals first | rfl | (rw [IntKind.wrap_i64]; omega)
              simp only [Act.put, List.setIfInBounds_toArray, List.set_cons_zero, List.set_cons_succ]
              refine wpAnyH_take (i := 4) (oi := ⟨some 46, _, _, _, _, _⟩) (v := (.pointer (some ⟨ab, oo + m, none⟩))) rfl (by kernel_rfl) (by kernel_rfl) (by kernel_rfl) (fun _ _ _ h => h) (Or.inl ⟨by kernel_rfl, fun w' hSw => ?_⟩) hS ?_
              · obtain ⟨s1, s2, s3⟩ := hSw
                go_simp
                all_goals first | rfl | (rw [IntKind.wrap_i64]; omega)
              simp only [Act.put, List.setIfInBounds_toArray, List.set_cons_zero, List.set_cons_succ]
              refine wpAnyH_take (i := 5) (oi := ⟨some 47, _, _, _, _, _⟩) (v := (.string x)) rfl (by kernel_rfl) (by kernel_rfl) (by kernel_rfl) (fun _ _ _ h => h) (Or.inl ⟨by kernel_rfl, fun w' hSw => ?_⟩) hS ?_
              · obtain ⟨s1, s2, s3⟩ := hSw
                go_simp
                all_goals first | rfl | (rw [IntKind.wrap_i64]; omega)
              simp only [Act.put, List.setIfInBounds_toArray, List.set_cons_zero, List.set_cons_succ]
              refine wpAnyH_ready (rs := [0]) (by kernel_rfl) (by simp) ?_
              refine AllReadyH.cons (o := ⟨some 42, _, _, _, _, _⟩) rfl (fun K hK => ?_) AllReadyH.nil
              go_simp
              refine (roles_call _).mono ?_
              rintro e w' ⟨rfl, rfl⟩
              go_simp
              refine hK.out _ _ HS1.out (fun hS => ?_)
              clear hK
              refine wpAnyH_ready (rs := [6]) (by kernel_rfl) (by simp) ?_
              refine AllReadyH.cons (o := ⟨some 48, _, _, _, _, _⟩) rfl (fun K hK => ?_) AllReadyH.nil
              go_simp
              refine (HHS.out _ (by exact HRL.out)).mono ?_
              rintro e w' ⟨rfl, rfl⟩
              go_simp
              refine hK.out _ _ HS1.out (fun hS => ?_)
              clear hK
              refine wpAnyH_take (i := 7) (oi := ⟨some 49, _, _, _, _, _⟩) (v := (.bool true)) rfl (by kernel_rfl) (by kernel_rfl) (by kernel_rfl) (fun _ _ _ h => h) (Or.inl ⟨by kernel_rfl, fun w' hSw => ?_⟩) hS ?_
              · obtain ⟨s1, s2, s3⟩ := hSw
                go_simp
                all_goals first | rfl | (rw [IntKind.wrap_i64]; omega)
              simp only [Act.put, List.setIfInBounds_toArray, List.set_cons_zero, List.set_cons_succ]
              refine wpAnyH_take (i := 8) (oi := ⟨some 50, _, _, _, _, _⟩) (v := (.bool true)) rfl (by kernel_rfl) (by kernel_rfl) (by kernel_rfl) (fun _ _ _ h => h) (Or.inl ⟨by kernel_rfl, fun w' hSw => ?_⟩) hS ?_
              · obtain ⟨s1, s2, s3⟩ := hSw
                go_simp
                all_goals first | rfl | (rw [IntKind.wrap_i64]; omega)
              simp only [Act.put, List.setIfInBounds_toArray, List.set_cons_zero, List.set_cons_succ]
              refine wpAnyH_take (i := 9) (oi := ⟨some 51, _, _, _, _, _⟩) (v := undef) rfl (by kernel_rfl) (by kernel_rfl) (by kernel_rfl) (fun _ _ _ h => h) (Or.inr ⟨by kernel_rfl, rfl⟩) hS ?_
              simp only [Act.put, List.setIfInBounds_toArray, List.set_cons_zero, List.set_cons_succ]
              refine wpAnyH_take (i := 10) (oi := ⟨some 52, _, _, _, _, _⟩) (v := undef) rfl (by kernel_rfl) (by kernel_rfl) (by kernel_rfl) (fun _ _ _ h => h) (Or.inr ⟨by kernel_rfl, rfl⟩) hS ?_
              simp only [Act.put, List.setIfInBounds_toArray, List.set_cons_zero, List.set_cons_succ]
              refine wpAnyH_take (i := 11) (oi := ⟨some 53, _, _, _, _, _⟩) (v := undef) rfl (by kernel_rfl) (by kernel_rfl) (by kernel_rfl) (fun _ _ _ h => h) (Or.inr ⟨by kernel_rfl, rfl⟩) hS ?_
              simp only [Act.put, List.setIfInBounds_toArray, List.set_cons_zero, List.set_cons_succ]
              refine wpAnyH_take (i := 12) (oi := ⟨some 54, _, _, _, _, _⟩) (v := undef) rfl (by kernel_rfl) (by kernel_rfl) (by kernel_rfl) (fun _ _ _ h => h) (Or.inr ⟨by kernel_rfl, rfl⟩) hS ?_
              simp only [Act.put, List.setIfInBounds_toArray, List.set_cons_zero, List.set_cons_succ]
              refine wpAnyH_take (i := 13) (oi := ⟨some 55, _, _, _, _, _⟩) (v := undef) rfl (by kernel_rfl) (by kernel_rfl) (by kernel_rfl) (fun _ _ _ h => h) (Or.inr ⟨by kernel_rfl, rfl⟩) hS ?_
              simp only [Act.put, List.setIfInBounds_toArray, List.set_cons_zero, List.set_cons_succ]
              refine wpAnyH_take (i := 14) (oi := ⟨some 56, _, _, _, _, _⟩) (v := undef) rfl (by kernel_rfl) (by kernel_rfl) (by kernel_rfl) (fun _ _ _ h => h) (Or.inr ⟨by kernel_rfl, rfl⟩) hS ?_
              simp only [Act.put, List.setIfInBounds_toArray, List.set_cons_zero, List.set_cons_succ]
              refine wpAnyH_take (i := 15) (oi := ⟨some 57, _, _, _, _, _⟩) (v := undef) rfl (by kernel_rfl) (by kernel_rfl) (by kernel_rfl) (fun _ _ _ h => h) (Or.inr ⟨by kernel_rfl, rfl⟩) hS ?_
              simp only [Act.put, List.setIfInBounds_toArray, List.set_cons_zero, List.set_cons_succ]
              refine wpAnyH_take (i := 16) (oi := ⟨some 58, _, _, _, _, _⟩) (v := undef) rfl (by kernel_rfl) (by kernel_rfl) (by kernel_rfl) (fun _ _ _ h => h) (Or.inr ⟨by kernel_rfl, rfl⟩) hS ?_
              simp only [Act.put, List.setIfInBounds_toArray, List.set_cons_zero, List.set_cons_succ]
              refine wpAnyH_take (i := 17) (oi := ⟨some 59, _, _, _, _, _⟩) (v := undef) rfl (by kernel_rfl) (by kernel_rfl) (by kernel_rfl) (fun _ _ _ h => h) (Or.inr ⟨by kernel_rfl, rfl⟩) hS ?_
              simp only [Act.put, List.setIfInBounds_toArray, List.set_cons_zero, List.set_cons_succ]
              refine wpAnyH_take (i := 18) (oi := ⟨some 60, _, _, _, _, _⟩) (v := undef) rfl (by kernel_rfl) (by kernel_rfl) (by kernel_rfl) (fun _ _ _ h => h) (Or.inr ⟨by kernel_rfl, rfl⟩) hS ?_
              simp only [Act.put, List.setIfInBounds_toArray, List.set_cons_zero, List.set_cons_succ]
              refine wpAnyH_take (i := 19) (oi := ⟨some 61, _, _, _, _, _⟩) (v := undef) rfl (by kernel_rfl) (by kernel_rfl) (by kernel_rfl) (fun _ _ _ h => h) (Or.inr ⟨by kernel_rfl, rfl⟩) hS ?_
              simp only [Act.put, List.setIfInBounds_toArray, List.set_cons_zero, List.set_cons_succ]
              refine wpAnyH_take (i := 20) (oi := ⟨some 62, _, _, _, _, _⟩) (v := undef) rfl (by kernel_rfl) (by kernel_rfl) (by kernel_rfl) (fun _ _ _ h => h) (Or.inr ⟨by kernel_rfl, rfl⟩) hS ?_
              simp only [Act.put, List.setIfInBounds_toArray, List.set_cons_zero, List.set_cons_succ]
              refine wpAnyH_take (i := 21) (oi := ⟨some 63, _, _, _, _, _⟩) (v := undef) rfl (by kernel_rfl) (by kernel_rfl) (by kernel_rfl) (fun _ _ _ h => h) (Or.inr ⟨by kernel_rfl, rfl⟩) hS ?_
              simp only [Act.put, List.setIfInBounds_toArray, List.set_cons_zero, List.set_cons_succ]
              refine wpAnyH_take (i := 22) (oi := ⟨some 64, _, _, _, _, _⟩) (v := undef) rfl (by kernel_rfl) (by kernel_rfl) (by kernel_rfl) (fun _ _ _ h => h) (Or.inr ⟨by kernel_rfl, rfl⟩) hS ?_
              simp only [Act.put, List.setIfInBounds_toArray, List.set_cons_zero, List.set_cons_succ]
              refine wpAnyH_take (i := 23) (oi := ⟨some 65, _, _, _, _, _⟩) (v := undef) rfl (by kernel_rfl) (by kernel_rfl) (by kernel_rfl) (fun _ _ _ h => h) (Or.inr ⟨by kernel_rfl, rfl⟩) hS ?_
              simp only [Act.put, List.setIfInBounds_toArray, List.set_cons_zero, List.set_cons_succ]
              refine wpAnyH_take (i := 24) (oi := ⟨some 66, _, _, _, _, _⟩) (v := undef) rfl (by kernel_rfl) (by kernel_rfl) (by kernel_rfl) (fun _ _ _ h => h) (Or.inr ⟨by kernel_rfl, rfl⟩) hS ?_
              simp only [Act.put, List.setIfInBounds_toArray, List.set_cons_zero, List.set_cons_succ]
              refine wpAnyH_take (i := 25) (oi := ⟨some 67, _, _, _, _, _⟩) (v := (.bool true)) rfl (by kernel_rfl) (by kernel_rfl) (by kernel_rfl) (fun _ _ _ h => h) (Or.inl ⟨by kernel_rfl, fun w' hSw => ?_⟩) hS ?_
              · obtain ⟨s1, s2, s3⟩ := hSw
                go_simp
                all_goals first | rfl | (rw [IntKind.wrap_i64]; omega)
              simp only [Act.put, List.setIfInBounds_toArray, List.set_cons_zero, List.set_cons_succ]
              refine wpAnyH_done (by kernel_rfl) ?_ _
              go_wp2
              go_ret
              exact ⟨HD.out, grown_trans HG1.out (grown_drewN (grown_alloc HGX.out _) _)⟩
            have HHS := Lib.hid (fun W hW => (HHS0.out W hW).mono (R' := fun e w' => e = .returned (.bool true) ∧ w' = W) (fun e w' h => ⟨h.1.is_yes hR, h.2⟩))
            have HRX := Lib.hid hR
            clear hR HHS0
            by_cases hm0 : m = 0
            · have hmn : ¬ (0 : Int) < m := by omega
              have hmd : decide ((0 : Int) < (m : Int)) = false := decide_eq_false hmn
              have hmm : ¬ 0 < m := by omega
              have hmm2 : decide (0 < m) = false := decide_eq_false hmm
              have HMN := Lib.hid (show AscBy RoleOk (u.2.take (m + 1)) from by
                subst hm0
                exact asc_zero RoleOk _ x hml HXE.out HRX.out)
              have HS0 := Lib.hid (show wr.drew.cell? ⟨N, 1, none⟩ = some (.slice (some ⟨ab, oo, none⟩) u.2.length cr) ∧ wr.drew.cell? ⟨ab, oo + m, none⟩ = some (.string x) ∧ True from ⟨c1, e0, trivial⟩)
              have HS1 := Lib.hid (show (wr.alloc rolesObj).drew.cell? ⟨N, 1, none⟩ = some (.slice (some ⟨ab, oo, none⟩) u.2.length cr) ∧ (wr.alloc rolesObj).drew.cell? ⟨ab, oo + m, none⟩ = some (.string x) ∧ True from ⟨c1r, e0r, trivial⟩)
              clear hm0 hcc
              go_wp2
              refine wp_region_held_drew (S := fun w' => w'.cell? ⟨N, 1, none⟩ = some (.slice (some ⟨ab, oo, none⟩) u.2.length cr) ∧ w'.cell? ⟨ab, oo + m, none⟩ = some (.string x) ∧ True) (by kernel_rfl) HS0.out (fun hS => ?_)
              refine wpAnyH_take (i := 1) (oi := ⟨some 43, _, _, _, _, _⟩) (v := (.pointer (some ⟨N, 1, none⟩))) rfl (by kernel_rfl) (by kernel_rfl) (by kernel_rfl) (fun _ _ _ h => h) (Or.inl ⟨by kernel_rfl, fun w' hSw => ?_⟩) hS ?_
              · obtain ⟨s1, s2, s3⟩ := hSw
                go_simp
                all_goals first | rfl | (rw [IntKind.wrap_i64]; omega)
              simp only [Act.put, List.setIfInBounds_toArray, List.set_cons_zero, List.set_cons_succ]
              refine wpAnyH_take (i := 2) (oi := ⟨some 44, _, _, _, _, _⟩) (v := (.slice (some ⟨ab, oo, none⟩) u.2.length cr)) rfl (by kernel_rfl) (by kernel_rfl) (by kernel_rfl) (fun _ _ _ h => h) (Or.inl ⟨by kernel_rfl, fun w' hSw => ?_⟩) hS ?_
              · obtain ⟨s1, s2, s3⟩ := hSw
                go_simp
                all_goals first | rfl | (rw [IntKind.wrap_i64]; omega)
              simp only [Act.put, List.setIfInBounds_toArray, List.set_cons_zero, List.set_cons_succ]
              refine wpAnyH_take (i := 3) (oi := ⟨some 45, _, _, _, _, _⟩) (v := (.int .i64 (m : Int))) rfl (by kernel_rfl) (by kernel_rfl) (by kernel_rfl) (fun _ _ _ h => h) (Or.inl ⟨by kernel_rfl, fun w' hSw => ?_⟩) hS ?_
              · obtain ⟨s1, s2, s3⟩ := hSw
                go_simp
                all_goals first | rfl | (rw [IntKind.wrap_i64]; omega)
              simp only [Act.put, List.setIfInBounds_toArray, List.set_cons_zero, List.set_cons_succ]
              refine wpAnyH_take (i := 4) (oi := ⟨some 46, _, _, _, _, _⟩) (v := (.pointer (some ⟨ab, oo + m, none⟩))) rfl (by kernel_rfl) (by kernel_rfl) (by kernel_rfl) (fun _ _ _ h => h) (Or.inl ⟨by kernel_rfl, fun w' hSw => ?_⟩) hS ?_
              · obtain ⟨s1, s2, s3⟩ := hSw
                go_simp
                all_goals first | rfl | (rw [IntKind.wrap_i64]; omega)
              simp only [Act.put, List.setIfInBounds_toArray, List.set_cons_zero, List.set_cons_succ]
              refine wpAnyH_take (i := 5) (oi := ⟨some 47, _, _, _, _, _⟩) (v := (.string x)) rfl (by kernel_rfl) (by kernel_rfl) (by kernel_rfl) (fun _ _ _ h => h) (Or.inl ⟨by kernel_rfl, fun w' hSw => ?_⟩) hS ?_
              · obtain ⟨s1, s2, s3⟩ := hSw
                go_simp
                all_goals first | rfl | (rw [IntKind.wrap_i64]; omega)
              simp only [Act.put, List.setIfInBounds_toArray, List.set_cons_zero, List.set_cons_succ]
              refine wpAnyH_ready (rs := [0]) (by kernel_rfl) (by simp) ?_
              refine AllReadyH.cons (o := ⟨some 42, _, _, _, _, _⟩) rfl (fun K hK => ?_) AllReadyH.nil
              go_simp
              refine (roles_call _).mono ?_
              rintro e w' ⟨rfl, rfl⟩
              go_simp
              refine hK.out _ _ HS1.out (fun hS => ?_)
              clear hK
              refine wpAnyH_ready (rs := [6]) (by kernel_rfl) (by simp) ?_
              refine AllReadyH.cons (o := ⟨some 48, _, _, _, _, _⟩) rfl (fun K hK => ?_) AllReadyH.nil
              go_simp
              refine (HHS.out _ (by exact HRL.out)).mono ?_
              rintro e w' ⟨rfl, rfl⟩
              go_simp
              refine hK.out _ _ HS1.out (fun hS => ?_)
              clear hK
              refine wpAnyH_take (i := 7) (oi := ⟨some 49, _, _, _, _, _⟩) (v := (.bool false)) rfl (by kernel_rfl) (by kernel_rfl) (by kernel_rfl) (fun _ _ _ h => h) (Or.inl ⟨by kernel_rfl, fun w' hSw => ?_⟩) hS ?_
              · obtain ⟨s1, s2, s3⟩ := hSw
                go_simp
                all_goals first | rfl | (rw [IntKind.wrap_i64]; omega)
              simp only [Act.put, List.setIfInBounds_toArray, List.set_cons_zero, List.set_cons_succ]
              refine wpAnyH_take (i := 8) (oi := ⟨some 50, _, _, _, _, _⟩) (v := (.bool false)) rfl (by kernel_rfl) (by kernel_rfl) (by kernel_rfl) (fun _ _ _ h => h) (Or.inl ⟨by kernel_rfl, fun w' hSw => ?_⟩) hS ?_
              · obtain ⟨s1, s2, s3⟩ := hSw
                go_simp
                all_goals first | rfl | (rw [IntKind.wrap_i64]; omega)
              simp only [Act.put, List.setIfInBounds_toArray, List.set_cons_zero, List.set_cons_succ]
              refine wpAnyH_take (i := 9) (oi := ⟨some 51, _, _, _, _, _⟩) (v := (.int .i64 (m : Int))) rfl (by kernel_rfl) (by kernel_rfl) (by kernel_rfl) (fun _ _ _ h => h) (Or.inl ⟨by kernel_rfl, fun w' hSw => ?_⟩) hS ?_
              · obtain ⟨s1, s2, s3⟩ := hSw
                go_simp
                all_goals first | rfl | (rw [IntKind.wrap_i64]; omega)
              simp only [Act.put, List.setIfInBounds_toArray, List.set_cons_zero, List.set_cons_succ]
              refine wpAnyH_take (i := 10) (oi := ⟨some 52, _, _, _, _, _⟩) (v := (.bool false)) rfl (by kernel_rfl) (by kernel_rfl) (by kernel_rfl) (fun _ _ _ h => h) (Or.inl ⟨by kernel_rfl, fun w' hSw => ?_⟩) hS ?_
              · obtain ⟨s1, s2, s3⟩ := hSw
                go_simp
                all_goals first | rfl | (rw [IntKind.wrap_i64]; omega)
              simp only [Act.put, List.setIfInBounds_toArray, List.set_cons_zero, List.set_cons_succ]
              refine wpAnyH_take (i := 11) (oi := ⟨some 53, _, _, _, _, _⟩) (v := (.bool false)) rfl (by kernel_rfl) (by kernel_rfl) (by kernel_rfl) (fun _ _ _ h => h) (Or.inl ⟨by kernel_rfl, fun w' hSw => ?_⟩) hS ?_
              · obtain ⟨s1, s2, s3⟩ := hSw
                go_simp
                all_goals first | rfl | (rw [IntKind.wrap_i64]; omega)
              simp only [Act.put, List.setIfInBounds_toArray, List.set_cons_zero, List.set_cons_succ]
              refine wpAnyH_take (i := 12) (oi := ⟨some 54, _, _, _, _, _⟩) (v := undef) rfl (by kernel_rfl) (by kernel_rfl) (by kernel_rfl) (fun _ _ _ h => h) (Or.inr ⟨by kernel_rfl, rfl⟩) hS ?_
              simp only [Act.put, List.setIfInBounds_toArray, List.set_cons_zero, List.set_cons_succ]
              refine wpAnyH_take (i := 13) (oi := ⟨some 55, _, _, _, _, _⟩) (v := undef) rfl (by kernel_rfl) (by kernel_rfl) (by kernel_rfl) (fun _ _ _ h => h) (Or.inr ⟨by kernel_rfl, rfl⟩) hS ?_
              simp only [Act.put, List.setIfInBounds_toArray, List.set_cons_zero, List.set_cons_succ]
              refine wpAnyH_take (i := 14) (oi := ⟨some 56, _, _, _, _, _⟩) (v := undef) rfl (by kernel_rfl) (by kernel_rfl) (by kernel_rfl) (fun _ _ _ h => h) (Or.inr ⟨by kernel_rfl, rfl⟩) hS ?_
              simp only [Act.put, List.setIfInBounds_toArray, List.set_cons_zero, List.set_cons_succ]
              refine wpAnyH_take (i := 15) (oi := ⟨some 57, _, _, _, _, _⟩) (v := undef) rfl (by kernel_rfl) (by kernel_rfl) (by kernel_rfl) (fun _ _ _ h => h) (Or.inr ⟨by kernel_rfl, rfl⟩) hS ?_
              simp only [Act.put, List.setIfInBounds_toArray, List.set_cons_zero, List.set_cons_succ]
              refine wpAnyH_take (i := 16) (oi := ⟨some 58, _, _, _, _, _⟩) (v := undef) rfl (by kernel_rfl) (by kernel_rfl) (by kernel_rfl) (fun _ _ _ h => h) (Or.inr ⟨by kernel_rfl, rfl⟩) hS ?_
              simp only [Act.put, List.setIfInBounds_toArray, List.set_cons_zero, List.set_cons_succ]
              refine wpAnyH_take (i := 17) (oi := ⟨some 59, _, _, _, _, _⟩) (v := undef) rfl (by kernel_rfl) (by kernel_rfl) (by kernel_rfl) (fun _ _ _ h => h) (Or.inr ⟨by kernel_rfl, rfl⟩) hS ?_
              simp only [Act.put, List.setIfInBounds_toArray, List.set_cons_zero, List.set_cons_succ]
              refine wpAnyH_take (i := 18) (oi := ⟨some 60, _, _, _, _, _⟩) (v := undef) rfl (by kernel_rfl) (by kernel_rfl) (by kernel_rfl) (fun _ _ _ h => h) (Or.inr ⟨by kernel_rfl, rfl⟩) hS ?_
              simp only [Act.put, List.setIfInBounds_toArray, List.set_cons_zero, List.set_cons_succ]
              refine wpAnyH_take (i := 19) (oi := ⟨some 61, _, _, _, _, _⟩) (v := undef) rfl (by kernel_rfl) (by kernel_rfl) (by kernel_rfl) (fun _ _ _ h => h) (Or.inr ⟨by kernel_rfl, rfl⟩) hS ?_
              simp only [Act.put, List.setIfInBounds_toArray, List.set_cons_zero, List.set_cons_succ]
              refine wpAnyH_take (i := 20) (oi := ⟨some 62, _, _, _, _, _⟩) (v := undef) rfl (by kernel_rfl) (by kernel_rfl) (by kernel_rfl) (fun _ _ _ h => h) (Or.inr ⟨by kernel_rfl, rfl⟩) hS ?_
              simp only [Act.put, List.setIfInBounds_toArray, List.set_cons_zero, List.set_cons_succ]
              refine wpAnyH_take (i := 21) (oi := ⟨some 63, _, _, _, _, _⟩) (v := undef) rfl (by kernel_rfl) (by kernel_rfl) (by kernel_rfl) (fun _ _ _ h => h) (Or.inr ⟨by kernel_rfl, rfl⟩) hS ?_
              simp only [Act.put, List.setIfInBounds_toArray, List.set_cons_zero, List.set_cons_succ]
              refine wpAnyH_take (i := 22) (oi := ⟨some 64, _, _, _, _, _⟩) (v := undef) rfl (by kernel_rfl) (by kernel_rfl) (by kernel_rfl) (fun _ _ _ h => h) (Or.inr ⟨by kernel_rfl, rfl⟩) hS ?_
              simp only [Act.put, List.setIfInBounds_toArray, List.set_cons_zero, List.set_cons_succ]
              refine wpAnyH_take (i := 23) (oi := ⟨some 65, _, _, _, _, _⟩) (v := undef) rfl (by kernel_rfl) (by kernel_rfl) (by kernel_rfl) (fun _ _ _ h => h) (Or.inr ⟨by kernel_rfl, rfl⟩) hS ?_
              simp only [Act.put, List.setIfInBounds_toArray, List.set_cons_zero, List.set_cons_succ]
              refine wpAnyH_take (i := 24) (oi := ⟨some 66, _, _, _, _, _⟩) (v := (.bool false)) rfl (by kernel_rfl) (by kernel_rfl) (by kernel_rfl) (fun _ _ _ h => h) (Or.inl ⟨by kernel_rfl, fun w' hSw => ?_⟩) hS ?_
              · obtain ⟨s1, s2, s3⟩ := hSw
                go_simp
                all_goals first | rfl | (rw [IntKind.wrap_i64]; omega)
              simp only [Act.put, List.setIfInBounds_toArray, List.set_cons_zero, List.set_cons_succ]
              refine wpAnyH_take (i := 25) (oi := ⟨some 67, _, _, _, _, _⟩) (v := (.bool false)) rfl (by kernel_rfl) (by kernel_rfl) (by kernel_rfl) (fun _ _ _ h => h) (Or.inl ⟨by kernel_rfl, fun w' hSw => ?_⟩) hS ?_
              · obtain ⟨s1, s2, s3⟩ := hSw
                go_simp
                all_goals first | rfl | (rw [IntKind.wrap_i64]; omega)
              simp only [Act.put, List.setIfInBounds_toArray, List.set_cons_zero, List.set_cons_succ]
              refine wpAnyH_done (by kernel_rfl) ?_ _
              go_wp2
              go_roundw
              case rel => exact ⟨m + 1, by omega, by go_num, HMN, grown_drewN (grown_alloc HGX.out _) _⟩
              case measure => simp [intOf]; omega
            · obtain ⟨n1, hn1⟩ : ∃ n1, m = n1 + 1 := ⟨m - 1, by omega⟩
              have HN1 := Lib.hid hn1
              obtain ⟨y, hy⟩ : ∃ y, y = u.2.getD n1 ByteArray.empty := ⟨_, rfl⟩
              have e1 := hcc n1 (by omega)
              rw [← hy] at e1
              have e1r : (wr.alloc rolesObj).cell? ⟨ab, oo + n1, none⟩ = some (.string y) := HGR.out.cell e1 (by simp)
              have HY := Lib.hid hy
              have hn1I : (m : Int) - 1 = (n1 : Int) := by omega
              have hn1L : (n1 : Int) < u.2.length := by omega
              have hmp : (0 : Int) < m := by omega
              have hmq : 0 < m := by omega
              have HS0 := Lib.hid (show wr.drew.cell? ⟨N, 1, none⟩ = some (.slice (some ⟨ab, oo, none⟩) u.2.length cr) ∧ wr.drew.cell? ⟨ab, oo + m, none⟩ = some (.string x) ∧ wr.drew.cell? ⟨ab, oo + n1, none⟩ = some (.string y) from ⟨c1, e0, e1⟩)
              have HS1 := Lib.hid (show (wr.alloc rolesObj).drew.cell? ⟨N, 1, none⟩ = some (.slice (some ⟨ab, oo, none⟩) u.2.length cr) ∧ (wr.alloc rolesObj).drew.cell? ⟨ab, oo + m, none⟩ = some (.string x) ∧ (wr.alloc rolesObj).drew.cell? ⟨ab, oo + n1, none⟩ = some (.string y) from ⟨c1r, e0r, e1r⟩)
              clear hn1 hm0 hy hcc
              cases hcmp : Op.bytesLess y.toList x.toList
              · have HCM := Lib.hid hcmp
                have HD := Lib.hid (show Says (.returned (.bool false)) p from by rw [HPP.out]; exact .no (fun h => by have h1 := h.2.1 k hlt; rw [HU.out] at h1; have h2 := (h1 m hml).2 (by omega); rw [HXE.out, show m - 1 = n1 from by have := HN1.out; omega, ← HY.out, HCM.out] at h2; cases h2))
                go_wp2
                refine wp_region_held_drew (S := fun w' => w'.cell? ⟨N, 1, none⟩ = some (.slice (some ⟨ab, oo, none⟩) u.2.length cr) ∧ w'.cell? ⟨ab, oo + m, none⟩ = some (.string x) ∧ w'.cell? ⟨ab, oo + n1, none⟩ = some (.string y)) (by kernel_rfl) HS0.out (fun hS => ?_)
                refine wpAnyH_take (i := 1) (oi := ⟨some 43, _, _, _, _, _⟩) (v := (.pointer (some ⟨N, 1, none⟩))) rfl (by kernel_rfl) (by kernel_rfl) (by kernel_rfl) (fun _ _ _ h => h) (Or.inl ⟨by kernel_rfl, fun w' hSw => ?_⟩) hS ?_
                · obtain ⟨s1, s2, s3⟩ := hSw
                  go_simp
                  all_goals first | rfl | (rw [IntKind.wrap_i64]; omega)
                simp only [Act.put, List.setIfInBounds_toArray, List.set_cons_zero, List.set_cons_succ]
                refine wpAnyH_take (i := 2) (oi := ⟨some 44, _, _, _, _, _⟩) (v := (.slice (some ⟨ab, oo, none⟩) u.2.length cr)) rfl (by kernel_rfl) (by kernel_rfl) (by kernel_rfl) (fun _ _ _ h => h) (Or.inl ⟨by kernel_rfl, fun w' hSw => ?_⟩) hS ?_
                · obtain ⟨s1, s2, s3⟩ := hSw
                  go_simp
                  all_goals first | rfl | (rw [IntKind.wrap_i64]; omega)
                simp only [Act.put, List.setIfInBounds_toArray, List.set_cons_zero, List.set_cons_succ]
                refine wpAnyH_take (i := 3) (oi := ⟨some 45, _, _, _, _, _⟩) (v := (.int .i64 (m : Int))) rfl (by kernel_rfl) (by kernel_rfl) (by kernel_rfl) (fun _ _ _ h => h) (Or.inl ⟨by kernel_rfl, fun w' hSw => ?_⟩) hS ?_
                · obtain ⟨s1, s2, s3⟩ := hSw
                  go_simp
                  all_goals first | rfl | (rw [IntKind.wrap_i64]; omega)
                simp only [Act.put, List.setIfInBounds_toArray, List.set_cons_zero, List.set_cons_succ]
                refine wpAnyH_take (i := 4) (oi := ⟨some 46, _, _, _, _, _⟩) (v := (.pointer (some ⟨ab, oo + m, none⟩))) rfl (by kernel_rfl) (by kernel_rfl) (by kernel_rfl) (fun _ _ _ h => h) (Or.inl ⟨by kernel_rfl, fun w' hSw => ?_⟩) hS ?_
                · obtain ⟨s1, s2, s3⟩ := hSw
                  go_simp
                  all_goals first | rfl | (rw [IntKind.wrap_i64]; omega)
                simp only [Act.put, List.setIfInBounds_toArray, List.set_cons_zero, List.set_cons_succ]
                refine wpAnyH_take (i := 5) (oi := ⟨some 47, _, _, _, _, _⟩) (v := (.string x)) rfl (by kernel_rfl) (by kernel_rfl) (by kernel_rfl) (fun _ _ _ h => h) (Or.inl ⟨by kernel_rfl, fun w' hSw => ?_⟩) hS ?_
                · obtain ⟨s1, s2, s3⟩ := hSw
                  go_simp
                  all_goals first | rfl | (rw [IntKind.wrap_i64]; omega)
                simp only [Act.put, List.setIfInBounds_toArray, List.set_cons_zero, List.set_cons_succ]
                refine wpAnyH_ready (rs := [0]) (by kernel_rfl) (by simp) ?_
                refine AllReadyH.cons (o := ⟨some 42, _, _, _, _, _⟩) rfl (fun K hK => ?_) AllReadyH.nil
                go_simp
                refine (roles_call _).mono ?_
                rintro e w' ⟨rfl, rfl⟩
                go_simp
                refine hK.out _ _ HS1.out (fun hS => ?_)
                clear hK
                refine wpAnyH_ready (rs := [6]) (by kernel_rfl) (by simp) ?_
                refine AllReadyH.cons (o := ⟨some 48, _, _, _, _, _⟩) rfl (fun K hK => ?_) AllReadyH.nil
                go_simp
                refine (HHS.out _ (by exact HRL.out)).mono ?_
                rintro e w' ⟨rfl, rfl⟩
                go_simp
                refine hK.out _ _ HS1.out (fun hS => ?_)
                clear hK
                refine wpAnyH_take (i := 7) (oi := ⟨some 49, _, _, _, _, _⟩) (v := (.bool false)) rfl (by kernel_rfl) (by kernel_rfl) (by kernel_rfl) (fun _ _ _ h => h) (Or.inl ⟨by kernel_rfl, fun w' hSw => ?_⟩) hS ?_
                · obtain ⟨s1, s2, s3⟩ := hSw
                  go_simp
                  all_goals first | rfl | (rw [IntKind.wrap_i64]; omega)
                simp only [Act.put, List.setIfInBounds_toArray, List.set_cons_zero, List.set_cons_succ]
                refine wpAnyH_take (i := 8) (oi := ⟨some 50, _, _, _, _, _⟩) (v := (.bool false)) rfl (by kernel_rfl) (by kernel_rfl) (by kernel_rfl) (fun _ _ _ h => h) (Or.inl ⟨by kernel_rfl, fun w' hSw => ?_⟩) hS ?_
                · obtain ⟨s1, s2, s3⟩ := hSw
                  go_simp
                  all_goals first | rfl | (rw [IntKind.wrap_i64]; omega)
                simp only [Act.put, List.setIfInBounds_toArray, List.set_cons_zero, List.set_cons_succ]
                refine wpAnyH_take (i := 9) (oi := ⟨some 51, _, _, _, _, _⟩) (v := (.int .i64 (m : Int))) rfl (by kernel_rfl) (by kernel_rfl) (by kernel_rfl) (fun _ _ _ h => h) (Or.inl ⟨by kernel_rfl, fun w' hSw => ?_⟩) hS ?_
                · obtain ⟨s1, s2, s3⟩ := hSw
                  go_simp
                  all_goals first | rfl | (rw [IntKind.wrap_i64]; omega)
                simp only [Act.put, List.setIfInBounds_toArray, List.set_cons_zero, List.set_cons_succ]
                refine wpAnyH_take (i := 10) (oi := ⟨some 52, _, _, _, _, _⟩) (v := (.bool true)) rfl (by kernel_rfl) (by kernel_rfl) (by kernel_rfl) (fun _ _ _ h => h) (Or.inl ⟨by kernel_rfl, fun w' hSw => ?_⟩) hS ?_
                · obtain ⟨s1, s2, s3⟩ := hSw
                  go_simp
                  all_goals first | rfl | (rw [IntKind.wrap_i64]; omega)
                simp only [Act.put, List.setIfInBounds_toArray, List.set_cons_zero, List.set_cons_succ]
                refine wpAnyH_take (i := 11) (oi := ⟨some 53, _, _, _, _, _⟩) (v := (.bool true)) rfl (by kernel_rfl) (by kernel_rfl) (by kernel_rfl) (fun _ _ _ h => h) (Or.inl ⟨by kernel_rfl, fun w' hSw => ?_⟩) hS ?_
                · obtain ⟨s1, s2, s3⟩ := hSw
                  go_simp
                  all_goals first | rfl | (rw [IntKind.wrap_i64]; omega)
                simp only [Act.put, List.setIfInBounds_toArray, List.set_cons_zero, List.set_cons_succ]
                refine wpAnyH_take (i := 12) (oi := ⟨some 54, _, _, _, _, _⟩) (v := (.pointer (some ⟨N, 1, none⟩))) rfl (by kernel_rfl) (by kernel_rfl) (by kernel_rfl) (fun _ _ _ h => h) (Or.inl ⟨by kernel_rfl, fun w' hSw => ?_⟩) hS ?_
                · obtain ⟨s1, s2, s3⟩ := hSw
                  go_simp
                  all_goals first | rfl | (rw [IntKind.wrap_i64]; omega)
                simp only [Act.put, List.setIfInBounds_toArray, List.set_cons_zero, List.set_cons_succ]
                refine wpAnyH_take (i := 13) (oi := ⟨some 55, _, _, _, _, _⟩) (v := (.slice (some ⟨ab, oo, none⟩) u.2.length cr)) rfl (by kernel_rfl) (by kernel_rfl) (by kernel_rfl) (fun _ _ _ h => h) (Or.inl ⟨by kernel_rfl, fun w' hSw => ?_⟩) hS ?_
                · obtain ⟨s1, s2, s3⟩ := hSw
                  go_simp
                  all_goals first | rfl | (rw [IntKind.wrap_i64]; omega)
                simp only [Act.put, List.setIfInBounds_toArray, List.set_cons_zero, List.set_cons_succ]
                refine wpAnyH_take (i := 14) (oi := ⟨some 56, _, _, _, _, _⟩) (v := (.int .i64 (m : Int))) rfl (by kernel_rfl) (by kernel_rfl) (by kernel_rfl) (fun _ _ _ h => h) (Or.inl ⟨by kernel_rfl, fun w' hSw => ?_⟩) hS ?_
                · obtain ⟨s1, s2, s3⟩ := hSw
                  go_simp
                  all_goals first | rfl | (rw [IntKind.wrap_i64]; omega)
                simp only [Act.put, List.setIfInBounds_toArray, List.set_cons_zero, List.set_cons_succ]
                refine wpAnyH_take (i := 15) (oi := ⟨some 57, _, _, _, _, _⟩) (v := (.int .i64 (n1 : Int))) rfl (by kernel_rfl) (by kernel_rfl) (by kernel_rfl) (fun _ _ _ h => h) (Or.inl ⟨by kernel_rfl, fun w' hSw => ?_⟩) hS ?_
                · obtain ⟨s1, s2, s3⟩ := hSw
                  go_simp
                  all_goals first | rfl | (rw [IntKind.wrap_i64]; omega)
                simp only [Act.put, List.setIfInBounds_toArray, List.set_cons_zero, List.set_cons_succ]
                refine wpAnyH_take (i := 16) (oi := ⟨some 58, _, _, _, _, _⟩) (v := (.pointer (some ⟨ab, oo + n1, none⟩))) rfl (by kernel_rfl) (by kernel_rfl) (by kernel_rfl) (fun _ _ _ h => h) (Or.inl ⟨by kernel_rfl, fun w' hSw => ?_⟩) hS ?_
                · obtain ⟨s1, s2, s3⟩ := hSw
                  go_simp
                  all_goals first | rfl | (rw [IntKind.wrap_i64]; omega)
                simp only [Act.put, List.setIfInBounds_toArray, List.set_cons_zero, List.set_cons_succ]
                refine wpAnyH_take (i := 17) (oi := ⟨some 59, _, _, _, _, _⟩) (v := (.string y)) rfl (by kernel_rfl) (by kernel_rfl) (by kernel_rfl) (fun _ _ _ h => h) (Or.inl ⟨by kernel_rfl, fun w' hSw => ?_⟩) hS ?_
                · obtain ⟨s1, s2, s3⟩ := hSw
                  go_simp
                  all_goals first | rfl | (rw [IntKind.wrap_i64]; omega)
                simp only [Act.put, List.setIfInBounds_toArray, List.set_cons_zero, List.set_cons_succ]
                refine wpAnyH_take (i := 18) (oi := ⟨some 60, _, _, _, _, _⟩) (v := (.pointer (some ⟨N, 1, none⟩))) rfl (by kernel_rfl) (by kernel_rfl) (by kernel_rfl) (fun _ _ _ h => h) (Or.inl ⟨by kernel_rfl, fun w' hSw => ?_⟩) hS ?_
                · obtain ⟨s1, s2, s3⟩ := hSw
                  go_simp
                  all_goals first | rfl | (rw [IntKind.wrap_i64]; omega)
                simp only [Act.put, List.setIfInBounds_toArray, List.set_cons_zero, List.set_cons_succ]
                refine wpAnyH_take (i := 19) (oi := ⟨some 61, _, _, _, _, _⟩) (v := (.slice (some ⟨ab, oo, none⟩) u.2.length cr)) rfl (by kernel_rfl) (by kernel_rfl) (by kernel_rfl) (fun _ _ _ h => h) (Or.inl ⟨by kernel_rfl, fun w' hSw => ?_⟩) hS ?_
                · obtain ⟨s1, s2, s3⟩ := hSw
                  go_simp
                  all_goals first | rfl | (rw [IntKind.wrap_i64]; omega)
                simp only [Act.put, List.setIfInBounds_toArray, List.set_cons_zero, List.set_cons_succ]
                refine wpAnyH_take (i := 20) (oi := ⟨some 62, _, _, _, _, _⟩) (v := (.int .i64 (m : Int))) rfl (by kernel_rfl) (by kernel_rfl) (by kernel_rfl) (fun _ _ _ h => h) (Or.inl ⟨by kernel_rfl, fun w' hSw => ?_⟩) hS ?_
                · obtain ⟨s1, s2, s3⟩ := hSw
                  go_simp
                  all_goals first | rfl | (rw [IntKind.wrap_i64]; omega)
                simp only [Act.put, List.setIfInBounds_toArray, List.set_cons_zero, List.set_cons_succ]
                refine wpAnyH_take (i := 21) (oi := ⟨some 63, _, _, _, _, _⟩) (v := (.pointer (some ⟨ab, oo + m, none⟩))) rfl (by kernel_rfl) (by kernel_rfl) (by kernel_rfl) (fun _ _ _ h => h) (Or.inl ⟨by kernel_rfl, fun w' hSw => ?_⟩) hS ?_
                · obtain ⟨s1, s2, s3⟩ := hSw
                  go_simp
                  all_goals first | rfl | (rw [IntKind.wrap_i64]; omega)
                simp only [Act.put, List.setIfInBounds_toArray, List.set_cons_zero, List.set_cons_succ]
                refine wpAnyH_take (i := 22) (oi := ⟨some 64, _, _, _, _, _⟩) (v := (.string x)) rfl (by kernel_rfl) (by kernel_rfl) (by kernel_rfl) (fun _ _ _ h => h) (Or.inl ⟨by kernel_rfl, fun w' hSw => ?_⟩) hS ?_
                · obtain ⟨s1, s2, s3⟩ := hSw
                  go_simp
                  all_goals first | rfl | (rw [IntKind.wrap_i64]; omega)
                simp only [Act.put, List.setIfInBounds_toArray, List.set_cons_zero, List.set_cons_succ]
                refine wpAnyH_take (i := 23) (oi := ⟨some 65, _, _, _, _, _⟩) (v := (.bool true)) rfl (by kernel_rfl) (by kernel_rfl) (by kernel_rfl) (fun _ _ _ h => h) (Or.inl ⟨by kernel_rfl, fun w' hSw => ?_⟩) hS ?_
                · obtain ⟨s1, s2, s3⟩ := hSw
                  go_simp
                  all_goals first | rfl | (rw [IntKind.wrap_i64]; omega)
                simp only [Act.put, List.setIfInBounds_toArray, List.set_cons_zero, List.set_cons_succ]
                refine wpAnyH_take (i := 24) (oi := ⟨some 66, _, _, _, _, _⟩) (v := (.bool true)) rfl (by kernel_rfl) (by kernel_rfl) (by kernel_rfl) (fun _ _ _ h => h) (Or.inl ⟨by kernel_rfl, fun w' hSw => ?_⟩) hS ?_
                · obtain ⟨s1, s2, s3⟩ := hSw
                  go_simp
                  all_goals first | rfl | (rw [IntKind.wrap_i64]; omega)
                simp only [Act.put, List.setIfInBounds_toArray, List.set_cons_zero, List.set_cons_succ]
                refine wpAnyH_take (i := 25) (oi := ⟨some 67, _, _, _, _, _⟩) (v := (.bool true)) rfl (by kernel_rfl) (by kernel_rfl) (by kernel_rfl) (fun _ _ _ h => h) (Or.inl ⟨by kernel_rfl, fun w' hSw => ?_⟩) hS ?_
                · obtain ⟨s1, s2, s3⟩ := hSw
                  go_simp
                  all_goals first | rfl | (rw [IntKind.wrap_i64]; omega)
                simp only [Act.put, List.setIfInBounds_toArray, List.set_cons_zero, List.set_cons_succ]
                refine wpAnyH_done (by kernel_rfl) ?_ _
                go_wp2
                go_ret
                exact ⟨HD.out, grown_trans HG1.out (grown_drewN (grown_alloc HGX.out _) _)⟩
              · have HCM := Lib.hid hcmp
                have HMN := Lib.hid (asc_succ RoleOk u.2 x y m n1 hml HN1.out HXE.out HY.out HM.out HRX.out HCM.out)
                go_wp2
                refine wp_region_held_drew (S := fun w' => w'.cell? ⟨N, 1, none⟩ = some (.slice (some ⟨ab, oo, none⟩) u.2.length cr) ∧ w'.cell? ⟨ab, oo + m, none⟩ = some (.string x) ∧ w'.cell? ⟨ab, oo + n1, none⟩ = some (.string y)) (by kernel_rfl) HS0.out (fun hS => ?_)
                refine wpAnyH_take (i := 1) (oi := ⟨some 43, _, _, _, _, _⟩) (v := (.pointer (some ⟨N, 1, none⟩))) rfl (by kernel_rfl) (by kernel_rfl) (by kernel_rfl) (fun _ _ _ h => h) (Or.inl ⟨by kernel_rfl, fun w' hSw => ?_⟩) hS ?_
                · obtain ⟨s1, s2, s3⟩ := hSw
                  go_simp
                  all_goals first | rfl | (rw [IntKind.wrap_i64]; omega)
                simp only [Act.put, List.setIfInBounds_toArray, List.set_cons_zero, List.set_cons_succ]
                refine wpAnyH_take (i := 2) (oi := ⟨some 44, _, _, _, _, _⟩) (v := (.slice (some ⟨ab, oo, none⟩) u.2.length cr)) rfl (by kernel_rfl) (by kernel_rfl) (by kernel_rfl) (fun _ _ _ h => h) (Or.inl ⟨by kernel_rfl, fun w' hSw => ?_⟩) hS ?_
                · obtain ⟨s1, s2, s3⟩ := hSw
                  go_simp
                  all_goals first | rfl | (rw [IntKind.wrap_i64]; omega)
                simp only [Act.put, List.setIfInBounds_toArray, List.set_cons_zero, List.set_cons_succ]
                refine wpAnyH_take (i := 3) (oi := ⟨some 45, _, _, _, _, _⟩) (v := (.int .i64 (m : Int))) rfl (by kernel_rfl) (by kernel_rfl) (by kernel_rfl) (fun _ _ _ h => h) (Or.inl ⟨by kernel_rfl, fun w' hSw => ?_⟩) hS ?_
                · obtain ⟨s1, s2, s3⟩ := hSw
                  go_simp
                  all_goals first | rfl | (rw [IntKind.wrap_i64]; omega)
                simp only [Act.put, List.setIfInBounds_toArray, List.set_cons_zero, List.set_cons_succ]
                refine wpAnyH_take (i := 4) (oi := ⟨some 46, _, _, _, _, _⟩) (v := (.pointer (some ⟨ab, oo + m, none⟩))) rfl (by kernel_rfl) (by kernel_rfl) (by kernel_rfl) (fun _ _ _ h => h) (Or.inl ⟨by kernel_rfl, fun w' hSw => ?_⟩) hS ?_
                · obtain ⟨s1, s2, s3⟩ := hSw
                  go_simp
                  all_goals first | rfl | (rw [IntKind.wrap_i64]; omega)
                simp only [Act.put, List.setIfInBounds_toArray, List.set_cons_zero, List.set_cons_succ]
                refine wpAnyH_take (i := 5) (oi := ⟨some 47, _, _, _, _, _⟩) (v := (.string x)) rfl (by kernel_rfl) (by kernel_rfl) (by kernel_rfl) (fun _ _ _ h => h) (Or.inl ⟨by kernel_rfl, fun w' hSw => ?_⟩) hS ?_
                · obtain ⟨s1, s2, s3⟩ := hSw
                  go_simp
                  all_goals first | rfl | (rw [IntKind.wrap_i64]; omega)
                simp only [Act.put, List.setIfInBounds_toArray, List.set_cons_zero, List.set_cons_succ]
                refine wpAnyH_ready (rs := [0]) (by kernel_rfl) (by simp) ?_
                refine AllReadyH.cons (o := ⟨some 42, _, _, _, _, _⟩) rfl (fun K hK => ?_) AllReadyH.nil
                go_simp
                refine (roles_call _).mono ?_
                rintro e w' ⟨rfl, rfl⟩
                go_simp
                refine hK.out _ _ HS1.out (fun hS => ?_)
                clear hK
                refine wpAnyH_ready (rs := [6]) (by kernel_rfl) (by simp) ?_
                refine AllReadyH.cons (o := ⟨some 48, _, _, _, _, _⟩) rfl (fun K hK => ?_) AllReadyH.nil
                go_simp
                refine (HHS.out _ (by exact HRL.out)).mono ?_
                rintro e w' ⟨rfl, rfl⟩
                go_simp
                refine hK.out _ _ HS1.out (fun hS => ?_)
                clear hK
                refine wpAnyH_take (i := 7) (oi := ⟨some 49, _, _, _, _, _⟩) (v := (.bool false)) rfl (by kernel_rfl) (by kernel_rfl) (by kernel_rfl) (fun _ _ _ h => h) (Or.inl ⟨by kernel_rfl, fun w' hSw => ?_⟩) hS ?_
                · obtain ⟨s1, s2, s3⟩ := hSw
                  go_simp
                  all_goals first | rfl | (rw [IntKind.wrap_i64]; omega)
                simp only [Act.put, List.setIfInBounds_toArray, List.set_cons_zero, List.set_cons_succ]
                refine wpAnyH_take (i := 8) (oi := ⟨some 50, _, _, _, _, _⟩) (v := (.bool false)) rfl (by kernel_rfl) (by kernel_rfl) (by kernel_rfl) (fun _ _ _ h => h) (Or.inl ⟨by kernel_rfl, fun w' hSw => ?_⟩) hS ?_
                · obtain ⟨s1, s2, s3⟩ := hSw
                  go_simp
                  all_goals first | rfl | (rw [IntKind.wrap_i64]; omega)
                simp only [Act.put, List.setIfInBounds_toArray, List.set_cons_zero, List.set_cons_succ]
                refine wpAnyH_take (i := 9) (oi := ⟨some 51, _, _, _, _, _⟩) (v := (.int .i64 (m : Int))) rfl (by kernel_rfl) (by kernel_rfl) (by kernel_rfl) (fun _ _ _ h => h) (Or.inl ⟨by kernel_rfl, fun w' hSw => ?_⟩) hS ?_
                · obtain ⟨s1, s2, s3⟩ := hSw
                  go_simp
                  all_goals first | rfl | (rw [IntKind.wrap_i64]; omega)
                simp only [Act.put, List.setIfInBounds_toArray, List.set_cons_zero, List.set_cons_succ]
                refine wpAnyH_take (i := 10) (oi := ⟨some 52, _, _, _, _, _⟩) (v := (.bool true)) rfl (by kernel_rfl) (by kernel_rfl) (by kernel_rfl) (fun _ _ _ h => h) (Or.inl ⟨by kernel_rfl, fun w' hSw => ?_⟩) hS ?_
                · obtain ⟨s1, s2, s3⟩ := hSw
                  go_simp
                  all_goals first | rfl | (rw [IntKind.wrap_i64]; omega)
                simp only [Act.put, List.setIfInBounds_toArray, List.set_cons_zero, List.set_cons_succ]
                refine wpAnyH_take (i := 11) (oi := ⟨some 53, _, _, _, _, _⟩) (v := (.bool true)) rfl (by kernel_rfl) (by kernel_rfl) (by kernel_rfl) (fun _ _ _ h => h) (Or.inl ⟨by kernel_rfl, fun w' hSw => ?_⟩) hS ?_
                · obtain ⟨s1, s2, s3⟩ := hSw
                  go_simp
                  all_goals first | rfl | (rw [IntKind.wrap_i64]; omega)
                simp only [Act.put, List.setIfInBounds_toArray, List.set_cons_zero, List.set_cons_succ]
                refine wpAnyH_take (i := 12) (oi := ⟨some 54, _, _, _, _, _⟩) (v := (.pointer (some ⟨N, 1, none⟩))) rfl (by kernel_rfl) (by kernel_rfl) (by kernel_rfl) (fun _ _ _ h => h) (Or.inl ⟨by kernel_rfl, fun w' hSw => ?_⟩) hS ?_
                · obtain ⟨s1, s2, s3⟩ := hSw
                  go_simp
                  all_goals first | rfl | (rw [IntKind.wrap_i64]; omega)
                simp only [Act.put, List.setIfInBounds_toArray, List.set_cons_zero, List.set_cons_succ]
                refine wpAnyH_take (i := 13) (oi := ⟨some 55, _, _, _, _, _⟩) (v := (.slice (some ⟨ab, oo, none⟩) u.2.length cr)) rfl (by kernel_rfl) (by kernel_rfl) (by kernel_rfl) (fun _ _ _ h => h) (Or.inl ⟨by kernel_rfl, fun w' hSw => ?_⟩) hS ?_
                · obtain ⟨s1, s2, s3⟩ := hSw
                  go_simp
                  all_goals first | rfl | (rw [IntKind.wrap_i64]; omega)
                simp only [Act.put, List.setIfInBounds_toArray, List.set_cons_zero, List.set_cons_succ]
                refine wpAnyH_take (i := 14) (oi := ⟨some 56, _, _, _, _, _⟩) (v := (.int .i64 (m : Int))) rfl (by kernel_rfl) (by kernel_rfl) (by kernel_rfl) (fun _ _ _ h => h) (Or.inl ⟨by kernel_rfl, fun w' hSw => ?_⟩) hS ?_
                · obtain ⟨s1, s2, s3⟩ := hSw
                  go_simp
                  all_goals first | rfl | (rw [IntKind.wrap_i64]; omega)
                simp only [Act.put, List.setIfInBounds_toArray, List.set_cons_zero, List.set_cons_succ]
                refine wpAnyH_take (i := 15) (oi := ⟨some 57, _, _, _, _, _⟩) (v := (.int .i64 (n1 : Int))) rfl (by kernel_rfl) (by kernel_rfl) (by kernel_rfl) (fun _ _ _ h => h) (Or.inl ⟨by kernel_rfl, fun w' hSw => ?_⟩) hS ?_
                · obtain ⟨s1, s2, s3⟩ := hSw
                  go_simp
                  all_goals first | rfl | (rw [IntKind.wrap_i64]; omega)
                simp only [Act.put, List.setIfInBounds_toArray, List.set_cons_zero, List.set_cons_succ]
                refine wpAnyH_take (i := 16) (oi := ⟨some 58, _, _, _, _, _⟩) (v := (.pointer (some ⟨ab, oo + n1, none⟩))) rfl (by kernel_rfl) (by kernel_rfl) (by kernel_rfl) (fun _ _ _ h => h) (Or.inl ⟨by kernel_rfl, fun w' hSw => ?_⟩) hS ?_
                · obtain ⟨s1, s2, s3⟩ := hSw
                  go_simp
                  all_goals first | rfl | (rw [IntKind.wrap_i64]; omega)
                simp only [Act.put, List.setIfInBounds_toArray, List.set_cons_zero, List.set_cons_succ]
                refine wpAnyH_take (i := 17) (oi := ⟨some 59, _, _, _, _, _⟩) (v := (.string y)) rfl (by kernel_rfl) (by kernel_rfl) (by kernel_rfl) (fun _ _ _ h => h) (Or.inl ⟨by kernel_rfl, fun w' hSw => ?_⟩) hS ?_
                · obtain ⟨s1, s2, s3⟩ := hSw
                  go_simp
                  all_goals first | rfl | (rw [IntKind.wrap_i64]; omega)
                simp only [Act.put, List.setIfInBounds_toArray, List.set_cons_zero, List.set_cons_succ]
                refine wpAnyH_take (i := 18) (oi := ⟨some 60, _, _, _, _, _⟩) (v := (.pointer (some ⟨N, 1, none⟩))) rfl (by kernel_rfl) (by kernel_rfl) (by kernel_rfl) (fun _ _ _ h => h) (Or.inl ⟨by kernel_rfl, fun w' hSw => ?_⟩) hS ?_
                · obtain ⟨s1, s2, s3⟩ := hSw
                  go_simp
                  all_goals first | rfl | (rw [IntKind.wrap_i64]; omega)
                simp only [Act.put, List.setIfInBounds_toArray, List.set_cons_zero, List.set_cons_succ]
                refine wpAnyH_take (i := 19) (oi := ⟨some 61, _, _, _, _, _⟩) (v := (.slice (some ⟨ab, oo, none⟩) u.2.length cr)) rfl (by kernel_rfl) (by kernel_rfl) (by kernel_rfl) (fun _ _ _ h => h) (Or.inl ⟨by kernel_rfl, fun w' hSw => ?_⟩) hS ?_
                · obtain ⟨s1, s2, s3⟩ := hSw
                  go_simp
                  all_goals first | rfl | (rw [IntKind.wrap_i64]; omega)
                simp only [Act.put, List.setIfInBounds_toArray, List.set_cons_zero, List.set_cons_succ]
                refine wpAnyH_take (i := 20) (oi := ⟨some 62, _, _, _, _, _⟩) (v := (.int .i64 (m : Int))) rfl (by kernel_rfl) (by kernel_rfl) (by kernel_rfl) (fun _ _ _ h => h) (Or.inl ⟨by kernel_rfl, fun w' hSw => ?_⟩) hS ?_
                · obtain ⟨s1, s2, s3⟩ := hSw
                  go_simp
                  all_goals first | rfl | (rw [IntKind.wrap_i64]; omega)
                simp only [Act.put, List.setIfInBounds_toArray, List.set_cons_zero, List.set_cons_succ]
                refine wpAnyH_take (i := 21) (oi := ⟨some 63, _, _, _, _, _⟩) (v := (.pointer (some ⟨ab, oo + m, none⟩))) rfl (by kernel_rfl) (by kernel_rfl) (by kernel_rfl) (fun _ _ _ h => h) (Or.inl ⟨by kernel_rfl, fun w' hSw => ?_⟩) hS ?_
                · obtain ⟨s1, s2, s3⟩ := hSw
                  go_simp
                  all_goals first | rfl | (rw [IntKind.wrap_i64]; omega)
                simp only [Act.put, List.setIfInBounds_toArray, List.set_cons_zero, List.set_cons_succ]
                refine wpAnyH_take (i := 22) (oi := ⟨some 64, _, _, _, _, _⟩) (v := (.string x)) rfl (by kernel_rfl) (by kernel_rfl) (by kernel_rfl) (fun _ _ _ h => h) (Or.inl ⟨by kernel_rfl, fun w' hSw => ?_⟩) hS ?_
                · obtain ⟨s1, s2, s3⟩ := hSw
                  go_simp
                  all_goals first | rfl | (rw [IntKind.wrap_i64]; omega)
                simp only [Act.put, List.setIfInBounds_toArray, List.set_cons_zero, List.set_cons_succ]
                refine wpAnyH_take (i := 23) (oi := ⟨some 65, _, _, _, _, _⟩) (v := (.bool false)) rfl (by kernel_rfl) (by kernel_rfl) (by kernel_rfl) (fun _ _ _ h => h) (Or.inl ⟨by kernel_rfl, fun w' hSw => ?_⟩) hS ?_
                · obtain ⟨s1, s2, s3⟩ := hSw
                  go_simp
                  all_goals first | rfl | (rw [IntKind.wrap_i64]; omega)
                simp only [Act.put, List.setIfInBounds_toArray, List.set_cons_zero, List.set_cons_succ]
                refine wpAnyH_take (i := 24) (oi := ⟨some 66, _, _, _, _, _⟩) (v := (.bool false)) rfl (by kernel_rfl) (by kernel_rfl) (by kernel_rfl) (fun _ _ _ h => h) (Or.inl ⟨by kernel_rfl, fun w' hSw => ?_⟩) hS ?_
                · obtain ⟨s1, s2, s3⟩ := hSw
                  go_simp
                  all_goals first | rfl | (rw [IntKind.wrap_i64]; omega)
                simp only [Act.put, List.setIfInBounds_toArray, List.set_cons_zero, List.set_cons_succ]
                refine wpAnyH_take (i := 25) (oi := ⟨some 67, _, _, _, _, _⟩) (v := (.bool false)) rfl (by kernel_rfl) (by kernel_rfl) (by kernel_rfl) (fun _ _ _ h => h) (Or.inl ⟨by kernel_rfl, fun w' hSw => ?_⟩) hS ?_
                · obtain ⟨s1, s2, s3⟩ := hSw
                  go_simp
                  all_goals first | rfl | (rw [IntKind.wrap_i64]; omega)
                simp only [Act.put, List.setIfInBounds_toArray, List.set_cons_zero, List.set_cons_succ]
                refine wpAnyH_done (by kernel_rfl) ?_ _
                go_wp2
                go_roundw
                case rel => exact ⟨m + 1, by omega, by go_num, HMN, grown_drewN (grown_alloc HGX.out _) _⟩
                case measure => simp [intOf]; omega
          · obtain rfl : m = u.2.length := by omega
            have HRO := Lib.hid (show AscBy RoleOk u.2 from by have := HM.out; rwa [List.take_length] at this)
            go_wp2
            go_roundw
            case rel =>
              refine ⟨k + 1, by omega, by go_num, HAN, Lib.hid (fun j h hj => ?_), grown_trans HG1.out HGX.out⟩
              by_cases e : j = k
              · subst e; rw [HU.out]; exact HRO.out
              · exact HA.out j h (by omega)
            case measure => simp [intOf]; omega
    · obtain rfl : k = us.length := by omega
      have hna := HN.out
      rw [List.take_of_length_le (by simp)] at hna
      by_cases h5 : (us.length : Int) ≤ 5
      · have HD := Lib.hid (show Says (.returned (.bool true)) p from by rw [HPP.out]; exact .yes ⟨by omega, fun i hi => HA.out i hi hi, hna⟩)
        go_wp2
        go_ret
        exact ⟨HD.out, HG.out⟩
      · have HD := Lib.hid (show Says (.returned (.bool false)) p from by rw [HPP.out]; exact .no (fun h => by have := h.1; omega))
        go_wp2
        go_ret
        exact ⟨HD.out, HG.out⟩
end Go.Proofs.Ytpmjinlbfddmmaa
