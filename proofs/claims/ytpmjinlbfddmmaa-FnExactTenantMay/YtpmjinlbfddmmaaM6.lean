/- Users, checked by the program. -/
import Derived.Test.YtpmjinlbfddmmaaM5
namespace Go.Proofs.Ytpmjinlbfddmmaa
open Go.RowKit

def UsersP (us : List (ByteArray × List ByteArray)) : Prop := us.length ≤ 5 ∧ (∀ i (h : i < us.length), AscBy RoleOk us[i].2) ∧ AscBy NameOk (us.map (·.1))

theorem strs_one (L : List ByteArray) : ∀ v ∈ strs L, v.oneCell' = true := fun v hv => by
  obtain ⟨s, _, rfl⟩ := List.mem_map.1 hv
  rfl
theorem Row.lies {w : World} {base : Nat} {v : Value} {ss : List ByteArray} (h : Row w base v (strs ss)) : ∃ an cn, v = .slice an ss.length cn ∧ Lies w base an ss := by
  rcases h with ⟨rfl, h⟩ | ⟨g, c, rfl, hb, hl, hn, hc, hf⟩
  · have : ss = [] := by simpa [strs] using h
    subst this
    exact ⟨none, 0, rfl, .inl rfl⟩
  · refine ⟨_, c, by simp [strs], .inr ⟨g, 0, rfl, hb, fun j hj => ?_⟩⟩
    rw [Nat.zero_add, hc j (by simpa [strs] using hj)]
    simp [strs, hj]
theorem names_size (us : List (ByteArray × List ByteArray)) (hn : us.length + bulkU us ≤ 1048576) : ∀ s ∈ us.map (·.1), s.size ≤ 1048576 := fun s hs => by
  obtain ⟨u, hu, rfl⟩ := List.mem_map.1 hs
  obtain ⟨j, hj, rfl⟩ := List.mem_iff_getElem.1 hu
  have h1 := bulkU_at us j hj
  have h2 : us[j].1.size ≤ uB us[j] := by unfold uB; omega
  omega
theorem roles_size (us : List (ByteArray × List ByteArray)) (hn : us.length + bulkU us ≤ 1048576) (j : Nat) (hj : j < us.length) : ∀ s ∈ us[j].2, s.size ≤ 1048576 := fun s hs => by
  have h1 := bulkU_at us j hj
  have h2 : bulkS us[j].2 ≤ uB us[j] := by unfold uB; omega
  have h3 := bulkS_at _ _ hs
  omega

set_option maxRecDepth 100000 in
set_option maxHeartbeats 2000000 in
theorem iusers_any (w : World) (base : Nat) (us : List (ByteArray × List ByteArray)) (ao : Option Addr) (cap : Nat) (hl : ULies w base ao us) (hn : us.length + bulkU us ≤ 1048576) :
    Calls Try.prog 24 #[.slice ao us.length cap] w fun e w' => Says e (UsersP us) ∧ w.grownBy w' none := by
  obtain ⟨p, hp⟩ : ∃ p : Prop, p = UsersP us := ⟨_, rfl⟩
  rw [← hp]
  have HPP := Lib.hid hp
  have HP := Lib.hid hl
  clear hp hl
  by_cases h5 : (5 : Int) < us.length
  · have HD := Lib.hid (show Says (.returned (.bool false)) p from by rw [HPP.out]; exact .no (fun h => by have := h.1; omega))
    go_enter Try.func24, Try.ntmps24
    go_wp2
    go_ret
    exact ⟨HD.out, grown_refl _ _⟩
  have HNS := Lib.hid (names_size us hn)
  have HRS := Lib.hid (fun (j : Nat) (h : j < us.length) => And.intro (roles_len us 1048576 hn j h) (roles_size us hn j h))
  obtain ⟨i9, hi9, hz0, hz1, hz2⟩ := info_parts info9
  go_enter Try.func24, Try.ntmps24
  go_wp2
  go_loopw [3, 11] (fun lv i wr => ∃ k : Nat, k ≤ us.length ∧ i = .int .i64 k ∧ Hid (Row wr w.heap.size lv (strs ((us.map (·.1)).take k))) ∧ Hid (∀ j (h : j < us.length), j < k → AscBy RoleOk us[j].2) ∧ w.grownBy wr none) (fun _ i _ => us.length - (intOf i).toNat)
  case atStart => exact ⟨0, Nat.zero_le _, rfl, Lib.hid (Row.nil _ _), Lib.hid (fun j _ h => absurd h (Nat.not_lt_zero _)), grown_refl _ _⟩
  case round =>
    obtain ⟨k, hk, rfl, HR, HA, hg⟩ := hrel
    have HG := Lib.hid hg
    have hszW := hg.size
    clear hg
    by_cases hlt : k < us.length
    · rcases HP.out with h00 | ⟨b, o, rfl, -, hc⟩
      · omega
      obtain ⟨ar, cr, ht⟩ := hc k hlt
      obtain ⟨d0, d1, hls⟩ := ht.kept HG.out (by simp) (fun q e => by cases e)
      obtain ⟨z1, z2⟩ := HRS.out k hlt
      obtain ⟨u, hu⟩ : ∃ u, us[k] = u := ⟨_, rfl⟩
      have HU := Lib.hid hu
      rw [hu] at d0 d1 hls z1 z2
      have HCA := Lib.hid (iroles_any (wr.alloc (Obj.cells #[Value.string u.1, .slice ar u.2.length cr] 70)) base u.2 ar cr (hls.kept (grown_alloc (grown_refl _ none) _) (fun q e => by cases e)) z1 z2)
      have hkI : (k : Int) < us.length := by omega
      clear hc ht hls hu z2
      by_cases hQ : AscBy RoleOk u.2
      · have HCL := Lib.hid (HCA.out.mono (R' := fun e w' => e = .returned (.bool true) ∧ w' = wr.alloc (Obj.cells #[Value.string u.1, .slice ar u.2.length cr] 70)) (fun e w' h => ⟨h.1.is_yes hQ, h.2⟩))
        have HQ := Lib.hid hQ
        have HTK := Lib.hid (show strs ((us.map (·.1)).take (k + 1)) = strs ((us.map (·.1)).take k) ++ strs [u.1] from by
          rw [List.take_succ_eq_append_getElem (by simpa using hlt)]
          simp only [strs, List.map_append, List.map_cons, List.map_nil, List.getElem_map]
          rw [HU.out])
        have HLN := Lib.hid (show (strs ((us.map (·.1)).take k)).length ≤ 5 from by simp [strs]; omega)
        have HNEW := Lib.hid (show ∀ j v, (strs [u.1])[j]? = some v → ((wr.alloc (Obj.cells #[Value.string u.1, .slice ar u.2.length cr] 70)).alloc (Obj.cells #[Value.string u.1] 9)).cell? ((⟨wr.heap.size + 1, 0, none⟩ : Addr).add j) = some v from by
          have := news_new (wr.alloc (Obj.cells #[Value.string u.1, .slice ar u.2.length cr] 70)) 9 (strs [u.1])
          rw [show (wr.alloc (Obj.cells #[Value.string u.1, .slice ar u.2.length cr] 70)).heap.size = wr.heap.size + 1 from by simp] at this
          exact this)
        clear hQ HCA
        go_wp2_with fail
        refine HCL.out.mono ?_
        rintro e w1 ⟨rfl, rfl⟩
        go_wp2_with (first | (at_builtin; go_must (refine wpList_append_row2 rfl _ _ 22 rfl 9 i9 (.string ⟨#[]⟩) 16 Try.underlying22 hi9 hz0 hz1 hz2 rfl w.heap.size _ (strs ((us.map (·.1)).take k)) rfl ((HR.out.alloc _).alloc _) ⟨_, 0, none⟩ 1 1 (strs [u.1]) rfl rfl HNEW.out (strs_one _) (by have := HLN.out; unfold maxLen; omega) (by have := HLN.out; omega) (by simp; omega) ?_); intro v2 w2 HR2 HG2 HO2))
        go_roundw
        case rel =>
          refine ⟨k + 1, by omega, by go_num, Lib.hid (by rw [HTK.out]; exact HR2.out), Lib.hid (fun j h hj => ?_), ?_⟩
          · by_cases e : j = k
            · subst e; rw [HU.out]; exact HQ.out
            · exact HA.out j h (by omega)
          · refine grown_own (grown_alloc (grown_alloc HG.out _) _) HG2.out (fun q hq => ?_)
            exact (HR.out.lt q hq).1
        case measure => simp [intOf]; omega
      · have HCL := Lib.hid (HCA.out.mono (R' := fun e w' => e = .returned (.bool false) ∧ w' = wr.alloc (Obj.cells #[Value.string u.1, .slice ar u.2.length cr] 70)) (fun e w' h => ⟨h.1.is_no hQ, h.2⟩))
        have HD := Lib.hid (show Says (.returned (.bool false)) p from by rw [HPP.out]; exact .no (fun h => hQ (by have := h.2.1 k hlt; rwa [HU.out] at this)))
        clear hQ HCA
        go_wp2_with fail
        refine HCL.out.mono ?_
        rintro e w1 ⟨rfl, rfl⟩
        go_wp2
        go_ret
        exact ⟨HD.out, grown_alloc HG.out _⟩
    · obtain rfl : k = us.length := by omega
      have hrow := HR.out
      rw [List.take_of_length_le (by simp)] at hrow
      obtain ⟨an, cn, he, hla⟩ := hrow.lies
      subst he
      have HNC := Lib.hid (inames_any wr w.heap.size (us.map (·.1)) an cn hla (by simp; omega) HNS.out)
      rw [List.length_map] at HNC ⊢
      clear hrow hla
      go_wp2_with fail
      refine HNC.out.mono ?_
      rintro e w1 ⟨⟨bb, rfl, hbb⟩, rfl⟩
      have HD := Lib.hid (show Says (.returned (.bool bb)) p from ⟨bb, rfl, by
        rw [hbb, HPP.out]
        exact ⟨fun h => ⟨by omega, fun i hi => HA.out i hi hi, h⟩, fun h => h.2.2⟩⟩)
      clear hbb
      go_wp2
      go_ret
      exact ⟨HD.out, HG.out⟩
end Go.Proofs.Ytpmjinlbfddmmaa
