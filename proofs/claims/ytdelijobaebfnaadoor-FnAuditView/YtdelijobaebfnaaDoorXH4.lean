import Derived.Test.YtdelijobaebfnaaDoorXH3
namespace Go.Proofs.YtdelijobaebfnaaDoor
open Go.RowKit

theorem count_blk (c : Nat) (t : TypeId) (w : World) (n m : Nat) (R : List Value) (hn : n + m < 4611686018427387904) (hb : Blk w c t (.int .u64 n :: R)) :
    Calls Tryd.prog 68 #[.pointer (some ⟨c, 0, none⟩), .int .i64 m] w fun e w' => e = .returned (.tuple #[]) ∧ Blk w' c t (.int .u64 ((n + m : Nat) : Int) :: R) ∧ w.grownBy w' (some c) := by
  refine (count_any c w n m hn (hb.cell (j := 0) rfl) (hb.frozen 0)).mono ?_
  rintro e w' ⟨rfl, k, rfl⟩
  exact ⟨rfl, (hb.drewN k).set 0 _, grown_set (grown_drewN (grown_refl _ _) _) _ _⟩

theorem filled_blk (c : Nat) (t : TypeId) (w : World) (n f : Nat) (R : List Value) (hn : n < 4611686018427387904) (hf : n % 64 = f) (hb : Blk w c t (.int .u64 n :: R)) :
    Calls Tryd.prog 67 #[.pointer (some ⟨c, 0, none⟩)] w fun e w' => e = .returned (.int .i64 f) ∧ w' = w := by
  subst hf
  exact filled_any c w n hn (hb.cell (j := 0) rfl)

/-- the sum's words behind the first n whole blocks of m -/
def blocksTo (K H m : List Int) : Nat → List Int
  | 0 => H
  | n + 1 => compI K (blocksTo K H m n) (wordsTo ((m.drop (64 * n)).take 64) 64)
theorem blocksTo_len (K H m : List Int) (hH : H.length = 8) : ∀ n, (blocksTo K H m n).length = 8
  | 0 => hH
  | _ + 1 => compI_len _ _ _
theorem blocksTo_app (K H m x : List Int) : ∀ n, 64 * n ≤ m.length → blocksTo K H (m ++ x) n = blocksTo K H m n
  | 0, _ => rfl
  | n + 1, h => by
    rw [blocksTo, blocksTo, blocksTo_app K H m x n (by omega)]
    congr 2
    rw [List.drop_append_of_le_length (by omega), List.take_append_of_le_length (by simp; omega)]

/-- the writer's block, when m has been written into it -/
def WS (K H m : List Int) (S B : List Int) : Prop := B.length = 64 ∧ B.take (m.length % 64) = m.drop (m.length / 64 * 64) ∧ S = blocksTo K H m (m.length / 64)
def wcells (n : Nat) (S B : List Int) : List Value := .int .u64 n :: (u32s S ++ u8s B)

theorem ws_part {K H m S B : List Int} (h : WS K H m S B) (x : List Int) (hf : m.length % 64 + x.length < 64) : WS K H (m ++ x) S (splice B (m.length % 64) x) := by
  obtain ⟨h1, h2, h3⟩ := h
  have e1 : (m ++ x).length % 64 = m.length % 64 + x.length := by simp; omega
  have e2 : (m ++ x).length / 64 = m.length / 64 := by simp; omega
  refine ⟨by rw [length_splice _ _ _ (by omega), h1], ?_, ?_⟩
  · rw [e1, e2, List.drop_append_of_le_length (by omega), ← h2]
    unfold splice
    have hl : (B.take (m.length % 64)).length = m.length % 64 := by simp; omega
    rw [← List.append_assoc, List.take_append_of_le_length (by simp; omega), List.take_of_length_le (by simp; omega)]
  · rw [e2, blocksTo_app _ _ _ _ _ (by omega)]; exact h3
theorem ws_full {K H m S B : List Int} (h : WS K H m S B) (x : List Int) (hf : m.length % 64 + x.length = 64) : WS K H (m ++ x) (compI K S (wordsTo (splice B (m.length % 64) x) 64)) (splice B (m.length % 64) x) := by
  obtain ⟨h1, h2, h3⟩ := h
  have e1 : (m ++ x).length % 64 = 0 := by simp; omega
  have e2 : (m ++ x).length / 64 = m.length / 64 + 1 := by simp; omega
  have e3 : splice B (m.length % 64) x = m.drop (m.length / 64 * 64) ++ x := by
    unfold splice
    rw [List.drop_eq_nil_of_le (by omega), List.append_nil, h2]
  refine ⟨by rw [length_splice _ _ _ (by omega), h1], ?_, ?_⟩
  · rw [e1, e2]; symm; simp; omega
  · rw [e2, blocksTo, blocksTo_app _ _ _ _ _ (by omega), ← h3, e3]
    congr 2
    rw [Nat.mul_comm 64, List.drop_append_of_le_length (by omega), List.take_of_length_le (by simp; omega)]

theorem wcells_take (n f : Nat) (S B : List Int) (x : List Int) (hS : S.length = 8) :
    (wcells n S B).take (9 + f) ++ u8s x ++ (wcells n S B).drop (9 + f + (u8s x).length) = wcells n S (splice B f x) := by
  match S, hS with
  | [s0, s1, s2, s3, s4, s5, s6, s7], _ =>
    rw [show 9 + f = f + 9 from by omega, show f + 9 + (u8s x).length = (f + x.length) + 9 from by simp; omega]
    simp [wcells, u32s, u8s, splice]
theorem wcells_get (n j : Nat) (S B : List Int) (hS : S.length = 8) : (wcells n S B)[9 + j]? = (u8s B)[j]? := by
  match S, hS with
  | [s0, s1, s2, s3, s4, s5, s6, s7], _ =>
    rw [show 9 + j = j + 9 from by omega]
    simp [wcells, u32s, u8s]
theorem take_more {l x : List Int} {k q : Nat} (hx : x = (l.drop k).take q) : l.take (k + x.length) = l.take k ++ x := by
  rw [List.take_add]
  congr 1
  subst hx
  rw [List.length_take, List.take_eq_take_iff]; omega
theorem u8s_one (X : List Int) : ∀ v ∈ u8s X, v.oneCell' = true := fun v hv => by
  obtain ⟨x, _, rfl⟩ := List.mem_map.1 hv; rfl

/-- the copy of a round: what is left of the list, as far as the block has room -/
theorem write_copy (w : World) (c : Nat) (t : TypeId) (n f k r cp sb : Nat) (S B l x : List Int) (hS : S.length = 8) (hB : B.length = 64) (hf : f < 64) (hr : r = l.length - k) (hx : x = (l.drop k).take (64 - f))
    (hb : Blk w c t (wcells n S B)) (hsrc : ∀ j, j < l.length → w.cell? ⟨sb, j, none⟩ = some (.int .u8 (l.getD j 0))) :
    (Builtin.copy_ #[22, 22] 3 #[.slice (some ⟨c, 9 + f, none⟩) (64 - f) (64 - f), .slice (some ⟨sb, k, none⟩) r cp]).run Tryd.prog w = .ok (.int .i64 x.length) (w.setRow c (wcells n S (splice B f x)).toArray) := by
  have hxl : x.length = min r (64 - f) := by subst hx hr; simp; omega
  have := run_copy_row (P := Tryd.prog) w 22 22 3 5 c (9 + f) (64 - f) (64 - f) ⟨sb, k, none⟩ r cp (wcells n S B).toArray t (u8s x) Tryd.underlying22 size5 hb (by simp [hxl, Nat.min_def]) (fun j v hv => by
    have hj : j < x.length := by simpa using (List.getElem?_eq_some_iff.1 hv).1
    rw [Addr.add_mid, hsrc (k + j) (by omega)]
    rw [u8s_get hj] at hv
    rw [← hv]
    have : x.getD j 0 = l.getD (k + j) 0 := by
      subst hx
      simp only [List.getD_eq_getElem?_getD, List.getElem?_take, List.getElem?_drop]
      rw [if_pos (by omega)]
    rw [this]) (by simp [wcells, hS, hB]; omega) (u8s_one x)
  rw [this]
  have e := wcells_take n f S B x hS
  simp only [e]
  simp [goInt]

set_option maxRecDepth 100000 in
set_option maxHeartbeats 1000000 in
theorem write_walk (c : Nat) (t : TypeId) (w : World) (K H m : List Int) (S B l : List Int) (sb cp : Nat) (sa : Option Addr) (hH : H.length = 8) (hws : WS K H m S B)
    (hb : Blk w c t (wcells m.length S B)) (hM : m.length + l.length < 4611686018427387904) (hcp : l.length ≤ cp)
    (hsa : 0 < l.length → sa = some ⟨sb, 0, none⟩) (hsrc : ∀ j, j < l.length → w.cell? ⟨sb, j, none⟩ = some (.int .u8 (l.getD j 0))) (hsb : sb ≠ c)
    (hT : ∀ k, k < 64 → w.cell? ⟨2, k, none⟩ = some (.int .u32 (K.getD k 0))) (h1c : 2 ≠ c) :
    Calls Tryd.prog 54 #[.pointer (some ⟨c, 0, none⟩), .slice sa l.length cp] w fun e w' => e = .returned (.tuple #[.int .i64 l.length, .nilIface]) ∧ (∃ S' B', WS K H (m ++ l) S' B' ∧ Blk w' c t (wcells (m ++ l).length S' B')) ∧ w.grownBy w' (some c) := by
  have HT := Lib.hid hT
  have HB := Lib.hid hb
  have HSRC := Lib.hid hsrc
  have HSA := Lib.hid hsa
  have HWS := Lib.hid hws
  clear hT hb hsrc hsa hws
  go_enter Tryd.func54, Tryd.ntmps54
  go_wp2
  go_loopw [6] (fun v wr => ∃ k : Nat, k ≤ l.length ∧ (∃ a cp', v = .slice a (l.length - k) cp' ∧ l.length - k ≤ cp' ∧ (k < l.length → a = some ⟨sb, k, none⟩)) ∧ (∃ S' B', WS K H (m ++ l.take k) S' B' ∧ Blk wr c t (wcells (m.length + k) S' B')) ∧ w.grownBy wr (some c)) (fun v _ => match v with | .slice _ n _ => n | _ => 0)
  case atStart =>
    exact ⟨0, Nat.zero_le _, ⟨sa, cp, rfl, hcp, HSA.out⟩, ⟨S, B, by simpa using HWS.out, by simpa using HB.out⟩, grown_refl _ _⟩
  case round =>
    obtain ⟨k, hk, ⟨a, cp', rfl, hcp', ha⟩, ⟨S1, B1, hws1, hb1⟩, hg⟩ := hrel
    have HA := Lib.hid ha
    have HWS1 := Lib.hid hws1
    have HB1 := Lib.hid hb1
    have HG := Lib.hid hg
    clear ha hws1 hb1 hg
    by_cases hlt : k < l.length
    · obtain rfl := HA.out hlt
      have hBl : B1.length = 64 := HWS1.out.1
      obtain ⟨n, hn⟩ : ∃ n, n = m.length + k := ⟨_, rfl⟩
      obtain ⟨f, hf⟩ : ∃ f, f = n % 64 := ⟨_, rfl⟩
      obtain ⟨r, hr⟩ : ∃ r, r = l.length - k := ⟨_, rfl⟩
      obtain ⟨x, hx⟩ : ∃ x : List Int, x = (l.drop k).take (64 - f) := ⟨_, rfl⟩
      have hxl : x.length = min r (64 - f) := by subst hx hr; simp; omega
      obtain ⟨p, hp⟩ : ∃ p, p = x.length := ⟨_, rfl⟩
      have hnb : n < 4611686018427387904 := by omega
      have hnpb : n + p < 4611686018427387904 := by omega
      have hf64 : f < 64 := by omega
      have hfI : (f : Int) ≤ 64 := by omega
      have hfI2 : (f : Int) < 64 := by omega
      have hr1 : 1 ≤ r := by omega
      have hp1 : 1 ≤ p := by omega
      have hpr : p ≤ r := by omega
      have hpf : p ≤ 64 - f := by omega
      rw [← hn] at HB1
      rw [← hr] at hcp' ⊢
      have hS1l : S1.length = 8 := by rw [HWS1.out.2.2]; exact blocksTo_len _ _ _ hH _
      have hrun : (Builtin.copy_ #[22, 22] 3 #[.slice (some ⟨c, 9 + f, none⟩) (64 - f) (64 - f), .slice (some ⟨sb, k, none⟩) r cp']).run Tryd.prog wr.drew = .ok (.int .i64 p) (wr.drew.setRow c (wcells n S1 (splice B1 f x)).toArray) := by
        rw [hp]
        exact write_copy wr.drew c t n f k r cp' sb S1 B1 l x hS1l hBl hf64 hr hx HB1.out (fun j hj => HG.out.cell (HSRC.out j hj) (by simpa using hsb))
      have HF := Lib.hid hf.symm
      have HH := Lib.hid (And.intro hn (And.intro hf (And.intro hr (And.intro hx (And.intro hxl hp)))))
      clear hn hf hr hx hxl hp
      go_wp2
      go_region_with (go_at_call 67; refine (filled_blk c t _ n f (u32s S1 ++ u8s B1) hnb HF.out ?_).mono ?_; exact HB1.out; rintro e w' ⟨rfl, rfl⟩)
      obtain ⟨B2, hB2⟩ : ∃ B2, B2 = splice B1 f x := ⟨_, rfl⟩
      rw [← hB2]
      have HB2 := Lib.hid (show Blk (wr.drew.setRow c (wcells n S1 B2).toArray) c t (wcells n S1 B2) from setRow_heap wr.drew c _ _ t _ HB1.out)
      have HE2 := Lib.hid hB2
      clear hB2 hrun
      have hprI : (p : Int) ≤ (r : Int) := by omega
      have hB2l : B2.length = 64 := by rw [HE2.out, length_splice _ _ _ (by have := HH.out.2.2.2.2.2; omega)]; exact hBl
      by_cases hfull : f + p = 64
      · have hf2 : (n + p) % 64 = 0 := by have := HF.out; omega
        have HF2 := Lib.hid hf2
        clear hf2
        go_wp2_with fail
        all_goals
          refine (count_blk c t _ n p (u32s S1 ++ u8s B2) hnpb HB2.out).mono ?_
          rintro e w2 ⟨rfl, hb3, hg3⟩
          have HB3 := Lib.hid hb3
          have HG3 := Lib.hid hg3
          clear hb3 hg3
          have hr3 : w2.rangeAt c 9 (u8s B2) := fun j v hv => HB3.out.cell (by have := wcells_get (n + p) j S1 B2 hS1l; rw [← hv, ← this]; rfl)
          have HR3 := Lib.hid hr3
          clear hr3
          go_wp2_with (go_at_call 67; refine (filled_blk c t _ (n + p) 0 (u32s S1 ++ u8s B2) hnpb HF2.out ?_).mono ?_; exact HB3.out; rintro e w' ⟨rfl, rfl⟩)
          go_region_with (first | (go_at_call 70; refine (block_walk c _ B2 hB2l ?_).mono ?_; exact HR3.out; rintro e w3 ⟨X3, rfl, hX3, hg4⟩; have hb4 := HB3.out.drew.kept hg4 (by simp); have hwg3 : w.grownBy w3 (some c) := grown_trans (grown_drew (grown_trans (grown_setRow (grown_drew HG.out) _) HG3.out)) (grown_widen hg4); have hT3 : ∀ k, k < 64 → w3.cell? ⟨2, k, none⟩ = some (.int .u32 (K.getD k 0)) := fun k hk => hwg3.cell (HT.out k hk) (by simpa using h1c)) | (go_at_call 69; refine (take_any c t _ X3 ?_ S1 hS1l K (.int .u64 ((n + p : Nat) : Int)) (u8s B2) hb4 ?_).mono ?_; rotate_right; rintro e w4 ⟨rfl, hb5, hg5⟩; rotate_left; rw [hX3.out]; exact wordsTo_len _ _; exact hT3))
          all_goals go_wp2
          all_goals
            obtain ⟨hn, hf, hr, hx, hxl, hp⟩ := HH.out
            have hrk : r - p = l.length - (k + p) := by omega
            have hw := ws_full HWS1.out x (by rw [show (m ++ l.take k).length % 64 = f from by rw [hf, hn]; simp; omega]; omega)
            rw [show (m ++ l.take k).length % 64 = f from by rw [hf, hn]; simp; omega, ← HE2.out, ← hX3.out, List.append_assoc, ← take_more hx, ← hp] at hw
            refine ⟨⟨k + p, by omega, ⟨_, _, by rw [hrk], by omega, fun h => ?_⟩, ⟨_, B2, hw, ?_⟩, grown_trans hwg3 hg5⟩, ?_⟩
            · first | rfl | (exfalso; omega)
            · rw [show m.length + (k + p) = n + p from by omega]; exact hb5
            · simp; omega
      · obtain ⟨f2, hf2e⟩ : ∃ f2, f2 = f + p := ⟨_, rfl⟩
        have hf2 : (n + p) % 64 = f2 := by have := HF.out; omega
        have hz : ((f2 : Int) == 0) = false := by simp; omega
        have HF2 := Lib.hid hf2
        have HF3 := Lib.hid hf2e
        clear hf2 hf2e
        go_wp2_with fail
        all_goals
          refine (count_blk c t _ n p (u32s S1 ++ u8s B2) hnpb HB2.out).mono ?_
          rintro e w2 ⟨rfl, hb3, hg3⟩
          have HB3 := Lib.hid hb3
          have HG3 := Lib.hid hg3
          clear hb3 hg3
          go_wp2_with (go_at_call 67; refine (filled_blk c t _ (n + p) f2 (u32s S1 ++ u8s B2) hnpb HF2.out ?_).mono ?_; exact HB3.out; rintro e w' ⟨rfl, rfl⟩)
          obtain ⟨hn, hf, hr, hx, hxl, hp⟩ := HH.out
          have hrk : r - p = l.length - (k + p) := by omega
          have hw := ws_part HWS1.out x (by rw [show (m ++ l.take k).length % 64 = f from by rw [hf, hn]; simp; omega]; omega)
          rw [show (m ++ l.take k).length % 64 = f from by rw [hf, hn]; simp; omega, ← HE2.out, List.append_assoc, ← take_more hx, ← hp] at hw
          refine ⟨⟨k + p, by omega, ⟨_, _, by rw [hrk], by omega, fun h => ?_⟩, ⟨_, B2, hw, ?_⟩, grown_trans (grown_setRow (grown_drew HG.out) _) HG3.out⟩, ?_⟩
          · first | rfl | (exfalso; omega)
          · rw [show m.length + (k + p) = n + p from by omega]; exact HB3.out
          · simp; omega
    · obtain rfl : k = l.length := by omega
      have hz : l.length - l.length = 0 := by omega
      rw [hz]
      go_wp2
      go_ret2
      refine ⟨rfl, ⟨S1, B1, ?_, ?_⟩, HG.out⟩
      · have := HWS1.out; rwa [List.take_length] at this
      · have := HB1.out; rwa [← List.length_append] at this

end Go.Proofs.YtdelijobaebfnaaDoor
