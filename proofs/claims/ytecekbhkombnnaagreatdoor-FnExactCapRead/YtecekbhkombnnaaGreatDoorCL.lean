/- Ids, limits and seals, by both. -/
import Derived.Test.YtecekbhkombnnaaGreatDoorNI
import Derived.Test.YtecekbhkombnnaaGreatDoorNS
import Derived.Shelf.Strings.Search2
import Derived.Shelf.Strings.SlTrimAscii
import Derived.Laws.Strings
namespace Go.Proofs.YtecekbhkombnnaaGreatDoor
open Go.RowKit

shelf_lay Lays.n219 Nm 219 at Tryz as Tryz.laysIndex -- 111
shelf_lay Lays.n160 Nm 160 at Tryz as Tryz.laysTrim -- 79

set_option maxRecDepth 100000 in
set_option maxHeartbeats 4000000 in
theorem cutlite_32 (w : World) (p : ByteArray) (hs : p.size ≤ 1048576) : Calls Tryz.prog 84 #[.string p, .string ⟨#[32]⟩] w fun e w' => e = .returned (.tuple #[.string (headB 32 p), .string (restB 32 p), .bool (decide (0 ≤ atB 32 p))]) ∧ w.grownBy w' none := by
  have HI := Lib.hid (Any.stringslite_Index_one Tryz.laysIndex p 32 w)
  have hge := atB_ge 32 p
  rcases (show atB 32 p < 0 ∨ 0 ≤ atB 32 p by omega) with h | h
  · have hn : atB 32 p = -1 := by omega
    have HR := Lib.hid (show restB 32 p = ⟨#[]⟩ ∧ headB 32 p = p ∧ decide (0 ≤ atB 32 p) = false from ⟨restB_none 32 p hn, headB_none 32 p hn, by rw [hn]; rfl⟩)
    have HC := Lib.hid (show Calls Tryz.prog 111 #[.string p, .string ⟨#[32]⟩] w (fun e w' => e = .returned (.int .i64 (-1)) ∧ w' = w) from HI.out.mono fun e w' q => by
      have hn' : Lib.indexByte p.data.toList 32 = -1 := hn
      rw [hn'] at q; exact q)
    clear h hge hn HI
    go_enter Tryz.func84, Tryz.ntmps84
    go_wp2_with fail
    refine HC.out.mono ?_
    rintro e w1 ⟨rfl, hw⟩
    have hw := hw.symm
    subst hw
    go_wp2
    go_ret3
    exact ⟨by rw [HR.out.1, HR.out.2.1, HR.out.2.2]; rfl, grown_refl _ _⟩
  · obtain ⟨k, hk⟩ : ∃ k : Nat, atB 32 p = k := ⟨(atB 32 p).toNat, by omega⟩
    obtain ⟨hk2, -, -⟩ := atB_some 32 p k hk
    have HR := Lib.hid (show restB 32 p = p.extract (k + 1) p.size ∧ headB 32 p = p.extract 0 k ∧ decide (0 ≤ atB 32 p) = true from ⟨restB_at 32 p k hk, headB_at 32 p k hk, decide_eq_true h⟩)
    have HC := Lib.hid (show Calls Tryz.prog 111 #[.string p, .string ⟨#[32]⟩] w (fun e w' => e = .returned (.int .i64 (k : Int)) ∧ w' = w) from HI.out.mono fun e w' q => by
      have hk' : Lib.indexByte p.data.toList 32 = (k : Int) := hk
      rw [hk'] at q; exact q)
    have c2 : (k : Int) ≤ p.size := by omega
    have c4 : (k : Int) + 1 ≤ p.size := by omega
    have c5 : IntKind.i64.wrap ((k : Int) + 1) = (k : Int) + 1 := by rw [IntKind.wrap_i64]; omega
    clear h hge hk HI
    go_enter Tryz.func84, Tryz.ntmps84
    go_wp2_with fail
    refine HC.out.mono ?_
    rintro e w1 ⟨rfl, hw⟩
    have hw := hw.symm
    subst hw
    go_wp2
    go_region
    go_wp2
    go_ret3
    exact ⟨by rw [HR.out.1, HR.out.2.1, HR.out.2.2]; rfl, grown_drew (grown_refl _ _)⟩
set_option maxRecDepth 100000 in
set_option maxHeartbeats 4000000 in
theorem cut_32 (w : World) (p : ByteArray) (hs : p.size ≤ 1048576) : Calls Tryz.prog 64 #[.string p, .string ⟨#[32]⟩] w fun e w' => e = .returned (.tuple #[.string (headB 32 p), .string (restB 32 p), .bool (decide (0 ≤ atB 32 p))]) ∧ w.grownBy w' none := by
  have HC := Lib.hid (cutlite_32 w p hs)
  generalize headB 32 p = X at HC ⊢
  generalize restB 32 p = Y at HC ⊢
  generalize decide (0 ≤ atB 32 p) = z at HC ⊢
  go_enter Tryz.func64, Tryz.ntmps64
  go_wp2_with fail
  refine HC.out.mono ?_
  rintro e w1 ⟨rfl, hg⟩
  have HG := Lib.hid hg
  clear hg HC
  go_wp2
  go_ret3
  exact ⟨rfl, HG.out⟩

set_option maxRecDepth 100000 in
set_option maxHeartbeats 4000000 in
theorem cutlite_46 (w : World) (p : ByteArray) (hs : p.size ≤ 1048576) : Calls Tryz.prog 84 #[.string p, .string ⟨#[46]⟩] w fun e w' => e = .returned (.tuple #[.string (headB 46 p), .string (restB 46 p), .bool (decide (0 ≤ atB 46 p))]) ∧ w.grownBy w' none := by
  have HI := Lib.hid (Any.stringslite_Index_one Tryz.laysIndex p 46 w)
  have hge := atB_ge 46 p
  rcases (show atB 46 p < 0 ∨ 0 ≤ atB 46 p by omega) with h | h
  · have hn : atB 46 p = -1 := by omega
    have HR := Lib.hid (show restB 46 p = ⟨#[]⟩ ∧ headB 46 p = p ∧ decide (0 ≤ atB 46 p) = false from ⟨restB_none 46 p hn, headB_none 46 p hn, by rw [hn]; rfl⟩)
    have HC := Lib.hid (show Calls Tryz.prog 111 #[.string p, .string ⟨#[46]⟩] w (fun e w' => e = .returned (.int .i64 (-1)) ∧ w' = w) from HI.out.mono fun e w' q => by
      have hn' : Lib.indexByte p.data.toList 46 = -1 := hn
      rw [hn'] at q; exact q)
    clear h hge hn HI
    go_enter Tryz.func84, Tryz.ntmps84
    go_wp2_with fail
    refine HC.out.mono ?_
    rintro e w1 ⟨rfl, hw⟩
    have hw := hw.symm
    subst hw
    go_wp2
    go_ret3
    exact ⟨by rw [HR.out.1, HR.out.2.1, HR.out.2.2]; rfl, grown_refl _ _⟩
  · obtain ⟨k, hk⟩ : ∃ k : Nat, atB 46 p = k := ⟨(atB 46 p).toNat, by omega⟩
    obtain ⟨hk2, -, -⟩ := atB_some 46 p k hk
    have HR := Lib.hid (show restB 46 p = p.extract (k + 1) p.size ∧ headB 46 p = p.extract 0 k ∧ decide (0 ≤ atB 46 p) = true from ⟨restB_at 46 p k hk, headB_at 46 p k hk, decide_eq_true h⟩)
    have HC := Lib.hid (show Calls Tryz.prog 111 #[.string p, .string ⟨#[46]⟩] w (fun e w' => e = .returned (.int .i64 (k : Int)) ∧ w' = w) from HI.out.mono fun e w' q => by
      have hk' : Lib.indexByte p.data.toList 46 = (k : Int) := hk
      rw [hk'] at q; exact q)
    have c2 : (k : Int) ≤ p.size := by omega
    have c4 : (k : Int) + 1 ≤ p.size := by omega
    have c5 : IntKind.i64.wrap ((k : Int) + 1) = (k : Int) + 1 := by rw [IntKind.wrap_i64]; omega
    clear h hge hk HI
    go_enter Tryz.func84, Tryz.ntmps84
    go_wp2_with fail
    refine HC.out.mono ?_
    rintro e w1 ⟨rfl, hw⟩
    have hw := hw.symm
    subst hw
    go_wp2
    go_region
    go_wp2
    go_ret3
    exact ⟨by rw [HR.out.1, HR.out.2.1, HR.out.2.2]; rfl, grown_drew (grown_refl _ _)⟩
set_option maxRecDepth 100000 in
set_option maxHeartbeats 4000000 in
theorem cut_46 (w : World) (p : ByteArray) (hs : p.size ≤ 1048576) : Calls Tryz.prog 64 #[.string p, .string ⟨#[46]⟩] w fun e w' => e = .returned (.tuple #[.string (headB 46 p), .string (restB 46 p), .bool (decide (0 ≤ atB 46 p))]) ∧ w.grownBy w' none := by
  have HC := Lib.hid (cutlite_46 w p hs)
  generalize headB 46 p = X at HC ⊢
  generalize restB 46 p = Y at HC ⊢
  generalize decide (0 ≤ atB 46 p) = z at HC ⊢
  go_enter Tryz.func64, Tryz.ntmps64
  go_wp2_with fail
  refine HC.out.mono ?_
  rintro e w1 ⟨rfl, hg⟩
  have HG := Lib.hid hg
  clear hg HC
  go_wp2
  go_ret3
  exact ⟨rfl, HG.out⟩

/-- a text that is the id of a thing -/
def IdP (s : ByteArray) : Prop := 0 ≤ atB 46 s ∧ NameOk (headB 46 s) ∧ NameOk (restB 46 s)

set_option maxRecDepth 100000 in
set_option maxHeartbeats 8000000 in
theorem iid_any (w : World) (s : ByteArray) (hs : s.size ≤ 1048576) : Calls Tryz.prog 37 #[.string s] w fun e w' => Says e (IdP s) ∧ w.grownBy w' none := by
  have HC := Lib.hid (cut_46 w s hs)
  obtain ⟨P, hP⟩ : ∃ P, IdP s = P := ⟨_, rfl⟩
  have HP := Lib.hid (show P ↔ 0 ≤ atB 46 s ∧ NameOk (headB 46 s) ∧ NameOk (restB 46 s) from by rw [← hP]; exact Iff.rfl)
  rw [hP]
  have hz1 := headB_size 46 s
  have hz2 := restB_size 46 s
  clear hP
  obtain ⟨X, hX⟩ : ∃ X, headB 46 s = X := ⟨_, rfl⟩
  obtain ⟨Y, hY⟩ : ∃ Y, restB 46 s = Y := ⟨_, rfl⟩
  rw [hX] at HC HP hz1
  rw [hY] at HC HP hz2
  have HX := Lib.hid (fun V => inameOk_any V X (by omega))
  have HY := Lib.hid (fun V => inameOk_any V Y (by omega))
  clear hX hY hz1 hz2
  by_cases h0 : 0 ≤ atB 46 s
  case neg =>
    have HD := Lib.hid (show Says (.returned (.bool false)) P from .no (fun h => h0 (HP.out.1 h).1))
    rw [show decide (0 ≤ atB 46 s) = false from decide_eq_false h0] at HC
    clear h0
    go_enter Tryz.func37, Tryz.ntmps37
    go_wp2_with fail
    refine HC.out.mono ?_
    rintro e w1 ⟨rfl, hg⟩
    have HG := Lib.hid hg
    clear hg HC
    go_wp2
    go_ret
    exact ⟨HD.out, HG.out⟩
  rw [show decide (0 ≤ atB 46 s) = true from decide_eq_true h0] at HC
  have H0 := Lib.hid h0
  clear h0
  by_cases h1 : NameOk X
  case neg =>
    have HD := Lib.hid (show Says (.returned (.bool false)) P from .no (fun h => h1 (HP.out.1 h).2.1))
    have HX' := Lib.hid (fun V => (HX.out V).mono (R' := fun e w' => e = .returned (.bool false) ∧ w' = V) (fun e w' q => ⟨q.1.is_no h1, q.2⟩))
    clear h1
    go_enter Tryz.func37, Tryz.ntmps37
    go_wp2_with fail
    refine HC.out.mono ?_
    rintro e w1 ⟨rfl, hg⟩
    have HG := Lib.hid hg
    clear hg HC
    go_wp2_with fail
    refine (HX'.out w1).mono ?_
    rintro e w2 ⟨rfl, rfl⟩
    go_wp2
    go_ret
    exact ⟨HD.out, HG.out⟩
  have HX' := Lib.hid (fun V => (HX.out V).mono (R' := fun e w' => e = .returned (.bool true) ∧ w' = V) (fun e w' q => ⟨q.1.is_yes h1, q.2⟩))
  have H1 := Lib.hid h1
  clear h1
  by_cases h2 : NameOk Y
  case pos =>
    have HD := Lib.hid (show Says (.returned (.bool true)) P from .yes (HP.out.2 ⟨H0.out, H1.out, h2⟩))
    have HY' := Lib.hid (fun V => (HY.out V).mono (R' := fun e w' => e = .returned (.bool true) ∧ w' = V) (fun e w' q => ⟨q.1.is_yes h2, q.2⟩))
    clear h2
    go_enter Tryz.func37, Tryz.ntmps37
    go_wp2_with fail
    refine HC.out.mono ?_
    rintro e w1 ⟨rfl, hg⟩
    have HG := Lib.hid hg
    clear hg HC
    go_wp2_with fail
    refine (HX'.out w1).mono ?_
    rintro e w2 ⟨rfl, rfl⟩
    go_wp2_with fail
    refine (HY'.out w2).mono ?_
    rintro e w3 ⟨rfl, rfl⟩
    go_wp2
    go_ret
    exact ⟨HD.out, HG.out⟩
  case neg =>
    have HD := Lib.hid (show Says (.returned (.bool false)) P from .no (fun h => h2 (HP.out.1 h).2.2))
    have HY' := Lib.hid (fun V => (HY.out V).mono (R' := fun e w' => e = .returned (.bool false) ∧ w' = V) (fun e w' q => ⟨q.1.is_no h2, q.2⟩))
    clear h2
    go_enter Tryz.func37, Tryz.ntmps37
    go_wp2_with fail
    refine HC.out.mono ?_
    rintro e w1 ⟨rfl, hg⟩
    have HG := Lib.hid hg
    clear hg HC
    go_wp2_with fail
    refine (HX'.out w1).mono ?_
    rintro e w2 ⟨rfl, rfl⟩
    go_wp2_with fail
    refine (HY'.out w2).mono ?_
    rintro e w3 ⟨rfl, rfl⟩
    go_wp2
    go_ret
    exact ⟨HD.out, HG.out⟩

set_option maxRecDepth 100000 in
set_option maxHeartbeats 8000000 in
theorem sid_any (w : World) (s : ByteArray) (hs : s.size ≤ 1048576) : Calls Tryz.prog 35 #[.string s] w fun e w' => Says e (IdP s) ∧ w' = w := by
  obtain ⟨P, hP⟩ : ∃ P, IdP s = P := ⟨_, rfl⟩
  have HP := Lib.hid (show P ↔ 0 ≤ atB 46 s ∧ NameOk (headB 46 s) ∧ NameOk (restB 46 s) from by rw [← hP]; exact Iff.rfl)
  rw [hP]
  clear hP
  go_enter Tryz.func35, Tryz.ntmps35
  go_wp2
  go_loop [3] (fun i => ∃ k : Nat, k ≤ s.size ∧ i = .int .i64 k ∧ Hid (∀ j (h : j < s.size), j < k → s[j].toNat ≠ (46 : UInt8).toNat)) (fun i => s.size - (intOf i).toNat)
  case atStart => exact ⟨0, Nat.zero_le _, rfl, Lib.hid fun j _ h => absurd h (Nat.not_lt_zero _)⟩
  case round =>
    obtain ⟨k, hk, rfl, HA⟩ := hrel
    by_cases hlt : k < s.size
    · have hkI : (k : Int) < s.size := by omega
      have hkI2 : (k : Int) ≤ s.size := by omega
      obtain ⟨x, hx⟩ : ∃ x : Nat, s[k].toNat = x := ⟨_, rfl⟩
      have HX := Lib.hid hx
      by_cases c1 : (x : Int) = 46
      · have c1b : ((x : Int) == 46) = true := by rw [beq_iff_eq]; exact c1
        have hn := atB_at 46 s k hlt (by rw [HX.out]; show x = 46; omega) HA.out
        obtain ⟨X, hX⟩ : ∃ X, s.extract 0 k = X := ⟨_, rfl⟩
        obtain ⟨Y, hY⟩ : ∃ Y, s.extract (k + 1) s.size = Y := ⟨_, rfl⟩
        have HP2 := Lib.hid (show P ↔ NameOk X ∧ NameOk Y from by
          rw [HP.out, headB_at 46 s k hn, restB_at 46 s k hn, hX, hY]
          exact ⟨fun h => h.2, fun h => ⟨by omega, h⟩⟩)
        have hzx : X.size ≤ 1048576 := by rw [← hX, ByteArray.size_extract]; omega
        have hzy : Y.size ≤ 1048576 := by rw [← hY, ByteArray.size_extract]; omega
        have HNX := Lib.hid (nameOkS_any w X hzx)
        have HNY := Lib.hid (nameOkS_any w Y hzy)
        have c4 : (k : Int) + 1 ≤ s.size := by omega
        have c5 : IntKind.i64.wrap ((k : Int) + 1) = (k : Int) + 1 := by rw [IntKind.wrap_i64]; omega
        clear c1 hn hzx hzy HP
        go_wp2_with fail
        refine HNX.out.mono ?_
        rintro e w1 ⟨⟨b1, rfl, hb1⟩, hw⟩
        have hw := hw.symm
        subst hw
        have HB1 := Lib.hid hb1
        clear hb1 HNX
        cases b1
        · have HD := Lib.hid (show Says (.returned (.bool false)) P from .no (fun h => by have := HB1.out.2 (HP2.out.1 h).1; cases this))
          go_wp2
          go_ret
          exact ⟨HD.out, rfl⟩
        go_wp2_with fail
        refine HNY.out.mono ?_
        rintro e w1 ⟨⟨b2, rfl, hb2⟩, hw⟩
        have hw := hw.symm
        subst hw
        have HD := Lib.hid (show Says (.returned (.bool b2)) P from ⟨b2, rfl, by rw [hb2, HP2.out]; exact ⟨fun h => ⟨HB1.out.1 (by first | trivial | rfl), h⟩, fun h => h.2⟩⟩)
        clear hb2 HNY
        go_wp2
        go_ret
        exact ⟨HD.out, rfl⟩
      · have c1b : ((x : Int) == 46) = false := by rw [beq_eq_false_iff_ne]; exact c1
        have HA2 := Lib.hid (show ∀ j (h : j < s.size), j < k + 1 → s[j].toNat ≠ (46 : UInt8).toNat from fun j h hj => by
          by_cases e : j = k
          · subst e; rw [HX.out]; show x ≠ 46; omega
          · exact HA.out j h (by omega))
        clear c1
        go_wp2
        exact ⟨⟨k + 1, by omega, by go_num, HA2⟩, by simp [intOf]; omega⟩
    · obtain rfl : k = s.size := by omega
      have hn := atB_no 46 s (fun j h => HA.out j h h)
      have HD := Lib.hid (show Says (.returned (.bool false)) P from .no (fun h => by have := (HP.out.1 h).1; omega))
      clear hn
      go_wp2
      go_ret
      exact ⟨HD.out, rfl⟩

def HexB (x : Nat) : Prop := (48 ≤ x ∧ x ≤ 57) ∨ (97 ≤ x ∧ x ≤ 102)
/-- a text that may be a seal -/
def SealP (s : ByteArray) : Prop := s.size = 64 ∧ ∀ j (h : j < s.size), HexB s[j].toNat

set_option maxRecDepth 100000 in
set_option maxHeartbeats 8000000 in
theorem sseal_any (w : World) (s : ByteArray) (hs : s.size ≤ 1048576) : Calls Tryz.prog 48 #[.string s] w fun e w' => Says e (SealP s) ∧ w' = w := by
  go_enter Tryz.func48, Tryz.ntmps48
  go_wp2
  go_loop [3] (fun i => ∃ k : Nat, k ≤ s.size ∧ i = .int .i64 k ∧ Hid (∀ j (h : j < s.size), j < k → HexB s[j].toNat)) (fun i => s.size - (intOf i).toNat)
  case atStart => exact ⟨0, Nat.zero_le _, rfl, Lib.hid fun j _ h => absurd h (Nat.not_lt_zero _)⟩
  case round =>
    obtain ⟨k, hk, rfl, HA⟩ := hrel
    by_cases hlt : k < s.size
    · have hkI : (k : Int) < s.size := by omega
      obtain ⟨x, hx⟩ : ∃ x : Nat, s[k].toNat = x := ⟨_, rfl⟩
      have HX := Lib.hid hx
      have HNO := Lib.hid (fun hb : ¬ HexB x => show Says (.returned (.bool false)) (SealP s) from .no fun h => hb (by have := h.2 k hlt; rwa [HX.out] at this))
      have HGO := Lib.hid (fun hb : HexB x => show ∀ j (h : j < s.size), j < k + 1 → HexB s[j].toNat from fun j h hj => by
        by_cases e : j = k
        · subst e; rw [HX.out]; exact hb
        · exact HA.out j h (by omega))
      by_cases a1 : (48 : Int) ≤ x
      · by_cases a2 : (x : Int) ≤ 57
        · have HY := Lib.hid (HGO.out (.inl ⟨by omega, by omega⟩))
          go_wp2
          exact ⟨⟨k + 1, by omega, by go_num, HY⟩, by simp [intOf]; omega⟩
        · by_cases a3 : (97 : Int) ≤ x
          · by_cases a4 : (x : Int) ≤ 102
            · have HY := Lib.hid (HGO.out (.inr ⟨by omega, by omega⟩))
              go_wp2
              exact ⟨⟨k + 1, by omega, by go_num, HY⟩, by simp [intOf]; omega⟩
            · have HN := Lib.hid (HNO.out (fun h => by rcases h with h | h <;> omega))
              go_wp2
              go_ret
              exact ⟨HN.out, rfl⟩
          · have HN := Lib.hid (HNO.out (fun h => by rcases h with h | h <;> omega))
            go_wp2
            go_ret
            exact ⟨HN.out, rfl⟩
      · have a3 : ¬ (97 : Int) ≤ x := by omega
        have HN := Lib.hid (HNO.out (fun h => by rcases h with h | h <;> omega))
        go_wp2
        go_ret
        exact ⟨HN.out, rfl⟩
    · obtain rfl : k = s.size := by omega
      by_cases h64 : (s.size : Int) = 64
      · have h64b : ((s.size : Int) == 64) = true := by rw [beq_iff_eq]; exact h64
        have HD := Lib.hid (show Says (.returned (.bool true)) (SealP s) from .yes ⟨by omega, fun j h => HA.out j h h⟩)
        clear h64
        go_wp2
        go_ret
        exact ⟨HD.out, rfl⟩
      · have h64b : ((s.size : Int) == 64) = false := by rw [beq_eq_false_iff_ne]; exact h64
        have HD := Lib.hid (show Says (.returned (.bool false)) (SealP s) from .no (fun h => h64 (by have := h.1; omega)))
        clear h64
        go_wp2
        go_ret
        exact ⟨HD.out, rfl⟩

/-- the figures of seals -/
def hexC : ByteArray := ⟨#[48, 49, 50, 51, 52, 53, 54, 55, 56, 57, 97, 98, 99, 100, 101, 102]⟩
theorem hex_mem : ((List.range 256).all fun x => decide (hexC.data.toList.contains (UInt8.ofNat x) = true ↔ ((48 ≤ x ∧ x ≤ 57) ∨ (97 ≤ x ∧ x ≤ 102)))) = true := by decide +kernel
theorem hex_iff (c : UInt8) : hexC.data.toList.contains c = true ↔ HexB c.toNat := by
  have h := of_decide_eq_true (List.all_eq_true.1 hex_mem c.toNat (by have := c.toNat_lt; simp; omega))
  rw [show UInt8.ofNat c.toNat = c from by simp] at h
  exact h
theorem drop_nil (p : UInt8 → Bool) : ∀ l : List UInt8, l.dropWhile p = [] ↔ ∀ c ∈ l, p c = true
  | [] => by simp
  | a :: l => by
    rw [List.dropWhile_cons]
    by_cases h : p a = true
    · rw [if_pos h, drop_nil p l]; simp [h]
    · rw [if_neg h]; simp [h]
theorem drop_head (p : UInt8 → Bool) : ∀ (l : List UInt8) (a : UInt8) (t : List UInt8), l.dropWhile p = a :: t → p a = false
  | [], _, _, h => by cases h
  | b :: l, a, t, h => by
    rw [List.dropWhile_cons] at h
    by_cases hb : p b = true
    · rw [if_pos hb] at h; exact drop_head p l a t h
    · rw [if_neg hb] at h
      cases h
      simpa using hb
theorem trim_nil (s : ByteArray) : Lib.trimS s.data.toList hexC.data.toList = [] ↔ ∀ j (h : j < s.size), HexB s[j].toNat := by
  have e : Lib.trimS s.data.toList hexC.data.toList = [] ↔ ∀ c ∈ s.data.toList, hexC.data.toList.contains c = true := by
    unfold Lib.trimS Lib.trimLeftS Lib.trimRightS
    rw [drop_nil]
    constructor
    · intro h
      cases hr : s.data.toList.reverse.dropWhile (hexC.data.toList.contains ·) with
      | nil =>
        intro c hc
        exact (drop_nil _ _).1 hr c (List.mem_reverse.2 hc)
      | cons a t =>
        have h1 := drop_head _ _ a t hr
        have h2 := h a (by rw [hr]; simp)
        rw [h1] at h2; cases h2
    · intro h c hc
      have h1 : s.data.toList.reverse.dropWhile (hexC.data.toList.contains ·) = [] := (drop_nil _ _).2 (fun c hc => h c (List.mem_reverse.1 hc))
      rw [h1] at hc
      cases hc
  rw [e]
  constructor
  · intro h j hj
    exact (hex_iff _).1 (h _ (List.mem_of_getElem? (dataB_get s j hj)))
  · intro h c hc
    obtain ⟨j, hj, e⟩ := List.mem_iff_getElem.1 hc
    have hj2 : j < s.size := by simpa using hj
    have h2 := dataB_get s j hj2
    rw [List.getElem?_eq_getElem hj, e] at h2
    rw [Option.some.inj h2]
    exact (hex_iff _).2 (h j hj2)
end Go.Proofs.YtecekbhkombnnaaGreatDoor
