/- What the limits of a credential let, as functions and as facts. -/
import Derived.Test.YtecekbhkombnnaaGreatDoorCN
import Derived.Test.YtecekbhkombnnaaGreatDoorP1
namespace Go.Proofs.YtecekbhkombnnaaGreatDoor
open Go.RowKit

/-- what a limit lets -/
def LetP (l id : ByteArray) (now : Int) : Prop := (∃ n, LimU l n ∧ now ≤ n) ∨ (LimO l ∧ id = restB 32 l)
/-- a limit as a function, and what it lets -/
def LetF (V : World) (r : Option Nat) (id : ByteArray) (now : Int) (f : Value) (p : Prop) : Prop :=
  (∃ (n : Int) (q : Nat), f = .func (.func 80) #[] #[.pointer (some ⟨q, 0, none⟩)] ∧ some q ≠ r ∧ q < V.heap.size ∧ V.cell? ⟨q, 0, none⟩ = some (.int .i64 n) ∧ (p ↔ now ≤ n)) ∨
  (∃ (Y : ByteArray) (q : Nat), f = .func (.func 81) #[] #[.pointer (some ⟨q, 0, none⟩)] ∧ some q ≠ r ∧ q < V.heap.size ∧ V.cell? ⟨q, 0, none⟩ = some (.string Y) ∧ (p ↔ id = Y)) ∨
  (∃ (a b : Int) (q : Nat), f = .func (.func 68) #[] #[.pointer (some ⟨q, 0, none⟩)] ∧ some q ≠ r ∧ q < V.heap.size ∧ V.cell? ⟨q, 3, none⟩ = some (.int .i64 a) ∧ V.cell? ⟨q, 4, none⟩ = some (.int .i64 b) ∧ (p ↔ a ≤ now ∧ now ≤ b))
theorem LetF.kept {V V' : World} {r r' : Option Nat} {id : ByteArray} {now : Int} {f : Value} {p : Prop} (h : LetF V r id now f p) (hg : V.grownBy V' r) (hr : ∀ q, r' = some q → r = some q ∨ V.heap.size ≤ q) : LetF V' r' id now f p := by
  rcases h with ⟨n, q, h1, h2, h3, h4, h5⟩ | ⟨Y, q, h1, h2, h3, h4, h5⟩ | ⟨a, b, q, h1, h2, h3, h4, h6, h5⟩
  · exact .inl ⟨n, q, h1, (fun e => by rcases hr q e.symm with h | h; exact h2 h.symm; omega), Nat.lt_of_lt_of_le h3 hg.size, hg.cell h4 h2, h5⟩
  · exact .inr (.inl ⟨Y, q, h1, (fun e => by rcases hr q e.symm with h | h; exact h2 h.symm; omega), Nat.lt_of_lt_of_le h3 hg.size, hg.cell h4 h2, h5⟩)
  · exact .inr (.inr ⟨a, b, q, h1, (fun e => by rcases hr q e.symm with h | h; exact h2 h.symm; omega), Nat.lt_of_lt_of_le h3 hg.size, hg.cell h4 h2, hg.cell h6 h2, h5⟩)
theorem LetF.free {V V' : World} {r : Option Nat} {id : ByteArray} {now : Int} {f : Value} {p : Prop} (h : LetF V r id now f p) (hg : V.grownBy V' none) : LetF V' none id now f p := by
  rcases h with ⟨n, q, h1, h2, h3, h4, h5⟩ | ⟨Y, q, h1, h2, h3, h4, h5⟩ | ⟨a, b, q, h1, h2, h3, h4, h6, h5⟩
  · exact .inl ⟨n, q, h1, by simp, Nat.lt_of_lt_of_le h3 hg.size, hg.cell h4 (by simp), h5⟩
  · exact .inr (.inl ⟨Y, q, h1, by simp, Nat.lt_of_lt_of_le h3 hg.size, hg.cell h4 (by simp), h5⟩)
  · exact .inr (.inr ⟨a, b, q, h1, by simp, Nat.lt_of_lt_of_le h3 hg.size, hg.cell h4 (by simp), hg.cell h6 (by simp), h5⟩)
theorem LetF.of_lim {V : World} {base : Nat} {r : Option Nat} {f : Value} {l : ByteArray} (id : ByteArray) (now : Int) (h : LimV V base f l) (hr : ∀ q, r = some q → q < base) : LetF V r id now f (LetP l id now) := by
  rcases h with ⟨n, q, h1, h2, h3, h4, h5⟩ | ⟨q, h1, h2, h3, h4, h5⟩
  · refine .inl ⟨n, q, h2, (fun e => by have := hr q e.symm; omega), h4, h5, ?_⟩
    unfold LetP
    constructor
    · rintro (⟨m, g1, g2⟩ | ⟨g1, -⟩)
      · rw [h1.same g1]; exact g2
      · exact (lim_apart h1 g1).elim
    · exact fun g => .inl ⟨n, h1, g⟩
  · refine .inr (.inl ⟨restB 32 l, q, h2, (fun e => by have := hr q e.symm; omega), h4, h5, ?_⟩)
    unfold LetP
    constructor
    · rintro (⟨m, g1, g2⟩ | ⟨-, g1⟩)
      · exact (lim_apart g1 h1).elim
      · exact g1
    · exact fun g => .inr ⟨h1, g⟩
/-- what the limits of a credential let, its ticks ahead -/
def PJ (frm unt : Int) (ls : List ByteArray) (id : ByteArray) (now : Int) : Nat → Prop
  | 0 => frm ≤ now ∧ now ≤ unt
  | k + 1 => LetP (ls.getD k ByteArray.empty) id now
theorem infoFn : (Tryz.prog.info? 62).map (fun i => (i.zero, i.size, i.bytes)) = some (some .nilFunc, 1, 8) := by kernel_rfl
end Go.Proofs.YtecekbhkombnnaaGreatDoor

namespace Go.Proofs.YtecekbhkombnnaaGreatDoor
open Go.RowKit

theorem toL_iff {a b : ByteArray} : a = b ↔ a.toList = b.toList := ⟨fun h => by rw [h], fun h => bytes_ext (by rw [← ByteArray.toList_eq, ← ByteArray.toList_eq]; exact h)⟩
theorem LimV.form {V : World} {base : Nat} {f : Value} {l : ByteArray} (h : LimV V base f l) : ∃ (F : FuncId) (q : Nat), f = .func (.func F) #[] #[.pointer (some ⟨q, 0, none⟩)] := by
  rcases h with ⟨n, q, -, h, -⟩ | ⟨q, -, h, -⟩
  · exact ⟨_, q, h⟩
  · exact ⟨_, q, h⟩

set_option maxRecDepth 100000 in
set_option maxHeartbeats 8000000 in
theorem climits_any (w : World) (hE : ErrC w) (hP : Pow w) (id : ByteArray) (now : Int) (tn sp : ByteArray) (run frm unt : Int) (ao : Option Addr) (cp : Nat) (ls : List ByteArray) (se : ByteArray) (base : Nat) (hl : Lies w base ao ls) (hn : ls.length ≤ 4) (hz : ∀ l ∈ ls, l.size ≤ 1048576) (hp : ∀ l ∈ ls, LimP l) :
    Calls Tryz.prog 40 #[.agg #[.string tn, .string sp, .int .i64 run, .int .i64 frm, .int .i64 unt, .slice ao ls.length cp, .string se]] w fun e w' => (∃ (v : Value) (FL : List Value) (b : Nat), e = .returned v ∧ Row w' b v FL ∧ FL.length = ls.length + 1 ∧ ∀ j (h : j < FL.length), LetF w' none id now FL[j] (PJ frm unt ls id now j)) ∧ w.grownBy w' none := by
  obtain ⟨W, hW⟩ : ∃ W, w.alloc (Obj.cells #[Value.string tn, .string sp, .int .i64 run, .int .i64 frm, .int .i64 unt, .slice ao ls.length cp, .string se] 26) = W := ⟨_, rfl⟩
  obtain ⟨B, hB⟩ : ∃ x, w.heap.size = x := ⟨_, rfl⟩
  have HG := Lib.hid (show w.grownBy W none from by rw [← hW]; exact grown_alloc (grown_refl _ _) _)
  have HB := Lib.hid (show Blk W B 26 [.string tn, .string sp, .int .i64 run, .int .i64 frm, .int .i64 unt, .slice ao ls.length cp, .string se] from by rw [← hW, ← hB]; exact Blk.new w 26 _)
  have HE := Lib.hid hE
  have HP := Lib.hid hP
  have HL := Lib.hid hl
  have HZ := Lib.hid hz
  have HPL := Lib.hid hp
  have HN4 := Lib.hid hn
  have HW := Lib.hid hW
  have HBE := Lib.hid hB
  have HS1 := Lib.hid (show B + 1 = W.heap.size from by rw [← hW, ← hB]; simp)
  clear hW hB hE hP hl hz hp
  obtain ⟨i9, hi9, hz0, hz1, hz2⟩ := info_parts infoFn
  go_enter Tryz.func40, Tryz.ntmps40
  go_wp2
  rw [HW.out, HBE.out, HS1.out]
  go_loopw [3, 13] (fun v i wr => ∃ (k : Nat) (FL : List Value), k ≤ ls.length ∧ i = .int .i64 k ∧ FL.length = k + 1 ∧ Hid (Row wr W.heap.size v FL) ∧ Hid (∀ j (h : j < FL.length), LetF wr v.ownBlock id now FL[j] (PJ frm unt ls id now j)) ∧ W.grownBy wr none) (fun _ i _ => ls.length - (intOf i).toNat)
  case atStart =>
    refine ⟨0, [.func (.func 68) #[] #[.pointer (some ⟨B, 0, none⟩)]], Nat.zero_le _, rfl, rfl, Lib.hid (Row.lit W 62 [.func (.func 68) #[] #[.pointer (some ⟨B, 0, none⟩)]]), Lib.hid (fun j h => ?_), grown_alloc (grown_refl _ _) _⟩
    have hBl := lt_of_block HB.out
    obtain rfl : j = 0 := by simp at h; omega
    refine .inr (.inr ⟨frm, unt, B, rfl, (fun e => by have e2 : B = W.heap.size := Option.some.inj e; omega), by simp; omega, (World.grownBy_alloc W _ none).cell (HB.out.cell rfl) (by simp), (World.grownBy_alloc W _ none).cell (HB.out.cell rfl) (by simp), Iff.rfl⟩)
  case round =>
    obtain ⟨k, FL, hk, rfl, hfl, HR, HLT, hg⟩ := hrel
    have HGr := Lib.hid hg
    have hszW := hg.size
    have HFL := Lib.hid hfl
    clear hg hfl
    by_cases hlt : k < ls.length
    · rcases HL.out with h00 | ⟨ab, oo, rfl, -, hc⟩
      · omega
      obtain ⟨s, hse⟩ : ∃ s, s = ls.getD k ByteArray.empty := ⟨_, rfl⟩
      have hge : ls[k] = s := by rw [hse]; simp [hlt]
      have d0 := (grown_trans HG.out HGr.out).cell (hc k hlt) (by simp)
      rw [← hse] at d0
      have hms : s ∈ ls := by rw [← hge]; exact List.getElem_mem hlt
      have HCA := Lib.hid (ilim_any wr s (HZ.out s hms) (HE.out.grown (grown_trans HG.out HGr.out)) (HP.out.grown (grown_trans HG.out HGr.out)))
      have HLS := Lib.hid (HPL.out s hms)
      have HPJ := Lib.hid (show PJ frm unt ls id now (k + 1) = LetP s id now from by rw [hse]; rfl)
      have hkI : (k : Int) < ls.length := by omega
      have hk4 : (k : Int) ≤ 4 := by omega
      clear hc hse hge hms
      go_wp2_with fail
      refine HCA.out.mono ?_
      rintro e w1 ⟨⟨f, b, rfl, hb⟩, hg1⟩
      rcases hb with ⟨rfl, hf1⟩ | ⟨-, hno⟩
      case inr => exact absurd HLS.out hno
      have HLV := Lib.hid (LetF.of_lim (r := u3.ownBlock) id now hf1 (fun q hq => (HR.out.lt q hq).2))
      obtain ⟨F, q, rfl⟩ := hf1.form
      have HG1 := Lib.hid (grown_trans HGr.out hg1)
      have HR1 := Lib.hid (HR.out.kept hg1 (by simp))
      have HLT1 := Lib.hid (fun j (h : j < FL.length) => (HLT.out j h).kept (grown_widen hg1) (r' := u3.ownBlock) (fun q hq => .inl hq))
      have hsz1 : W.heap.size ≤ w1.heap.size := by have := hg1.size; omega
      have HLN := Lib.hid (show FL.length ≤ 5 from by rw [HFL.out]; omega)
      clear hg1 HCA d0 hf1 HR HLT
      go_wp2_with (first | (at_builtin; refine wpList_append_row2 rfl _ _ 51 rfl 62 i9 .nilFunc 8 Tryz.underlying51 hi9 hz0 hz1 hz2 rfl W.heap.size _ FL rfl (HR1.out.alloc _) ⟨_, 0, none⟩ 1 1 [.func (.func F) #[] #[.pointer (some ⟨q, 0, none⟩)]] rfl rfl (news_new _ 62 [.func (.func F) #[] #[.pointer (some ⟨q, 0, none⟩)]]) (fun u hu => by rw [List.mem_singleton.1 hu]; rfl) (by have := HLN.out; unfold maxLen; omega) (by have := HLN.out; omega) (by simp; omega) ?_; intro v2 w2 HR2 HG2 HO2))
      go_roundw
      case rel =>
        refine ⟨k + 1, _, by omega, by go_num, ?_, HR2, Lib.hid (fun j h => ?_), grown_own (grown_alloc HG1.out _) HG2.out (fun q hq => (HR1.out.lt q hq).1)⟩
        · rw [List.length_append, HFL.out]; rfl
        · by_cases hj : j < FL.length
          · rw [List.getElem_append_left hj]
            exact ((HLT1.out j hj).kept (World.grownBy_alloc w1 _ _) (r' := u3.ownBlock) (fun q hq => .inl hq)).kept HG2.out HO2.out
          · have hj2 : j = FL.length := by simp at h; omega
            subst hj2
            have e9 : ∀ (x : Value) (h : FL.length < (FL ++ [x]).length), (FL ++ [x])[FL.length] = x := fun x h => by simp
            rw [e9, HFL.out, HPJ.out]
            exact (HLV.out.kept (World.grownBy_alloc w1 _ _) (r' := u3.ownBlock) (fun q hq => .inl hq)).kept HG2.out HO2.out
      case measure => simp [intOf]; omega
    · obtain rfl : k = ls.length := by omega
      have HLT2 := Lib.hid (fun j (h : j < FL.length) => (HLT.out j h).free (grown_refl _ _))
      clear HLT
      go_wp2
      go_ret
      exact ⟨⟨_, FL, _, rfl, HR.out, HFL.out, HLT2.out⟩, grown_trans HG.out HGr.out⟩

set_option maxRecDepth 100000 in
set_option maxHeartbeats 4000000 in
theorem lone_any (V : World) (id : ByteArray) (now : Int) (f : Value) (p : Prop) (a b : Nat) (hf : LetF V none id now f p) (ha : V.cell? ⟨a, 0, none⟩ = some (.string id)) (hb : V.cell? ⟨b, 0, none⟩ = some (.int .i64 now)) :
    Calls Tryz.prog 67 #[f, .pointer (some ⟨a, 0, none⟩), .pointer (some ⟨b, 0, none⟩)] V fun e w' => Says e p ∧ V.grownBy w' none := by
  rcases hf with ⟨n, q, rfl, -, -, c0, hp⟩ | ⟨Y, q, rfl, -, -, c0, hp⟩ | ⟨x, y, q, rfl, -, -, c0, c1, hp⟩
  · have HC := Lib.hid (show Calls Tryz.prog 80 #[.string id, .int .i64 now, .pointer (some ⟨q, 0, none⟩)] V (fun e w' => e = .returned (.bool (decide (now ≤ n))) ∧ w' = V) from by
      go_enter Tryz.func80, Tryz.ntmps80
      go_wp2
      go_ret
      exact ⟨rfl, rfl⟩)
    have HD := Lib.hid (show Says (.returned (.bool (decide (now ≤ n)))) p from ⟨_, rfl, by rw [hp]; exact decide_eq_true_iff⟩)
    clear hp c0
    go_enter Tryz.func67, Tryz.ntmps67
    go_wp2_with fail
    refine HC.out.mono ?_
    rintro e w1 ⟨rfl, rfl⟩
    clear HC
    go_wp2
    go_ret
    exact ⟨HD.out, grown_refl _ _⟩
  · have HC := Lib.hid (show Calls Tryz.prog 81 #[.string id, .int .i64 now, .pointer (some ⟨q, 0, none⟩)] V (fun e w' => Says e p ∧ w' = V) from by
      have HP := Lib.hid hp
      clear hp ha hb
      have HD := Lib.hid (show Says (.returned (.bool (id.toList == Y.toList))) p from ⟨_, rfl, by rw [HP.out, beq_iff_eq]; exact toL_iff.symm⟩)
      go_enter Tryz.func81, Tryz.ntmps81
      go_wp2
      go_ret
      exact ⟨HD.out, rfl⟩)
    clear hp c0
    go_enter Tryz.func67, Tryz.ntmps67
    go_wp2_with fail
    refine HC.out.mono ?_
    rintro e w1 ⟨⟨z, rfl, hz⟩, rfl⟩
    have HD := Lib.hid (show Says (.returned (.bool z)) p from ⟨z, rfl, hz⟩)
    clear HC hz
    go_wp2
    go_ret
    exact ⟨HD.out, grown_refl _ _⟩
  · have HC := Lib.hid (show Calls Tryz.prog 68 #[.string id, .int .i64 now, .pointer (some ⟨q, 0, none⟩)] V (fun e w' => Says e p ∧ w' = V) from by
      have HP := Lib.hid hp
      clear hp ha hb
      by_cases g1 : x ≤ now
      case neg =>
        have HD := Lib.hid (show Says (.returned (.bool false)) p from .no (fun h => g1 (HP.out.1 h).1))
        have g1b : decide (x ≤ now) = false := decide_eq_false g1
        go_enter Tryz.func68, Tryz.ntmps68
        go_wp2
        go_ret
        exact ⟨HD.out, rfl⟩
      by_cases g2 : now ≤ y
      case neg =>
        have HD := Lib.hid (show Says (.returned (.bool false)) p from .no (fun h => g2 (HP.out.1 h).2))
        have g2b : decide (now ≤ y) = false := decide_eq_false g2
        go_enter Tryz.func68, Tryz.ntmps68
        go_wp2
        go_ret
        exact ⟨HD.out, rfl⟩
      have HD := Lib.hid (show Says (.returned (.bool true)) p from .yes (HP.out.2 ⟨g1, g2⟩))
      go_enter Tryz.func68, Tryz.ntmps68
      go_wp2
      go_ret
      exact ⟨HD.out, rfl⟩)
    clear hp c0 c1
    go_enter Tryz.func67, Tryz.ntmps67
    go_wp2_with fail
    refine HC.out.mono ?_
    rintro e w1 ⟨⟨z, rfl, hz⟩, rfl⟩
    have HD := Lib.hid (show Says (.returned (.bool z)) p from ⟨z, rfl, hz⟩)
    clear HC hz
    go_wp2
    go_ret
    exact ⟨HD.out, grown_refl _ _⟩

set_option maxRecDepth 100000 in
set_option maxHeartbeats 4000000 in
theorem leach_any (V : World) (id : ByteArray) (now : Int) (f : Value) (p : Prop) (a b q : Nat) (hf : LetF V none id now f p) (ha : V.cell? ⟨a, 0, none⟩ = some (.string id)) (hb : V.cell? ⟨b, 0, none⟩ = some (.int .i64 now)) (hq : V.cell? ⟨q, 0, none⟩ = some (.func (.func 67) #[] #[.pointer (some ⟨a, 0, none⟩), .pointer (some ⟨b, 0, none⟩)])) :
    Calls Tryz.prog 86 #[f, .pointer (some ⟨q, 0, none⟩)] V fun e w' => Says e (¬ p) ∧ V.grownBy w' none := by
  have HC := Lib.hid (lone_any V id now f p a b hf ha hb)
  clear hf ha hb
  go_enter Tryz.func86, Tryz.ntmps86
  go_wp2_with fail
  refine HC.out.mono ?_
  rintro e w1 ⟨⟨b, rfl, hb⟩, hg⟩
  have HG := Lib.hid hg
  have HD := Lib.hid (show Says (.returned (.bool (!b))) (¬ p) from ⟨!b, rfl, by cases b <;> simp_all⟩)
  clear hg HC hb hq
  cases b
  all_goals
    go_wp2
    go_ret
    exact ⟨HD.out, HG.out⟩

set_option maxRecDepth 100000 in
set_option maxHeartbeats 8000000 in
theorem lindex_any (w : World) (id : ByteArray) (now : Int) (g cap a b q : Nat) (FL : List Value) (P : Nat → Prop) (hn : FL.length ≤ 5) (hc : ∀ j (h : j < FL.length), w.cell? ⟨g, j, none⟩ = some FL[j]) (hf : ∀ j (h : j < FL.length), LetF w none id now FL[j] (P j)) (ha : w.cell? ⟨a, 0, none⟩ = some (.string id)) (hb : w.cell? ⟨b, 0, none⟩ = some (.int .i64 now)) (hq : w.cell? ⟨q, 0, none⟩ = some (.func (.func 67) #[] #[.pointer (some ⟨a, 0, none⟩), .pointer (some ⟨b, 0, none⟩)])) :
    Calls Tryz.prog 112 #[.slice (some ⟨g, 0, none⟩) FL.length cap, .func (.func 86) #[] #[.pointer (some ⟨q, 0, none⟩)]] w fun e w' => (∃ r : Int, e = .returned (.int .i64 r) ∧ (0 ≤ r ↔ ∃ j, j < FL.length ∧ ¬ P j)) ∧ w.grownBy w' none := by
  have HC := Lib.hid hc
  have HF := Lib.hid hf
  have HA0 := Lib.hid ha
  have HB0 := Lib.hid hb
  have HQ := Lib.hid hq
  clear hc hf ha hb hq
  go_enter Tryz.func112, Tryz.ntmps112
  go_wp2
  go_loopw [8] (fun i wr => ∃ k : Nat, k ≤ FL.length ∧ i = .int .i64 k ∧ Hid (∀ j, j < k → P j) ∧ w.grownBy wr none) (fun i _ => FL.length - (intOf i).toNat)
  case atStart => exact ⟨0, Nat.zero_le _, rfl, Lib.hid fun j h => absurd h (Nat.not_lt_zero _), grown_refl _ _⟩
  case round =>
    obtain ⟨k, hk, rfl, HA, hg⟩ := hrel
    have HG := Lib.hid hg
    by_cases hlt : k < FL.length
    · obtain ⟨f, hfe⟩ : ∃ f, FL[k] = f := ⟨_, rfl⟩
      have d0 := HG.out.cell (HC.out k hlt) (by simp)
      rw [hfe] at d0
      have HEA := Lib.hid (leach_any wr id now f (P k) a b q (by rw [← hfe]; exact (HF.out k hlt).kept HG.out (fun q hq => .inl hq)) (HG.out.cell HA0.out (by simp)) (HG.out.cell HB0.out (by simp)) (HG.out.cell HQ.out (by simp)))
      have hkI : (k : Int) < FL.length := by omega
      clear hfe hg
      go_wp2_with fail
      refine HEA.out.mono ?_
      rintro e w1 ⟨⟨b, rfl, hb⟩, hg1⟩
      have HG1 := Lib.hid (grown_trans HG.out hg1)
      have HB := Lib.hid hb
      clear hg1 HEA d0 hb
      cases b
      · have HA2 := Lib.hid (show ∀ j, j < k + 1 → P j from fun j hj => by
          by_cases e : j = k
          · subst e
            exact Classical.byContradiction (fun h2 => by have := HB.out.2 h2; cases this)
          · exact HA.out j (by omega))
        go_wp2
        go_roundw
        case rel => exact ⟨k + 1, by omega, by go_num, HA2, HG1.out⟩
        case measure => simp [intOf]; omega
      · have HD := Lib.hid (show 0 ≤ (k : Int) ↔ ∃ j, j < FL.length ∧ ¬ P j from ⟨fun _ => ⟨k, hlt, HB.out.1 (by first | trivial | rfl)⟩, fun _ => by omega⟩)
        go_wp2
        go_ret
        exact ⟨⟨_, rfl, HD.out⟩, HG1.out⟩
    · obtain rfl : k = FL.length := by omega
      have HD := Lib.hid (show 0 ≤ (-1 : Int) ↔ ∃ j, j < FL.length ∧ ¬ P j from ⟨fun h => by omega, fun ⟨j, hj, hn⟩ => absurd (HA.out j hj) hn⟩)
      clear hg
      go_wp2
      go_ret
      exact ⟨⟨_, rfl, HD.out⟩, HG.out⟩

set_option maxRecDepth 100000 in
set_option maxHeartbeats 8000000 in
theorem lets_any (w : World) (id : ByteArray) (now : Int) (bs : Nat) (v : Value) (FL : List Value) (P : Nat → Prop) (h0 : 0 < FL.length) (hn : FL.length ≤ 5) (hr : Row w bs v FL) (hf : ∀ j (h : j < FL.length), LetF w none id now FL[j] (P j)) :
    Calls Tryz.prog 39 #[.string id, .int .i64 now, v] w fun e w' => Says e (∀ j, j < FL.length → P j) ∧ w.grownBy w' none := by
  rcases hr with ⟨-, h⟩ | ⟨g, cap, rfl, -, -, -, hc, -⟩
  · rw [h] at h0; exact absurd h0 (by simp)
  obtain ⟨W1, hW1⟩ : ∃ W, w.alloc (Obj.cells #[Value.string id] 9) = W := ⟨_, rfl⟩
  obtain ⟨W2, hW2⟩ : ∃ W, W1.alloc (Obj.cells #[Value.int .i64 now] 3) = W := ⟨_, rfl⟩
  obtain ⟨a, hA⟩ : ∃ x, w.heap.size = x := ⟨_, rfl⟩
  obtain ⟨b, hB⟩ : ∃ x, W1.heap.size = x := ⟨_, rfl⟩
  obtain ⟨W3, hW3⟩ : ∃ W, W2.alloc (Obj.cells #[.func (.func 67) #[] #[.pointer (some ⟨a, 0, none⟩), .pointer (some ⟨b, 0, none⟩)]] 72) = W := ⟨_, rfl⟩
  obtain ⟨q, hq⟩ : ∃ x, W2.heap.size = x := ⟨_, rfl⟩
  have G1 := (show w.grownBy W1 none from by rw [← hW1]; exact grown_alloc (grown_refl _ _) _)
  have G2 := (show W1.grownBy W2 none from by rw [← hW2]; exact grown_alloc (grown_refl _ _) _)
  have G3 := (show W2.grownBy W3 none from by rw [← hW3]; exact grown_alloc (grown_refl _ _) _)
  have G23 := grown_trans G2 G3
  have GG := Lib.hid (grown_trans G1 G23)
  have HA := (show W1.cell? ⟨a, 0, none⟩ = some (.string id) from by rw [← hW1, ← hA]; exact (Blk.new w 9 [.string id]).cell rfl)
  have HB := (show W2.cell? ⟨b, 0, none⟩ = some (.int .i64 now) from by rw [← hW2, ← hB]; exact (Blk.new W1 3 [.int .i64 now]).cell rfl)
  have HQ := (show W3.cell? ⟨q, 0, none⟩ = some (.func (.func 67) #[] #[.pointer (some ⟨a, 0, none⟩), .pointer (some ⟨b, 0, none⟩)]) from by rw [← hW3, ← hq]; exact (Blk.new W2 72 [.func (.func 67) #[] #[.pointer (some ⟨a, 0, none⟩), .pointer (some ⟨b, 0, none⟩)]]).cell rfl)
  have HI := Lib.hid (lindex_any W3 id now g cap a b q FL P hn (fun j h => GG.out.cell (by rw [hc j h]; exact List.getElem?_eq_getElem h) (by simp)) (fun j h => (hf j h).kept GG.out (fun q hq => .inl hq)) (G23.cell HA (by simp)) (G3.cell HB (by simp)) HQ)
  clear hf hc G1 G2 G3 G23 HA HB HQ
  obtain ⟨P9, hP9⟩ : ∃ P9 : Prop, (∃ j, j < FL.length ∧ ¬ P j) = P9 := ⟨_, rfl⟩
  have HPI := Lib.hid (show (∀ j, j < FL.length → P j) ↔ ¬ P9 from by
    rw [← hP9]
    exact ⟨fun h ⟨j, hj, hn⟩ => hn (h j hj), fun h j hj => Classical.byContradiction (fun hn => h ⟨j, hj, hn⟩)⟩)
  rw [hP9] at HI
  clear hP9
  have HCF := Lib.hid (show Calls Tryz.prog 85 #[.slice (some ⟨g, 0, none⟩) FL.length cap, .func (.func 86) #[] #[.pointer (some ⟨q, 0, none⟩)]] W3 (fun e w' => Says e P9 ∧ W3.grownBy w' none) from by
    clear hW1 hW2 hW3 hA hB hq
    go_enter Tryz.func85, Tryz.ntmps85
    go_wp2_with fail
    refine HI.out.mono ?_
    rintro e w1 ⟨⟨r, rfl, hr⟩, hg⟩
    have HGx := Lib.hid hg
    have HR := Lib.hid hr
    clear hg hr HI
    by_cases h0 : 0 ≤ r
    · have HD := Lib.hid (show Says (.returned (.bool true)) P9 from .yes (HR.out.1 h0))
      go_wp2
      go_ret
      exact ⟨HD.out, HGx.out⟩
    · have HD := Lib.hid (show Says (.returned (.bool false)) P9 from .no (fun h => h0 (HR.out.2 h)))
      have h0b : decide (0 ≤ r) = false := decide_eq_false h0
      go_wp2
      go_ret
      exact ⟨HD.out, HGx.out⟩)
  have HEV := Lib.hid (show Calls Tryz.prog 66 #[.slice (some ⟨g, 0, none⟩) FL.length cap, .func (.func 67) #[] #[.pointer (some ⟨a, 0, none⟩), .pointer (some ⟨b, 0, none⟩)]] W2 (fun e w' => Says e (¬ P9) ∧ W3.grownBy w' none) from by
    have HW3 := Lib.hid hW3
    have HQE := Lib.hid hq
    clear hW1 hW2 hW3 hA hB hq HI
    go_enter Tryz.func66, Tryz.ntmps66
    go_wp2_with fail
    rw [HW3.out, HQE.out]
    refine HCF.out.mono ?_
    rintro e w1 ⟨⟨b, rfl, hb⟩, hg⟩
    have HG1 := Lib.hid hg
    have HD := Lib.hid (show Says (.returned (.bool (!b))) (¬ P9) from ⟨!b, rfl, by cases b <;> simp_all⟩)
    clear hg hb HCF
    cases b
    all_goals
      go_wp2
      go_ret
      exact ⟨HD.out, HG1.out⟩)
  clear HCF HI
  have HW1 := Lib.hid hW1
  have HW2 := Lib.hid hW2
  have HAE := Lib.hid hA
  have HBE := Lib.hid (show a + 1 = b from by rw [← hB, ← hW1, ← hA]; simp)
  clear hW1 hW2 hW3 hA hB hq
  go_enter Tryz.func39, Tryz.ntmps39
  go_wp2_with fail
  rw [HW1.out, HW2.out, HAE.out, HBE.out]
  refine HEV.out.mono ?_
  rintro e w1 ⟨⟨c, rfl, hc⟩, hg⟩
  have HG1 := Lib.hid (grown_trans GG.out hg)
  have HD := Lib.hid (show Says (.returned (.bool c)) (∀ j, j < FL.length → P j) from ⟨c, rfl, by rw [HPI.out]; exact hc⟩)
  clear hg hc HEV
  go_wp2
  go_ret
  exact ⟨HD.out, HG1.out⟩
end Go.Proofs.YtecekbhkombnnaaGreatDoor
