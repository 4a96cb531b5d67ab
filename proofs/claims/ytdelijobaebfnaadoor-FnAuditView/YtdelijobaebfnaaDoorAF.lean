/- Audits, by the program: details, errors.Is, the next sum. -/
import Derived.Test.YtdelijobaebfnaaDoorMv8
import Derived.Test.YtdelijobaebfnaaDoorMv9
import Derived.Shelf.GgClosure.StringsIndexFuncTop
import Derived.Shelf.Strings.Search3
import Derived.Lib.IndexAny
import Derived.Shelf.Lay
import Derived.Ground.GgwProg
import Derived.Ground.NamesProg
import Derived.Laws.RangeAny
import Derived.LaidEql
import Derived.Stop.Asserts
import Derived.RowKitTokens
namespace Go.Proofs.YtdelijobaebfnaaDoor
open Go.RowKit Go.Extern.Stop Go.Stop Go.Extern

/-- not one of the bytes 32 to 126 -/
def hidR (r : Nat) : Bool := decide ((r : Int) < 32) || decide ((126 : Int) < (r : Int))

theorem hidFrom (s : ByteArray) : ∀ (f pos : Nat), s.size ≤ pos + f → (0 ≤ Lib.idxFuncFrom hidR true s f pos ↔ ∃ i, ∃ h : i < s.size, pos ≤ i ∧ ¬ (32 ≤ s[i].toNat ∧ s[i].toNat ≤ 126))
  | 0, pos, hf => by
    simp only [Lib.idxFuncFrom]
    constructor
    · intro h; omega
    · rintro ⟨i, h, h1, -⟩; omega
  | f + 1, pos, hf => by
    unfold Lib.idxFuncFrom
    by_cases hp : pos < s.size
    · rw [if_pos hp]
      by_cases ha : (s[pos]'hp).toNat < 128
      · have hd := decode_ascii s pos hp ha
        rw [hd]
        by_cases hb : 32 ≤ (s[pos]'hp).toNat ∧ (s[pos]'hp).toNat ≤ 126
        · have hr : ¬ hidR (s[pos]'hp).toNat = true := by
            unfold hidR
            simp only [Bool.or_eq_true, decide_eq_true_eq]
            omega
          rw [if_neg hr, hidFrom s f (pos + 1) (by omega)]
          constructor
          · rintro ⟨i, h, h1, h2⟩
            exact ⟨i, h, by omega, h2⟩
          · rintro ⟨i, h, h1, h2⟩
            refine ⟨i, h, ?_, h2⟩
            rcases Nat.lt_or_ge pos i with h3 | h3
            · omega
            · have e : i = pos := by omega
              subst e
              exact absurd hb h2
        · have hr : hidR (s[pos]'hp).toNat = true := by
            unfold hidR
            simp only [Bool.or_eq_true, decide_eq_true_eq]
            omega
          rw [if_pos hr]
          exact ⟨fun _ => ⟨pos, hp, Nat.le_refl _, hb⟩, fun _ => by omega⟩
      · have hd := decode_high s pos hp (by omega)
        have hr : hidR (Utf8.decode s pos).1 = true := by
          unfold hidR
          simp only [Bool.or_eq_true, decide_eq_true_eq]
          omega
        rw [if_pos hr]
        exact ⟨fun _ => ⟨pos, hp, Nat.le_refl _, fun h => by omega⟩, fun _ => by omega⟩
    · rw [if_neg hp]
      constructor
      · intro h; omega
      · rintro ⟨i, h, h1, -⟩; omega

theorem hid_iff (s : ByteArray) : 0 ≤ Lib.idxFunc hidR true s ↔ ∃ i, ∃ h : i < s.size, ¬ (32 ≤ s[i].toNat ∧ s[i].toNat ≤ 126) := by
  unfold Lib.idxFunc
  rw [hidFrom s s.size 0 (by omega)]
  constructor
  · rintro ⟨i, h, -, h2⟩; exact ⟨i, h, h2⟩
  · rintro ⟨i, h, h2⟩; exact ⟨i, h, Nat.zero_le _, h2⟩

theorem det_parts (t : ByteArray) : DetOk t ↔ t.size ≤ 160 ∧ decide (0 ≤ Lib.idxFunc hidR true t) = false := by
  unfold DetOk
  rw [decide_eq_false_iff_not, hid_iff]
  constructor
  · rintro ⟨h1, h2⟩
    exact ⟨h1, fun ⟨i, h, k⟩ => k (h2 i h)⟩
  · rintro ⟨h1, h2⟩
    exact ⟨h1, fun i h => Classical.byContradiction fun e => h2 ⟨i, h, e⟩⟩

set_option maxHeartbeats 1000000 in
theorem hidden_at (w : World) : PredAt Tryd.prog 74 #[] encR hidR w := fun W r _ => by
  unfold FnGives
  by_cases h1 : (r : Int) < 32
  · go_enter Tryd.func74, Tryd.ntmps74
    go_wp2
    go_ret
    exact ⟨by simp [hidR, h1], 0, rfl⟩
  · by_cases h2 : (126 : Int) < (r : Int)
    · go_enter Tryd.func74, Tryd.ntmps74
      go_wp2
      go_ret
      exact ⟨by simp [hidR, h2], 0, rfl⟩
    · go_enter Tryd.func74, Tryd.ntmps74
      go_wp2
      go_ret
      exact ⟨by simp [hidR, h1, h2], 0, rfl⟩
shelf_lay LaysGw.n17 Ggw 17 at Tryd as Tryd.laysContainsFunc

set_option maxRecDepth 100000 in
set_option maxHeartbeats 2000000 in
theorem idet_any (w : World) (t : ByteArray) (_ht : t.size ≤ 1048576) : Calls Tryd.prog 59 #[.string t] w fun e w' => Says e (DetOk t) ∧ w.grownBy w' none := by
  have HP := Lib.hid (det_parts t)
  by_cases hs : (t.size : Int) ≤ 160
  case neg =>
    have HD := Lib.hid (show Says (.returned (.bool false)) (DetOk t) from .no (fun h => by have := h.1; omega))
    go_enter Tryd.func59, Tryd.ntmps59
    go_wp2
    go_ret
    exact ⟨HD.out, grown_refl _ _⟩
  have HS := Lib.hid (show t.size ≤ 160 by omega)
  have HF := Lib.hid (Any.strings_ContainsFunc Tryd.laysContainsFunc 74 #[] (enters_of Tryd.func74 (by kernel_rfl) rfl) hidR t w (hidden_at w))
  obtain ⟨b, hb⟩ : ∃ b, decide (0 ≤ Lib.idxFunc hidR true t) = b := ⟨_, rfl⟩
  have HFL := Lib.hid (show Calls Tryd.prog 73 #[.string t, .func (.func 74) #[] #[]] w (fun e w' => e = .returned (.bool b) ∧ w.grownBy w' none) from HF.out.mono fun e w' h => by rw [hb] at h; exact ⟨h.1, grown_of_below h.2 none⟩)
  have HD := Lib.hid (show Says (.returned (.bool (!b))) (DetOk t) from ⟨!b, rfl, by
    rw [HP.out, hb]
    have := HS.out
    cases b <;> simp [this]⟩)
  clear HF hb
  go_enter Tryd.func59, Tryd.ntmps59
  go_wp2_with fail
  refine HFL.out.mono ?_
  rintro e w2 ⟨rfl, hg⟩
  have HG := Lib.hid hg
  clear hg
  go_wp2
  go_ret
  exact ⟨HD.out, HG.out⟩

/-! errors.Is, at nothing and at the very error -/
theorem isTypeOfE (v : Value) (w : World) : (ReflectliteType.typeOf #[.iface 158 v]).run Tryd.prog w = .ok (.iface 103 (.agg #[.pointer (some ⟨6, 158, none⟩)])) w := by kernel_rfl
def rtComparable : Array Value → Sem Value := Extern.ReflectliteType.method fun t => do Rtype.noPackHeld "Comparable" t; pure (.bool (← typeInfo t).comparable)
theorem isComparableE (w : World) : (rtComparable #[.agg #[.pointer (some ⟨6, 158, none⟩)]]).run Tryd.prog w = .ok (.bool true) w := by kernel_rfl
theorem isMethodComparableE (v : Value) (w : World) : (Go.method 191 103 v "Comparable").run Tryd.prog w = .ok (118, v) w := by kernel_rfl
theorem isCompE : (Tryd.prog.info? 158).map (·.comparable) = some true := by kernel_rfl
theorem isSizeE : (Tryd.prog.info? 180).map (·.size) = some 1 := by kernel_rfl

theorem is_same (a : Addr) (w : World) :
    Calls Tryd.prog 25 #[.iface 158 (.pointer (some a)), .iface 158 (.pointer (some a))] w fun e w' => e = .returned (.bool true) ∧ w' = w := by
  obtain ⟨i, hi, hcmp⟩ := Option.map_eq_some_iff.1 isCompE
  obtain ⟨j, hj, hjs⟩ := Option.map_eq_some_iff.1 isSizeE
  have h8 := @run_callFunc_extern Tryd.prog 45 _ Extern.ReflectliteType.typeOf Tryd.func45 (by kernel_rfl) (by kernel_rfl) (by kernel_rfl) (by kernel_rfl)
  have h32 := @run_callFunc_extern Tryd.prog 118 _ rtComparable Tryd.func118 (by kernel_rfl) (by kernel_rfl) (by kernel_rfl) (by kernel_rfl)
  have tT := isTypeOfE
  have cT := isComparableE
  have mR := isMethodComparableE
  have heq := run_eql_iface_ptr_same (P := Tryd.prog) w a Tryd.underlying50 Tryd.underlying158 hi hcmp hj
  go_enter Tryd.func25, Tryd.ntmps25
  go_wp2
  refine wp_loop_rounds 1 ?_
  rw [rounds_succ]
  go_wp2
  go_ret
  exact ⟨rfl, rfl⟩
theorem is_nil (b : Addr) (w : World) :
    Calls Tryd.prog 25 #[.nilIface, .iface 158 (.pointer (some b))] w fun e w' => e = .returned (.bool false) ∧ w' = w := by
  have hn := run_eql_iface_nil_left (P := Tryd.prog) w 158 (.pointer (some b)) Tryd.underlying50
  go_enter Tryd.func25, Tryd.ntmps25
  go_wp2
  go_ret
  exact ⟨rfl, rfl⟩
end Go.Proofs.YtdelijobaebfnaaDoor
