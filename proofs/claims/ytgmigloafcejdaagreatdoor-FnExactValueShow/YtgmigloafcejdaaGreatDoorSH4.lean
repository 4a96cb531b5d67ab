/- How the program writes values. -/
import Derived.Test.YtgmigloafcejdaaGreatDoorSH3
namespace Go.Proofs.YtgmigloafcejdaaGreatDoor
open Go.RowKit

def Pow (w : World) : Prop := Lib.TabIs Tryz.prog w "internal/strconv.uint64pow10" .u64 Lib.pow10Tab
theorem gPow : Tryz.prog.globalNamed "internal/strconv.uint64pow10" = some 3 := by kernel_rfl
theorem Pow.grown {w w' : World} (h : Pow w) (hg : w.grownBy w' none) : Pow w' := by
  unfold Pow Lib.TabIs World.var? at *
  rw [gPow] at *
  simp only [Option.bind_some] at *
  cases hq : w.heap[3]? with
  | none => rw [hq] at h; cases h
  | some o => rw [hg.block 3 (by have := (Array.getElem?_eq_some_iff.1 hq).1; exact this) (by simp)]; exact h

theorem sa_85_85 (v : Value) (W : World) : (Instr.typeAssert (.iface 114 v) 56 114 true).run Tryz.prog W = .ok (.tuple #[v, .bool true]) W := by kernel_rfl
theorem sa_86_85 (v : Value) (W : World) : (Instr.typeAssert (.iface 97 v) 56 114 true).run Tryz.prog W = .ok (.tuple #[.agg #[], .bool false]) W := by kernel_rfl
theorem sa_86_86 (v : Value) (W : World) : (Instr.typeAssert (.iface 97 v) 56 97 true).run Tryz.prog W = .ok (.tuple #[v, .bool true]) W := by kernel_rfl
theorem sa_88_85 (v : Value) (W : World) : (Instr.typeAssert (.iface 98 v) 56 114 true).run Tryz.prog W = .ok (.tuple #[.agg #[], .bool false]) W := by kernel_rfl
theorem sa_88_86 (v : Value) (W : World) : (Instr.typeAssert (.iface 98 v) 56 97 true).run Tryz.prog W = .ok (.tuple #[.bool false, .bool false]) W := by kernel_rfl
theorem sa_88_88 (v : Value) (W : World) : (Instr.typeAssert (.iface 98 v) 56 98 true).run Tryz.prog W = .ok (.tuple #[v, .bool true]) W := by kernel_rfl
theorem sa_89_85 (v : Value) (W : World) : (Instr.typeAssert (.iface 99 v) 56 114 true).run Tryz.prog W = .ok (.tuple #[.agg #[], .bool false]) W := by kernel_rfl
theorem sa_89_86 (v : Value) (W : World) : (Instr.typeAssert (.iface 99 v) 56 97 true).run Tryz.prog W = .ok (.tuple #[.bool false, .bool false]) W := by kernel_rfl
theorem sa_89_88 (v : Value) (W : World) : (Instr.typeAssert (.iface 99 v) 56 98 true).run Tryz.prog W = .ok (.tuple #[.int .i64 0, .bool false]) W := by kernel_rfl
theorem sa_89_89 (v : Value) (W : World) : (Instr.typeAssert (.iface 99 v) 56 99 true).run Tryz.prog W = .ok (.tuple #[v, .bool true]) W := by kernel_rfl
theorem sa_80_85 (v : Value) (W : World) : (Instr.typeAssert (.iface 105 v) 56 114 true).run Tryz.prog W = .ok (.tuple #[.agg #[], .bool false]) W := by kernel_rfl
theorem sa_80_86 (v : Value) (W : World) : (Instr.typeAssert (.iface 105 v) 56 97 true).run Tryz.prog W = .ok (.tuple #[.bool false, .bool false]) W := by kernel_rfl
theorem sa_80_88 (v : Value) (W : World) : (Instr.typeAssert (.iface 105 v) 56 98 true).run Tryz.prog W = .ok (.tuple #[.int .i64 0, .bool false]) W := by kernel_rfl
theorem sa_80_89 (v : Value) (W : World) : (Instr.typeAssert (.iface 105 v) 56 99 true).run Tryz.prog W = .ok (.tuple #[.string ⟨#[]⟩, .bool false]) W := by kernel_rfl
theorem sa_80_80 (v : Value) (W : World) : (Instr.typeAssert (.iface 105 v) 56 105 true).run Tryz.prog W = .ok (.tuple #[v, .bool true]) W := by kernel_rfl
theorem sa_83_85 (v : Value) (W : World) : (Instr.typeAssert (.iface 108 v) 56 114 true).run Tryz.prog W = .ok (.tuple #[.agg #[], .bool false]) W := by kernel_rfl
theorem sa_83_86 (v : Value) (W : World) : (Instr.typeAssert (.iface 108 v) 56 97 true).run Tryz.prog W = .ok (.tuple #[.bool false, .bool false]) W := by kernel_rfl
theorem sa_83_88 (v : Value) (W : World) : (Instr.typeAssert (.iface 108 v) 56 98 true).run Tryz.prog W = .ok (.tuple #[.int .i64 0, .bool false]) W := by kernel_rfl
theorem sa_83_89 (v : Value) (W : World) : (Instr.typeAssert (.iface 108 v) 56 99 true).run Tryz.prog W = .ok (.tuple #[.string ⟨#[]⟩, .bool false]) W := by kernel_rfl
theorem sa_83_80 (v : Value) (W : World) : (Instr.typeAssert (.iface 108 v) 56 105 true).run Tryz.prog W = .ok (.tuple #[.agg #[.slice none 0 0], .bool false]) W := by kernel_rfl
theorem sa_83_83 (v : Value) (W : World) : (Instr.typeAssert (.iface 108 v) 56 108 true).run Tryz.prog W = .ok (.tuple #[v, .bool true]) W := by kernel_rfl
theorem sa_75_85 (v : Value) (W : World) : (Instr.typeAssert (.iface 146 v) 56 114 true).run Tryz.prog W = .ok (.tuple #[.agg #[], .bool false]) W := by kernel_rfl
theorem sa_75_86 (v : Value) (W : World) : (Instr.typeAssert (.iface 146 v) 56 97 true).run Tryz.prog W = .ok (.tuple #[.bool false, .bool false]) W := by kernel_rfl
theorem sa_75_88 (v : Value) (W : World) : (Instr.typeAssert (.iface 146 v) 56 98 true).run Tryz.prog W = .ok (.tuple #[.int .i64 0, .bool false]) W := by kernel_rfl
theorem sa_75_89 (v : Value) (W : World) : (Instr.typeAssert (.iface 146 v) 56 99 true).run Tryz.prog W = .ok (.tuple #[.string ⟨#[]⟩, .bool false]) W := by kernel_rfl
theorem sa_75_80 (v : Value) (W : World) : (Instr.typeAssert (.iface 146 v) 56 105 true).run Tryz.prog W = .ok (.tuple #[.agg #[.slice none 0 0], .bool false]) W := by kernel_rfl
theorem sa_75_83 (v : Value) (W : World) : (Instr.typeAssert (.iface 146 v) 56 108 true).run Tryz.prog W = .ok (.tuple #[.agg #[.slice none 0 0, .slice none 0 0], .bool false]) W := by kernel_rfl

theorem info9s : (Tryz.prog.info? 9).map (fun i => (i.zero, i.size, i.bytes)) = some (some (.string ⟨#[]⟩), 1, 16) := by kernel_rfl

/-- texts, as cells -/
def strV (xs : List ByteArray) : List Value := xs.map Value.string
theorem strV_one (xs : List ByteArray) : ∀ v ∈ strV xs, v.oneCell' = true := fun v hv => by
  obtain ⟨s, _, rfl⟩ := List.mem_map.1 hv
  rfl

set_option maxRecDepth 100000 in
set_option maxHeartbeats 2000000 in
theorem shown_any (w : World) (A : Nat → Prop) (ks : List VT) (ao : Option Addr) (c : Nat) (hl5 : ks.length ≤ 5) (xs : Nat → Value) (hp : KidsA w A ao ks.length xs)
    (ih : ∀ (j : Nat) (k : VT), ks[j]? = some k → ∀ W : World, w.grownBy W none → Pow W → Calls Tryz.prog 36 #[xs j] W fun e w' => e = .returned (.string (showB k)) ∧ W.grownBy w' none)
    (W : World) (hW : w.grownBy W none) (hPW : Pow W) :
    Calls Tryz.prog 71 #[.agg #[.slice ao ks.length c]] W fun e w' => ∃ v, e = .returned v ∧ Row w' W.heap.size v (strV (ks.map showB)) ∧ W.grownBy w' none := by
  obtain ⟨b, rfl, -, hc⟩ := hp
  have HC := Lib.hid hc
  have HI := Lib.hid ih
  have HW := Lib.hid hW
  have HPW := Lib.hid hPW
  obtain ⟨i9, hi9, hz0, hz1, hz2⟩ := info_parts info9s
  have HGA := Lib.hid (show W.grownBy (W.alloc (Obj.cells #[Value.slice (some ⟨b, 0, none⟩) ks.length c] 103)) none from grown_alloc (grown_refl _ _) _)
  clear hc ih hW hPW
  go_enter Tryz.func71, Tryz.ntmps71
  go_wp2
  go_loopw [3, 9] (fun lv i wr => ∃ k : Nat, k ≤ ks.length ∧ i = .int .i64 k ∧ Hid (Row wr (W.heap.size + 1) lv (strV ((ks.take k).map showB))) ∧ W.grownBy wr none ∧ W.heap.size + 1 ≤ wr.heap.size) (fun _ i _ => ks.length - (intOf i).toNat)
  case atStart => exact ⟨0, Nat.zero_le _, rfl, Lib.hid (Row.nil _ _), HGA.out, by simp⟩
  case round =>
    obtain ⟨k, hk, rfl, HR, hg, hsz⟩ := hrel
    have HG := Lib.hid hg
    clear hg HGA
    by_cases hlt : k < ks.length
    · have HGW := Lib.hid (grown_trans HW.out HG.out)
      have d0 := HGW.out.cell (HC.out k hlt) (by simp)
      have HCA := Lib.hid (HI.out k ks[k] (by simp [hlt]) wr HGW.out (HPW.out.grown HG.out))
      have hkI : (k : Int) < ks.length := by omega
      obtain ⟨x, hx⟩ : ∃ x, x = xs k := ⟨_, rfl⟩
      rw [← hx] at d0 HCA
      obtain ⟨X, hX⟩ : ∃ X, X = showB ks[k] := ⟨_, rfl⟩
      rw [← hX] at HCA
      have HTK := Lib.hid (show strV ((ks.take (k + 1)).map showB) = strV ((ks.take k).map showB) ++ strV [X] from by rw [List.take_succ_eq_append_getElem hlt, hX]; simp only [strV, List.map_append, List.map_cons, List.map_nil])
      have HLN := Lib.hid (show (strV ((ks.take k).map showB)).length ≤ 5 from by simp [strV]; omega)
      clear hx hX
      go_wp2_with fail
      refine HCA.out.mono ?_
      rintro e w1 ⟨rfl, hg1⟩
      have HG1 := Lib.hid (grown_trans HG.out hg1)
      have HR1 := Lib.hid (HR.out.kept hg1 (by simp))
      have hsz1 : W.heap.size + 1 ≤ w1.heap.size := by have := hg1.size; omega
      clear hg1 HCA d0
      go_wp2_with (first | (at_builtin; refine wpList_append_row2 rfl _ _ 24 rfl 9 i9 (.string ⟨#[]⟩) 16 Tryz.underlying24 hi9 hz0 hz1 hz2 rfl (W.heap.size + 1) _ (strV ((ks.take k).map showB)) rfl (HR1.out.alloc _) ⟨_, 0, none⟩ 1 1 (strV [X]) rfl rfl (news_new _ 9 (strV [X])) (strV_one _) (by have := HLN.out; unfold maxLen; omega) (by have := HLN.out; omega) (by simp; omega) ?_; intro v2 w2 HR2 HG2 HO2))
      go_roundw
      case rel =>
        refine ⟨k + 1, by omega, by go_num, Lib.hid (by rw [HTK.out]; exact HR2.out), ?_, ?_⟩
        · refine grown_own (grown_alloc HG1.out _) HG2.out (fun q hq => ?_)
          have := (HR1.out.lt q hq).1
          omega
        · have := HG2.out.size
          simp at this
          omega
      case measure => simp [intOf]; omega
    · obtain rfl : k = ks.length := by omega
      have HE := Lib.hid (show (ks.take ks.length).map showB = ks.map showB from by rw [List.take_length])
      go_wp2
      go_ret
      have := HR.out
      rw [HE.out] at this
      exact ⟨_, rfl, this.base (by omega), HG.out⟩

theorem row_cells {w : World} {base : Nat} {v : Value} {xs : List ByteArray} (h : Row w base v (strV xs)) (h0 : 0 < xs.length) : ∃ g c, v = .slice (some ⟨g, 0, none⟩) xs.length c ∧ base ≤ g ∧ g < w.heap.size ∧ xs.length ≤ c ∧ (∀ (j : Nat) x, xs[j]? = some x → w.cell? ⟨g, 0 + j, none⟩ = some (.string x)) ∧ (∀ j, j < xs.length → w.frozen? ⟨g, j, none⟩ = false) := by
  rcases h with ⟨_, h⟩ | ⟨g, c, rfl, hb, hl, hn, hc, hf⟩
  · simp [strV] at h
    rw [h] at h0
    simp at h0
  · have hlen : (strV xs).length = xs.length := by simp [strV]
    rw [hlen] at hn hc ⊢
    refine ⟨g, c, rfl, hb, hl, hn, fun j x hj => ?_, fun j hj => (hf j (by omega)).2⟩
    have hj2 := (List.getElem?_eq_some_iff.1 hj).1
    rw [Nat.zero_add, hc j hj2]
    simp [strV, hj]
end Go.Proofs.YtgmigloafcejdaaGreatDoor

