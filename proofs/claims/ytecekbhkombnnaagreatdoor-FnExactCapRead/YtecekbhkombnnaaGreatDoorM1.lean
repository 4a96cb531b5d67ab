/- Lists of texts: how they lie, how much they are, copied, compared. -/
import Derived.Test.YtecekbhkombnnaaGreatDoorN1
namespace Go.Proofs.YtecekbhkombnnaaGreatDoor
open Go.RowKit

/-- a list of texts lies behind an address, in a block from base on -/
def Lies (w : World) (base : Nat) (ao : Option Addr) (ss : List ByteArray) : Prop := ss.length = 0 ∨ ∃ ab o, ao = some ⟨ab, o, none⟩ ∧ base ≤ ab ∧ ∀ j, j < ss.length → w.cell? ⟨ab, o + j, none⟩ = some (.string (ss.getD j ByteArray.empty))
theorem Lies.kept {w w' : World} {base : Nat} {ao : Option Addr} {ss : List ByteArray} {row : Option Nat} (h : Lies w base ao ss) (hg : w.grownBy w' row) (hr : ∀ q, row = some q → q < base) : Lies w' base ao ss := by
  rcases h with h | ⟨ab, o, rfl, hb, h⟩
  · exact .inl h
  · exact .inr ⟨ab, o, rfl, hb, fun j hj => hg.cell (h j hj) (fun e => by have := hr ab e.symm; omega)⟩
theorem Lies.base {w : World} {base b' : Nat} {ao : Option Addr} {ss : List ByteArray} (h : Lies w base ao ss) (hb : b' ≤ base) : Lies w b' ao ss := by
  rcases h with h | ⟨ab, o, rfl, hb2, h⟩
  · exact .inl h
  · exact .inr ⟨ab, o, rfl, by omega, h⟩

/-- how much a list of texts is -/
def bulkS : List ByteArray → Nat
  | [] => 0
  | s :: ss => s.size + bulkS ss
theorem bulkS_take (ss : List ByteArray) : ∀ j (h : j < ss.length), bulkS (ss.take (j + 1)) = bulkS (ss.take j) + (ss[j]).size := by
  induction ss with
  | nil => intro j h; simp at h
  | cons s ss ih =>
    intro j h
    cases j with
    | zero => simp [bulkS]
    | succ j => simp [bulkS, ih j (by simpa using h), Nat.add_assoc]
theorem bulkS_le (ss : List ByteArray) (j : Nat) : bulkS (ss.take j) ≤ bulkS ss := by
  induction ss generalizing j with
  | nil => simp [bulkS]
  | cons s ss ih =>
    cases j with
    | zero => simp [bulkS]
    | succ j => simp [bulkS]; exact ih j
def Left (M b : Nat) (r : Int) : Prop := (r = -1 ∧ M < b) ∨ (0 ≤ r ∧ r + b = M)

set_option maxRecDepth 100000 in
set_option maxHeartbeats 1000000 in
theorem szS_any (w : World) (ao : Option Addr) (cap : Nat) (ss : List ByteArray) (hl : Lies w 0 ao ss) (hn : ss.length ≤ 9223372036854775807) (hs : ∀ s ∈ ss, s.size ≤ 9223372036854775807) (M : Nat) (hM : M ≤ 1048576) :
    Calls Tryz.prog 20 #[.slice ao ss.length cap, .int .i64 (M : Int)] w fun e w' => ∃ r : Int, e = .returned (.int .i64 r) ∧ Left M (ss.length + bulkS ss) r ∧ w' = w := by
  have HL := Lib.hid hl
  have HS := Lib.hid hs
  clear hl hs
  by_cases hbig : (M : Int) < ss.length
  · go_enter Tryz.func20, Tryz.ntmps20
    go_wp2
    go_ret
    exact ⟨-1, rfl, .inl ⟨rfl, by omega⟩, rfl⟩
  have hb' : (ss.length : Int) ≤ M := by omega
  clear hbig
  go_enter Tryz.func20, Tryz.ntmps20
  go_wp2
  go_loopw [1, 5] (fun b i wr => ∃ k B : Nat, k ≤ ss.length ∧ i = .int .i64 k ∧ b = .int .i64 B ∧ Hid (B + ss.length + bulkS (ss.take k) = M) ∧ wr = w) (fun _ i _ => ss.length - (intOf i).toNat)
  case atStart => exact ⟨0, M - ss.length, Nat.zero_le _, rfl, by congr 1; omega, Lib.hid (by simp [bulkS]; omega), rfl⟩
  case round =>
    obtain ⟨k, B, hk, rfl, rfl, HB, rfl⟩ := hrel
    have hB : B ≤ 1048576 := by have := HB.out; omega
    by_cases hlt : k < ss.length
    · obtain ⟨s, hse⟩ : ∃ s, s = ss.getD k ByteArray.empty := ⟨_, rfl⟩
      have hge : ss[k] = s := by rw [hse]; simp [hlt]
      have hss := HS.out s (by rw [← hge]; exact List.getElem_mem hlt)
      rcases HL.out with h0 | ⟨ab, o, rfl, -, hc⟩
      · omega
      have d0 := hc k hlt
      rw [← hse] at d0
      have HST := Lib.hid (show bulkS (ss.take (k + 1)) = bulkS (ss.take k) + s.size from by rw [← hge]; exact bulkS_take ss k hlt)
      have hkI : (k : Int) < ss.length := by omega
      clear hc hse hge
      by_cases hneg : (B : Int) < s.size
      · have HNG := Lib.hid (show M < ss.length + bulkS ss from by have h1 := HB.out; have h2 := HST.out; have h3 := bulkS_le ss (k + 1); omega)
        go_wp2
        go_ret
        exact ⟨-1, rfl, .inl ⟨rfl, HNG.out⟩, rfl⟩
      · have hpos : (s.size : Int) ≤ B := by omega
        go_wp2
        go_roundw
        case rel => exact ⟨k + 1, B - s.size, by omega, by go_num, by congr 1; omega, Lib.hid (by rw [HST.out]; have := HB.out; omega), by trivial⟩
        case measure => simp [intOf]; omega
    · obtain rfl : k = ss.length := by omega
      go_wp2
      go_ret
      refine ⟨B, rfl, .inr ⟨by omega, ?_⟩, rfl⟩
      have := HB.out
      rw [List.take_length] at this
      omega

def strs (ss : List ByteArray) : List Value := ss.map Value.string
theorem set_step (ss : List ByteArray) (k : Nat) (hk : k < ss.length) : (strs (ss.take k) ++ List.replicate (ss.length - k) (Value.string ⟨#[]⟩)).set k (.string (ss.getD k ByteArray.empty)) = strs (ss.take (k + 1)) ++ List.replicate (ss.length - (k + 1)) (Value.string ⟨#[]⟩) := by
  have hl : (strs (ss.take k)).length = k := by simp [strs]; omega
  rw [List.set_append_right _ _ (by omega), hl, Nat.sub_self, show ss.length - k = (ss.length - (k + 1)) + 1 from by omega, List.replicate_succ, List.set_cons_zero, List.take_succ_eq_append_getElem hk, show ss.getD k ByteArray.empty = ss[k] from by simp [hk]]
  simp only [strs, List.map_append, List.map_cons, List.map_nil, List.append_assoc, List.cons_append, List.nil_append]
theorem made_one (z : Value) (n : Nat) : madeCells #[z] n = Array.replicate n z := by
  unfold madeCells
  apply Array.ext
  · simp
  · intro i h1 h2
    simp [Nat.mod_one]
theorem info9 : (Tryz.prog.info? 9).map (fun i => (i.zero, i.size, i.bytes)) = some (some (.string ⟨#[]⟩), 1, 16) := by kernel_rfl

set_option maxRecDepth 100000 in
set_option maxHeartbeats 1000000 in
theorem toS_any (w : World) (base : Nat) (ao : Option Addr) (cap : Nat) (ss : List ByteArray) (hl : Lies w base ao ss) (hn : ss.length ≤ 1048576) :
    Calls Tryz.prog 24 #[.slice ao ss.length cap] w fun e w' => e = .returned (.slice (some ⟨w.heap.size, 0, none⟩) ss.length ss.length) ∧ Lies w' w.heap.size (some ⟨w.heap.size, 0, none⟩) ss ∧ w.grownBy w' none := by
  have HL := Lib.hid hl
  clear hl
  obtain ⟨i9, hi9, hz0, hz1, hz2⟩ := info_parts info9
  have hmk : ∀ W : World, (Instr.makeSlice 22 (.int .i64 (ss.length : Int)) (.int .i64 (ss.length : Int))).run Tryz.prog W = .ok (.slice (some ⟨W.heap.size, 0, none⟩) ss.length ss.length) (W.alloc (.cells (madeCells #[.string ⟨#[]⟩] ss.length) 9)) := fun W => by
    have := run_make (P := Tryz.prog) W 22 9 i9 (.string ⟨#[]⟩) Tryz.underlying22 hi9 hz0 .i64 .i64 ss.length (ss.length : Int) (by omega) (by omega) (by rw [hz2]; omega) (by omega)
    rw [this, hz1, show ((ss.length : Int)).toNat = ss.length from by omega]
    simp [Value.cells]
  have HB0 := Lib.hid (show Blk (w.alloc (.cells (madeCells #[.string ⟨#[]⟩] ss.length) 9)) w.heap.size 9 (strs (ss.take 0) ++ List.replicate (ss.length - 0) (Value.string ⟨#[]⟩)) from by
    have : madeCells #[Value.string ⟨#[]⟩] ss.length = (strs (ss.take 0) ++ List.replicate (ss.length - 0) (Value.string ⟨#[]⟩)).toArray := by rw [made_one]; simp [strs]
    rw [this]
    exact Blk.new w 9 _)
  go_enter Tryz.func24, Tryz.ntmps24
  go_wp2
  go_loopw [4] (fun i wr => ∃ k : Nat, k ≤ ss.length ∧ i = .int .i64 k ∧ Blk wr w.heap.size 9 (strs (ss.take k) ++ List.replicate (ss.length - k) (Value.string ⟨#[]⟩)) ∧ w.grownBy wr none) (fun i _ => ss.length - (intOf i).toNat)
  case atStart => exact ⟨0, Nat.zero_le _, rfl, HB0.out, grown_alloc (grown_refl _ _) _⟩
  case round =>
    obtain ⟨k, hk, rfl, hb, hg⟩ := hrel
    have HB := Lib.hid hb
    have HG := Lib.hid hg
    have hlt2 := hb.lt
    clear hb hg
    by_cases hlt : k < ss.length
    · obtain ⟨s, hse⟩ : ∃ s, s = ss.getD k ByteArray.empty := ⟨_, rfl⟩
      rcases HL.out with h0 | ⟨ab, o, rfl, -, hc⟩
      · omega
      have d0 := HG.out.cell (hc k hlt) (by simp)
      rw [← hse] at d0
      have d1 : wr.cell? ⟨w.heap.size, k, none⟩ = some (.string ⟨#[]⟩) := by
        refine HB.out.cell ?_
        have hl : (strs (ss.take k)).length = k := by simp [strs]; omega
        rw [List.getElem?_append_right (by omega), hl, Nat.sub_self, List.getElem?_replicate, if_pos (by omega)]
      have d2 := HB.out.frozen k
      have HST := Lib.hid (show (strs (ss.take k) ++ List.replicate (ss.length - k) (Value.string ⟨#[]⟩)).set k (.string s) = strs (ss.take (k + 1)) ++ List.replicate (ss.length - (k + 1)) (Value.string ⟨#[]⟩) from by rw [hse]; exact set_step ss k hlt)
      have hkI : (k : Int) < ss.length := by omega
      clear hc hse
      go_wp2
      go_roundw
      case rel =>
        refine ⟨k + 1, by omega, by go_num, ?_, grown_into HG.out (grown_set (grown_refl _ _) k _) (Nat.le_refl _)⟩
        have := HB.out.set k (.string s)
        rw [HST.out] at this
        exact this
      case measure => simp [intOf]; omega
    · obtain rfl : k = ss.length := by omega
      go_wp2
      go_ret
      refine ⟨rfl, .inr ⟨w.heap.size, 0, rfl, Nat.le_refl _, fun j hj => ?_⟩, HG.out⟩
      rw [Nat.zero_add]
      refine HB.out.cell ?_
      rw [List.getElem?_append_left (by simp [strs]; omega)]
      simp [strs, hj]

set_option maxRecDepth 100000 in
set_option maxHeartbeats 1000000 in
theorem eqS_any (w : World) (b1 b2 : Nat) (ss : List ByteArray) (a1 a2 : Option Addr) (c1 c2 : Nat) (h1 : Lies w b1 a1 ss) (h2 : Lies w b2 a2 ss) (hn : ss.length ≤ 1048576) :
    Calls Tryz.prog 30 #[.slice a1 ss.length c1, .slice a2 ss.length c2] w fun e w' => e = .returned (.bool true) ∧ w.grownBy w' none := by
  have H1 := Lib.hid h1
  have H2 := Lib.hid h2
  clear h1 h2
  go_enter Tryz.func30, Tryz.ntmps30
  go_wp2
  go_loopw [5] (fun i wr => ∃ k : Nat, k ≤ ss.length ∧ i = .int .i64 k ∧ w.grownBy wr none) (fun i _ => ss.length - (intOf i).toNat)
  case atStart => exact ⟨0, Nat.zero_le _, rfl, grown_refl _ _⟩
  case round =>
    obtain ⟨k, hk, rfl, hg⟩ := hrel
    have HG := Lib.hid hg
    by_cases hlt : k < ss.length
    · rcases H1.out with h0 | ⟨ab, o, rfl, -, hc⟩
      · omega
      rcases H2.out with h0 | ⟨ab2, o2, rfl, -, hc2⟩
      · omega
      have d1 := hg.cell (hc k hlt) (by simp)
      have d2 := hg.cell (hc2 k hlt) (by simp)
      generalize ss.getD k ByteArray.empty = s at d1 d2
      have hkI : (k : Int) < ss.length := by omega
      clear hg hc hc2
      go_wp2
      go_quiet (fail)
      go_wp2
      go_roundw
      case rel => exact ⟨k + 1, by omega, by go_num, grown_drewN HG.out _⟩
      case measure => simp [intOf]; omega
    · obtain rfl : k = ss.length := by omega
      clear hg
      go_wp2
      go_ret
      exact ⟨rfl, HG.out⟩

theorem strs_one (L : List ByteArray) : ∀ v ∈ strs L, v.oneCell' = true := fun v hv => by
  obtain ⟨s, _, rfl⟩ := List.mem_map.1 hv
  rfl

theorem Row.lies {w : World} {base : Nat} {v : Value} {ss : List ByteArray} (h : Row w base v (strs ss)) : ∃ an cn, v = .slice an ss.length cn ∧ Lies w base an ss := by
  rcases h with ⟨rfl, h⟩ | ⟨g, c, rfl, hb, hl, hn, hc, hf⟩
  · have : ss = [] := by simpa [strs] using h
    subst this
    exact ⟨none, 0, rfl, .inl rfl⟩
  · refine ⟨_, c, by simp [strs], .inr ⟨g, 0, rfl, hb, fun j hj => ?_⟩⟩
    rw [Nat.zero_add, hc j (by simpa [strs] using hj)]
    simp [strs, hj]

theorem strs_len (ss : List ByteArray) : (strs ss).length = ss.length := by simp [strs]

end Go.Proofs.YtecekbhkombnnaaGreatDoor
