import Derived.Test.YtdelijobaebfnaaDoorXH4
import Derived.Deep.OwnRows
import Derived.Test.YtdelijobaebfnaaDoorMa2
import Derived.Lib.ConvBytes
namespace Go.Proofs.YtdelijobaebfnaaDoor
open Go.RowKit

theorem info5 : (Tryd.prog.info? 5).map (fun i => (i.zero, i.size, i.bytes)) = some (some (.int .u8 0), 1, 1) := by kernel_rfl

/-- a byte of the length in bits -/
def lenB (n i : Nat) : Int := (n : Int) * 8 / 2 ^ (56 - 8 * i) % 256
def fillTo (n z : Nat) : Nat → List Int
  | 0 => 128 :: List.replicate (z + 8) 0
  | k + 1 => (fillTo n z k).set (1 + z + k) (lenB n k)
theorem fillTo_len (n z : Nat) : ∀ k, (fillTo n z k).length = z + 9
  | 0 => by simp [fillTo]
  | k + 1 => by rw [fillTo, List.length_set]; exact fillTo_len n z k

set_option maxRecDepth 100000 in
set_option maxHeartbeats 1000000 in
theorem end_walk (c : Nat) (t : TypeId) (w : World) (K H m : List Int) (S B : List Int) (hH : H.length = 8) (hws : WS K H m S B)
    (hb : Blk w c t (wcells m.length S B)) (hM : m.length < 1152921504606846976)
    (hT : ∀ k, k < 64 → w.cell? ⟨2, k, none⟩ = some (.int .u32 (K.getD k 0))) (h1c : 2 ≠ c) :
    Calls Tryd.prog 55 #[.pointer (some ⟨c, 0, none⟩)] w fun e w' => e = .returned (.tuple #[]) ∧ (∃ S' B', WS K H (m ++ fillTo m.length ((119 - m.length % 64) % 64) 8) S' B' ∧ Blk w' c t (wcells (m ++ fillTo m.length ((119 - m.length % 64) % 64) 8).length S' B')) ∧ w.grownBy w' (some c) := by
  have HT := Lib.hid hT
  have HB := Lib.hid hb
  have HWS := Lib.hid hws
  obtain ⟨n, hn⟩ : ∃ n, n = m.length := ⟨_, rfl⟩
  obtain ⟨f, hf⟩ : ∃ f, f = n % 64 := ⟨_, rfl⟩
  obtain ⟨z, hz⟩ : ∃ z, z = (119 - f) % 64 := ⟨_, rfl⟩
  rw [← hn] at HB
  have hnb : n < 1152921504606846976 := by omega
  have hf64 : f < 64 := by omega
  have hz64 : z < 64 := by omega
  have hzi : (119 - (f : Int)) % 64 = (z : Int) := by omega
  have hmk := run_make_row' (P := Tryd.prog) 22 5 (.int .u8 0) 1 Tryd.underlying22 info5 rfl .i64 .i64 (z + 9) (by omega) (by omega)
  rw [show ((z + 9 : Nat) : Int) = 1 + (z : Int) + 8 from by omega] at hmk
  have hm0 : (madeCells #[Value.int .u8 0] (z + 9))[0]? = some (Value.int .u8 0) := by rw [← Array.getElem?_toList, toList_madeCells_one]; simp [List.replicate_succ]
  have HE := Lib.hid (And.intro hn (And.intro hf hz))
  have c0 : w.cell? ⟨c, 0, none⟩ = some (.int .u64 n) := HB.out.cell (j := 0) rfl
  clear hT hb hws hn hf hz
  go_enter Tryd.func55, Tryd.ntmps55
  go_wp2_with (go_at_call 67; refine (filled_blk c t _ n f (u32s S ++ u8s B) (by omega) ?_ ?_).mono ?_; exact HE.out.2.1.symm; exact HB.out; rintro e w' ⟨rfl, rfl⟩)
  have hcw := HB.out.lt
  go_loopw [17] (fun i wr => ∃ k : Nat, k ≤ 8 ∧ i = .int .i64 k ∧ Blk wr w'.heap.size 5 (u8s (fillTo n z k)) ∧ w'.grownBy wr none) (fun i _ => 8 - (intOf i).toNat)
  case atStart =>
    refine ⟨0, by omega, rfl, ?_, grown_alloc (grown_refl _ _) _⟩
    have e : ((madeCells #[Value.int .u8 0] (z + 9)).setIfInBounds 0 (Value.int .u8 128)) = (u8s (fillTo n z 0)).toArray := by
      apply Array.toList_inj.1
      rw [Array.toList_setIfInBounds, toList_madeCells_one]
      simp [fillTo, u8s, List.replicate_succ]
    rw [e]
    exact Blk.new w' 5 _
  case round =>
    obtain ⟨k, hk, rfl, hb1, hg⟩ := hrel
    have hFl := fillTo_len n z k
    obtain ⟨F, hF⟩ : ∃ F, F = fillTo n z k := ⟨_, rfl⟩
    rw [← hF] at hb1 hFl
    have HF := Lib.hid hF
    have HB1 := Lib.hid hb1
    have HG := Lib.hid hg
    clear hF hb1 hg
    by_cases hlt : k < 8
    · have d0 : wr.cell? ⟨c, 0, none⟩ = some (.int .u64 n) := HG.out.cell c0 (by simp)
      have d1 : wr.cell? ⟨w'.heap.size, 1 + z + k, none⟩ = some (.int .u8 (F.getD (1 + z + k) 0)) := HB1.out.cell (u8s_get (by omega))
      have d2 : wr.frozen? ⟨w'.heap.size, 1 + z + k, none⟩ = false := HB1.out.frozen _
      go_wp2
      go_roundw
      case rel =>
        refine ⟨k + 1, by omega, by go_num, ?_, grown_into HG.out (grown_set (grown_refl wr (some w'.heap.size)) _ _) (Nat.le_refl _)⟩
        have hF := HF.out
        subst hF
        have := HB1.out.set (1 + z + k) (.int .u8 (lenB n k))
        simpa [fillTo, u8s, List.map_set, lenB] using this
      case measure => simp [intOf]; omega
    · obtain rfl : k = 8 := by omega
      have hb2 : Blk wr c t (wcells n S B) := HB.out.kept HG.out (by simp)
      have hT2 : ∀ k, k < 64 → wr.cell? ⟨2, k, none⟩ = some (.int .u32 (K.getD k 0)) := fun k hk => HG.out.cell (HT.out k hk) (by simp)
      have HB2 := Lib.hid hb2
      have HT2 := Lib.hid hT2
      clear hb2 hT2
      have hwl := write_walk c t wr K H m S B F w'.heap.size (z + 9) (some ⟨w'.heap.size, 0, none⟩) hH HWS.out (by rw [← HE.out.1]; exact HB2.out) (by omega) (by omega) (fun _ => rfl) (fun j hj => HB1.out.cell (u8s_get hj)) (by omega) HT2.out h1c
      rw [hFl] at hwl
      have HWL := Lib.hid hwl
      clear hwl
      go_wp2_with fail
      refine HWL.out.mono ?_
      rintro e w2 ⟨rfl, ⟨S', B', hws2, hb3⟩, hg3⟩
      have HP := Lib.hid (And.intro hws2 (And.intro hb3 hg3))
      clear hws2 hb3 hg3
      go_wp2
      go_end0
      obtain ⟨hn, hf, hz⟩ := HE.out
      have hF := HF.out
      have hP := HP.out
      subst hF
      rw [hz, hf, hn] at hP
      exact ⟨rfl, ⟨S', B', hP.1, hP.2.1⟩, grown_trans (grown_widen HG.out) hP.2.2⟩

end Go.Proofs.YtdelijobaebfnaaDoor

namespace Go.Proofs.YtdelijobaebfnaaDoor
open Go.RowKit

theorem wpList_store_blkH {P : Program} {ops : Array Oper} {rest : List Oper} {op : Oper} {a : Act} {w : World} {Q : Exit → Act → World → Prop} (hgd : op.guard = none) (ty : TypeId) (x y : Operand) (ho : op.op = .store ty x y)
    (b : Nat) (cells : List Value) (hx : a.eval x = .pointer (some ⟨b, 0, none⟩)) (hy : a.eval y = .agg cells.toArray) (t : TypeId) (L : List Value) (hb : Blk w b t L) (hl : cells.length = L.length)
    (hi : (P.info? ty).map (·.size) = some cells.length) (h1 : ∀ v ∈ cells, v.oneCell' = true)
    (h : ∀ w', Blk w' b t cells → Hid (w.grownBy w' (some b)) → wpList P ops Q rest (a.put op.dst undef) w') : wpList P ops Q (op :: rest) a w := by
  refine wpList_store_mid hgd ty x y ho b 0 cells.toArray hx hy (fun j hj => ?_) (by simpa using hi) (all_oneCell_toArray h1) ?_
  · rw [Nat.zero_add]
    have hj' : j < L.length := by simpa [hl] using hj
    exact ⟨by rw [hb.cell (List.getElem?_eq_getElem hj')]; rfl, hb.frozen j⟩
  · have := hb.setCells 0 cells (by omega)
    rw [splice_all hl] at this
    exact h _ this (grown_setCells (grown_refl w (some b)) 0 _)

/-- the bytes of a string, as numbers -/
def bI (s : ByteArray) : List Int := s.data.toList.map fun b => (b.toNat : Int)
def catI (ss : List ByteArray) : List Int := ss.flatMap bI

theorem bI_len (s : ByteArray) : (bI s).length = s.size := by simp [bI]
theorem bI_get (s : ByteArray) (j : Nat) (hj : j < s.size) : (bI s).getD j 0 = ((s.data.toList.getD j 0).toNat : Int) := by
  have h : j < s.data.size := hj
  simp only [bI, List.getD_eq_getElem?_getD, List.getElem?_map, Array.getElem?_toList, Array.getElem?_eq_getElem h, Option.map_some, Option.getD_some]
theorem catI_take (ss : List ByteArray) (k : Nat) (hk : k < ss.length) : catI (ss.take (k + 1)) = catI (ss.take k) ++ bI (ss.getD k ByteArray.empty) := by
  unfold catI
  rw [List.take_succ_eq_append_getElem hk, List.flatMap_append]
  congr 1
  simp [hk]
theorem catI_le (ss : List ByteArray) (k : Nat) : (catI (ss.take k)).length ≤ (catI ss).length := by
  have : catI ss = catI (ss.take k) ++ catI (ss.drop k) := by simp [catI, ← List.flatMap_append]
  rw [this]; simp
theorem grown_bytes (w : World) (e : TypeId) (s : ByteArray) (row : Option Nat) : w.grownBy (Lib.bytesWorld w e s) row :=
  ⟨rfl, rfl, rfl, by rw [Lib.bytesWorld_size]; omega, fun k hk _ => Lib.bytesWorld_at_old w e s k hk⟩

theorem size52 : (Tryd.prog.info? 91).map (·.size) = some 8 := by kernel_rfl
theorem run_index52 (B : List Int) (hB : B.length = 8) (k : Nat) (hk : k < 8) (w : World) : (Instr.index 91 (.agg (u32s B).toArray) (.int .i64 k)).run Tryd.prog w = .ok (.int .u32 (B.getD k 0)) w := by
  have hkB : k < B.length := by omega
  cases hq : Tryd.prog.info? 89 with
  | none => have := size50; simp [hq] at this
  | some i =>
    have hi : i.size = 1 := by have := size50; simpa [hq] using this
    simp [Instr.index, run_underlying Tryd.underlying91, sizeOf, typeInfo, hq, hi, part, isAgg, run_underlying Tryd.underlying89, asIntOf, hkB]
    intro h; omega
/-- the four bytes of a word -/
def word4 (x : Int) : List Int := [x / 16777216 % 256, x / 65536 % 256, x / 256 % 256, x % 256]
def out4 (T : List Int) : List Int := T.flatMap word4
theorem out4_take (T : List Int) (k : Nat) (hk : k < T.length) : out4 (T.take (k + 1)) = out4 (T.take k) ++ word4 (T.getD k 0) := by
  unfold out4
  rw [List.take_succ_eq_append_getElem hk, List.flatMap_append]
  congr 1
  simp [hk]
theorem out4_len : ∀ (T : List Int), (out4 T).length = 4 * T.length
  | [] => rfl
  | x :: T => by
    rw [show out4 (x :: T) = word4 x ++ out4 T from by simp [out4], List.length_append, out4_len T, List.length_cons]
    show 4 + _ = _
    omega
/-- a text with its padding behind it -/
def padI (m : List Int) : List Int := m ++ fillTo m.length ((119 - m.length % 64) % 64) 8
/-- the sum of a text, as bytes -/
def sumI (K H m : List Int) : List Int := out4 (blocksTo K H (padI m) ((padI m).length / 64))
theorem owns_base {w : World} {b b' : Nat} {e : TypeId} {size : Nat} {v : Value} {n : Nat} {xs : List Value} (h : w.ownsRow b e size v n xs) (hb : b' ≤ b) : w.ownsRow b' e size v n xs := by
  obtain ⟨h1, h2⟩ := h
  refine ⟨h1, ?_⟩
  rcases h2 with h2 | ⟨g, cap, cur, hv, hg, r⟩
  · exact Or.inl h2
  · exact Or.inr ⟨g, cap, cur, hv, by omega, r⟩

theorem zero58 : Tryd.zeroCells97.toList.length = 73 := by kernel_rfl
theorem size58 : (Tryd.prog.info? 97).map (·.size) = some 73 := by kernel_rfl
theorem cells58 (h0 h1 h2 h3 h4 h5 h6 h7 : Int) : ((((((((Tryd.zeroCells97.setIfInBounds 1 (Value.int .u32 h0)).setIfInBounds 2 (Value.int .u32 h1)).setIfInBounds 3 (Value.int .u32 h2)).setIfInBounds 4 (Value.int .u32 h3)).setIfInBounds 5 (Value.int .u32 h4)).setIfInBounds 6 (Value.int .u32 h5)).setIfInBounds 7 (Value.int .u32 h6)).setIfInBounds 8 (Value.int .u32 h7)) = (wcells 0 [h0, h1, h2, h3, h4, h5, h6, h7] (List.replicate 64 0)).toArray := by kernel_rfl
theorem wcells_one (n : Nat) (S B : List Int) : ∀ v ∈ wcells n S B, v.oneCell' = true := fun v hv => by
  rcases List.mem_cons.1 hv with rfl | hv
  · rfl
  · rcases List.mem_append.1 hv with hv | hv
    · exact u32s_one S v hv
    · exact u8s_one B v hv

set_option maxRecDepth 100000 in
set_option maxHeartbeats 1000000 in
theorem hashBytes_walk (w : World) (K : List Int) (h0 h1 h2 h3 h4 h5 h6 h7 : Int) (ss : List ByteArray) (tb cp : Nat) (ta : Option Addr)
    (hta : 0 < ss.length → ta = some ⟨tb, 0, none⟩) (hss : ∀ j, j < ss.length → w.cell? ⟨tb, j, none⟩ = some (.string (ss.getD j ByteArray.empty))) (hlen : (catI ss).length < 1152921504606846976) (hsl : ss.length < 1152921504606846976)
    (c0 : w.cell? ⟨1, 0, none⟩ = some (.int .u32 h0)) (c1 : w.cell? ⟨1, 1, none⟩ = some (.int .u32 h1)) (c2 : w.cell? ⟨1, 2, none⟩ = some (.int .u32 h2)) (c3 : w.cell? ⟨1, 3, none⟩ = some (.int .u32 h3))
    (c4 : w.cell? ⟨1, 4, none⟩ = some (.int .u32 h4)) (c5 : w.cell? ⟨1, 5, none⟩ = some (.int .u32 h5)) (c6 : w.cell? ⟨1, 6, none⟩ = some (.int .u32 h6)) (c7 : w.cell? ⟨1, 7, none⟩ = some (.int .u32 h7))
    (hT : ∀ k, k < 64 → w.cell? ⟨2, k, none⟩ = some (.int .u32 (K.getD k 0))) :
    Calls Tryd.prog 32 #[.slice ta ss.length cp] w fun e w' => ∃ v, e = .returned v ∧ w'.ownsRow w.heap.size 5 1 v 32 (u8s (sumI K [h0, h1, h2, h3, h4, h5, h6, h7] (catI ss))) ∧ w.grownBy w' none := by
  have HT := Lib.hid hT
  have HSS := Lib.hid hss
  have HTA := Lib.hid hta
  clear hT hss hta
  have hcv := fun (W : World) (s : ByteArray) => Lib.run_convert_string_bytes (P := Tryd.prog) W 9 22 5 s Tryd.underlying9 Tryd.underlying22 Tryd.underlying5
  go_enter Tryd.func32, Tryd.ntmps32
  go_wp2_with (refine wpList_store_blkH rfl 97 _ _ rfl w.heap.size (wcells 0 [h0, h1, h2, h3, h4, h5, h6, h7] (List.replicate 64 0)) rfl (by exact congrArg Value.agg (cells58 h0 h1 h2 h3 h4 h5 h6 h7)) 97 Tryd.zeroCells97.toList (by exact Blk.new w 97 Tryd.zeroCells97.toList) (by rw [zero58]; simp [wcells]) (by rw [size58]; simp [wcells]) (wcells_one _ _ _) ?_; intro w1 hb1 hg1; have HB1 := Lib.hid hb1; clear hb1)
  have HG1 : Hid (w.grownBy w1 none) := grown_new (grown_trans (grown_alloc (grown_refl w _) _) hg1.out) (Nat.le_refl _)
  clear hg1
  go_loopw [13] (fun i wr => ∃ k : Nat, k ≤ ss.length ∧ i = .int .i64 k ∧ (∃ S B, WS K [h0, h1, h2, h3, h4, h5, h6, h7] (catI (ss.take k)) S B ∧ Blk wr w.heap.size 97 (wcells (catI (ss.take k)).length S B)) ∧ w.grownBy wr none) (fun i _ => ss.length - (intOf i).toNat)
  case atStart => exact ⟨0, Nat.zero_le _, rfl, ⟨[h0, h1, h2, h3, h4, h5, h6, h7], List.replicate 64 0, ⟨by simp, by simp [catI], by simp [catI, blocksTo]⟩, HB1.out⟩, HG1.out⟩
  case round =>
    obtain ⟨k, hk, rfl, ⟨S, B, hws, hb⟩, hg⟩ := hrel
    have HWS := Lib.hid hws
    have HB := Lib.hid hb
    have HG := Lib.hid hg
    clear hws hb hg
    by_cases hlt : k < ss.length
    · obtain ⟨s, hs⟩ : ∃ s, s = ss.getD k ByteArray.empty := ⟨_, rfl⟩
      have hta := HTA.out (by omega)
      subst hta
      have d0 : wr.cell? ⟨tb, k, none⟩ = some (.string s) := by rw [hs]; exact HG.out.cell (HSS.out k hlt) (by simp)
      have hcat : catI (ss.take (k + 1)) = catI (ss.take k) ++ bI s := by rw [hs]; exact catI_take ss k hlt
      have hle := catI_le ss (k + 1)
      have hkI : (k : Int) < ss.length := by omega
      have hwl := write_walk w.heap.size 97 (Lib.bytesWorld wr 5 s) K [h0, h1, h2, h3, h4, h5, h6, h7] (catI (ss.take k)) S B (bI s) wr.heap.size (grownCap wr s.size 0 5) (some ⟨wr.heap.size, 0, none⟩) rfl HWS.out (HB.out.kept (grown_bytes wr 5 s none) (by simp))
        (by rw [hcat, List.length_append] at hle; omega) (by rw [bI_len]; exact grownCap_ge _ _ _ _) (fun _ => rfl) (fun j hj => by rw [bI_len] at hj; rw [Lib.bytesWorld_cell wr 5 s j hj, bI_get s j hj]) (by have := HB.out.lt; omega)
        (fun k hk => (grown_bytes wr 5 s none).cell (HG.out.cell (HT.out k hk) (by simp)) (by simp)) (by have := World.block_lt_of_cell? w _ (HT.out 0 (by omega)); simp at this; omega)
      rw [bI_len] at hwl
      have HWL := Lib.hid hwl
      have HS := Lib.hid hs
      have HC := Lib.hid hcat
      clear hs hcat hle hwl
      go_wp2_with fail
      refine HWL.out.mono ?_
      rintro e w2 ⟨rfl, hex, hg2⟩
      have HEX := Lib.hid hex
      have HG2 := Lib.hid hg2
      clear hex hg2
      go_wp2
      go_roundw
      case rel =>
        refine ⟨k + 1, by omega, by go_num, ?_, grown_into (grown_trans HG.out (grown_bytes wr 5 s none)) HG2.out (Nat.le_refl _)⟩
        rw [HC.out]
        exact HEX.out
      case measure => simp [intOf]; omega
    · obtain rfl : k = ss.length := by omega
      rw [List.take_length] at HWS HB
      obtain ⟨m, hm⟩ : ∃ m, m = catI ss := ⟨_, rfl⟩
      rw [← hm] at HWS HB hlen
      have HM := Lib.hid hm
      clear hm
      have h1w : 2 ≠ w.heap.size := by have := World.block_lt_of_cell? w _ (HT.out 0 (by omega)); simp at this; omega
      have hew := end_walk w.heap.size 97 wr K [h0, h1, h2, h3, h4, h5, h6, h7] m S B rfl HWS.out HB.out hlen (fun k hk => HG.out.cell (HT.out k hk) (by simp)) h1w
      have HEW := Lib.hid hew
      clear hew
      have hmk : ∀ W : World, (Instr.makeSlice 22 (.int .i64 0) (.int .i64 32)).run Tryd.prog W = .ok (.slice (some ⟨W.heap.size, 0, none⟩) 0 32) (W.alloc (.cells (u8s (List.replicate 32 0)).toArray 5)) := fun _ => by kernel_rfl
      go_wp2_with fail
      refine HEW.out.mono ?_
      rintro e w2 ⟨rfl, hex, hg2⟩
      obtain ⟨S2, B2, hws2, hb2⟩ := hex
      have hS2 : S2.length = 8 := by rw [hws2.2.2]; exact blocksTo_len _ _ _ rfl _
      have HWS2 := Lib.hid hws2
      have HB2 := Lib.hid hb2
      have HG2 := Lib.hid hg2
      clear hws2 hb2 hg2
      obtain ⟨t0, t1, t2, t3, t4, t5, t6, t7, rfl⟩ : ∃ t0 t1 t2 t3 t4 t5 t6 t7, S2 = [t0, t1, t2, t3, t4, t5, t6, t7] := ⟨_, _, _, _, _, _, _, _, list8 hS2⟩
      have e0 := HB2.out.cell (j := 1) rfl
      have e1 := HB2.out.cell (j := 2) rfl
      have e2 := HB2.out.cell (j := 3) rfl
      have e3 := HB2.out.cell (j := 4) rfl
      have e4 := HB2.out.cell (j := 5) rfl
      have e5 := HB2.out.cell (j := 6) rfl
      have e6 := HB2.out.cell (j := 7) rfl
      have e7 := HB2.out.cell (j := 8) rfl
      have hlt2 := HB2.out.lt
      obtain ⟨i5, hi5, hz0, hz1, hz2⟩ := info_parts info5
      go_wp2
      go_loopw [6, 25] (fun v i wr => ∃ k : Nat, k ≤ 8 ∧ i = .int .i64 k ∧ wr.ownsRow w2.heap.size 5 1 v (4 * k) (u8s (out4 ([t0, t1, t2, t3, t4, t5, t6, t7].take k))) ∧ w2.grownBy wr none) (fun _ i _ => 8 - (intOf i).toNat)
      case atStart =>
        exact ⟨0, Nat.zero_le _, rfl, World.ownsRow_made w2 (u8s (List.replicate 32 0)).toArray 32 (Nat.le_refl _) (by decide) (by simp), grown_alloc (grown_refl _ _) _⟩
      case round =>
        obtain ⟨k, hk, rfl, hown, hgr⟩ := hrel
        by_cases hlt8 : k < 8
        · have ix : ∀ W, (Instr.index 91 (.agg #[.int .u32 t0, .int .u32 t1, .int .u32 t2, .int .u32 t3, .int .u32 t4, .int .u32 t5, .int .u32 t6, .int .u32 t7]) (.int .i64 k)).run Tryd.prog W = .ok (.int .u32 ([t0, t1, t2, t3, t4, t5, t6, t7].getD k 0)) W := run_index52 [t0, t1, t2, t3, t4, t5, t6, t7] rfl k hlt8
          obtain ⟨x, hx⟩ : ∃ x, x = [t0, t1, t2, t3, t4, t5, t6, t7].getD k 0 := ⟨_, rfl⟩
          rw [← hx] at ix
          have HX := Lib.hid hx
          have HOWN := Lib.hid hown
          have HGR := Lib.hid hgr
          clear hx hown hgr
          go_wp2_with (at_builtin; refine wpList_append_own _ rfl _ _ 22 rfl w2.heap.size 5 i5 (.int .u8 0) 1 1 Tryd.underlying22 hi5 hz0 hz1 hz2 rfl (by decide) _ _ _ rfl (HOWN.out.alloc _) ⟨wr.heap.size, 0, none⟩ 4 4 (u8s (word4 x)) rfl rfl ?c1 ?c2 ?c3 ?c4 ?c5 ?_)
          case c1 => exact news_new wr 5 (u8s (word4 x))
          case c2 => exact u8s_one _
          case c3 => unfold maxLen; omega
          case c4 => omega
          case c5 => have := HGR.out.size; simp; omega
          intro v' w3 hown' hgrow _
          have HO := Lib.hid hown'
          have HW := Lib.hid hgrow
          clear hown' hgrow
          go_wp2
          go_roundw
          case rel =>
            refine ⟨k + 1, by omega, by go_num, ?_, grown_own (grown_alloc HGR.out _) HW.out (fun q hq => (HOWN.out.lt q hq).1)⟩
            have := HO.out
            rw [HX.out, ← List.map_append, ← out4_take _ k (by simpa using hlt8)] at this
            exact this
          case measure => simp [intOf]; omega
        · obtain rfl : k = 8 := by omega
          have HOWN := Lib.hid hown
          have HGR := Lib.hid hgr
          clear hown hgr
          go_wp2
          go_ret
          have hg2 : w.grownBy w2 none := grown_into HG.out HG2.out (Nat.le_refl _)
          refine ⟨_, rfl, ?_, grown_own hg2 HGR.out (fun q hq => by cases hq)⟩
          have hT : [t0, t1, t2, t3, t4, t5, t6, t7] = blocksTo K [h0, h1, h2, h3, h4, h5, h6, h7] (padI m) ((padI m).length / 64) := HWS2.out.2.2
          have hO := owns_base HOWN.out hg2.size
          have e1 : ([t0, t1, t2, t3, t4, t5, t6, t7] : List Int).take 8 = [t0, t1, t2, t3, t4, t5, t6, t7] := rfl
          rw [e1, hT] at hO
          rw [← HM.out]
          exact hO

end Go.Proofs.YtdelijobaebfnaaDoor
