/- Lines of words: a line added. -/
import Derived.Test.YtfdhopkjblbkmaaDoorAL
namespace Go.Proofs.YtfdhopkjblbkmaaDoor
open Go.RowKit Go.Extern

/-- words, a blank ahead of each -/
def wordsB : List ByteArray → List UInt8
  | [] => []
  | s :: r => 32 :: s.data.toList ++ wordsB r
theorem wordsB_take : ∀ (ws : List ByteArray) (k : Nat) (h : k < ws.length), wordsB (ws.take (k + 1)) = wordsB (ws.take k) ++ [32] ++ ws[k].data.toList
  | [], _, h => by simp at h
  | s :: r, 0, _ => by simp [wordsB]
  | s :: r, k + 1, h => by
    have h2 : k < r.length := by simpa using h
    have := wordsB_take r k h2
    simp only [List.take_succ_cons, wordsB, this, List.getElem_cons_succ]
    simp
theorem wordsB_le : ∀ (ws : List ByteArray) (k : Nat), (wordsB (ws.take k)).length ≤ (wordsB ws).length
  | [], _ => by simp
  | _ :: _, 0 => by simp [wordsB]
  | s :: r, k + 1 => by
    have := wordsB_le r k
    simp only [List.take_succ_cons, wordsB, List.length_cons, List.length_append]
    omega
theorem FK.blk {b g : Nat} {w w' : World} {t : TypeId} {L : List Value} (h : FK b w w') (hb : Blk w g t L) (hne : g ≠ b) (ht : t ≠ 5) : Blk w' g t L := by
  refine h g _ hb (fun e => hne (Option.some.inj e)) (fun c fz e => ?_)
  injection e with e1 e2 e3
  exact ht e2

set_option maxRecDepth 100000 in
set_option maxHeartbeats 8000000 in
theorem iline_any (w : World) (B b : Nat) (l : List UInt8) (first : ByteArray) (g : Nat) (ws : List ByteArray) (h : PL w B b l) (hw : Blk w g 9 (strs ws)) (hgb : g ≠ b) (hn : ws.length ≤ 1048576) (hlen : l.length + first.size + (wordsB ws).length + 1 ≤ 140737488355328) (hBw : B ≤ w.heap.size) :
    Calls Tryd.prog 42 #[.pointer (some ⟨b, 0, none⟩), .string first, .slice (some ⟨g, 0, none⟩) ws.length ws.length] w fun e w' => e = .returned (.tuple #[]) ∧ PLU w' B b (l ++ first.data.toList ++ wordsB ws ++ [10]) ∧ Below B w w' ∧ FK b w w' := by
  have hfs : first.data.toList.length = first.size := by simp
  have HC := Lib.hid (iwstr_any w B b l first h (by omega) hBw)
  have HW := Lib.hid hw
  have HGB := Lib.hid hgb
  have HFS := Lib.hid hfs
  have HLN := Lib.hid hlen
  clear h hw hgb hfs hlen
  go_enter Tryd.func42, Tryd.ntmps42
  go_wp2_with fail
  refine HC.out.mono ?_
  rintro e w1 ⟨rfl, h1, hb1, hf1⟩
  have H1 := Lib.hid h1
  have HB1 := Lib.hid hb1
  have HF1 := Lib.hid hf1
  clear h1 hb1 hf1 HC
  go_wp2
  go_loopw [15] (fun i wr => ∃ k : Nat, k ≤ ws.length ∧ i = .int .i64 k ∧ Hid (PLU wr B b (l ++ first.data.toList ++ wordsB (ws.take k))) ∧ Hid (Below B w wr) ∧ Hid (FK b w wr)) (fun i _ => ws.length - (intOf i).toNat)
  case atStart => exact ⟨0, Nat.zero_le _, rfl, Lib.hid (by simpa [wordsB] using H1.out), HB1, HF1⟩
  case round =>
    obtain ⟨k, hk, rfl, HP, HB, HF⟩ := hrel
    have HLK := Lib.hid (show (l ++ first.data.toList ++ wordsB (ws.take k)).length + 1 ≤ 140737488355328 from by
      have := wordsB_le ws k
      have := HLN.out
      have := HFS.out
      simp only [List.length_append]
      omega)
    by_cases hlt : k < ws.length
    · have hkI : (k : Int) < ws.length := by omega
      obtain ⟨s, hs⟩ : ∃ s, ws[k] = s := ⟨_, rfl⟩
      have c0 : wr.cell? ⟨g, k, none⟩ = some (.string s) := (HF.out.blk HW.out HGB.out (by decide)).cell (by simp [strs, hlt, hs])
      have HTK := Lib.hid (show wordsB (ws.take (k + 1)) = wordsB (ws.take k) ++ [32] ++ s.data.toList from by rw [wordsB_take ws k hlt, hs])
      have HLS := Lib.hid (show (l ++ first.data.toList ++ wordsB (ws.take k) ++ [32]).length + s.size ≤ 140737488355328 from by
        have h1 := wordsB_le ws (k + 1)
        rw [HTK.out] at h1
        have := HLN.out
        have := HFS.out
        have hss : s.data.toList.length = s.size := by simp
        simp only [List.length_append, List.length_cons, List.length_nil] at h1 ⊢
        omega)
      have HSB := Lib.hid (show B ≤ wr.heap.size from Nat.le_trans hBw HB.out.size)
      have HWB := Lib.hid (iwbyte_any wr B b _ 32 HP.out.pl HLK.out HSB.out)
      clear hs
      go_wp2_with fail
      refine HWB.out.mono ?_
      rintro e w2 ⟨rfl, h2, hb2, hf2⟩
      have HB2 := Lib.hid (HB.out.trans hb2)
      have HF2 := Lib.hid (Lib.OthersKept.trans HF.out hf2)
      have HWS := Lib.hid (iwstr_any w2 B b _ s h2.pl HLS.out (Nat.le_trans HSB.out hb2.size))
      clear h2 hb2 hf2 HWB c0
      go_wp2_with fail
      refine HWS.out.mono ?_
      rintro e w3 ⟨rfl, h3, hb3, hf3⟩
      have HB3 := Lib.hid (HB2.out.trans hb3)
      have HF3 := Lib.hid (Lib.OthersKept.trans HF2.out hf3)
      have HP3 := Lib.hid (show PLU w3 B b (l ++ first.data.toList ++ wordsB (ws.take (k + 1))) from by
        rw [HTK.out, ← List.append_assoc, ← List.append_assoc]
        exact h3)
      clear h3 hb3 hf3 HWS
      go_wp2
      go_roundw
      case rel => exact ⟨k + 1, by omega, by go_num, HP3, HB3, HF3⟩
      case measure => simp [intOf]; omega
    · obtain rfl : k = ws.length := by omega
      have HSB := Lib.hid (show B ≤ wr.heap.size from Nat.le_trans hBw HB.out.size)
      have HWB := Lib.hid (iwbyte_any wr B b _ 10 HP.out.pl HLK.out HSB.out)
      go_wp2_with fail
      refine HWB.out.mono ?_
      rintro e w2 ⟨rfl, h2, hb2, hf2⟩
      have HB2 := Lib.hid (HB.out.trans hb2)
      have HF2 := Lib.hid (Lib.OthersKept.trans HF.out hf2)
      have HP2 := Lib.hid (show PLU w2 B b (l ++ first.data.toList ++ wordsB ws ++ [10]) from by rw [List.take_length] at h2; exact h2)
      clear h2 hb2 hf2 HWB
      go_wp2
      go_end0
      exact ⟨rfl, HP2.out, HB2.out, HF2.out⟩
end Go.Proofs.YtfdhopkjblbkmaaDoor
