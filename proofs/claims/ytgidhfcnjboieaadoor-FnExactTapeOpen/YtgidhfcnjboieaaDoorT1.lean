/- Pieces of a tape. -/
import Derived.Test.YtgidhfcnjboieaaDoorG1
import Derived.Test.YtgidhfcnjboieaaDoorXQP
namespace Go.Proofs.YtgidhfcnjboieaaDoor
open Go.RowKit

/-- a record as it stands on a tape -/
def pieceT (s : ByteArray) : ByteArray := ⟨#[114, 32]⟩ ++ decS s.size ++ ⟨#[32]⟩ ++ (sumT s).extract 0 8 ++ ⟨#[10]⟩ ++ s
theorem ext_size (T : ByteArray) (n : Nat) (h : n ≤ T.size) : (T.extract 0 n).size = n := by
  rw [ByteArray.size_extract]; omega
theorem pieceT_size (s : ByteArray) (hs : s.size ≤ 1048576) : (pieceT s).size ≤ s.size + 33 := by
  have h1 := decS_size s.size (by omega)
  have h2 := ext_size (sumT s) 8 (by rw [sumT_size]; omega)
  unfold pieceT
  simp only [ByteArray.size_append, h2]
  have e1 : (⟨#[114, 32]⟩ : ByteArray).size = 2 := rfl
  have e2 : (⟨#[32]⟩ : ByteArray).size = 1 := rfl
  have e3 : (⟨#[10]⟩ : ByteArray).size = 1 := rfl
  omega

set_option maxRecDepth 100000 in
set_option maxHeartbeats 1000000 in
theorem ipiece_any (w : World) (hw : Tabs w) (hp : Pow w) (s : ByteArray) (hs : s.size ≤ 1048576) : Calls Tryd.prog 55 #[.string s] w fun e w' => e = .returned (.string (pieceT s)) ∧ w.grownBy w' none := by
  have HI := Lib.hid (itoa_nat s.size (by omega) w hp)
  have HS := Lib.hid (fun (W : World) (hW : w.grownBy W none) => isum_any W (hw.grown hW) s (by omega))
  have HG := Lib.hid (show pieceT s = ⟨#[114, 32]⟩ ++ decS s.size ++ ⟨#[32]⟩ ++ (sumT s).extract 0 8 ++ ⟨#[10]⟩ ++ s from rfl)
  have hz := sumT_size s
  have hd := decS_size s.size (by omega)
  have hx := ext_size (sumT s) 8 (by omega)
  generalize sumT s = T at HS HG hz hx
  generalize decS s.size = D at HI HG hd
  clear hw hp
  have e1 : (⟨#[114, 32]⟩ : ByteArray).size = 2 := rfl
  have e2 : (⟨#[32]⟩ : ByteArray).size = 1 := rfl
  have e3 : (⟨#[10]⟩ : ByteArray).size = 1 := rfl
  have q1 : ¬ 9223372036854775807 < 2 + D.size := by omega
  have q2 : ¬ 9223372036854775807 < 2 + D.size + 1 := by omega
  have q3 : ¬ 9223372036854775807 < 2 + D.size + 1 + 8 := by omega
  have q4 : ¬ 9223372036854775807 < 2 + D.size + 1 + 8 + 1 := by omega
  have q5 : ¬ 9223372036854775807 < 2 + D.size + 1 + 8 + 1 + s.size := by omega
  go_enter Tryd.func55, Tryd.ntmps55
  go_wp2_with fail
  refine HI.out.mono ?_
  rintro e w1 ⟨rfl, hg1⟩
  have HG1 := Lib.hid hg1
  clear hg1 HI
  go_wp2_with fail
  refine (HS.out w1 HG1.out).mono ?_
  rintro e w2 ⟨rfl, hg2⟩
  have HG2 := Lib.hid (grown_trans HG1.out hg2)
  clear hg2 HS
  go_wp2
  go_ret
  exact ⟨by rw [HG.out]; rfl, HG2.out⟩
set_option maxRecDepth 100000 in
set_option maxHeartbeats 1000000 in
theorem sframe_any (w : World) (s : ByteArray) (hs : s.size ≤ 1048576) : Calls Tryd.prog 53 #[.string s] w fun e w' => e = .returned (.string (pieceT s)) ∧ w.grownBy w' none := by
  have HI := Lib.hid (dec_walk s.size w (by omega))
  have HS := Lib.hid (fun (W : World) => ssum_any W s (by omega))
  have HG := Lib.hid (show pieceT s = ⟨#[114, 32]⟩ ++ decS s.size ++ ⟨#[32]⟩ ++ (sumT s).extract 0 8 ++ ⟨#[10]⟩ ++ s from rfl)
  have hz := sumT_size s
  have hd := decS_size s.size (by omega)
  have hx := ext_size (sumT s) 8 (by omega)
  generalize sumT s = T at HS HG hz hx
  generalize decS s.size = D at HI HG hd
  have e1 : (⟨#[114, 32]⟩ : ByteArray).size = 2 := rfl
  have e2 : (⟨#[32]⟩ : ByteArray).size = 1 := rfl
  have e3 : (⟨#[10]⟩ : ByteArray).size = 1 := rfl
  have q1 : ¬ 9223372036854775807 < 2 + D.size := by omega
  have q2 : ¬ 9223372036854775807 < 2 + D.size + 1 := by omega
  have q3 : ¬ 9223372036854775807 < 2 + D.size + 1 + 8 := by omega
  have q4 : ¬ 9223372036854775807 < 2 + D.size + 1 + 8 + 1 := by omega
  have q5 : ¬ 9223372036854775807 < 2 + D.size + 1 + 8 + 1 + s.size := by omega
  go_enter Tryd.func53, Tryd.ntmps53
  go_wp2_with fail
  refine HI.out.mono ?_
  rintro e w1 ⟨rfl, hg1⟩
  have HG1 := Lib.hid hg1
  clear hg1 HI
  go_wp2_with fail
  refine (HS.out w1).mono ?_
  rintro e w2 ⟨rfl, hg2⟩
  have HG2 := Lib.hid (grown_trans HG1.out hg2)
  clear hg2 HS
  go_wp2
  go_ret
  exact ⟨by rw [HG.out]; rfl, HG2.out⟩
end Go.Proofs.YtgidhfcnjboieaaDoor
