/- A request's line, by the program. -/
import Derived.Test.YtecekbhkombnnaaDoorW2
import Derived.Shelf.Strings.OnBuilder
import Derived.Lib.Join
namespace Go.Proofs.YtecekbhkombnnaaDoor
open Go.RowKit

def kindsC : List Value := [.nilFunc, .func (.func 60) #[.string ⟨#[116, 105, 99, 107]⟩] #[], .func (.func 60) #[.string ⟨#[116, 101, 110, 97, 110, 116]⟩] #[], .func (.func 60) #[.string ⟨#[117, 115, 101, 114]⟩] #[], .func (.func 60) #[.string ⟨#[115, 112, 97, 99, 101]⟩] #[], .func (.func 60) #[.string ⟨#[99, 111, 110, 102]⟩] #[], .func (.func 60) #[.string ⟨#[112, 111, 108, 105, 99, 121]⟩] #[], .func (.func 60) #[.string ⟨#[112, 108, 97, 110]⟩] #[], .func (.func 60) #[.string ⟨#[97, 112, 112, 114, 111, 118, 101]⟩] #[], .func (.func 60) #[.string ⟨#[99, 97, 110, 99, 101, 108]⟩] #[], .func (.func 60) #[.string ⟨#[115, 116, 101, 112]⟩] #[]]
theorem infoKinds : (Tryd.prog.info? 61).map (·.size) = some 11 := by kernel_rfl

set_option maxRecDepth 100000 in
set_option maxHeartbeats 4000000 in
theorem ikinds_any (w : World) : Calls Tryd.prog 45 #[] w fun e w' => e = .returned (.agg kindsC.toArray) ∧ w.grownBy w' none := by
  obtain ⟨W, hW⟩ : ∃ W, w.alloc (Obj.cells #[Value.nilFunc, .nilFunc, .nilFunc, .nilFunc, .nilFunc, .nilFunc, .nilFunc, .nilFunc, .nilFunc, .nilFunc, .nilFunc] 61) = W := ⟨_, rfl⟩
  have HB := Lib.hid (show Blk W w.heap.size 61 [.nilFunc, .nilFunc, .nilFunc, .nilFunc, .nilFunc, .nilFunc, .nilFunc, .nilFunc, .nilFunc, .nilFunc, .nilFunc] from by rw [← hW]; exact Blk.new w 61 _)
  have HG := Lib.hid (show w.grownBy W none from by rw [← hW]; exact grown_alloc (grown_refl _ _) _)
  have HW := Lib.hid hW
  have HO := Lib.hid (show ∀ v ∈ kindsC, v.oneCell' = true from by intro v hv; simp [kindsC] at hv; rcases hv with rfl | rfl | rfl | rfl | rfl | rfl | rfl | rfl | rfl | rfl | rfl <;> rfl)
  clear hW
  go_enter Tryd.func45, Tryd.ntmps45
  go_wp2_with (rw [HW.out]; refine wpList_store_blk rfl 61 _ _ rfl w.heap.size kindsC [.nilFunc, .nilFunc, .nilFunc, .nilFunc, .nilFunc, .nilFunc, .nilFunc, .nilFunc, .nilFunc, .nilFunc, .nilFunc] 61 HB.out infoKinds rfl HO.out rfl rfl ?_; intro w2 hb2 hg2)
  exact ⟨rfl, _, results_blk1 Tryd.results45 _ _ w.heap.size 61 _ _ hb2.out Tryd.underlying61 rfl infoKinds rfl, rfl, grown_into HG.out hg2.out (Nat.le_refl _)⟩

shelf_lay Lays.n156 Nm 156 at Tryd as Tryd.laysJoin
theorem Tryd.extra : Builder.Extra Tryd.prog Tryd.laysJoin_ren where
  sizeBuilder := by kernel_rfl
  liesBuilder := by kernel_rfl
  t5 := by kernel_rfl
  a5 := fun w => by kernel_rfl
  z5 := fun w => by kernel_rfl
  v5 := fun w => by kernel_rfl
  infoByte := by kernel_rfl
  cellsByte := by kernel_rfl
  sizeByte := by kernel_rfl
  neB5 := by decide
/-- texts, a blank between each two -/
def joinT (xs : List ByteArray) : ByteArray := ⟨(Lib.join (xs.map (·.data.toList)) [32]).toArray⟩
theorem join_row (w : World) (base : Nat) (v : Value) (xs : List ByteArray) (hr : Row w base v (strs xs)) (hne : xs ≠ []) (hN : xs.length ≤ 1048576) (hlen : (Lib.join (xs.map (·.data.toList)) [32]).length ≤ 140737488355328) :
    Calls Tryd.prog 57 #[v, .string ⟨#[32]⟩] w fun e w' => e = .returned (.string (joinT xs)) ∧ w.grownBy w' none := by
  rcases hr with ⟨-, h⟩ | ⟨g, cap, rfl, -, hl, hcap, hc, -⟩
  · cases xs with
    | nil => exact absurd rfl hne
    | cons a b => simp [strs] at h
  · rw [strs_len] at hcap hc ⊢
    refine (Any.strings_Join Tryd.laysJoin Tryd.extra g 0 cap xs ⟨#[32]⟩ w (fun j x hj => by
      have hj1 := (List.getElem?_eq_some_iff.1 hj).1
      rw [Nat.zero_add, hc j hj1]
      simp [strs, hj]) hl (by omega) hcap (by simpa using hlen)).mono ?_
    rintro e w' ⟨rfl, hb⟩
    exact ⟨rfl, grown_of_below hb none⟩

set_option maxRecDepth 100000 in
set_option maxHeartbeats 4000000 in
theorem line_any (w : World) (k : ByteArray) (g o c : Nat) (ws : List ByteArray) (h : At w ⟨g, o, none⟩ ws) (hn : ws.length ≤ 1048575) (hlen : (Lib.join ((k :: ws).map (·.data.toList)) [32]).length ≤ 140737488355328) :
    Calls Tryd.prog 60 #[.string k, .slice (some ⟨g, o, none⟩) ws.length c] w fun e w' => e = .returned (.string (joinT (k :: ws))) ∧ w.grownBy w' none := by
  obtain ⟨W1, hW1⟩ : ∃ W1, w.alloc (Obj.cells #[Value.string k] 9) = W1 := ⟨_, rfl⟩
  obtain ⟨W2, hW2⟩ : ∃ W2, W1.alloc (Obj.cells #[Value.slice (some ⟨w.heap.size, 0, none⟩) 1 1, .slice (some ⟨g, o, none⟩) ws.length c] 22) = W2 := ⟨_, rfl⟩
  have hg1 : w.grownBy W1 none := by rw [← hW1]; exact grown_alloc (grown_refl _ _) _
  have hg2 : W1.grownBy W2 none := by rw [← hW2]; exact grown_alloc (grown_refl _ _) _
  have hs1 : W1.heap.size = w.heap.size + 1 := by rw [← hW1]; simp
  have HG := Lib.hid (grown_trans hg1 hg2)
  have hb1 : Blk W1 w.heap.size 9 (strs [k]) := by rw [← hW1]; exact Blk.new w 9 _
  have hb2 : Blk W2 (w.heap.size + 1) 22 [Value.slice (some ⟨w.heap.size, 0, none⟩) 1 1, .slice (some ⟨g, o, none⟩) ws.length c] := by
    rw [← hW2]
    have := Blk.new W1 22 [Value.slice (some ⟨w.heap.size, 0, none⟩) 1 1, .slice (some ⟨g, o, none⟩) ws.length c]
    rw [hs1] at this
    exact this
  have hA1 : At W2 ⟨w.heap.size, 0, none⟩ [k] := fun j u hu => by
    have := (hb1.kept hg2 (by simp)).cell hu
    rw [Addr.add_mid, Nat.zero_add]
    exact this
  have hA2 : At W2 ⟨g, o, none⟩ ws := h.kept HG.out (by simp)
  have HC := Lib.hid (concat_any W2 (w.heap.size + 1) w.heap.size 0 1 g o c [k] ws hA1 hA2 (by simp) (by omega) (hb2.cell rfl) (hb2.cell rfl))
  have HW1 := Lib.hid hW1
  have HW2 := Lib.hid hW2
  clear hg1 hg2 hb1 hb2 hA1 hA2 hW1 hW2 h
  go_enter Tryd.func60, Tryd.ntmps60
  go_wp2_with fail
  rw [HW1.out, HW2.out]
  refine HC.out.mono ?_
  rintro e w1 ⟨v, rfl, hr, hg⟩
  have HR := Lib.hid hr
  have HG1 := Lib.hid (grown_trans HG.out hg)
  have HJ := Lib.hid (join_row w1 W2.heap.size v (k :: ws) hr (by simp) (by simp; omega) hlen)
  clear hr hg HC
  go_wp2_with fail
  refine HJ.out.mono ?_
  rintro e w2 ⟨rfl, hg⟩
  have HG2 := Lib.hid (grown_trans HG1.out hg)
  clear hg HJ
  go_wp2
  go_ret
  exact ⟨rfl, HG2.out⟩

theorem joinT_write (m : Nat) (tn us sp : ByteArray) (run num : Nat) (tx : ByteArray) : joinT [kindW m, wordT tn, wordT us, wordT sp, decS run, decS num, tx] = writeT m tn us sp run num tx := by
  unfold joinT writeT
  apply ByteArray.ext
  simp [Lib.join, ByteArray.data_append]
end Go.Proofs.YtecekbhkombnnaaDoor
