/- How the document writes values. -/
import Derived.Test.YtgmigloafcejdaaGreatDoorSH1
namespace Go.Proofs.YtgmigloafcejdaaGreatDoor
open Go.RowKit

def showB (T : VT) : ByteArray := ⟨(showT T).toArray⟩
theorem showB_data (T : VT) : (showB T).data.toList = showT T := by simp [showB]
theorem showB_size (T : VT) : (showB T).size = (showT T).length := by
  rw [← size_len, showB_data]
theorem showB_eq (T : VT) (D : ByteArray) (h : D.data.toList = showT T) : showB T = D := by
  apply ByteArray.ext
  show (showT T).toArray = D.data
  rw [← h]

set_option maxRecDepth 100000 in
set_option maxHeartbeats 2000000 in
theorem show_1 (W : World) (n : Int) (t : ByteArray) (ns : List ByteArray) (ks : List VT) (an ak : Option Addr) (cn ck : Nat) :
    Calls Tryz.prog 33 #[.agg #[.int .i64 1, .int .i64 n, .string t, .slice an ns.length cn, .slice ak ks.length ck]] W fun e w' => e = .returned (.string (showB (.node 1 n t ns ks))) ∧ W.grownBy w' none := by
  have HE := Lib.hid (showB_eq (.node 1 n t ns ks) ⟨#[110, 117, 108, 108]⟩ (by rw [showT]; simp))
  go_enter Tryz.func33, Tryz.ntmps33
  go_wp2
  go_ret
  exact ⟨by rw [HE.out]; rfl, grown_alloc (grown_refl _ _) _⟩

set_option maxRecDepth 100000 in
set_option maxHeartbeats 2000000 in
theorem show_7 (W : World) (n : Int) (t : ByteArray) (ns : List ByteArray) (ks : List VT) (an ak : Option Addr) (cn ck : Nat) :
    Calls Tryz.prog 33 #[.agg #[.int .i64 7, .int .i64 n, .string t, .slice an ns.length cn, .slice ak ks.length ck]] W fun e w' => e = .returned (.string (showB (.node 7 n t ns ks))) ∧ W.grownBy w' none := by
  have HE := Lib.hid (showB_eq (.node 7 n t ns ks) ⟨#[63]⟩ (by rw [showT]; simp))
  go_enter Tryz.func33, Tryz.ntmps33
  go_wp2
  go_ret
  exact ⟨by rw [HE.out]; rfl, grown_alloc (grown_refl _ _) _⟩

set_option maxRecDepth 100000 in
set_option maxHeartbeats 2000000 in
theorem show_2y (W : World) (n : Int) (t : ByteArray) (ns : List ByteArray) (ks : List VT) (an ak : Option Addr) (cn ck : Nat) (hn : n = 1) :
    Calls Tryz.prog 33 #[.agg #[.int .i64 2, .int .i64 n, .string t, .slice an ns.length cn, .slice ak ks.length ck]] W fun e w' => e = .returned (.string (showB (.node 2 n t ns ks))) ∧ W.grownBy w' none := by
  have HE := Lib.hid (showB_eq (.node 2 n t ns ks) ⟨#[116, 114, 117, 101]⟩ (by rw [showT]; simp [hn]))
  subst hn
  go_enter Tryz.func33, Tryz.ntmps33
  go_wp2
  go_ret
  exact ⟨by rw [HE.out]; rfl, grown_alloc (grown_refl _ _) _⟩

set_option maxRecDepth 100000 in
set_option maxHeartbeats 2000000 in
theorem show_2n (W : World) (n : Int) (t : ByteArray) (ns : List ByteArray) (ks : List VT) (an ak : Option Addr) (cn ck : Nat) (hn : ¬ n = 1) :
    Calls Tryz.prog 33 #[.agg #[.int .i64 2, .int .i64 n, .string t, .slice an ns.length cn, .slice ak ks.length ck]] W fun e w' => e = .returned (.string (showB (.node 2 n t ns ks))) ∧ W.grownBy w' none := by
  have HE := Lib.hid (showB_eq (.node 2 n t ns ks) ⟨#[102, 97, 108, 115, 101]⟩ (by rw [showT]; simp [hn]))
  have hb : (n == 1) = false := by rw [beq_eq_false_iff_ne]; exact hn
  go_enter Tryz.func33, Tryz.ntmps33
  go_wp2
  go_ret
  exact ⟨by rw [HE.out]; rfl, grown_alloc (grown_refl _ _) _⟩

set_option maxRecDepth 100000 in
set_option maxHeartbeats 2000000 in
theorem show_3 (W : World) (n : Int) (t : ByteArray) (ns : List ByteArray) (ks : List VT) (an ak : Option Addr) (cn ck : Nat) (h0 : -999999 ≤ n) (h1 : n ≤ 999999) :
    Calls Tryz.prog 33 #[.agg #[.int .i64 3, .int .i64 n, .string t, .slice an ns.length cn, .slice ak ks.length ck]] W fun e w' => e = .returned (.string (showB (.node 3 n t ns ks))) ∧ W.grownBy w' none := by
  have HE := Lib.hid (showB_eq (.node 3 n t ns ks) (decI n) (by rw [showT]; simp [decI]))
  have HD := Lib.hid (fun X : World => decI_any X n h0 h1)
  go_enter Tryz.func33, Tryz.ntmps33
  go_wp2_with fail
  refine (HD.out _).mono ?_
  rintro e w1 ⟨rfl, hg1⟩
  have HG1 := Lib.hid (grown_trans (grown_alloc (grown_refl W none) _) hg1)
  clear hg1
  go_wp2
  go_ret
  exact ⟨by rw [HE.out]; rfl, HG1.out⟩

set_option maxRecDepth 100000 in
set_option maxHeartbeats 2000000 in
theorem show_4 (W : World) (n : Int) (t : ByteArray) (ns : List ByteArray) (ks : List VT) (an ak : Option Addr) (cn ck : Nat) (ht : t.size ≤ 1048576) :
    Calls Tryz.prog 33 #[.agg #[.int .i64 4, .int .i64 n, .string t, .slice an ns.length cn, .slice ak ks.length ck]] W fun e w' => e = .returned (.string (showB (.node 4 n t ns ks))) ∧ W.grownBy w' none := by
  have HE := Lib.hid (showB_eq (.node 4 n t ns ks) (⟨#[34]⟩ ++ t ++ ⟨#[34]⟩) (by rw [showT]; simp))
  have hl1 : ¬ 9223372036854775807 < 1 + t.size := by omega
  have hl2 : ¬ 9223372036854775807 < 1 + t.size + 1 := by omega
  go_enter Tryz.func33, Tryz.ntmps33
  go_wp2
  go_ret
  exact ⟨by rw [HE.out]; rfl, grown_alloc (grown_refl _ _) _⟩

theorem lens_mem {xs : List (List UInt8)} {x : List UInt8} (h : x ∈ xs) : x.length + 1 ≤ lens xs := by
  induction xs with
  | nil => cases h
  | cons a xs ih =>
    rw [lens]
    rcases List.mem_cons.1 h with rfl | h
    · omega
    · have := ih h; omega

set_option maxRecDepth 100000 in
set_option maxHeartbeats 2000000 in
theorem show_5 (W : World) (n : Int) (t : ByteArray) (ns : List ByteArray) (ks : List VT) (an ak : Option Addr) (cn ck : Nat) (base : Nat) (w : World) (CS : Nat → List Value) (hp : ks.length = 0 ∨ ∃ b o, ak = some ⟨b, o, none⟩ ∧ base ≤ b ∧ ∀ j, j < ks.length → Five w b (o + j * 5) (CS j)) (hl5 : ks.length ≤ 5) (B : Nat) (hB : B ≤ 1000000000) (hlen : lens (showK ks) ≤ B) (ih : ∀ (j : Nat) (k : VT), ks[j]? = some k → ∀ W : World, w.grownBy W none → Calls Tryz.prog 33 #[.agg (CS j).toArray] W fun e w' => e = .returned (.string (showB k)) ∧ W.grownBy w' none) (hW : w.grownBy W none) :
    Calls Tryz.prog 33 #[.agg #[.int .i64 5, .int .i64 n, .string t, .slice an ns.length cn, .slice ak ks.length ck]] W fun e w' => e = .returned (.string (showB (.node 5 n t ns ks))) ∧ W.grownBy w' none := by
  have HP := Lib.hid hp
  have HI := Lib.hid ih
  have HW := Lib.hid hW
  have HLEN := Lib.hid hlen



  have HIT := Lib.hid (show (showK ks).length = ks.length from by exact showK_len ks)
  have HGA := Lib.hid (show W.grownBy (W.alloc (Obj.cells #[Value.int .i64 5, .int .i64 n, .string t, .slice an ns.length cn, .slice ak ks.length ck] 27)) none from grown_alloc (grown_refl _ _) _)
  have HBA := Lib.hid (Blk.new W 27 [.int .i64 5, .int .i64 n, .string t, .slice an ns.length cn, .slice ak ks.length ck])
  clear hp ih hW hlen 
  go_enter Tryz.func33, Tryz.ntmps33
  go_wp2
  go_loopw [3, 4] (fun dv i wr => ∃ (k : Nat) (D : ByteArray), k ≤ ks.length ∧ i = .int .i64 k ∧ dv = .string D ∧ Hid (D.data.toList = 91 :: Lib.join ((showK ks).take k) [44]) ∧ Blk wr W.heap.size 27 [.int .i64 5, .int .i64 n, .string t, .slice an ns.length cn, .slice ak ks.length ck] ∧ W.grownBy wr none) (fun _ i _ => ks.length - (intOf i).toNat)
  case atStart => exact ⟨0, ⟨#[91]⟩, Nat.zero_le _, rfl, rfl, Lib.hid (by simp [Lib.join_nil]), HBA.out, HGA.out⟩
  case round =>
    obtain ⟨k, D, hk, rfl, rfl, HDD, hba, hg⟩ := hrel
    have HA := Lib.hid hba
    have HG := Lib.hid hg
    have d0 : wr.cell? ⟨W.heap.size, 0, none⟩ = some (.int .i64 5) := hba.cell rfl
    have d3 : wr.cell? ⟨W.heap.size, 3, none⟩ = some (.slice an ns.length cn) := hba.cell rfl
    have d4 : wr.cell? ⟨W.heap.size, 4, none⟩ = some (.slice ak ks.length ck) := hba.cell rfl
    clear hba hg HBA HGA
    have hDs : D.size ≤ 1000000001 := by
      rw [← size_len, HDD.out, List.length_cons]
      have := join_len ((showK ks).take k)
      have := lens_take (showK ks) k
      have := HLEN.out
      omega
    by_cases hlt : k < ks.length
    case neg =>
      have hkI : ¬ (k : Int) < ks.length := by omega
      have hl1 : ¬ 9223372036854775807 < D.size + 1 := by omega
      have HE := Lib.hid (showB_eq (.node 5 n t ns ks) (D ++ ⟨#[93]⟩) (by
        rw [showT]
        have hkk : (showK ks).take k = showK ks := List.take_of_length_le (by rw [HIT.out]; omega)
        have := HDD.out
        rw [hkk] at this
        simp [this]))
      go_wp2
      go_ret
      exact ⟨by rw [HE.out]; rfl, HG.out⟩
    have hkI : (k : Int) < ks.length := by omega
    rcases HP.out with h0 | ⟨b, o, rfl, -, hc⟩
    · omega
    have HGW := Lib.hid (grown_trans HW.out HG.out)
    obtain ⟨c0, c1, c2, c3, c4, hcs, f0, f1, f2, f3, f4⟩ := (hc k hlt).kept HGW.out (by simp)
    have HCA := Lib.hid (HI.out k ks[k] (by simp [hlt]) wr HGW.out)
    rw [hcs] at HCA
    have HGET := Lib.hid (show (showK ks)[k]? = some (showT ks[k]) from by rw [showK_map]; simp [hlt])
    obtain ⟨X, hX⟩ : ∃ X, X = showB ks[k] := ⟨_, rfl⟩
    have HXD := Lib.hid (show X.data.toList = showT ks[k] from by rw [hX, showB_data])
    rw [← hX] at HCA
    clear hc hcs hX
    have HGI := Lib.hid (show (showK ks)[k]? = some X.data.toList from by rw [HXD.out]; exact HGET.out)
    have hXs : X.size ≤ 1000000000 := by
      have hm := List.mem_of_getElem? HGI.out
      have := lens_mem hm
      have h2 := HLEN.out
      simp at this
      omega
    have HJT := Lib.hid (join_take (showK ks) [44] k _ HGI.out)
    by_cases hz : k = 0
    · have hk0 : ¬ (0 : Int) < k := by omega
      have hl0 : ¬ 9223372036854775807 < D.size + X.size := by omega
      have HE := Lib.hid (show (D ++ X).data.toList = 91 :: Lib.join ((showK ks).take (k + 1)) [44] from by
        rw [HJT.out]
        have := HDD.out
        subst hz
        simp [this, Lib.join_nil])
      clear hz
      go_wp2_with fail
      refine HCA.out.mono ?_
      rintro e w1 ⟨rfl, hg1⟩
      have HG1 := Lib.hid (grown_trans HG.out hg1)
      have HA1 := Lib.hid (HA.out.kept hg1 (by simp))
      clear hg1 HCA d0 d3 d4 f0 f1 f2 f3 f4
      go_wp2
      go_roundw
      case rel => exact ⟨k + 1, D ++ X, by omega, by go_num, rfl, HE, HA1.out, HG1.out⟩
      case measure => simp [intOf]; omega
    · have hk0 : (0 : Int) < k := by omega
      have hl0 : ¬ 9223372036854775807 < D.size + 1 := by omega
      have hl1 : ¬ 9223372036854775807 < D.size + 1 + X.size := by omega
      have HE := Lib.hid (show (D ++ ⟨#[44]⟩ ++ X).data.toList = 91 :: Lib.join ((showK ks).take (k + 1)) [44] from by
        rw [HJT.out]
        have := HDD.out
        rw [if_neg hz]
        simp [this])
      clear hz
      go_wp2_with fail
      refine HCA.out.mono ?_
      rintro e w1 ⟨rfl, hg1⟩
      have HG1 := Lib.hid (grown_trans HG.out hg1)
      have HA1 := Lib.hid (HA.out.kept hg1 (by simp))
      clear hg1 HCA d0 d3 d4 f0 f1 f2 f3 f4
      go_wp2
      go_roundw
      case rel => exact ⟨k + 1, D ++ ⟨#[44]⟩ ++ X, by omega, by go_num, rfl, HE, HA1.out, HG1.out⟩
      case measure => simp [intOf]; omega

set_option maxRecDepth 100000 in
set_option maxHeartbeats 2000000 in
theorem show_6 (W : World) (n : Int) (t : ByteArray) (ns : List ByteArray) (ks : List VT) (an ak : Option Addr) (cn ck : Nat) (base : Nat) (w : World) (CS : Nat → List Value) (hp : ks.length = 0 ∨ ∃ b o, ak = some ⟨b, o, none⟩ ∧ base ≤ b ∧ ∀ j, j < ks.length → Five w b (o + j * 5) (CS j)) (hl5 : ks.length ≤ 5) (hn : Lies w base an ns) (hnl : ns.length = ks.length) (hbs : bulkS ns ≤ 1048576) (B : Nat) (hB : B ≤ 1000000000) (hlen : lens (showO ns (showK ks)) ≤ B) (ih : ∀ (j : Nat) (k : VT), ks[j]? = some k → ∀ W : World, w.grownBy W none → Calls Tryz.prog 33 #[.agg (CS j).toArray] W fun e w' => e = .returned (.string (showB k)) ∧ W.grownBy w' none) (hW : w.grownBy W none) :
    Calls Tryz.prog 33 #[.agg #[.int .i64 6, .int .i64 n, .string t, .slice an ns.length cn, .slice ak ks.length ck]] W fun e w' => e = .returned (.string (showB (.node 6 n t ns ks))) ∧ W.grownBy w' none := by
  have HP := Lib.hid hp
  have HI := Lib.hid ih
  have HW := Lib.hid hW
  have HLEN := Lib.hid hlen
  have HL := Lib.hid hn
  have HNL := Lib.hid hnl
  have HBS := Lib.hid hbs
  have HIT := Lib.hid (show (showO ns (showK ks)).length = ks.length from by rw [showO_len ns (showK ks) (by rw [showK_len]; exact hnl), showK_len])
  have HGA := Lib.hid (show W.grownBy (W.alloc (Obj.cells #[Value.int .i64 6, .int .i64 n, .string t, .slice an ns.length cn, .slice ak ks.length ck] 27)) none from grown_alloc (grown_refl _ _) _)
  have HBA := Lib.hid (Blk.new W 27 [.int .i64 6, .int .i64 n, .string t, .slice an ns.length cn, .slice ak ks.length ck])
  clear hp ih hW hlen hn hnl hbs
  go_enter Tryz.func33, Tryz.ntmps33
  go_wp2
  go_loopw [3, 4] (fun dv i wr => ∃ (k : Nat) (D : ByteArray), k ≤ ks.length ∧ i = .int .i64 k ∧ dv = .string D ∧ Hid (D.data.toList = 123 :: Lib.join ((showO ns (showK ks)).take k) [44]) ∧ Blk wr W.heap.size 27 [.int .i64 6, .int .i64 n, .string t, .slice an ns.length cn, .slice ak ks.length ck] ∧ W.grownBy wr none) (fun _ i _ => ks.length - (intOf i).toNat)
  case atStart => exact ⟨0, ⟨#[123]⟩, Nat.zero_le _, rfl, rfl, Lib.hid (by simp [Lib.join_nil]), HBA.out, HGA.out⟩
  case round =>
    obtain ⟨k, D, hk, rfl, rfl, HDD, hba, hg⟩ := hrel
    have HA := Lib.hid hba
    have HG := Lib.hid hg
    have d0 : wr.cell? ⟨W.heap.size, 0, none⟩ = some (.int .i64 6) := hba.cell rfl
    have d3 : wr.cell? ⟨W.heap.size, 3, none⟩ = some (.slice an ns.length cn) := hba.cell rfl
    have d4 : wr.cell? ⟨W.heap.size, 4, none⟩ = some (.slice ak ks.length ck) := hba.cell rfl
    clear hba hg HBA HGA
    have hDs : D.size ≤ 1000000001 := by
      rw [← size_len, HDD.out, List.length_cons]
      have := join_len ((showO ns (showK ks)).take k)
      have := lens_take (showO ns (showK ks)) k
      have := HLEN.out
      omega
    by_cases hlt : k < ks.length
    case neg =>
      have hkI : ¬ (k : Int) < ks.length := by omega
      have hl1 : ¬ 9223372036854775807 < D.size + 1 := by omega
      have HE := Lib.hid (showB_eq (.node 6 n t ns ks) (D ++ ⟨#[125]⟩) (by
        rw [showT]
        have hkk : (showO ns (showK ks)).take k = showO ns (showK ks) := List.take_of_length_le (by rw [HIT.out]; omega)
        have := HDD.out
        rw [hkk] at this
        simp [this]))
      go_wp2
      go_ret
      exact ⟨by rw [HE.out]; rfl, HG.out⟩
    have hkI : (k : Int) < ks.length := by omega
    rcases HP.out with h0 | ⟨b, o, rfl, -, hc⟩
    · omega
    have HGW := Lib.hid (grown_trans HW.out HG.out)
    obtain ⟨c0, c1, c2, c3, c4, hcs, f0, f1, f2, f3, f4⟩ := (hc k hlt).kept HGW.out (by simp)
    have HCA := Lib.hid (HI.out k ks[k] (by simp [hlt]) wr HGW.out)
    rw [hcs] at HCA
    have HGET := Lib.hid (show (showK ks)[k]? = some (showT ks[k]) from by rw [showK_map]; simp [hlt])
    obtain ⟨X, hX⟩ : ∃ X, X = showB ks[k] := ⟨_, rfl⟩
    have HXD := Lib.hid (show X.data.toList = showT ks[k] from by rw [hX, showB_data])
    rw [← hX] at HCA
    clear hc hcs hX
    rcases HL.out with h0 | ⟨ab, q, rfl, -, hm⟩
    · have := HNL.out; omega
    have hkN : (k : Int) < ns.length := by have := HNL.out; omega
    have hkn : k < ns.length := by have := HNL.out; omega
    have dn := HGW.out.cell (hm k hkn) (by simp)
    obtain ⟨y, hy⟩ : ∃ y, y = ns.getD k ByteArray.empty := ⟨_, rfl⟩
    rw [← hy] at dn
    have hys : y.size ≤ 1048576 := by
      have h1 : y ∈ ns := by rw [hy]; simp [hkn]
      have := bulkS_mem h1
      have := HBS.out
      omega
    have HGI := Lib.hid (show (showO ns (showK ks))[k]? = some (y.data.toList ++ 58 :: X.data.toList) from by rw [showO_get ns (showK ks) k _ (by rw [showK_len]; exact HNL.out) HGET.out, HXD.out, hy])
    clear hm hy
    have hXs : X.size ≤ 1000000000 := by
      have hm := List.mem_of_getElem? HGI.out
      have := lens_mem hm
      have h2 := HLEN.out
      simp at this
      omega
    have HJT := Lib.hid (join_take (showO ns (showK ks)) [44] k _ HGI.out)
    by_cases hz : k = 0
    · have hk0 : ¬ (0 : Int) < k := by omega
      have hl0 : ¬ 9223372036854775807 < D.size + y.size := by omega
      have hl1 : ¬ 9223372036854775807 < D.size + y.size + 1 := by omega
      have hl2 : ¬ 9223372036854775807 < D.size + y.size + 1 + X.size := by omega
      have HE := Lib.hid (show (D ++ y ++ ⟨#[58]⟩ ++ X).data.toList = 123 :: Lib.join ((showO ns (showK ks)).take (k + 1)) [44] from by
        rw [HJT.out]
        have := HDD.out
        subst hz
        simp [this, Lib.join_nil])
      clear hz
      go_wp2_with fail
      refine HCA.out.mono ?_
      rintro e w1 ⟨rfl, hg1⟩
      have HG1 := Lib.hid (grown_trans HG.out hg1)
      have HA1 := Lib.hid (HA.out.kept hg1 (by simp))
      clear hg1 HCA d0 d3 d4 f0 f1 f2 f3 f4
      go_wp2
      go_roundw
      case rel => exact ⟨k + 1, D ++ y ++ ⟨#[58]⟩ ++ X, by omega, by go_num, rfl, HE, HA1.out, HG1.out⟩
      case measure => simp [intOf]; omega
    · have hk0 : (0 : Int) < k := by omega
      have hl0 : ¬ 9223372036854775807 < D.size + 1 := by omega
      have hl1 : ¬ 9223372036854775807 < D.size + 1 + y.size := by omega
      have hl2 : ¬ 9223372036854775807 < D.size + 1 + y.size + 1 := by omega
      have hl3 : ¬ 9223372036854775807 < D.size + 1 + y.size + 1 + X.size := by omega
      have HE := Lib.hid (show (D ++ ⟨#[44]⟩ ++ y ++ ⟨#[58]⟩ ++ X).data.toList = 123 :: Lib.join ((showO ns (showK ks)).take (k + 1)) [44] from by
        rw [HJT.out]
        have := HDD.out
        rw [if_neg hz]
        simp [this])
      clear hz
      go_wp2_with fail
      refine HCA.out.mono ?_
      rintro e w1 ⟨rfl, hg1⟩
      have HG1 := Lib.hid (grown_trans HG.out hg1)
      have HA1 := Lib.hid (HA.out.kept hg1 (by simp))
      clear hg1 HCA d0 d3 d4 f0 f1 f2 f3 f4
      go_wp2
      go_roundw
      case rel => exact ⟨k + 1, D ++ ⟨#[44]⟩ ++ y ++ ⟨#[58]⟩ ++ X, by omega, by go_num, rfl, HE, HA1.out, HG1.out⟩
      case measure => simp [intOf]; omega

theorem specShow_any (w : World) (base : Nat) (T : VT) (cs : List Value) (h : VIn w base T cs) : ∀ d : Nat, Parts T d → bulk T ≤ 1048576 → ∀ W : World, w.grownBy W none → Calls Tryz.prog 33 #[.agg cs.toArray] W fun e w' => e = .returned (.string (showB T)) ∧ W.grownBy w' none := by
  induction h with
  | @mk s n t ns ks an ak cn ck CS hn hp hk hcn hck ht hcl hkl hsl hs1 hs2 hn1 hn2 ih =>
    intro d hd hbu W hW
    have hl5 := parts_len hd
    have hkid := parts_kids hd
    have hd0 := hd
    rw [Parts] at hd0
    have hlk := lens_showK ks (d + 1) hd0.2.2
    have hck := countK_le ks
    rw [bulk] at hbu
    have hih := fun (j : Nat) (k : VT) (hj : ks[j]? = some k) (X : World) (hX : w.grownBy X none) => ih j k hj (d + 1) (hkid j k hj) (by have := bulk_kid hj; omega) X hX
    rcases hd0.1.2.2 with ⟨e, a, b⟩ | ⟨e, a, b⟩ | ⟨e, a, b⟩ | ⟨e, a, b, c⟩ | ⟨e, a, b⟩ | ⟨e, a, b, c, f⟩
    · rcases e with rfl | rfl
      · exact show_1 W n t ns ks an ak cn ck
      · exact show_7 W n t ns ks an ak cn ck
    · subst e
      by_cases h1 : n = 1
      · exact show_2y W n t ns ks an ak cn ck h1
      · exact show_2n W n t ns ks an ak cn ck h1
    · subst e
      exact show_3 W n t ns ks an ak cn ck a.1 a.2
    · subst e
      exact show_4 W n t ns ks an ak cn ck (by omega)
    · subst e
      exact show_5 W n t ns ks an ak cn ck base w CS hp hl5 100000000 (by omega) (by omega) hih hW
    · subst e
      have hO := lens_showO ns (showK ks)
      exact show_6 W n t ns ks an ak cn ck base w CS hp hl5 hn b.symm (by omega) 100000000 (by omega) (by omega) hih hW
end Go.Proofs.YtgmigloafcejdaaGreatDoor
