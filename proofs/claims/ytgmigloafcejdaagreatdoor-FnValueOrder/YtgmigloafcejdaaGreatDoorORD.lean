/- FnValueOrder: its drawing, and its walk. -/
import Derived.Test.YtgmigloafcejdaaGreatDoorZB
import Derived.Test.YtgmigloafcejdaaGreatDoorOD
namespace Go.Proofs.YtgmigloafcejdaaGreatDoor
open Go.RowKit

set_option maxRecDepth 100000 in
set_option maxHeartbeats 8000000 in
theorem draw_any (w : World) (ao : Option Addr) (n cap : Nat) (hn : n ≤ 1048576) (hcap : n ≤ cap) (hc : n = 0 ∨ ∃ ab o, ao = some ⟨ab, o, none⟩ ∧ ∀ j, j < n → ∃ x : Int, 0 ≤ x ∧ x < 256 ∧ w.cell? ⟨ab, o + j, none⟩ = some (.int .u8 x)) :
    Calls Tryz.prog 16 #[.slice ao n cap] w fun e w' => ∃ (T T' : VT) (cs cs' : List Value), e = .returned (.tuple #[.agg cs.toArray, .agg cs'.toArray]) ∧ VIn w' 0 T cs ∧ VIn w' 0 T' cs' ∧ bulk T ≤ 9000 ∧ bulk T' ≤ 9000 ∧ w.grownBy w' none := by
  have HG := Lib.hid (show w.grownBy ((w.alloc (Obj.cells #[Value.int .i64 0, .int .i64 0, .string ⟨#[]⟩, .slice none 0 0, .slice none 0 0] 27)).alloc (Obj.cells #[Value.int .i64 0, .int .i64 0, .string ⟨#[]⟩, .slice none 0 0, .slice none 0 0] 27)) none from grown_alloc (grown_alloc (grown_refl _ _) _) _)
  have HB := Lib.hid (show Blk ((w.alloc (Obj.cells #[Value.int .i64 0, .int .i64 0, .string ⟨#[]⟩, .slice none 0 0, .slice none 0 0] 27)).alloc (Obj.cells #[Value.int .i64 0, .int .i64 0, .string ⟨#[]⟩, .slice none 0 0, .slice none 0 0] 27)) w.heap.size 27 [.int .i64 0, .int .i64 0, .string ⟨#[]⟩, .slice none 0 0, .slice none 0 0] from (Blk.new w 27 [.int .i64 0, .int .i64 0, .string ⟨#[]⟩, .slice none 0 0, .slice none 0 0]).alloc _)
  have HC := Lib.hid (show Blk ((w.alloc (Obj.cells #[Value.int .i64 0, .int .i64 0, .string ⟨#[]⟩, .slice none 0 0, .slice none 0 0] 27)).alloc (Obj.cells #[Value.int .i64 0, .int .i64 0, .string ⟨#[]⟩, .slice none 0 0, .slice none 0 0] 27)) (w.heap.size + 1) 27 [.int .i64 0, .int .i64 0, .string ⟨#[]⟩, .slice none 0 0, .slice none 0 0] from by
    have := Blk.new (w.alloc (Obj.cells #[Value.int .i64 0, .int .i64 0, .string ⟨#[]⟩, .slice none 0 0, .slice none 0 0] 27)) 27 [.int .i64 0, .int .i64 0, .string ⟨#[]⟩, .slice none 0 0, .slice none 0 0]
    simpa using this)
  have HZ := Lib.hid (show ((w.alloc (Obj.cells #[Value.int .i64 0, .int .i64 0, .string ⟨#[]⟩, .slice none 0 0, .slice none 0 0] 27)).alloc (Obj.cells #[Value.int .i64 0, .int .i64 0, .string ⟨#[]⟩, .slice none 0 0, .slice none 0 0] 27)).heap.size = w.heap.size + 2 from by simp)
  have HO := Lib.hid (open_any ((w.alloc (Obj.cells #[Value.int .i64 0, .int .i64 0, .string ⟨#[]⟩, .slice none 0 0, .slice none 0 0] 27)).alloc (Obj.cells #[Value.int .i64 0, .int .i64 0, .string ⟨#[]⟩, .slice none 0 0, .slice none 0 0] 27)) ao n cap hn hcap (by
    rcases hc with h | ⟨ab, o, h, hx⟩
    · exact .inl h
    · refine .inr ⟨ab, o, h, fun j hj => ?_⟩
      obtain ⟨x, h0, h1, h2⟩ := hx j hj
      exact ⟨x, h0, h1, HG.out.cell h2 (by simp)⟩))
  clear hc
  go_enter Tryz.func16, Tryz.ntmps16
  go_wp2_with fail
  generalize (w.alloc (Obj.cells #[Value.int .i64 0, .int .i64 0, .string ⟨#[]⟩, .slice none 0 0, .slice none 0 0] 27)).alloc (Obj.cells #[Value.int .i64 0, .int .i64 0, .string ⟨#[]⟩, .slice none 0 0, .slice none 0 0] 27) = W1 at HG HB HC HZ HO ⊢
  refine HO.out.mono ?_
  rintro e w2 ⟨rfl, ⟨n', hrd⟩, hg2⟩
  have HB2 := Lib.hid (HB.out.kept hg2 (by simp))
  have HC2 := Lib.hid (HC.out.kept hg2 (by simp))
  have HG2 := Lib.hid (grown_trans HG.out hg2)
  have HTW := Lib.hid (two_any W1.heap.size ao n' cap w2 0 hrd (by omega))
  have HW2 := Lib.hid (show W1.heap.size < w2.heap.size from hrd.lt)
  clear HG HB HC HO hrd hg2
  go_wp2_with fail
  refine HTW.out.mono ?_
  rintro e w3 ⟨T, T', cs, cs', rfl, hv, hv', hb, hb', hg3⟩
  obtain ⟨s, m, t, ns, ks, an, ak, cn, ck, -, rfl, -, -⟩ := hv.shp
  obtain ⟨s', m', t', ns', ks', an', ak', cn', ck', -, rfl, -, -⟩ := hv'.shp
  have HB3 := Lib.hid (HB2.out.kept hg3 (by have := HZ.out; simp; omega))
  have HC3 := Lib.hid (HC2.out.kept hg3 (by have := HZ.out; simp; omega))
  have HG3 := Lib.hid (grown_own HG2.out hg3 (fun q hq => by have := HZ.out; cases hq; omega))
  have HV := Lib.hid hv
  have HV' := Lib.hid hv'
  have honeA : ∀ v ∈ ([.int .i64 s, .int .i64 m, .string t, .slice an ns.length cn, .slice ak ks.length ck] : List Value), v.oneCell' = true := by intro v hv; simp at hv; rcases hv with rfl | rfl | rfl | rfl | rfl <;> rfl
  have honeB : ∀ v ∈ ([.int .i64 s', .int .i64 m', .string t', .slice an' ns'.length cn', .slice ak' ks'.length ck'] : List Value), v.oneCell' = true := by intro v hv; simp at hv; rcases hv with rfl | rfl | rfl | rfl | rfl <;> rfl
  have HOA := Lib.hid honeA
  have HOB := Lib.hid honeB
  clear honeA honeB hv hv' hg3 HB2 HC2 HG2 HTW
  go_wp2_with (first | ((with_reducible refine wpList_store_blk ?_ 27 (.tmp 2) (.tmp 7) ?_ w.heap.size [.int .i64 s, .int .i64 m, .string t, .slice an ns.length cn, .slice ak ks.length ck] [.int .i64 0, .int .i64 0, .string ⟨#[]⟩, .slice none 0 0, .slice none 0 0] 27 ?_ ?_ ?_ ?_ ?_ ?_ ?_); exact rfl; exact rfl; exact HB3.out; exact info26s; exact rfl; exact HOA.out; exact rfl; exact rfl; intro w4 HB4 HG4) | ((with_reducible refine wpList_store_blk ?_ 27 (.tmp 3) (.tmp 8) ?_ (w.heap.size + 1) [.int .i64 s', .int .i64 m', .string t', .slice an' ns'.length cn', .slice ak' ks'.length ck'] [.int .i64 0, .int .i64 0, .string ⟨#[]⟩, .slice none 0 0, .slice none 0 0] 27 ?_ ?_ ?_ ?_ ?_ ?_ ?_); exact rfl; exact rfl; exact (HC3.out.kept HG4.out (by simp)); exact info26s; exact rfl; exact HOB.out; exact rfl; exact rfl; intro w5 HC5 HG5))
  have hwz := HZ.out
  have hw2 := HW2.out
  exact ⟨rfl, _, results_two Tryz.results16 _ w5 w.heap.size (w.heap.size + 1) 27 _ _ _ (HB4.out.kept HG5.out (by simp)) HC5.out Tryz.underlying27 rfl info26s info26s rfl rfl, T, T', [.int .i64 s, .int .i64 m, .string t, .slice an ns.length cn, .slice ak ks.length ck], [.int .i64 s', .int .i64 m', .string t', .slice an' ns'.length cn', .slice ak' ks'.length ck'], rfl, ((HV.out.kept HG4.out (fun q hq => by cases hq; omega)).kept HG5.out (fun q hq => by cases hq; omega)).base (Nat.zero_le _), ((HV'.out.kept HG4.out (fun q hq => by cases hq; omega)).kept HG5.out (fun q hq => by cases hq; omega)).base (Nat.zero_le _), hb, hb', grown_into (grown_into HG3.out HG4.out (Nat.le_refl _)) HG5.out (by omega)⟩

theorem Tab.kept0 {w w' : World} (h : Tab w) (hg : w.grownBy w' none) : Tab w' := ⟨fun j hj => hg.cell (h.1 j hj) (by simp), hg.cell h.2 (by simp)⟩
theorem Says.same {e : Ending} {p : Prop} {b : Bool} (h : Says e p) (hb : b = true ↔ p) : e = .returned (.bool b) := by
  obtain ⟨c, rfl, hc⟩ := h
  rw [show c = b from by rw [Bool.eq_iff_iff, hc, hb]]
theorem came_kept {w w' : World} {ao : Option Addr} {n : Nat} (h : (n = 0 ∨ ∃ ab o, ao = some ⟨ab, o, none⟩ ∧ ∀ j, j < n → ∃ x : Int, 0 ≤ x ∧ x < 256 ∧ w.cell? ⟨ab, o + j, none⟩ = some (.int .u8 x))) (hg : w.grownBy w' none) : (n = 0 ∨ ∃ ab o, ao = some ⟨ab, o, none⟩ ∧ ∀ j, j < n → ∃ x : Int, 0 ≤ x ∧ x < 256 ∧ w'.cell? ⟨ab, o + j, none⟩ = some (.int .u8 x)) := by
  rcases h with h | ⟨ab, o, h, hx⟩
  · exact .inl h
  · refine .inr ⟨ab, o, h, fun j hj => ?_⟩
    obtain ⟨x, h0, h1, h2⟩ := hx j hj
    exact ⟨x, h0, h1, hg.cell h2 (by simp)⟩
theorem showR_ex (T : VT) : ∃ S, ShowR T S := by
  by_cases h : OkT T
  · exact ⟨_, .inl ⟨h, rfl⟩⟩
  · exact ⟨_, .inr ⟨h, rfl⟩⟩
theorem showB_beq {T T' : VT} (h : OkT T) (h' : OkT T') : ((showB T).toList == (showB T').toList) = true ↔ ¬ (LessT T T' ∨ LessT T' T) := by
  rw [less_show h h', Classical.not_not, beq_iff_eq, ByteArray.toList_eq, ByteArray.toList_eq]
  simp [showB]

set_option maxRecDepth 100000 in
set_option maxHeartbeats 16000000 in
theorem order_walk (w : World) (hT : Tab w) (hPw : Pow w) (ao : Option Addr) (n cap : Nat) (hcap : n ≤ cap) (hc : (n = 0 ∨ ∃ ab o, ao = some ⟨ab, o, none⟩ ∧ ∀ j, j < n → ∃ x : Int, 0 ≤ x ∧ x < 256 ∧ w.cell? ⟨ab, o + j, none⟩ = some (.int .u8 x))) (ao' : Option Addr) (n' cap' : Nat) (hcap' : n' ≤ cap') (hc' : (n' = 0 ∨ ∃ ab o, ao' = some ⟨ab, o, none⟩ ∧ ∀ j, j < n' → ∃ x : Int, 0 ≤ x ∧ x < 256 ∧ w.cell? ⟨ab, o + j, none⟩ = some (.int .u8 x))) :
    Calls Tryz.prog 4 #[.slice ao n cap, .slice ao' n' cap'] w fun e w' => e = .returned (.bool true) ∧ w.grownBy w' none := by
  by_cases hn : (n : Int) > 1048576
  · clear hc hc' hT hPw
    go_enter Tryz.func4, Tryz.ntmps4
    go_wp2
    go_ret
    exact ⟨rfl, grown_refl _ _⟩
  by_cases hn2 : (n' : Int) > 1048576
  · clear hc hc' hT hPw
    go_enter Tryz.func4, Tryz.ntmps4
    go_wp2
    go_ret
    exact ⟨rfl, grown_refl _ _⟩
  have hna : (n : Int) ≤ 1048576 := by omega
  have hnb : (n' : Int) ≤ 1048576 := by omega
  have HD := Lib.hid (draw_any w ao n cap (by omega) hcap hc)
  have HD2 := Lib.hid (fun (V : World) (hV : w.grownBy V none) => draw_any V ao' n' cap' (by omega) hcap' (came_kept hc' hV))
  have HT := Lib.hid hT
  have HPW := Lib.hid hPw
  clear hn hn2 hc hc' hT hPw
  go_enter Tryz.func4, Tryz.ntmps4
  go_wp2_with fail
  refine HD.out.mono ?_
  rintro e w1 ⟨T, T', cs, cs', rfl, hv, hv', hb, hb', hg1⟩
  obtain ⟨s, m, t, ns, ks, an, ak, cn, ck, -, rfl, -, -⟩ := hv.shp
  obtain ⟨s', m', t', ns', ks', an', ak', cn', ck', -, rfl, -, -⟩ := hv'.shp
  have hal : w1.grownBy ((w1.alloc (Obj.cells #[Value.int .i64 s, .int .i64 m, .string t, .slice an ns.length cn, .slice ak ks.length ck] 27)).alloc (Obj.cells #[Value.int .i64 s', .int .i64 m', .string t', .slice an' ns'.length cn', .slice ak' ks'.length ck'] 27)) none := grown_alloc (grown_alloc (grown_refl _ _) _) _
  have HV := Lib.hid (hv.grown hal)
  have HV' := Lib.hid (hv'.grown hal)
  have HA2 := Lib.hid (show Blk ((w1.alloc (Obj.cells #[Value.int .i64 s, .int .i64 m, .string t, .slice an ns.length cn, .slice ak ks.length ck] 27)).alloc (Obj.cells #[Value.int .i64 s', .int .i64 m', .string t', .slice an' ns'.length cn', .slice ak' ks'.length ck'] 27)) w1.heap.size 27 [.int .i64 s, .int .i64 m, .string t, .slice an ns.length cn, .slice ak ks.length ck] from (Blk.new w1 27 [.int .i64 s, .int .i64 m, .string t, .slice an ns.length cn, .slice ak ks.length ck]).alloc _)
  have HB2 := Lib.hid (show Blk ((w1.alloc (Obj.cells #[Value.int .i64 s, .int .i64 m, .string t, .slice an ns.length cn, .slice ak ks.length ck] 27)).alloc (Obj.cells #[Value.int .i64 s', .int .i64 m', .string t', .slice an' ns'.length cn', .slice ak' ks'.length ck'] 27)) (w1.heap.size + 1) 27 [.int .i64 s', .int .i64 m', .string t', .slice an' ns'.length cn', .slice ak' ks'.length ck'] from by
    have := Blk.new (w1.alloc (Obj.cells #[Value.int .i64 s, .int .i64 m, .string t, .slice an ns.length cn, .slice ak ks.length ck] 27)) 27 [.int .i64 s', .int .i64 m', .string t', .slice an' ns'.length cn', .slice ak' ks'.length ck']
    simpa using this)
  have HG2 := Lib.hid (grown_trans hg1 hal)
  have hbu : bulk T ≤ 1048576 := by omega
  have hbu' : bulk T' ≤ 1048576 := by omega
  clear hv hv' hb hb' hg1 hal HD
  go_wp2_with fail
  generalize ((w1.alloc (Obj.cells #[Value.int .i64 s, .int .i64 m, .string t, .slice an ns.length cn, .slice ak ks.length ck] 27)).alloc (Obj.cells #[Value.int .i64 s', .int .i64 m', .string t', .slice an' ns'.length cn', .slice ak' ks'.length ck'] 27)) = w2 at HV HV' HA2 HB2 HG2 ⊢
  obtain ⟨ab, hab⟩ : ∃ ab, ab = w1.heap.size := ⟨_, rfl⟩
  obtain ⟨bb, hbb⟩ : ∃ bb, bb = w1.heap.size + 1 := ⟨_, rfl⟩
  rw [← hbb] at HB2 ⊢
  rw [← hab] at HA2 ⊢
  clear hab hbb
  refine (HD2.out w2 HG2.out).mono ?_
  rintro e w3 ⟨T2, T3, cs2, cs3, rfl, hv2, hv3, hb2, hb3, hg3⟩
  obtain ⟨s2, m2, t2, ns2, ks2, an2, ak2, cn2, ck2, -, rfl, -, -⟩ := hv2.shp
  obtain ⟨s3, m3, t3, ns3, ks3, an3, ak3, cn3, ck3, -, rfl, -, -⟩ := hv3.shp
  have hal : w3.grownBy ((w3.alloc (Obj.cells #[Value.int .i64 s2, .int .i64 m2, .string t2, .slice an2 ns2.length cn2, .slice ak2 ks2.length ck2] 27)).alloc (Obj.cells #[Value.int .i64 s3, .int .i64 m3, .string t3, .slice an3 ns3.length cn3, .slice ak3 ks3.length ck3] 27)) none := grown_alloc (grown_alloc (grown_refl _ _) _) _
  have HGX := Lib.hid (grown_trans hg3 hal)
  have HVC := Lib.hid (hv2.grown hal)
  have HC4 := Lib.hid (show Blk ((w3.alloc (Obj.cells #[Value.int .i64 s2, .int .i64 m2, .string t2, .slice an2 ns2.length cn2, .slice ak2 ks2.length ck2] 27)).alloc (Obj.cells #[Value.int .i64 s3, .int .i64 m3, .string t3, .slice an3 ns3.length cn3, .slice ak3 ks3.length ck3] 27)) w3.heap.size 27 [.int .i64 s2, .int .i64 m2, .string t2, .slice an2 ns2.length cn2, .slice ak2 ks2.length ck2] from (Blk.new w3 27 [.int .i64 s2, .int .i64 m2, .string t2, .slice an2 ns2.length cn2, .slice ak2 ks2.length ck2]).alloc _)
  have HA4 := Lib.hid (HA2.out.kept HGX.out (by simp))
  have HB4 := Lib.hid (HB2.out.kept HGX.out (by simp))
  have HV4 := Lib.hid (HV.out.grown HGX.out)
  have HV4' := Lib.hid (HV'.out.grown HGX.out)
  have HG4 := Lib.hid (grown_trans HG2.out HGX.out)
  have HT4 := Lib.hid (HT.out.kept0 HG4.out)
  have HPW4 := Lib.hid (HPW.out.grown HG4.out)
  have hbu2 : bulk T2 ≤ 1048576 := by omega
  have x0 : ((w3.alloc (Obj.cells #[Value.int .i64 s2, .int .i64 m2, .string t2, .slice an2 ns2.length cn2, .slice ak2 ks2.length ck2] 27)).alloc (Obj.cells #[Value.int .i64 s3, .int .i64 m3, .string t3, .slice an3 ns3.length cn3, .slice ak3 ks3.length ck3] 27)).cell? ⟨ab, 0, none⟩ = some (.int .i64 s) := HA4.out.cell rfl
  have x1 : ((w3.alloc (Obj.cells #[Value.int .i64 s2, .int .i64 m2, .string t2, .slice an2 ns2.length cn2, .slice ak2 ks2.length ck2] 27)).alloc (Obj.cells #[Value.int .i64 s3, .int .i64 m3, .string t3, .slice an3 ns3.length cn3, .slice ak3 ks3.length ck3] 27)).cell? ⟨ab, 1, none⟩ = some (.int .i64 m) := HA4.out.cell rfl
  have x2 : ((w3.alloc (Obj.cells #[Value.int .i64 s2, .int .i64 m2, .string t2, .slice an2 ns2.length cn2, .slice ak2 ks2.length ck2] 27)).alloc (Obj.cells #[Value.int .i64 s3, .int .i64 m3, .string t3, .slice an3 ns3.length cn3, .slice ak3 ks3.length ck3] 27)).cell? ⟨ab, 2, none⟩ = some (.string t) := HA4.out.cell rfl
  have x3 : ((w3.alloc (Obj.cells #[Value.int .i64 s2, .int .i64 m2, .string t2, .slice an2 ns2.length cn2, .slice ak2 ks2.length ck2] 27)).alloc (Obj.cells #[Value.int .i64 s3, .int .i64 m3, .string t3, .slice an3 ns3.length cn3, .slice ak3 ks3.length ck3] 27)).cell? ⟨ab, 3, none⟩ = some (.slice an ns.length cn) := HA4.out.cell rfl
  have x4 : ((w3.alloc (Obj.cells #[Value.int .i64 s2, .int .i64 m2, .string t2, .slice an2 ns2.length cn2, .slice ak2 ks2.length ck2] 27)).alloc (Obj.cells #[Value.int .i64 s3, .int .i64 m3, .string t3, .slice an3 ns3.length cn3, .slice ak3 ks3.length ck3] 27)).cell? ⟨ab, 4, none⟩ = some (.slice ak ks.length ck) := HA4.out.cell rfl
  have y0 : ((w3.alloc (Obj.cells #[Value.int .i64 s2, .int .i64 m2, .string t2, .slice an2 ns2.length cn2, .slice ak2 ks2.length ck2] 27)).alloc (Obj.cells #[Value.int .i64 s3, .int .i64 m3, .string t3, .slice an3 ns3.length cn3, .slice ak3 ks3.length ck3] 27)).cell? ⟨bb, 0, none⟩ = some (.int .i64 s') := HB4.out.cell rfl
  have y1 : ((w3.alloc (Obj.cells #[Value.int .i64 s2, .int .i64 m2, .string t2, .slice an2 ns2.length cn2, .slice ak2 ks2.length ck2] 27)).alloc (Obj.cells #[Value.int .i64 s3, .int .i64 m3, .string t3, .slice an3 ns3.length cn3, .slice ak3 ks3.length ck3] 27)).cell? ⟨bb, 1, none⟩ = some (.int .i64 m') := HB4.out.cell rfl
  have y2 : ((w3.alloc (Obj.cells #[Value.int .i64 s2, .int .i64 m2, .string t2, .slice an2 ns2.length cn2, .slice ak2 ks2.length ck2] 27)).alloc (Obj.cells #[Value.int .i64 s3, .int .i64 m3, .string t3, .slice an3 ns3.length cn3, .slice ak3 ks3.length ck3] 27)).cell? ⟨bb, 2, none⟩ = some (.string t') := HB4.out.cell rfl
  have y3 : ((w3.alloc (Obj.cells #[Value.int .i64 s2, .int .i64 m2, .string t2, .slice an2 ns2.length cn2, .slice ak2 ks2.length ck2] 27)).alloc (Obj.cells #[Value.int .i64 s3, .int .i64 m3, .string t3, .slice an3 ns3.length cn3, .slice ak3 ks3.length ck3] 27)).cell? ⟨bb, 3, none⟩ = some (.slice an' ns'.length cn') := HB4.out.cell rfl
  have y4 : ((w3.alloc (Obj.cells #[Value.int .i64 s2, .int .i64 m2, .string t2, .slice an2 ns2.length cn2, .slice ak2 ks2.length ck2] 27)).alloc (Obj.cells #[Value.int .i64 s3, .int .i64 m3, .string t3, .slice an3 ns3.length cn3, .slice ak3 ks3.length ck3] 27)).cell? ⟨bb, 4, none⟩ = some (.slice ak' ks'.length ck') := HB4.out.cell rfl
  clear hv2 hv3 hb2 hb3 hg3 hal HV HV' HA2 HB2 HG2 HD2 HT HPW HGX
  go_wp2_with fail
  clear x0 x1 x2 x3 x4 y0 y1 y2 y3 y4
  generalize ((w3.alloc (Obj.cells #[Value.int .i64 s2, .int .i64 m2, .string t2, .slice an2 ns2.length cn2, .slice ak2 ks2.length ck2] 27)).alloc (Obj.cells #[Value.int .i64 s3, .int .i64 m3, .string t3, .slice an3 ns3.length cn3, .slice ak3 ks3.length ck3] 27)) = w4 at HVC HC4 HA4 HB4 HV4 HV4' HG4 HT4 HPW4 ⊢
  obtain ⟨cb, hcb⟩ : ∃ cb, cb = w3.heap.size := ⟨_, rfl⟩
  rw [← hcb] at HC4 ⊢
  clear hcb
  refine (implLess w4 0 0 T T' _ _ HV4.out HV4'.out hbu hbu' HT4.out w4 (grown_refl _ _)).mono ?_
  rintro e w5 ⟨⟨x, rfl, hx⟩, hg5⟩
  have HX := Lib.hid hx
  have HG5 := Lib.hid hg5
  have HA5 := Lib.hid (HA4.out.kept hg5 (by simp))
  have HB5 := Lib.hid (HB4.out.kept hg5 (by simp))
  clear hx hg5
  have x0 : w5.cell? ⟨ab, 0, none⟩ = some (.int .i64 s) := HA5.out.cell rfl
  have x1 : w5.cell? ⟨ab, 1, none⟩ = some (.int .i64 m) := HA5.out.cell rfl
  have x2 : w5.cell? ⟨ab, 2, none⟩ = some (.string t) := HA5.out.cell rfl
  have x3 : w5.cell? ⟨ab, 3, none⟩ = some (.slice an ns.length cn) := HA5.out.cell rfl
  have x4 : w5.cell? ⟨ab, 4, none⟩ = some (.slice ak ks.length ck) := HA5.out.cell rfl
  have y0 : w5.cell? ⟨bb, 0, none⟩ = some (.int .i64 s') := HB5.out.cell rfl
  have y1 : w5.cell? ⟨bb, 1, none⟩ = some (.int .i64 m') := HB5.out.cell rfl
  have y2 : w5.cell? ⟨bb, 2, none⟩ = some (.string t') := HB5.out.cell rfl
  have y3 : w5.cell? ⟨bb, 3, none⟩ = some (.slice an' ns'.length cn') := HB5.out.cell rfl
  have y4 : w5.cell? ⟨bb, 4, none⟩ = some (.slice ak' ks'.length ck') := HB5.out.cell rfl
  go_wp2_with fail
  refine (implLess w4 0 0 T' T _ _ HV4'.out HV4.out hbu' hbu HT4.out w5 HG5.out).mono ?_
  rintro e w6 ⟨⟨y, rfl, hy⟩, hg6⟩
  have HY := Lib.hid hy
  have HG6 := Lib.hid (grown_trans HG5.out hg6)
  clear hy hg6 x0 x1 x2 x3 x4 y0 y1 y2 y3 y4 HA5 HB5 HG5
  have HALL := Lib.hid (fun (V : World) (hV : w4.grownBy V none) => show w4.grownBy V none ∧ V.cell? ⟨ab, 0, none⟩ = some (.int .i64 s) ∧ V.cell? ⟨ab, 1, none⟩ = some (.int .i64 m) ∧ V.cell? ⟨ab, 2, none⟩ = some (.string t) ∧ V.cell? ⟨ab, 3, none⟩ = some (.slice an ns.length cn) ∧ V.cell? ⟨ab, 4, none⟩ = some (.slice ak ks.length ck) ∧ V.cell? ⟨bb, 0, none⟩ = some (.int .i64 s') ∧ V.cell? ⟨bb, 1, none⟩ = some (.int .i64 m') ∧ V.cell? ⟨bb, 2, none⟩ = some (.string t') ∧ V.cell? ⟨bb, 3, none⟩ = some (.slice an' ns'.length cn') ∧ V.cell? ⟨bb, 4, none⟩ = some (.slice ak' ks'.length ck') ∧ V.cell? ⟨cb, 0, none⟩ = some (.int .i64 s2) ∧ V.cell? ⟨cb, 1, none⟩ = some (.int .i64 m2) ∧ V.cell? ⟨cb, 2, none⟩ = some (.string t2) ∧ V.cell? ⟨cb, 3, none⟩ = some (.slice an2 ns2.length cn2) ∧ V.cell? ⟨cb, 4, none⟩ = some (.slice ak2 ks2.length ck2) from ⟨hV, hV.cell (HA4.out.cell rfl) (by simp), hV.cell (HA4.out.cell rfl) (by simp), hV.cell (HA4.out.cell rfl) (by simp), hV.cell (HA4.out.cell rfl) (by simp), hV.cell (HA4.out.cell rfl) (by simp), hV.cell (HB4.out.cell rfl) (by simp), hV.cell (HB4.out.cell rfl) (by simp), hV.cell (HB4.out.cell rfl) (by simp), hV.cell (HB4.out.cell rfl) (by simp), hV.cell (HB4.out.cell rfl) (by simp), hV.cell (HC4.out.cell rfl) (by simp), hV.cell (HC4.out.cell rfl) (by simp), hV.cell (HC4.out.cell rfl) (by simp), hV.cell (HC4.out.cell rfl) (by simp), hV.cell (HC4.out.cell rfl) (by simp)⟩)
  obtain ⟨S0, hS0⟩ := showR_ex T2
  have HSR := Lib.hid hS0
  clear hS0
  have HC1 := Lib.hid (fun (V : World) (hV : w4.grownBy V none ∧ V.cell? ⟨ab, 0, none⟩ = some (.int .i64 s) ∧ V.cell? ⟨ab, 1, none⟩ = some (.int .i64 m) ∧ V.cell? ⟨ab, 2, none⟩ = some (.string t) ∧ V.cell? ⟨ab, 3, none⟩ = some (.slice an ns.length cn) ∧ V.cell? ⟨ab, 4, none⟩ = some (.slice ak ks.length ck) ∧ V.cell? ⟨bb, 0, none⟩ = some (.int .i64 s') ∧ V.cell? ⟨bb, 1, none⟩ = some (.int .i64 m') ∧ V.cell? ⟨bb, 2, none⟩ = some (.string t') ∧ V.cell? ⟨bb, 3, none⟩ = some (.slice an' ns'.length cn') ∧ V.cell? ⟨bb, 4, none⟩ = some (.slice ak' ks'.length ck') ∧ V.cell? ⟨cb, 0, none⟩ = some (.int .i64 s2) ∧ V.cell? ⟨cb, 1, none⟩ = some (.int .i64 m2) ∧ V.cell? ⟨cb, 2, none⟩ = some (.string t2) ∧ V.cell? ⟨cb, 3, none⟩ = some (.slice an2 ns2.length cn2) ∧ V.cell? ⟨cb, 4, none⟩ = some (.slice ak2 ks2.length ck2)) => (specLess w4 0 0 T T' _ _ HV4.out HV4'.out hbu hbu' V hV.1).mono (R' := fun e w' => e = .returned (.bool x) ∧ (w4.grownBy w' none ∧ w'.cell? ⟨ab, 0, none⟩ = some (.int .i64 s) ∧ w'.cell? ⟨ab, 1, none⟩ = some (.int .i64 m) ∧ w'.cell? ⟨ab, 2, none⟩ = some (.string t) ∧ w'.cell? ⟨ab, 3, none⟩ = some (.slice an ns.length cn) ∧ w'.cell? ⟨ab, 4, none⟩ = some (.slice ak ks.length ck) ∧ w'.cell? ⟨bb, 0, none⟩ = some (.int .i64 s') ∧ w'.cell? ⟨bb, 1, none⟩ = some (.int .i64 m') ∧ w'.cell? ⟨bb, 2, none⟩ = some (.string t') ∧ w'.cell? ⟨bb, 3, none⟩ = some (.slice an' ns'.length cn') ∧ w'.cell? ⟨bb, 4, none⟩ = some (.slice ak' ks'.length ck') ∧ w'.cell? ⟨cb, 0, none⟩ = some (.int .i64 s2) ∧ w'.cell? ⟨cb, 1, none⟩ = some (.int .i64 m2) ∧ w'.cell? ⟨cb, 2, none⟩ = some (.string t2) ∧ w'.cell? ⟨cb, 3, none⟩ = some (.slice an2 ns2.length cn2) ∧ w'.cell? ⟨cb, 4, none⟩ = some (.slice ak2 ks2.length ck2))) (fun e w' q => ⟨q.1.same HX.out, HALL.out w' (grown_trans hV.1 q.2)⟩))
  have HC2 := Lib.hid (fun (V : World) (hV : w4.grownBy V none ∧ V.cell? ⟨ab, 0, none⟩ = some (.int .i64 s) ∧ V.cell? ⟨ab, 1, none⟩ = some (.int .i64 m) ∧ V.cell? ⟨ab, 2, none⟩ = some (.string t) ∧ V.cell? ⟨ab, 3, none⟩ = some (.slice an ns.length cn) ∧ V.cell? ⟨ab, 4, none⟩ = some (.slice ak ks.length ck) ∧ V.cell? ⟨bb, 0, none⟩ = some (.int .i64 s') ∧ V.cell? ⟨bb, 1, none⟩ = some (.int .i64 m') ∧ V.cell? ⟨bb, 2, none⟩ = some (.string t') ∧ V.cell? ⟨bb, 3, none⟩ = some (.slice an' ns'.length cn') ∧ V.cell? ⟨bb, 4, none⟩ = some (.slice ak' ks'.length ck') ∧ V.cell? ⟨cb, 0, none⟩ = some (.int .i64 s2) ∧ V.cell? ⟨cb, 1, none⟩ = some (.int .i64 m2) ∧ V.cell? ⟨cb, 2, none⟩ = some (.string t2) ∧ V.cell? ⟨cb, 3, none⟩ = some (.slice an2 ns2.length cn2) ∧ V.cell? ⟨cb, 4, none⟩ = some (.slice ak2 ks2.length ck2)) => (specLess w4 0 0 T' T _ _ HV4'.out HV4.out hbu' hbu V hV.1).mono (R' := fun e w' => e = .returned (.bool y) ∧ (w4.grownBy w' none ∧ w'.cell? ⟨ab, 0, none⟩ = some (.int .i64 s) ∧ w'.cell? ⟨ab, 1, none⟩ = some (.int .i64 m) ∧ w'.cell? ⟨ab, 2, none⟩ = some (.string t) ∧ w'.cell? ⟨ab, 3, none⟩ = some (.slice an ns.length cn) ∧ w'.cell? ⟨ab, 4, none⟩ = some (.slice ak ks.length ck) ∧ w'.cell? ⟨bb, 0, none⟩ = some (.int .i64 s') ∧ w'.cell? ⟨bb, 1, none⟩ = some (.int .i64 m') ∧ w'.cell? ⟨bb, 2, none⟩ = some (.string t') ∧ w'.cell? ⟨bb, 3, none⟩ = some (.slice an' ns'.length cn') ∧ w'.cell? ⟨bb, 4, none⟩ = some (.slice ak' ks'.length ck') ∧ w'.cell? ⟨cb, 0, none⟩ = some (.int .i64 s2) ∧ w'.cell? ⟨cb, 1, none⟩ = some (.int .i64 m2) ∧ w'.cell? ⟨cb, 2, none⟩ = some (.string t2) ∧ w'.cell? ⟨cb, 3, none⟩ = some (.slice an2 ns2.length cn2) ∧ w'.cell? ⟨cb, 4, none⟩ = some (.slice ak2 ks2.length ck2))) (fun e w' q => ⟨q.1.same HY.out, HALL.out w' (grown_trans hV.1 q.2)⟩))
  have HC3 := Lib.hid (fun (V : World) (hV : w4.grownBy V none ∧ V.cell? ⟨ab, 0, none⟩ = some (.int .i64 s) ∧ V.cell? ⟨ab, 1, none⟩ = some (.int .i64 m) ∧ V.cell? ⟨ab, 2, none⟩ = some (.string t) ∧ V.cell? ⟨ab, 3, none⟩ = some (.slice an ns.length cn) ∧ V.cell? ⟨ab, 4, none⟩ = some (.slice ak ks.length ck) ∧ V.cell? ⟨bb, 0, none⟩ = some (.int .i64 s') ∧ V.cell? ⟨bb, 1, none⟩ = some (.int .i64 m') ∧ V.cell? ⟨bb, 2, none⟩ = some (.string t') ∧ V.cell? ⟨bb, 3, none⟩ = some (.slice an' ns'.length cn') ∧ V.cell? ⟨bb, 4, none⟩ = some (.slice ak' ks'.length ck') ∧ V.cell? ⟨cb, 0, none⟩ = some (.int .i64 s2) ∧ V.cell? ⟨cb, 1, none⟩ = some (.int .i64 m2) ∧ V.cell? ⟨cb, 2, none⟩ = some (.string t2) ∧ V.cell? ⟨cb, 3, none⟩ = some (.slice an2 ns2.length cn2) ∧ V.cell? ⟨cb, 4, none⟩ = some (.slice ak2 ks2.length ck2)) => (implLess w4 0 0 T T _ _ HV4.out HV4.out hbu hbu HT4.out V hV.1).mono (R' := fun e w' => e = .returned (.bool false) ∧ (w4.grownBy w' none ∧ w'.cell? ⟨ab, 0, none⟩ = some (.int .i64 s) ∧ w'.cell? ⟨ab, 1, none⟩ = some (.int .i64 m) ∧ w'.cell? ⟨ab, 2, none⟩ = some (.string t) ∧ w'.cell? ⟨ab, 3, none⟩ = some (.slice an ns.length cn) ∧ w'.cell? ⟨ab, 4, none⟩ = some (.slice ak ks.length ck) ∧ w'.cell? ⟨bb, 0, none⟩ = some (.int .i64 s') ∧ w'.cell? ⟨bb, 1, none⟩ = some (.int .i64 m') ∧ w'.cell? ⟨bb, 2, none⟩ = some (.string t') ∧ w'.cell? ⟨bb, 3, none⟩ = some (.slice an' ns'.length cn') ∧ w'.cell? ⟨bb, 4, none⟩ = some (.slice ak' ks'.length ck') ∧ w'.cell? ⟨cb, 0, none⟩ = some (.int .i64 s2) ∧ w'.cell? ⟨cb, 1, none⟩ = some (.int .i64 m2) ∧ w'.cell? ⟨cb, 2, none⟩ = some (.string t2) ∧ w'.cell? ⟨cb, 3, none⟩ = some (.slice an2 ns2.length cn2) ∧ w'.cell? ⟨cb, 4, none⟩ = some (.slice ak2 ks2.length ck2))) (fun e w' q => ⟨q.1.is_no (less_self T), HALL.out w' (grown_trans hV.1 q.2)⟩))
  have HC4' := Lib.hid (fun (V : World) (hV : w4.grownBy V none ∧ V.cell? ⟨ab, 0, none⟩ = some (.int .i64 s) ∧ V.cell? ⟨ab, 1, none⟩ = some (.int .i64 m) ∧ V.cell? ⟨ab, 2, none⟩ = some (.string t) ∧ V.cell? ⟨ab, 3, none⟩ = some (.slice an ns.length cn) ∧ V.cell? ⟨ab, 4, none⟩ = some (.slice ak ks.length ck) ∧ V.cell? ⟨bb, 0, none⟩ = some (.int .i64 s') ∧ V.cell? ⟨bb, 1, none⟩ = some (.int .i64 m') ∧ V.cell? ⟨bb, 2, none⟩ = some (.string t') ∧ V.cell? ⟨bb, 3, none⟩ = some (.slice an' ns'.length cn') ∧ V.cell? ⟨bb, 4, none⟩ = some (.slice ak' ks'.length ck') ∧ V.cell? ⟨cb, 0, none⟩ = some (.int .i64 s2) ∧ V.cell? ⟨cb, 1, none⟩ = some (.int .i64 m2) ∧ V.cell? ⟨cb, 2, none⟩ = some (.string t2) ∧ V.cell? ⟨cb, 3, none⟩ = some (.slice an2 ns2.length cn2) ∧ V.cell? ⟨cb, 4, none⟩ = some (.slice ak2 ks2.length ck2)) => (implShow w4 0 T2 _ HVC.out hbu2 HT4.out HPW4.out V hV.1).mono (R' := fun e w' => e = .returned (.string S0) ∧ (w4.grownBy w' none ∧ w'.cell? ⟨ab, 0, none⟩ = some (.int .i64 s) ∧ w'.cell? ⟨ab, 1, none⟩ = some (.int .i64 m) ∧ w'.cell? ⟨ab, 2, none⟩ = some (.string t) ∧ w'.cell? ⟨ab, 3, none⟩ = some (.slice an ns.length cn) ∧ w'.cell? ⟨ab, 4, none⟩ = some (.slice ak ks.length ck) ∧ w'.cell? ⟨bb, 0, none⟩ = some (.int .i64 s') ∧ w'.cell? ⟨bb, 1, none⟩ = some (.int .i64 m') ∧ w'.cell? ⟨bb, 2, none⟩ = some (.string t') ∧ w'.cell? ⟨bb, 3, none⟩ = some (.slice an' ns'.length cn') ∧ w'.cell? ⟨bb, 4, none⟩ = some (.slice ak' ks'.length ck') ∧ w'.cell? ⟨cb, 0, none⟩ = some (.int .i64 s2) ∧ w'.cell? ⟨cb, 1, none⟩ = some (.int .i64 m2) ∧ w'.cell? ⟨cb, 2, none⟩ = some (.string t2) ∧ w'.cell? ⟨cb, 3, none⟩ = some (.slice an2 ns2.length cn2) ∧ w'.cell? ⟨cb, 4, none⟩ = some (.slice ak2 ks2.length ck2))) (fun e w' q => by
    obtain ⟨S1, rfl, h1, h2⟩ := q
    rw [h1.one HSR.out]
    exact ⟨rfl, HALL.out w' (grown_trans hV.1 h2)⟩))
  have HC5 := Lib.hid (fun (V : World) (hV : w4.grownBy V none ∧ V.cell? ⟨ab, 0, none⟩ = some (.int .i64 s) ∧ V.cell? ⟨ab, 1, none⟩ = some (.int .i64 m) ∧ V.cell? ⟨ab, 2, none⟩ = some (.string t) ∧ V.cell? ⟨ab, 3, none⟩ = some (.slice an ns.length cn) ∧ V.cell? ⟨ab, 4, none⟩ = some (.slice ak ks.length ck) ∧ V.cell? ⟨bb, 0, none⟩ = some (.int .i64 s') ∧ V.cell? ⟨bb, 1, none⟩ = some (.int .i64 m') ∧ V.cell? ⟨bb, 2, none⟩ = some (.string t') ∧ V.cell? ⟨bb, 3, none⟩ = some (.slice an' ns'.length cn') ∧ V.cell? ⟨bb, 4, none⟩ = some (.slice ak' ks'.length ck') ∧ V.cell? ⟨cb, 0, none⟩ = some (.int .i64 s2) ∧ V.cell? ⟨cb, 1, none⟩ = some (.int .i64 m2) ∧ V.cell? ⟨cb, 2, none⟩ = some (.string t2) ∧ V.cell? ⟨cb, 3, none⟩ = some (.slice an2 ns2.length cn2) ∧ V.cell? ⟨cb, 4, none⟩ = some (.slice ak2 ks2.length ck2)) => (specShow V 0 T2 _ (HVC.out.grown hV.1) hbu2).mono (R' := fun e w' => e = .returned (.string S0) ∧ (w4.grownBy w' none ∧ w'.cell? ⟨ab, 0, none⟩ = some (.int .i64 s) ∧ w'.cell? ⟨ab, 1, none⟩ = some (.int .i64 m) ∧ w'.cell? ⟨ab, 2, none⟩ = some (.string t) ∧ w'.cell? ⟨ab, 3, none⟩ = some (.slice an ns.length cn) ∧ w'.cell? ⟨ab, 4, none⟩ = some (.slice ak ks.length ck) ∧ w'.cell? ⟨bb, 0, none⟩ = some (.int .i64 s') ∧ w'.cell? ⟨bb, 1, none⟩ = some (.int .i64 m') ∧ w'.cell? ⟨bb, 2, none⟩ = some (.string t') ∧ w'.cell? ⟨bb, 3, none⟩ = some (.slice an' ns'.length cn') ∧ w'.cell? ⟨bb, 4, none⟩ = some (.slice ak' ks'.length ck') ∧ w'.cell? ⟨cb, 0, none⟩ = some (.int .i64 s2) ∧ w'.cell? ⟨cb, 1, none⟩ = some (.int .i64 m2) ∧ w'.cell? ⟨cb, 2, none⟩ = some (.string t2) ∧ w'.cell? ⟨cb, 3, none⟩ = some (.slice an2 ns2.length cn2) ∧ w'.cell? ⟨cb, 4, none⟩ = some (.slice ak2 ks2.length ck2))) (fun e w' q => by
    obtain ⟨S1, rfl, h1, h2⟩ := q
    rw [h1.one HSR.out]
    exact ⟨rfl, HALL.out w' (grown_trans hV.1 h2)⟩))
  have hxx : (x != x) = false := by simp
  have hyy : (y != y) = false := by simp
  go_wp2
  refine wp_region_held_drew (S := fun w' => w4.grownBy w' none ∧ w'.cell? ⟨ab, 0, none⟩ = some (.int .i64 s) ∧ w'.cell? ⟨ab, 1, none⟩ = some (.int .i64 m) ∧ w'.cell? ⟨ab, 2, none⟩ = some (.string t) ∧ w'.cell? ⟨ab, 3, none⟩ = some (.slice an ns.length cn) ∧ w'.cell? ⟨ab, 4, none⟩ = some (.slice ak ks.length ck) ∧ w'.cell? ⟨bb, 0, none⟩ = some (.int .i64 s') ∧ w'.cell? ⟨bb, 1, none⟩ = some (.int .i64 m') ∧ w'.cell? ⟨bb, 2, none⟩ = some (.string t') ∧ w'.cell? ⟨bb, 3, none⟩ = some (.slice an' ns'.length cn') ∧ w'.cell? ⟨bb, 4, none⟩ = some (.slice ak' ks'.length ck') ∧ w'.cell? ⟨cb, 0, none⟩ = some (.int .i64 s2) ∧ w'.cell? ⟨cb, 1, none⟩ = some (.int .i64 m2) ∧ w'.cell? ⟨cb, 2, none⟩ = some (.string t2) ∧ w'.cell? ⟨cb, 3, none⟩ = some (.slice an2 ns2.length cn2) ∧ w'.cell? ⟨cb, 4, none⟩ = some (.slice ak2 ks2.length ck2)) (by kernel_rfl) (HALL.out _ (grown_drew HG6.out)) (fun hS => ?_)
  refine wpAnyH_take (i := 0) (oi := ⟨some 35, _, _, _, _, _⟩) (v := (.bool x)) rfl (by kernel_rfl) (by kernel_rfl) (by kernel_rfl) (fun _ _ _ h => h) (Or.inl ⟨by kernel_rfl, fun w' hSw => ?_⟩) hS ?_
  · go_simp
    all_goals first | rfl | simp
  simp only [Act.put, List.setIfInBounds_toArray, List.set_cons_zero, List.set_cons_succ]
  refine wpAnyH_take (i := 1) (oi := ⟨some 36, _, _, _, _, _⟩) (v := (.agg #[.int .i64 s, .int .i64 m, .string t, .slice an ns.length cn, .slice ak ks.length ck])) rfl (by kernel_rfl) (by kernel_rfl) (by kernel_rfl) (fun _ _ _ h => h) (Or.inl ⟨by kernel_rfl, fun w' hSw => ?_⟩) hS ?_
  · obtain ⟨s1, s2, s3, s4, s5, s6, s7, s8, s9, s10, s11, s12, s13, s14, s15, s16⟩ := hSw
    go_simp
    all_goals first | rfl | simp
  simp only [Act.put, List.setIfInBounds_toArray, List.set_cons_zero, List.set_cons_succ]
  refine wpAnyH_take (i := 2) (oi := ⟨some 37, _, _, _, _, _⟩) (v := (.agg #[.int .i64 s', .int .i64 m', .string t', .slice an' ns'.length cn', .slice ak' ks'.length ck'])) rfl (by kernel_rfl) (by kernel_rfl) (by kernel_rfl) (fun _ _ _ h => h) (Or.inl ⟨by kernel_rfl, fun w' hSw => ?_⟩) hS ?_
  · obtain ⟨s1, s2, s3, s4, s5, s6, s7, s8, s9, s10, s11, s12, s13, s14, s15, s16⟩ := hSw
    go_simp
    all_goals first | rfl | simp
  simp only [Act.put, List.setIfInBounds_toArray, List.set_cons_zero, List.set_cons_succ]
  refine wpAnyH_ready (rs := [3]) (by kernel_rfl) (by simp) ?_
  refine AllReadyH.cons (o := ⟨some 38, _, _, _, _, _⟩) rfl (fun K hK => ?_) AllReadyH.nil
  go_simp
  refine (HC1.out _ (by assumption)).mono ?_
  rintro e wa ⟨rfl, hSa⟩
  go_simp
  refine hK.out _ _ hSa (fun hS => ?_)
  clear hK
  refine wpAnyH_take (i := 4) (oi := ⟨some 39, _, _, _, _, _⟩) (v := (.bool false)) rfl (by kernel_rfl) (by kernel_rfl) (by kernel_rfl) (fun _ _ _ h => h) (Or.inl ⟨by kernel_rfl, fun w' hSw => ?_⟩) hS ?_
  · go_simp
    all_goals first | rfl | simp
  simp only [Act.put, List.setIfInBounds_toArray, List.set_cons_zero, List.set_cons_succ]
  refine wpAnyH_take (i := 5) (oi := ⟨some 40, _, _, _, _, _⟩) (v := (.bool false)) rfl (by kernel_rfl) (by kernel_rfl) (by kernel_rfl) (fun _ _ _ h => h) (Or.inl ⟨by kernel_rfl, fun w' hSw => ?_⟩) hS ?_
  · go_simp
    all_goals first | rfl | simp
  simp only [Act.put, List.setIfInBounds_toArray, List.set_cons_zero, List.set_cons_succ]
  refine wpAnyH_take (i := 6) (oi := ⟨some 41, _, _, _, _, _⟩) (v := (.bool y)) rfl (by kernel_rfl) (by kernel_rfl) (by kernel_rfl) (fun _ _ _ h => h) (Or.inl ⟨by kernel_rfl, fun w' hSw => ?_⟩) hS ?_
  · go_simp
    all_goals first | rfl | simp
  simp only [Act.put, List.setIfInBounds_toArray, List.set_cons_zero, List.set_cons_succ]
  refine wpAnyH_take (i := 7) (oi := ⟨some 42, _, _, _, _, _⟩) (v := (.agg #[.int .i64 s', .int .i64 m', .string t', .slice an' ns'.length cn', .slice ak' ks'.length ck'])) rfl (by kernel_rfl) (by kernel_rfl) (by kernel_rfl) (fun _ _ _ h => h) (Or.inl ⟨by kernel_rfl, fun w' hSw => ?_⟩) hS ?_
  · obtain ⟨s1, s2, s3, s4, s5, s6, s7, s8, s9, s10, s11, s12, s13, s14, s15, s16⟩ := hSw
    go_simp
    all_goals first | rfl | simp
  simp only [Act.put, List.setIfInBounds_toArray, List.set_cons_zero, List.set_cons_succ]
  refine wpAnyH_take (i := 8) (oi := ⟨some 43, _, _, _, _, _⟩) (v := (.agg #[.int .i64 s, .int .i64 m, .string t, .slice an ns.length cn, .slice ak ks.length ck])) rfl (by kernel_rfl) (by kernel_rfl) (by kernel_rfl) (fun _ _ _ h => h) (Or.inl ⟨by kernel_rfl, fun w' hSw => ?_⟩) hS ?_
  · obtain ⟨s1, s2, s3, s4, s5, s6, s7, s8, s9, s10, s11, s12, s13, s14, s15, s16⟩ := hSw
    go_simp
    all_goals first | rfl | simp
  simp only [Act.put, List.setIfInBounds_toArray, List.set_cons_zero, List.set_cons_succ]
  refine wpAnyH_ready (rs := [9]) (by kernel_rfl) (by simp) ?_
  refine AllReadyH.cons (o := ⟨some 44, _, _, _, _, _⟩) rfl (fun K hK => ?_) AllReadyH.nil
  go_simp
  refine (HC2.out _ (by assumption)).mono ?_
  rintro e wa ⟨rfl, hSa⟩
  go_simp
  refine hK.out _ _ hSa (fun hS => ?_)
  clear hK
  refine wpAnyH_take (i := 10) (oi := ⟨some 45, _, _, _, _, _⟩) (v := (.bool false)) rfl (by kernel_rfl) (by kernel_rfl) (by kernel_rfl) (fun _ _ _ h => h) (Or.inl ⟨by kernel_rfl, fun w' hSw => ?_⟩) hS ?_
  · go_simp
    all_goals first | rfl | simp
  simp only [Act.put, List.setIfInBounds_toArray, List.set_cons_zero, List.set_cons_succ]
  refine wpAnyH_take (i := 11) (oi := ⟨some 46, _, _, _, _, _⟩) (v := (.bool false)) rfl (by kernel_rfl) (by kernel_rfl) (by kernel_rfl) (fun _ _ _ h => h) (Or.inl ⟨by kernel_rfl, fun w' hSw => ?_⟩) hS ?_
  · go_simp
    all_goals first | rfl | simp
  simp only [Act.put, List.setIfInBounds_toArray, List.set_cons_zero, List.set_cons_succ]
  refine wpAnyH_take (i := 12) (oi := ⟨some 47, _, _, _, _, _⟩) (v := (.bool false)) rfl (by kernel_rfl) (by kernel_rfl) (by kernel_rfl) (fun _ _ _ h => h) (Or.inl ⟨by kernel_rfl, fun w' hSw => ?_⟩) hS ?_
  · go_simp
    all_goals first | rfl | simp
  simp only [Act.put, List.setIfInBounds_toArray, List.set_cons_zero, List.set_cons_succ]
  refine wpAnyH_take (i := 13) (oi := ⟨some 48, _, _, _, _, _⟩) (v := (.agg #[.int .i64 s, .int .i64 m, .string t, .slice an ns.length cn, .slice ak ks.length ck])) rfl (by kernel_rfl) (by kernel_rfl) (by kernel_rfl) (fun _ _ _ h => h) (Or.inl ⟨by kernel_rfl, fun w' hSw => ?_⟩) hS ?_
  · obtain ⟨s1, s2, s3, s4, s5, s6, s7, s8, s9, s10, s11, s12, s13, s14, s15, s16⟩ := hSw
    go_simp
    all_goals first | rfl | simp
  simp only [Act.put, List.setIfInBounds_toArray, List.set_cons_zero, List.set_cons_succ]
  refine wpAnyH_take (i := 14) (oi := ⟨some 49, _, _, _, _, _⟩) (v := (.agg #[.int .i64 s, .int .i64 m, .string t, .slice an ns.length cn, .slice ak ks.length ck])) rfl (by kernel_rfl) (by kernel_rfl) (by kernel_rfl) (fun _ _ _ h => h) (Or.inl ⟨by kernel_rfl, fun w' hSw => ?_⟩) hS ?_
  · obtain ⟨s1, s2, s3, s4, s5, s6, s7, s8, s9, s10, s11, s12, s13, s14, s15, s16⟩ := hSw
    go_simp
    all_goals first | rfl | simp
  simp only [Act.put, List.setIfInBounds_toArray, List.set_cons_zero, List.set_cons_succ]
  refine wpAnyH_ready (rs := [15]) (by kernel_rfl) (by simp) ?_
  refine AllReadyH.cons (o := ⟨some 50, _, _, _, _, _⟩) rfl (fun K hK => ?_) AllReadyH.nil
  go_simp
  refine (HC3.out _ (by assumption)).mono ?_
  rintro e wa ⟨rfl, hSa⟩
  go_simp
  refine hK.out _ _ hSa (fun hS => ?_)
  clear hK
  refine wpAnyH_take (i := 16) (oi := ⟨some 51, _, _, _, _, _⟩) (v := (.bool false)) rfl (by kernel_rfl) (by kernel_rfl) (by kernel_rfl) (fun _ _ _ h => h) (Or.inl ⟨by kernel_rfl, fun w' hSw => ?_⟩) hS ?_
  · go_simp
    all_goals first | rfl | simp
  simp only [Act.put, List.setIfInBounds_toArray, List.set_cons_zero, List.set_cons_succ]
  refine wpAnyH_take (i := 17) (oi := ⟨some 52, _, _, _, _, _⟩) (v := (.bool false)) rfl (by kernel_rfl) (by kernel_rfl) (by kernel_rfl) (fun _ _ _ h => h) (Or.inl ⟨by kernel_rfl, fun w' hSw => ?_⟩) hS ?_
  · go_simp
    all_goals first | rfl | simp
  simp only [Act.put, List.setIfInBounds_toArray, List.set_cons_zero, List.set_cons_succ]
  refine wpAnyH_take (i := 18) (oi := ⟨some 53, _, _, _, _, _⟩) (v := (.agg #[.int .i64 s2, .int .i64 m2, .string t2, .slice an2 ns2.length cn2, .slice ak2 ks2.length ck2])) rfl (by kernel_rfl) (by kernel_rfl) (by kernel_rfl) (fun _ _ _ h => h) (Or.inl ⟨by kernel_rfl, fun w' hSw => ?_⟩) hS ?_
  · obtain ⟨s1, s2, s3, s4, s5, s6, s7, s8, s9, s10, s11, s12, s13, s14, s15, s16⟩ := hSw
    go_simp
    all_goals first | rfl | simp
  simp only [Act.put, List.setIfInBounds_toArray, List.set_cons_zero, List.set_cons_succ]
  refine wpAnyH_take (i := 20) (oi := ⟨some 55, _, _, _, _, _⟩) (v := (.agg #[.int .i64 s2, .int .i64 m2, .string t2, .slice an2 ns2.length cn2, .slice ak2 ks2.length ck2])) rfl (by kernel_rfl) (by kernel_rfl) (by kernel_rfl) (fun _ _ _ h => h) (Or.inl ⟨by kernel_rfl, fun w' hSw => ?_⟩) hS ?_
  · obtain ⟨s1, s2, s3, s4, s5, s6, s7, s8, s9, s10, s11, s12, s13, s14, s15, s16⟩ := hSw
    go_simp
    all_goals first | rfl | simp
  simp only [Act.put, List.setIfInBounds_toArray, List.set_cons_zero, List.set_cons_succ]
  refine wpAnyH_ready (rs := [19]) (by kernel_rfl) (by simp) ?_
  refine AllReadyH.cons (o := ⟨some 54, _, _, _, _, _⟩) rfl (fun K hK => ?_) AllReadyH.nil
  go_simp
  refine (HC4'.out _ (by assumption)).mono ?_
  rintro e wa ⟨rfl, hSa⟩
  go_simp
  refine hK.out _ _ hSa (fun hS => ?_)
  clear hK
  refine wpAnyH_ready (rs := [21]) (by kernel_rfl) (by simp) ?_
  refine AllReadyH.cons (o := ⟨some 56, _, _, _, _, _⟩) rfl (fun K hK => ?_) AllReadyH.nil
  go_simp
  refine (HC5.out _ (by assumption)).mono ?_
  rintro e wa ⟨rfl, hSa⟩
  go_simp
  refine hK.out _ _ hSa (fun hS => ?_)
  clear hK
  refine wpAnyH_take (i := 22) (oi := ⟨some 57, _, _, _, _, _⟩) (v := (.bool false)) rfl (by kernel_rfl) (by kernel_rfl) (by kernel_rfl) (fun _ _ _ h => h) (Or.inl ⟨by kernel_rfl, fun w' hSw => ?_⟩) hS ?_
  · go_simp
    all_goals first | rfl | simp
  simp only [Act.put, List.setIfInBounds_toArray, List.set_cons_zero, List.set_cons_succ]
  refine wpAnyH_take (i := 23) (oi := ⟨some 58, _, _, _, _, _⟩) (v := (.bool false)) rfl (by kernel_rfl) (by kernel_rfl) (by kernel_rfl) (fun _ _ _ h => h) (Or.inl ⟨by kernel_rfl, fun w' hSw => ?_⟩) hS ?_
  · go_simp
    all_goals first | rfl | simp
  simp only [Act.put, List.setIfInBounds_toArray, List.set_cons_zero, List.set_cons_succ]
  refine wpAnyH_done (by kernel_rfl) ?_ _
  have HS7 := Lib.hid hS
  clear HC1 HC2 HC3 HC4' HC5 hxx hyy HG6
  obtain ⟨hG7, x0, x1, x2, x3, x4, y0, y1, y2, y3, y4, z0, z1, z2, z3, z4⟩ := hS
  have HG7 := Lib.hid hG7
  have HO1 := Lib.hid (specOk_any _ 0 T _ (HV4.out.grown hG7) hbu)
  clear hG7
  go_wp2_with fail
  refine HO1.out.mono ?_
  rintro e w8 ⟨⟨o1, rfl, ho1⟩, hg8⟩
  have HS8 := Lib.hid (HALL.out w8 (grown_trans HG7.out hg8))
  have HO := Lib.hid ho1
  clear x0 x1 x2 x3 x4 y0 y1 y2 y3 y4 z0 z1 z2 z3 z4 ho1 hg8 HO1 HG7 HS7
  cases o1 with
  | false =>
    obtain rfl : x = false := by
      cases x with
      | false => rfl
      | true => exact absurd (HO.out.2 (HX.out.1 (by first | trivial | rfl)).1) (by simp)
    obtain rfl : y = false := by
      cases y with
      | false => rfl
      | true => exact absurd (HO.out.2 (HY.out.1 (by first | trivial | rfl)).2.1) (by simp)
    have HG := Lib.hid (grown_trans HG4.out HS8.out.1)
    clear HS8
    go_wp2
    go_ret
    exact ⟨rfl, HG.out⟩
  | true =>
    have HOK := Lib.hid (HO.out.1 (by first | trivial | rfl))
    clear HO
    obtain ⟨hG8, x0, x1, x2, x3, x4, y0, y1, y2, y3, y4, z0, z1, z2, z3, z4⟩ := HS8.out
    have HG8 := Lib.hid hG8
    have HO2 := Lib.hid (specOk_any _ 0 T' _ (HV4'.out.grown hG8) hbu')
    clear hG8 HS8
    go_wp2_with fail
    refine HO2.out.mono ?_
    rintro e w9 ⟨⟨o2, rfl, ho2⟩, hg9⟩
    have HS9 := Lib.hid (HALL.out w9 (grown_trans HG8.out hg9))
    have HO := Lib.hid ho2
    clear x0 x1 x2 x3 x4 y0 y1 y2 y3 y4 z0 z1 z2 z3 z4 ho2 hg9 HO2 HG8
    cases o2 with
    | false =>
      obtain rfl : x = false := by
        cases x with
        | false => rfl
        | true => exact absurd (HO.out.2 (HX.out.1 (by first | trivial | rfl)).2.1) (by simp)
      obtain rfl : y = false := by
        cases y with
        | false => rfl
        | true => exact absurd (HO.out.2 (HY.out.1 (by first | trivial | rfl)).1) (by simp)
      have HG := Lib.hid (grown_trans HG4.out HS9.out.1)
      clear HS9
      go_wp2
      go_ret
      exact ⟨rfl, HG.out⟩
    | true =>
      have HOK' := Lib.hid (HO.out.1 (by first | trivial | rfl))
      clear HO
      cases x with
      | false =>
        cases y with
        | false =>
          have hne : ((showB T).toList == (showB T').toList) = true := by
            rw [showB_beq HOK.out HOK'.out]; rintro (h | h); exact absurd (HX.out.2 h) (by simp); exact absurd (HY.out.2 h) (by simp)
          obtain ⟨SA, hSA⟩ : ∃ S, S = showB T := ⟨_, rfl⟩
          obtain ⟨SB, hSB⟩ : ∃ S, S = showB T' := ⟨_, rfl⟩
          rw [← hSA, ← hSB] at hne
          have HSA := Lib.hid hSA
          have HSB := Lib.hid hSB
          clear hSA hSB
          have HCA := Lib.hid (fun (V : World) (hV : w4.grownBy V none ∧ V.cell? ⟨ab, 0, none⟩ = some (.int .i64 s) ∧ V.cell? ⟨ab, 1, none⟩ = some (.int .i64 m) ∧ V.cell? ⟨ab, 2, none⟩ = some (.string t) ∧ V.cell? ⟨ab, 3, none⟩ = some (.slice an ns.length cn) ∧ V.cell? ⟨ab, 4, none⟩ = some (.slice ak ks.length ck) ∧ V.cell? ⟨bb, 0, none⟩ = some (.int .i64 s') ∧ V.cell? ⟨bb, 1, none⟩ = some (.int .i64 m') ∧ V.cell? ⟨bb, 2, none⟩ = some (.string t') ∧ V.cell? ⟨bb, 3, none⟩ = some (.slice an' ns'.length cn') ∧ V.cell? ⟨bb, 4, none⟩ = some (.slice ak' ks'.length ck') ∧ V.cell? ⟨cb, 0, none⟩ = some (.int .i64 s2) ∧ V.cell? ⟨cb, 1, none⟩ = some (.int .i64 m2) ∧ V.cell? ⟨cb, 2, none⟩ = some (.string t2) ∧ V.cell? ⟨cb, 3, none⟩ = some (.slice an2 ns2.length cn2) ∧ V.cell? ⟨cb, 4, none⟩ = some (.slice ak2 ks2.length ck2)) => (implShow w4 0 T _ HV4.out hbu HT4.out HPW4.out V hV.1).mono (R' := fun e w' => e = .returned (.string SA) ∧ (w4.grownBy w' none ∧ w'.cell? ⟨ab, 0, none⟩ = some (.int .i64 s) ∧ w'.cell? ⟨ab, 1, none⟩ = some (.int .i64 m) ∧ w'.cell? ⟨ab, 2, none⟩ = some (.string t) ∧ w'.cell? ⟨ab, 3, none⟩ = some (.slice an ns.length cn) ∧ w'.cell? ⟨ab, 4, none⟩ = some (.slice ak ks.length ck) ∧ w'.cell? ⟨bb, 0, none⟩ = some (.int .i64 s') ∧ w'.cell? ⟨bb, 1, none⟩ = some (.int .i64 m') ∧ w'.cell? ⟨bb, 2, none⟩ = some (.string t') ∧ w'.cell? ⟨bb, 3, none⟩ = some (.slice an' ns'.length cn') ∧ w'.cell? ⟨bb, 4, none⟩ = some (.slice ak' ks'.length ck') ∧ w'.cell? ⟨cb, 0, none⟩ = some (.int .i64 s2) ∧ w'.cell? ⟨cb, 1, none⟩ = some (.int .i64 m2) ∧ w'.cell? ⟨cb, 2, none⟩ = some (.string t2) ∧ w'.cell? ⟨cb, 3, none⟩ = some (.slice an2 ns2.length cn2) ∧ w'.cell? ⟨cb, 4, none⟩ = some (.slice ak2 ks2.length ck2))) (fun e w' q => by
            obtain ⟨S1, rfl, h1, h2⟩ := q
            rw [h1.one (.inl ⟨HOK.out, HSA.out⟩)]
            exact ⟨rfl, HALL.out w' (grown_trans hV.1 h2)⟩))
          have HCB := Lib.hid (fun (V : World) (hV : w4.grownBy V none ∧ V.cell? ⟨ab, 0, none⟩ = some (.int .i64 s) ∧ V.cell? ⟨ab, 1, none⟩ = some (.int .i64 m) ∧ V.cell? ⟨ab, 2, none⟩ = some (.string t) ∧ V.cell? ⟨ab, 3, none⟩ = some (.slice an ns.length cn) ∧ V.cell? ⟨ab, 4, none⟩ = some (.slice ak ks.length ck) ∧ V.cell? ⟨bb, 0, none⟩ = some (.int .i64 s') ∧ V.cell? ⟨bb, 1, none⟩ = some (.int .i64 m') ∧ V.cell? ⟨bb, 2, none⟩ = some (.string t') ∧ V.cell? ⟨bb, 3, none⟩ = some (.slice an' ns'.length cn') ∧ V.cell? ⟨bb, 4, none⟩ = some (.slice ak' ks'.length ck') ∧ V.cell? ⟨cb, 0, none⟩ = some (.int .i64 s2) ∧ V.cell? ⟨cb, 1, none⟩ = some (.int .i64 m2) ∧ V.cell? ⟨cb, 2, none⟩ = some (.string t2) ∧ V.cell? ⟨cb, 3, none⟩ = some (.slice an2 ns2.length cn2) ∧ V.cell? ⟨cb, 4, none⟩ = some (.slice ak2 ks2.length ck2)) => (implShow w4 0 T' _ HV4'.out hbu' HT4.out HPW4.out V hV.1).mono (R' := fun e w' => e = .returned (.string SB) ∧ (w4.grownBy w' none ∧ w'.cell? ⟨ab, 0, none⟩ = some (.int .i64 s) ∧ w'.cell? ⟨ab, 1, none⟩ = some (.int .i64 m) ∧ w'.cell? ⟨ab, 2, none⟩ = some (.string t) ∧ w'.cell? ⟨ab, 3, none⟩ = some (.slice an ns.length cn) ∧ w'.cell? ⟨ab, 4, none⟩ = some (.slice ak ks.length ck) ∧ w'.cell? ⟨bb, 0, none⟩ = some (.int .i64 s') ∧ w'.cell? ⟨bb, 1, none⟩ = some (.int .i64 m') ∧ w'.cell? ⟨bb, 2, none⟩ = some (.string t') ∧ w'.cell? ⟨bb, 3, none⟩ = some (.slice an' ns'.length cn') ∧ w'.cell? ⟨bb, 4, none⟩ = some (.slice ak' ks'.length ck') ∧ w'.cell? ⟨cb, 0, none⟩ = some (.int .i64 s2) ∧ w'.cell? ⟨cb, 1, none⟩ = some (.int .i64 m2) ∧ w'.cell? ⟨cb, 2, none⟩ = some (.string t2) ∧ w'.cell? ⟨cb, 3, none⟩ = some (.slice an2 ns2.length cn2) ∧ w'.cell? ⟨cb, 4, none⟩ = some (.slice ak2 ks2.length ck2))) (fun e w' q => by
            obtain ⟨S1, rfl, h1, h2⟩ := q
            rw [h1.one (.inl ⟨HOK'.out, HSB.out⟩)]
            exact ⟨rfl, HALL.out w' (grown_trans hV.1 h2)⟩))
          go_wp2
          refine wp_region_held_drew (S := fun w' => w4.grownBy w' none ∧ w'.cell? ⟨ab, 0, none⟩ = some (.int .i64 s) ∧ w'.cell? ⟨ab, 1, none⟩ = some (.int .i64 m) ∧ w'.cell? ⟨ab, 2, none⟩ = some (.string t) ∧ w'.cell? ⟨ab, 3, none⟩ = some (.slice an ns.length cn) ∧ w'.cell? ⟨ab, 4, none⟩ = some (.slice ak ks.length ck) ∧ w'.cell? ⟨bb, 0, none⟩ = some (.int .i64 s') ∧ w'.cell? ⟨bb, 1, none⟩ = some (.int .i64 m') ∧ w'.cell? ⟨bb, 2, none⟩ = some (.string t') ∧ w'.cell? ⟨bb, 3, none⟩ = some (.slice an' ns'.length cn') ∧ w'.cell? ⟨bb, 4, none⟩ = some (.slice ak' ks'.length ck') ∧ w'.cell? ⟨cb, 0, none⟩ = some (.int .i64 s2) ∧ w'.cell? ⟨cb, 1, none⟩ = some (.int .i64 m2) ∧ w'.cell? ⟨cb, 2, none⟩ = some (.string t2) ∧ w'.cell? ⟨cb, 3, none⟩ = some (.slice an2 ns2.length cn2) ∧ w'.cell? ⟨cb, 4, none⟩ = some (.slice ak2 ks2.length ck2)) (by kernel_rfl) (HALL.out _ (grown_drew HS9.out.1)) (fun hS => ?_)
          refine wpAnyH_take (i := 0) (oi := ⟨some 85, _, _, _, _, _⟩) (v := (.bool false)) rfl (by kernel_rfl) (by kernel_rfl) (by kernel_rfl) (fun _ _ _ h => h) (Or.inl ⟨by kernel_rfl, fun w' hSw => ?_⟩) hS ?_
          · go_simp
            all_goals first | rfl | simp | simp [hne]
          simp only [Act.put, List.setIfInBounds_toArray, List.set_cons_zero, List.set_cons_succ]
          refine wpAnyH_take (i := 1) (oi := ⟨some 86, _, _, _, _, _⟩) (v := (.bool false)) rfl (by kernel_rfl) (by kernel_rfl) (by kernel_rfl) (fun _ _ _ h => h) (Or.inl ⟨by kernel_rfl, fun w' hSw => ?_⟩) hS ?_
          · go_simp
            all_goals first | rfl | simp | simp [hne]
          simp only [Act.put, List.setIfInBounds_toArray, List.set_cons_zero, List.set_cons_succ]
          refine wpAnyH_take (i := 2) (oi := ⟨some 87, _, _, _, _, _⟩) (v := undef) rfl (by kernel_rfl) (by kernel_rfl) (by kernel_rfl) (fun _ _ _ h => h) (Or.inr ⟨by kernel_rfl, rfl⟩) hS ?_
          simp only [Act.put, List.setIfInBounds_toArray, List.set_cons_zero, List.set_cons_succ]
          refine wpAnyH_take (i := 3) (oi := ⟨some 88, _, _, _, _, _⟩) (v := (.bool false)) rfl (by kernel_rfl) (by kernel_rfl) (by kernel_rfl) (fun _ _ _ h => h) (Or.inl ⟨by kernel_rfl, fun w' hSw => ?_⟩) hS ?_
          · go_simp
            all_goals first | rfl | simp | simp [hne]
          simp only [Act.put, List.setIfInBounds_toArray, List.set_cons_zero, List.set_cons_succ]
          refine wpAnyH_take (i := 4) (oi := ⟨some 89, _, _, _, _, _⟩) (v := (.bool true)) rfl (by kernel_rfl) (by kernel_rfl) (by kernel_rfl) (fun _ _ _ h => h) (Or.inl ⟨by kernel_rfl, fun w' hSw => ?_⟩) hS ?_
          · go_simp
            all_goals first | rfl | simp | simp [hne]
          simp only [Act.put, List.setIfInBounds_toArray, List.set_cons_zero, List.set_cons_succ]
          refine wpAnyH_take (i := 5) (oi := ⟨some 90, _, _, _, _, _⟩) (v := (.bool true)) rfl (by kernel_rfl) (by kernel_rfl) (by kernel_rfl) (fun _ _ _ h => h) (Or.inl ⟨by kernel_rfl, fun w' hSw => ?_⟩) hS ?_
          · go_simp
            all_goals first | rfl | simp | simp [hne]
          simp only [Act.put, List.setIfInBounds_toArray, List.set_cons_zero, List.set_cons_succ]
          refine wpAnyH_take (i := 6) (oi := ⟨some 91, _, _, _, _, _⟩) (v := (.bool false)) rfl (by kernel_rfl) (by kernel_rfl) (by kernel_rfl) (fun _ _ _ h => h) (Or.inl ⟨by kernel_rfl, fun w' hSw => ?_⟩) hS ?_
          · go_simp
            all_goals first | rfl | simp | simp [hne]
          simp only [Act.put, List.setIfInBounds_toArray, List.set_cons_zero, List.set_cons_succ]
          refine wpAnyH_take (i := 7) (oi := ⟨some 92, _, _, _, _, _⟩) (v := (.bool false)) rfl (by kernel_rfl) (by kernel_rfl) (by kernel_rfl) (fun _ _ _ h => h) (Or.inl ⟨by kernel_rfl, fun w' hSw => ?_⟩) hS ?_
          · go_simp
            all_goals first | rfl | simp | simp [hne]
          simp only [Act.put, List.setIfInBounds_toArray, List.set_cons_zero, List.set_cons_succ]
          refine wpAnyH_take (i := 8) (oi := ⟨some 93, _, _, _, _, _⟩) (v := (.bool false)) rfl (by kernel_rfl) (by kernel_rfl) (by kernel_rfl) (fun _ _ _ h => h) (Or.inl ⟨by kernel_rfl, fun w' hSw => ?_⟩) hS ?_
          · go_simp
            all_goals first | rfl | simp | simp [hne]
          simp only [Act.put, List.setIfInBounds_toArray, List.set_cons_zero, List.set_cons_succ]
          refine wpAnyH_take (i := 9) (oi := ⟨some 94, _, _, _, _, _⟩) (v := (.bool false)) rfl (by kernel_rfl) (by kernel_rfl) (by kernel_rfl) (fun _ _ _ h => h) (Or.inl ⟨by kernel_rfl, fun w' hSw => ?_⟩) hS ?_
          · go_simp
            all_goals first | rfl | simp | simp [hne]
          simp only [Act.put, List.setIfInBounds_toArray, List.set_cons_zero, List.set_cons_succ]
          refine wpAnyH_take (i := 10) (oi := ⟨some 95, _, _, _, _, _⟩) (v := (.agg #[.int .i64 s, .int .i64 m, .string t, .slice an ns.length cn, .slice ak ks.length ck])) rfl (by kernel_rfl) (by kernel_rfl) (by kernel_rfl) (fun _ _ _ h => h) (Or.inl ⟨by kernel_rfl, fun w' hSw => ?_⟩) hS ?_
          · obtain ⟨s1, s2, s3, s4, s5, s6, s7, s8, s9, s10, s11, s12, s13, s14, s15, s16⟩ := hSw
            go_simp
            all_goals first | rfl | simp | simp [hne]
          simp only [Act.put, List.setIfInBounds_toArray, List.set_cons_zero, List.set_cons_succ]
          refine wpAnyH_take (i := 12) (oi := ⟨some 97, _, _, _, _, _⟩) (v := (.agg #[.int .i64 s', .int .i64 m', .string t', .slice an' ns'.length cn', .slice ak' ks'.length ck'])) rfl (by kernel_rfl) (by kernel_rfl) (by kernel_rfl) (fun _ _ _ h => h) (Or.inl ⟨by kernel_rfl, fun w' hSw => ?_⟩) hS ?_
          · obtain ⟨s1, s2, s3, s4, s5, s6, s7, s8, s9, s10, s11, s12, s13, s14, s15, s16⟩ := hSw
            go_simp
            all_goals first | rfl | simp | simp [hne]
          simp only [Act.put, List.setIfInBounds_toArray, List.set_cons_zero, List.set_cons_succ]
          refine wpAnyH_ready (rs := [11]) (by kernel_rfl) (by simp) ?_
          refine AllReadyH.cons (o := ⟨some 96, _, _, _, _, _⟩) rfl (fun K hK => ?_) AllReadyH.nil
          go_simp
          refine (HCA.out _ (by assumption)).mono ?_
          rintro e wa ⟨rfl, hSa⟩
          go_simp
          refine hK.out _ _ hSa (fun hS => ?_)
          clear hK
          refine wpAnyH_ready (rs := [13]) (by kernel_rfl) (by simp) ?_
          refine AllReadyH.cons (o := ⟨some 98, _, _, _, _, _⟩) rfl (fun K hK => ?_) AllReadyH.nil
          go_simp
          refine (HCB.out _ (by assumption)).mono ?_
          rintro e wa ⟨rfl, hSa⟩
          go_simp
          refine hK.out _ _ hSa (fun hS => ?_)
          clear hK
          refine wpAnyH_take (i := 14) (oi := ⟨some 99, _, _, _, _, _⟩) (v := (.bool false)) rfl (by kernel_rfl) (by kernel_rfl) (by kernel_rfl) (fun _ _ _ h => h) (Or.inl ⟨by kernel_rfl, fun w' hSw => ?_⟩) hS ?_
          · go_simp
            all_goals first | rfl | simp | simp [hne]
          simp only [Act.put, List.setIfInBounds_toArray, List.set_cons_zero, List.set_cons_succ]
          refine wpAnyH_take (i := 15) (oi := ⟨some 100, _, _, _, _, _⟩) (v := (.bool true)) rfl (by kernel_rfl) (by kernel_rfl) (by kernel_rfl) (fun _ _ _ h => h) (Or.inl ⟨by kernel_rfl, fun w' hSw => ?_⟩) hS ?_
          · go_simp
            all_goals first | rfl | simp | simp [hne]
          simp only [Act.put, List.setIfInBounds_toArray, List.set_cons_zero, List.set_cons_succ]
          refine wpAnyH_take (i := 16) (oi := ⟨some 101, _, _, _, _, _⟩) (v := (.bool true)) rfl (by kernel_rfl) (by kernel_rfl) (by kernel_rfl) (fun _ _ _ h => h) (Or.inl ⟨by kernel_rfl, fun w' hSw => ?_⟩) hS ?_
          · go_simp
            all_goals first | rfl | simp | simp [hne]
          simp only [Act.put, List.setIfInBounds_toArray, List.set_cons_zero, List.set_cons_succ]
          refine wpAnyH_take (i := 17) (oi := ⟨some 4, _, _, _, _, _⟩) (v := (.bool true)) rfl (by kernel_rfl) (by kernel_rfl) (by kernel_rfl) (fun _ _ _ h => h) (Or.inl ⟨by kernel_rfl, fun w' hSw => ?_⟩) hS ?_
          · go_simp
            all_goals first | rfl | simp | simp [hne]
          simp only [Act.put, List.setIfInBounds_toArray, List.set_cons_zero, List.set_cons_succ]
          refine wpAnyH_done (by kernel_rfl) ?_ _
          have HG := Lib.hid (grown_trans HG4.out hS.1)
          clear hS hne HCA HCB
          go_wp2
          go_ret
          exact ⟨rfl, HG.out⟩
        | true =>
          have hne : ((showB T).toList == (showB T').toList) = false := by
            rw [← Bool.not_eq_true, showB_beq HOK.out HOK'.out]; exact fun h => h (.inr (HY.out.1 (by first | trivial | rfl)))
          obtain ⟨SA, hSA⟩ : ∃ S, S = showB T := ⟨_, rfl⟩
          obtain ⟨SB, hSB⟩ : ∃ S, S = showB T' := ⟨_, rfl⟩
          rw [← hSA, ← hSB] at hne
          have HSA := Lib.hid hSA
          have HSB := Lib.hid hSB
          clear hSA hSB
          have HCA := Lib.hid (fun (V : World) (hV : w4.grownBy V none ∧ V.cell? ⟨ab, 0, none⟩ = some (.int .i64 s) ∧ V.cell? ⟨ab, 1, none⟩ = some (.int .i64 m) ∧ V.cell? ⟨ab, 2, none⟩ = some (.string t) ∧ V.cell? ⟨ab, 3, none⟩ = some (.slice an ns.length cn) ∧ V.cell? ⟨ab, 4, none⟩ = some (.slice ak ks.length ck) ∧ V.cell? ⟨bb, 0, none⟩ = some (.int .i64 s') ∧ V.cell? ⟨bb, 1, none⟩ = some (.int .i64 m') ∧ V.cell? ⟨bb, 2, none⟩ = some (.string t') ∧ V.cell? ⟨bb, 3, none⟩ = some (.slice an' ns'.length cn') ∧ V.cell? ⟨bb, 4, none⟩ = some (.slice ak' ks'.length ck') ∧ V.cell? ⟨cb, 0, none⟩ = some (.int .i64 s2) ∧ V.cell? ⟨cb, 1, none⟩ = some (.int .i64 m2) ∧ V.cell? ⟨cb, 2, none⟩ = some (.string t2) ∧ V.cell? ⟨cb, 3, none⟩ = some (.slice an2 ns2.length cn2) ∧ V.cell? ⟨cb, 4, none⟩ = some (.slice ak2 ks2.length ck2)) => (implShow w4 0 T _ HV4.out hbu HT4.out HPW4.out V hV.1).mono (R' := fun e w' => e = .returned (.string SA) ∧ (w4.grownBy w' none ∧ w'.cell? ⟨ab, 0, none⟩ = some (.int .i64 s) ∧ w'.cell? ⟨ab, 1, none⟩ = some (.int .i64 m) ∧ w'.cell? ⟨ab, 2, none⟩ = some (.string t) ∧ w'.cell? ⟨ab, 3, none⟩ = some (.slice an ns.length cn) ∧ w'.cell? ⟨ab, 4, none⟩ = some (.slice ak ks.length ck) ∧ w'.cell? ⟨bb, 0, none⟩ = some (.int .i64 s') ∧ w'.cell? ⟨bb, 1, none⟩ = some (.int .i64 m') ∧ w'.cell? ⟨bb, 2, none⟩ = some (.string t') ∧ w'.cell? ⟨bb, 3, none⟩ = some (.slice an' ns'.length cn') ∧ w'.cell? ⟨bb, 4, none⟩ = some (.slice ak' ks'.length ck') ∧ w'.cell? ⟨cb, 0, none⟩ = some (.int .i64 s2) ∧ w'.cell? ⟨cb, 1, none⟩ = some (.int .i64 m2) ∧ w'.cell? ⟨cb, 2, none⟩ = some (.string t2) ∧ w'.cell? ⟨cb, 3, none⟩ = some (.slice an2 ns2.length cn2) ∧ w'.cell? ⟨cb, 4, none⟩ = some (.slice ak2 ks2.length ck2))) (fun e w' q => by
            obtain ⟨S1, rfl, h1, h2⟩ := q
            rw [h1.one (.inl ⟨HOK.out, HSA.out⟩)]
            exact ⟨rfl, HALL.out w' (grown_trans hV.1 h2)⟩))
          have HCB := Lib.hid (fun (V : World) (hV : w4.grownBy V none ∧ V.cell? ⟨ab, 0, none⟩ = some (.int .i64 s) ∧ V.cell? ⟨ab, 1, none⟩ = some (.int .i64 m) ∧ V.cell? ⟨ab, 2, none⟩ = some (.string t) ∧ V.cell? ⟨ab, 3, none⟩ = some (.slice an ns.length cn) ∧ V.cell? ⟨ab, 4, none⟩ = some (.slice ak ks.length ck) ∧ V.cell? ⟨bb, 0, none⟩ = some (.int .i64 s') ∧ V.cell? ⟨bb, 1, none⟩ = some (.int .i64 m') ∧ V.cell? ⟨bb, 2, none⟩ = some (.string t') ∧ V.cell? ⟨bb, 3, none⟩ = some (.slice an' ns'.length cn') ∧ V.cell? ⟨bb, 4, none⟩ = some (.slice ak' ks'.length ck') ∧ V.cell? ⟨cb, 0, none⟩ = some (.int .i64 s2) ∧ V.cell? ⟨cb, 1, none⟩ = some (.int .i64 m2) ∧ V.cell? ⟨cb, 2, none⟩ = some (.string t2) ∧ V.cell? ⟨cb, 3, none⟩ = some (.slice an2 ns2.length cn2) ∧ V.cell? ⟨cb, 4, none⟩ = some (.slice ak2 ks2.length ck2)) => (implShow w4 0 T' _ HV4'.out hbu' HT4.out HPW4.out V hV.1).mono (R' := fun e w' => e = .returned (.string SB) ∧ (w4.grownBy w' none ∧ w'.cell? ⟨ab, 0, none⟩ = some (.int .i64 s) ∧ w'.cell? ⟨ab, 1, none⟩ = some (.int .i64 m) ∧ w'.cell? ⟨ab, 2, none⟩ = some (.string t) ∧ w'.cell? ⟨ab, 3, none⟩ = some (.slice an ns.length cn) ∧ w'.cell? ⟨ab, 4, none⟩ = some (.slice ak ks.length ck) ∧ w'.cell? ⟨bb, 0, none⟩ = some (.int .i64 s') ∧ w'.cell? ⟨bb, 1, none⟩ = some (.int .i64 m') ∧ w'.cell? ⟨bb, 2, none⟩ = some (.string t') ∧ w'.cell? ⟨bb, 3, none⟩ = some (.slice an' ns'.length cn') ∧ w'.cell? ⟨bb, 4, none⟩ = some (.slice ak' ks'.length ck') ∧ w'.cell? ⟨cb, 0, none⟩ = some (.int .i64 s2) ∧ w'.cell? ⟨cb, 1, none⟩ = some (.int .i64 m2) ∧ w'.cell? ⟨cb, 2, none⟩ = some (.string t2) ∧ w'.cell? ⟨cb, 3, none⟩ = some (.slice an2 ns2.length cn2) ∧ w'.cell? ⟨cb, 4, none⟩ = some (.slice ak2 ks2.length ck2))) (fun e w' q => by
            obtain ⟨S1, rfl, h1, h2⟩ := q
            rw [h1.one (.inl ⟨HOK'.out, HSB.out⟩)]
            exact ⟨rfl, HALL.out w' (grown_trans hV.1 h2)⟩))
          go_wp2
          refine wp_region_held_drew (S := fun w' => w4.grownBy w' none ∧ w'.cell? ⟨ab, 0, none⟩ = some (.int .i64 s) ∧ w'.cell? ⟨ab, 1, none⟩ = some (.int .i64 m) ∧ w'.cell? ⟨ab, 2, none⟩ = some (.string t) ∧ w'.cell? ⟨ab, 3, none⟩ = some (.slice an ns.length cn) ∧ w'.cell? ⟨ab, 4, none⟩ = some (.slice ak ks.length ck) ∧ w'.cell? ⟨bb, 0, none⟩ = some (.int .i64 s') ∧ w'.cell? ⟨bb, 1, none⟩ = some (.int .i64 m') ∧ w'.cell? ⟨bb, 2, none⟩ = some (.string t') ∧ w'.cell? ⟨bb, 3, none⟩ = some (.slice an' ns'.length cn') ∧ w'.cell? ⟨bb, 4, none⟩ = some (.slice ak' ks'.length ck') ∧ w'.cell? ⟨cb, 0, none⟩ = some (.int .i64 s2) ∧ w'.cell? ⟨cb, 1, none⟩ = some (.int .i64 m2) ∧ w'.cell? ⟨cb, 2, none⟩ = some (.string t2) ∧ w'.cell? ⟨cb, 3, none⟩ = some (.slice an2 ns2.length cn2) ∧ w'.cell? ⟨cb, 4, none⟩ = some (.slice ak2 ks2.length ck2)) (by kernel_rfl) (HALL.out _ (grown_drew HS9.out.1)) (fun hS => ?_)
          refine wpAnyH_take (i := 0) (oi := ⟨some 85, _, _, _, _, _⟩) (v := (.bool false)) rfl (by kernel_rfl) (by kernel_rfl) (by kernel_rfl) (fun _ _ _ h => h) (Or.inl ⟨by kernel_rfl, fun w' hSw => ?_⟩) hS ?_
          · go_simp
            all_goals first | rfl | simp | simp [hne]
          simp only [Act.put, List.setIfInBounds_toArray, List.set_cons_zero, List.set_cons_succ]
          refine wpAnyH_take (i := 1) (oi := ⟨some 86, _, _, _, _, _⟩) (v := (.bool false)) rfl (by kernel_rfl) (by kernel_rfl) (by kernel_rfl) (fun _ _ _ h => h) (Or.inl ⟨by kernel_rfl, fun w' hSw => ?_⟩) hS ?_
          · go_simp
            all_goals first | rfl | simp | simp [hne]
          simp only [Act.put, List.setIfInBounds_toArray, List.set_cons_zero, List.set_cons_succ]
          refine wpAnyH_take (i := 2) (oi := ⟨some 87, _, _, _, _, _⟩) (v := undef) rfl (by kernel_rfl) (by kernel_rfl) (by kernel_rfl) (fun _ _ _ h => h) (Or.inr ⟨by kernel_rfl, rfl⟩) hS ?_
          simp only [Act.put, List.setIfInBounds_toArray, List.set_cons_zero, List.set_cons_succ]
          refine wpAnyH_take (i := 3) (oi := ⟨some 88, _, _, _, _, _⟩) (v := (.bool false)) rfl (by kernel_rfl) (by kernel_rfl) (by kernel_rfl) (fun _ _ _ h => h) (Or.inl ⟨by kernel_rfl, fun w' hSw => ?_⟩) hS ?_
          · go_simp
            all_goals first | rfl | simp | simp [hne]
          simp only [Act.put, List.setIfInBounds_toArray, List.set_cons_zero, List.set_cons_succ]
          refine wpAnyH_take (i := 4) (oi := ⟨some 89, _, _, _, _, _⟩) (v := (.bool true)) rfl (by kernel_rfl) (by kernel_rfl) (by kernel_rfl) (fun _ _ _ h => h) (Or.inl ⟨by kernel_rfl, fun w' hSw => ?_⟩) hS ?_
          · go_simp
            all_goals first | rfl | simp | simp [hne]
          simp only [Act.put, List.setIfInBounds_toArray, List.set_cons_zero, List.set_cons_succ]
          refine wpAnyH_take (i := 5) (oi := ⟨some 90, _, _, _, _, _⟩) (v := (.bool true)) rfl (by kernel_rfl) (by kernel_rfl) (by kernel_rfl) (fun _ _ _ h => h) (Or.inl ⟨by kernel_rfl, fun w' hSw => ?_⟩) hS ?_
          · go_simp
            all_goals first | rfl | simp | simp [hne]
          simp only [Act.put, List.setIfInBounds_toArray, List.set_cons_zero, List.set_cons_succ]
          refine wpAnyH_take (i := 6) (oi := ⟨some 91, _, _, _, _, _⟩) (v := (.bool false)) rfl (by kernel_rfl) (by kernel_rfl) (by kernel_rfl) (fun _ _ _ h => h) (Or.inl ⟨by kernel_rfl, fun w' hSw => ?_⟩) hS ?_
          · go_simp
            all_goals first | rfl | simp | simp [hne]
          simp only [Act.put, List.setIfInBounds_toArray, List.set_cons_zero, List.set_cons_succ]
          refine wpAnyH_take (i := 7) (oi := ⟨some 92, _, _, _, _, _⟩) (v := (.bool false)) rfl (by kernel_rfl) (by kernel_rfl) (by kernel_rfl) (fun _ _ _ h => h) (Or.inl ⟨by kernel_rfl, fun w' hSw => ?_⟩) hS ?_
          · go_simp
            all_goals first | rfl | simp | simp [hne]
          simp only [Act.put, List.setIfInBounds_toArray, List.set_cons_zero, List.set_cons_succ]
          refine wpAnyH_take (i := 8) (oi := ⟨some 93, _, _, _, _, _⟩) (v := (.bool true)) rfl (by kernel_rfl) (by kernel_rfl) (by kernel_rfl) (fun _ _ _ h => h) (Or.inl ⟨by kernel_rfl, fun w' hSw => ?_⟩) hS ?_
          · go_simp
            all_goals first | rfl | simp | simp [hne]
          simp only [Act.put, List.setIfInBounds_toArray, List.set_cons_zero, List.set_cons_succ]
          refine wpAnyH_take (i := 9) (oi := ⟨some 94, _, _, _, _, _⟩) (v := (.bool true)) rfl (by kernel_rfl) (by kernel_rfl) (by kernel_rfl) (fun _ _ _ h => h) (Or.inl ⟨by kernel_rfl, fun w' hSw => ?_⟩) hS ?_
          · go_simp
            all_goals first | rfl | simp | simp [hne]
          simp only [Act.put, List.setIfInBounds_toArray, List.set_cons_zero, List.set_cons_succ]
          refine wpAnyH_take (i := 10) (oi := ⟨some 95, _, _, _, _, _⟩) (v := (.agg #[.int .i64 s, .int .i64 m, .string t, .slice an ns.length cn, .slice ak ks.length ck])) rfl (by kernel_rfl) (by kernel_rfl) (by kernel_rfl) (fun _ _ _ h => h) (Or.inl ⟨by kernel_rfl, fun w' hSw => ?_⟩) hS ?_
          · obtain ⟨s1, s2, s3, s4, s5, s6, s7, s8, s9, s10, s11, s12, s13, s14, s15, s16⟩ := hSw
            go_simp
            all_goals first | rfl | simp | simp [hne]
          simp only [Act.put, List.setIfInBounds_toArray, List.set_cons_zero, List.set_cons_succ]
          refine wpAnyH_take (i := 12) (oi := ⟨some 97, _, _, _, _, _⟩) (v := (.agg #[.int .i64 s', .int .i64 m', .string t', .slice an' ns'.length cn', .slice ak' ks'.length ck'])) rfl (by kernel_rfl) (by kernel_rfl) (by kernel_rfl) (fun _ _ _ h => h) (Or.inl ⟨by kernel_rfl, fun w' hSw => ?_⟩) hS ?_
          · obtain ⟨s1, s2, s3, s4, s5, s6, s7, s8, s9, s10, s11, s12, s13, s14, s15, s16⟩ := hSw
            go_simp
            all_goals first | rfl | simp | simp [hne]
          simp only [Act.put, List.setIfInBounds_toArray, List.set_cons_zero, List.set_cons_succ]
          refine wpAnyH_ready (rs := [11]) (by kernel_rfl) (by simp) ?_
          refine AllReadyH.cons (o := ⟨some 96, _, _, _, _, _⟩) rfl (fun K hK => ?_) AllReadyH.nil
          go_simp
          refine (HCA.out _ (by assumption)).mono ?_
          rintro e wa ⟨rfl, hSa⟩
          go_simp
          refine hK.out _ _ hSa (fun hS => ?_)
          clear hK
          refine wpAnyH_ready (rs := [13]) (by kernel_rfl) (by simp) ?_
          refine AllReadyH.cons (o := ⟨some 98, _, _, _, _, _⟩) rfl (fun K hK => ?_) AllReadyH.nil
          go_simp
          refine (HCB.out _ (by assumption)).mono ?_
          rintro e wa ⟨rfl, hSa⟩
          go_simp
          refine hK.out _ _ hSa (fun hS => ?_)
          clear hK
          refine wpAnyH_take (i := 14) (oi := ⟨some 99, _, _, _, _, _⟩) (v := (.bool true)) rfl (by kernel_rfl) (by kernel_rfl) (by kernel_rfl) (fun _ _ _ h => h) (Or.inl ⟨by kernel_rfl, fun w' hSw => ?_⟩) hS ?_
          · go_simp
            all_goals first | rfl | simp | simp [hne]
          simp only [Act.put, List.setIfInBounds_toArray, List.set_cons_zero, List.set_cons_succ]
          refine wpAnyH_take (i := 15) (oi := ⟨some 100, _, _, _, _, _⟩) (v := (.bool true)) rfl (by kernel_rfl) (by kernel_rfl) (by kernel_rfl) (fun _ _ _ h => h) (Or.inl ⟨by kernel_rfl, fun w' hSw => ?_⟩) hS ?_
          · go_simp
            all_goals first | rfl | simp | simp [hne]
          simp only [Act.put, List.setIfInBounds_toArray, List.set_cons_zero, List.set_cons_succ]
          refine wpAnyH_take (i := 16) (oi := ⟨some 101, _, _, _, _, _⟩) (v := (.bool true)) rfl (by kernel_rfl) (by kernel_rfl) (by kernel_rfl) (fun _ _ _ h => h) (Or.inl ⟨by kernel_rfl, fun w' hSw => ?_⟩) hS ?_
          · go_simp
            all_goals first | rfl | simp | simp [hne]
          simp only [Act.put, List.setIfInBounds_toArray, List.set_cons_zero, List.set_cons_succ]
          refine wpAnyH_take (i := 17) (oi := ⟨some 4, _, _, _, _, _⟩) (v := (.bool true)) rfl (by kernel_rfl) (by kernel_rfl) (by kernel_rfl) (fun _ _ _ h => h) (Or.inl ⟨by kernel_rfl, fun w' hSw => ?_⟩) hS ?_
          · go_simp
            all_goals first | rfl | simp | simp [hne]
          simp only [Act.put, List.setIfInBounds_toArray, List.set_cons_zero, List.set_cons_succ]
          refine wpAnyH_done (by kernel_rfl) ?_ _
          have HG := Lib.hid (grown_trans HG4.out hS.1)
          clear hS hne HCA HCB
          go_wp2
          go_ret
          exact ⟨rfl, HG.out⟩
      | true =>
        obtain rfl : y = false := by
          cases y with
          | false => rfl
          | true => exact absurd ⟨HX.out.1 (by first | trivial | rfl), HY.out.1 (by first | trivial | rfl)⟩ (less_both T T')
        have HL1 := Lib.hid (implLess w4 0 0 T' T2 _ _ HV4'.out HVC.out hbu' hbu2 HT4.out w9 HS9.out.1)
        obtain ⟨hGq, x0, x1, x2, x3, x4, y0, y1, y2, y3, y4, z0, z1, z2, z3, z4⟩ := HS9.out
        clear hGq
        go_wp2_with fail
        refine HL1.out.mono ?_
        rintro e w10 ⟨⟨z, rfl, hz⟩, hg10⟩
        have HZ := Lib.hid hz
        have HS10 := Lib.hid (HALL.out w10 (grown_trans HS9.out.1 hg10))
        clear x0 x1 x2 x3 x4 y0 y1 y2 y3 y4 z0 z1 z2 z3 z4 hz hg10 HL1 HS9
        cases z with
        | false =>
          have hne : ((showB T).toList == (showB T').toList) = false := by
            rw [← Bool.not_eq_true, showB_beq HOK.out HOK'.out]; exact fun h => h (.inl (HX.out.1 (by first | trivial | rfl)))
          obtain ⟨SA, hSA⟩ : ∃ S, S = showB T := ⟨_, rfl⟩
          obtain ⟨SB, hSB⟩ : ∃ S, S = showB T' := ⟨_, rfl⟩
          rw [← hSA, ← hSB] at hne
          have HSA := Lib.hid hSA
          have HSB := Lib.hid hSB
          clear hSA hSB
          have HCA := Lib.hid (fun (V : World) (hV : w4.grownBy V none ∧ V.cell? ⟨ab, 0, none⟩ = some (.int .i64 s) ∧ V.cell? ⟨ab, 1, none⟩ = some (.int .i64 m) ∧ V.cell? ⟨ab, 2, none⟩ = some (.string t) ∧ V.cell? ⟨ab, 3, none⟩ = some (.slice an ns.length cn) ∧ V.cell? ⟨ab, 4, none⟩ = some (.slice ak ks.length ck) ∧ V.cell? ⟨bb, 0, none⟩ = some (.int .i64 s') ∧ V.cell? ⟨bb, 1, none⟩ = some (.int .i64 m') ∧ V.cell? ⟨bb, 2, none⟩ = some (.string t') ∧ V.cell? ⟨bb, 3, none⟩ = some (.slice an' ns'.length cn') ∧ V.cell? ⟨bb, 4, none⟩ = some (.slice ak' ks'.length ck') ∧ V.cell? ⟨cb, 0, none⟩ = some (.int .i64 s2) ∧ V.cell? ⟨cb, 1, none⟩ = some (.int .i64 m2) ∧ V.cell? ⟨cb, 2, none⟩ = some (.string t2) ∧ V.cell? ⟨cb, 3, none⟩ = some (.slice an2 ns2.length cn2) ∧ V.cell? ⟨cb, 4, none⟩ = some (.slice ak2 ks2.length ck2)) => (implShow w4 0 T _ HV4.out hbu HT4.out HPW4.out V hV.1).mono (R' := fun e w' => e = .returned (.string SA) ∧ (w4.grownBy w' none ∧ w'.cell? ⟨ab, 0, none⟩ = some (.int .i64 s) ∧ w'.cell? ⟨ab, 1, none⟩ = some (.int .i64 m) ∧ w'.cell? ⟨ab, 2, none⟩ = some (.string t) ∧ w'.cell? ⟨ab, 3, none⟩ = some (.slice an ns.length cn) ∧ w'.cell? ⟨ab, 4, none⟩ = some (.slice ak ks.length ck) ∧ w'.cell? ⟨bb, 0, none⟩ = some (.int .i64 s') ∧ w'.cell? ⟨bb, 1, none⟩ = some (.int .i64 m') ∧ w'.cell? ⟨bb, 2, none⟩ = some (.string t') ∧ w'.cell? ⟨bb, 3, none⟩ = some (.slice an' ns'.length cn') ∧ w'.cell? ⟨bb, 4, none⟩ = some (.slice ak' ks'.length ck') ∧ w'.cell? ⟨cb, 0, none⟩ = some (.int .i64 s2) ∧ w'.cell? ⟨cb, 1, none⟩ = some (.int .i64 m2) ∧ w'.cell? ⟨cb, 2, none⟩ = some (.string t2) ∧ w'.cell? ⟨cb, 3, none⟩ = some (.slice an2 ns2.length cn2) ∧ w'.cell? ⟨cb, 4, none⟩ = some (.slice ak2 ks2.length ck2))) (fun e w' q => by
            obtain ⟨S1, rfl, h1, h2⟩ := q
            rw [h1.one (.inl ⟨HOK.out, HSA.out⟩)]
            exact ⟨rfl, HALL.out w' (grown_trans hV.1 h2)⟩))
          have HCB := Lib.hid (fun (V : World) (hV : w4.grownBy V none ∧ V.cell? ⟨ab, 0, none⟩ = some (.int .i64 s) ∧ V.cell? ⟨ab, 1, none⟩ = some (.int .i64 m) ∧ V.cell? ⟨ab, 2, none⟩ = some (.string t) ∧ V.cell? ⟨ab, 3, none⟩ = some (.slice an ns.length cn) ∧ V.cell? ⟨ab, 4, none⟩ = some (.slice ak ks.length ck) ∧ V.cell? ⟨bb, 0, none⟩ = some (.int .i64 s') ∧ V.cell? ⟨bb, 1, none⟩ = some (.int .i64 m') ∧ V.cell? ⟨bb, 2, none⟩ = some (.string t') ∧ V.cell? ⟨bb, 3, none⟩ = some (.slice an' ns'.length cn') ∧ V.cell? ⟨bb, 4, none⟩ = some (.slice ak' ks'.length ck') ∧ V.cell? ⟨cb, 0, none⟩ = some (.int .i64 s2) ∧ V.cell? ⟨cb, 1, none⟩ = some (.int .i64 m2) ∧ V.cell? ⟨cb, 2, none⟩ = some (.string t2) ∧ V.cell? ⟨cb, 3, none⟩ = some (.slice an2 ns2.length cn2) ∧ V.cell? ⟨cb, 4, none⟩ = some (.slice ak2 ks2.length ck2)) => (implShow w4 0 T' _ HV4'.out hbu' HT4.out HPW4.out V hV.1).mono (R' := fun e w' => e = .returned (.string SB) ∧ (w4.grownBy w' none ∧ w'.cell? ⟨ab, 0, none⟩ = some (.int .i64 s) ∧ w'.cell? ⟨ab, 1, none⟩ = some (.int .i64 m) ∧ w'.cell? ⟨ab, 2, none⟩ = some (.string t) ∧ w'.cell? ⟨ab, 3, none⟩ = some (.slice an ns.length cn) ∧ w'.cell? ⟨ab, 4, none⟩ = some (.slice ak ks.length ck) ∧ w'.cell? ⟨bb, 0, none⟩ = some (.int .i64 s') ∧ w'.cell? ⟨bb, 1, none⟩ = some (.int .i64 m') ∧ w'.cell? ⟨bb, 2, none⟩ = some (.string t') ∧ w'.cell? ⟨bb, 3, none⟩ = some (.slice an' ns'.length cn') ∧ w'.cell? ⟨bb, 4, none⟩ = some (.slice ak' ks'.length ck') ∧ w'.cell? ⟨cb, 0, none⟩ = some (.int .i64 s2) ∧ w'.cell? ⟨cb, 1, none⟩ = some (.int .i64 m2) ∧ w'.cell? ⟨cb, 2, none⟩ = some (.string t2) ∧ w'.cell? ⟨cb, 3, none⟩ = some (.slice an2 ns2.length cn2) ∧ w'.cell? ⟨cb, 4, none⟩ = some (.slice ak2 ks2.length ck2))) (fun e w' q => by
            obtain ⟨S1, rfl, h1, h2⟩ := q
            rw [h1.one (.inl ⟨HOK'.out, HSB.out⟩)]
            exact ⟨rfl, HALL.out w' (grown_trans hV.1 h2)⟩))
          go_wp2
          refine wp_region_held_drew (S := fun w' => w4.grownBy w' none ∧ w'.cell? ⟨ab, 0, none⟩ = some (.int .i64 s) ∧ w'.cell? ⟨ab, 1, none⟩ = some (.int .i64 m) ∧ w'.cell? ⟨ab, 2, none⟩ = some (.string t) ∧ w'.cell? ⟨ab, 3, none⟩ = some (.slice an ns.length cn) ∧ w'.cell? ⟨ab, 4, none⟩ = some (.slice ak ks.length ck) ∧ w'.cell? ⟨bb, 0, none⟩ = some (.int .i64 s') ∧ w'.cell? ⟨bb, 1, none⟩ = some (.int .i64 m') ∧ w'.cell? ⟨bb, 2, none⟩ = some (.string t') ∧ w'.cell? ⟨bb, 3, none⟩ = some (.slice an' ns'.length cn') ∧ w'.cell? ⟨bb, 4, none⟩ = some (.slice ak' ks'.length ck') ∧ w'.cell? ⟨cb, 0, none⟩ = some (.int .i64 s2) ∧ w'.cell? ⟨cb, 1, none⟩ = some (.int .i64 m2) ∧ w'.cell? ⟨cb, 2, none⟩ = some (.string t2) ∧ w'.cell? ⟨cb, 3, none⟩ = some (.slice an2 ns2.length cn2) ∧ w'.cell? ⟨cb, 4, none⟩ = some (.slice ak2 ks2.length ck2)) (by kernel_rfl) (HALL.out _ (grown_drew HS10.out.1)) (fun hS => ?_)
          refine wpAnyH_take (i := 0) (oi := ⟨some 85, _, _, _, _, _⟩) (v := (.bool true)) rfl (by kernel_rfl) (by kernel_rfl) (by kernel_rfl) (fun _ _ _ h => h) (Or.inl ⟨by kernel_rfl, fun w' hSw => ?_⟩) hS ?_
          · go_simp
            all_goals first | rfl | simp | simp [hne]
          simp only [Act.put, List.setIfInBounds_toArray, List.set_cons_zero, List.set_cons_succ]
          refine wpAnyH_take (i := 1) (oi := ⟨some 86, _, _, _, _, _⟩) (v := (.bool true)) rfl (by kernel_rfl) (by kernel_rfl) (by kernel_rfl) (fun _ _ _ h => h) (Or.inl ⟨by kernel_rfl, fun w' hSw => ?_⟩) hS ?_
          · go_simp
            all_goals first | rfl | simp | simp [hne]
          simp only [Act.put, List.setIfInBounds_toArray, List.set_cons_zero, List.set_cons_succ]
          refine wpAnyH_take (i := 2) (oi := ⟨some 87, _, _, _, _, _⟩) (v := (.bool false)) rfl (by kernel_rfl) (by kernel_rfl) (by kernel_rfl) (fun _ _ _ h => h) (Or.inl ⟨by kernel_rfl, fun w' hSw => ?_⟩) hS ?_
          · go_simp
            all_goals first | rfl | simp | simp [hne]
          simp only [Act.put, List.setIfInBounds_toArray, List.set_cons_zero, List.set_cons_succ]
          refine wpAnyH_take (i := 3) (oi := ⟨some 88, _, _, _, _, _⟩) (v := (.bool false)) rfl (by kernel_rfl) (by kernel_rfl) (by kernel_rfl) (fun _ _ _ h => h) (Or.inl ⟨by kernel_rfl, fun w' hSw => ?_⟩) hS ?_
          · go_simp
            all_goals first | rfl | simp | simp [hne]
          simp only [Act.put, List.setIfInBounds_toArray, List.set_cons_zero, List.set_cons_succ]
          refine wpAnyH_take (i := 4) (oi := ⟨some 89, _, _, _, _, _⟩) (v := (.bool true)) rfl (by kernel_rfl) (by kernel_rfl) (by kernel_rfl) (fun _ _ _ h => h) (Or.inl ⟨by kernel_rfl, fun w' hSw => ?_⟩) hS ?_
          · go_simp
            all_goals first | rfl | simp | simp [hne]
          simp only [Act.put, List.setIfInBounds_toArray, List.set_cons_zero, List.set_cons_succ]
          refine wpAnyH_take (i := 5) (oi := ⟨some 90, _, _, _, _, _⟩) (v := (.bool true)) rfl (by kernel_rfl) (by kernel_rfl) (by kernel_rfl) (fun _ _ _ h => h) (Or.inl ⟨by kernel_rfl, fun w' hSw => ?_⟩) hS ?_
          · go_simp
            all_goals first | rfl | simp | simp [hne]
          simp only [Act.put, List.setIfInBounds_toArray, List.set_cons_zero, List.set_cons_succ]
          refine wpAnyH_take (i := 6) (oi := ⟨some 91, _, _, _, _, _⟩) (v := (.bool true)) rfl (by kernel_rfl) (by kernel_rfl) (by kernel_rfl) (fun _ _ _ h => h) (Or.inl ⟨by kernel_rfl, fun w' hSw => ?_⟩) hS ?_
          · go_simp
            all_goals first | rfl | simp | simp [hne]
          simp only [Act.put, List.setIfInBounds_toArray, List.set_cons_zero, List.set_cons_succ]
          refine wpAnyH_take (i := 7) (oi := ⟨some 92, _, _, _, _, _⟩) (v := (.bool true)) rfl (by kernel_rfl) (by kernel_rfl) (by kernel_rfl) (fun _ _ _ h => h) (Or.inl ⟨by kernel_rfl, fun w' hSw => ?_⟩) hS ?_
          · go_simp
            all_goals first | rfl | simp | simp [hne]
          simp only [Act.put, List.setIfInBounds_toArray, List.set_cons_zero, List.set_cons_succ]
          refine wpAnyH_take (i := 8) (oi := ⟨some 93, _, _, _, _, _⟩) (v := undef) rfl (by kernel_rfl) (by kernel_rfl) (by kernel_rfl) (fun _ _ _ h => h) (Or.inr ⟨by kernel_rfl, rfl⟩) hS ?_
          simp only [Act.put, List.setIfInBounds_toArray, List.set_cons_zero, List.set_cons_succ]
          refine wpAnyH_take (i := 9) (oi := ⟨some 94, _, _, _, _, _⟩) (v := (.bool true)) rfl (by kernel_rfl) (by kernel_rfl) (by kernel_rfl) (fun _ _ _ h => h) (Or.inl ⟨by kernel_rfl, fun w' hSw => ?_⟩) hS ?_
          · go_simp
            all_goals first | rfl | simp | simp [hne]
          simp only [Act.put, List.setIfInBounds_toArray, List.set_cons_zero, List.set_cons_succ]
          refine wpAnyH_take (i := 10) (oi := ⟨some 95, _, _, _, _, _⟩) (v := (.agg #[.int .i64 s, .int .i64 m, .string t, .slice an ns.length cn, .slice ak ks.length ck])) rfl (by kernel_rfl) (by kernel_rfl) (by kernel_rfl) (fun _ _ _ h => h) (Or.inl ⟨by kernel_rfl, fun w' hSw => ?_⟩) hS ?_
          · obtain ⟨s1, s2, s3, s4, s5, s6, s7, s8, s9, s10, s11, s12, s13, s14, s15, s16⟩ := hSw
            go_simp
            all_goals first | rfl | simp | simp [hne]
          simp only [Act.put, List.setIfInBounds_toArray, List.set_cons_zero, List.set_cons_succ]
          refine wpAnyH_take (i := 12) (oi := ⟨some 97, _, _, _, _, _⟩) (v := (.agg #[.int .i64 s', .int .i64 m', .string t', .slice an' ns'.length cn', .slice ak' ks'.length ck'])) rfl (by kernel_rfl) (by kernel_rfl) (by kernel_rfl) (fun _ _ _ h => h) (Or.inl ⟨by kernel_rfl, fun w' hSw => ?_⟩) hS ?_
          · obtain ⟨s1, s2, s3, s4, s5, s6, s7, s8, s9, s10, s11, s12, s13, s14, s15, s16⟩ := hSw
            go_simp
            all_goals first | rfl | simp | simp [hne]
          simp only [Act.put, List.setIfInBounds_toArray, List.set_cons_zero, List.set_cons_succ]
          refine wpAnyH_ready (rs := [11]) (by kernel_rfl) (by simp) ?_
          refine AllReadyH.cons (o := ⟨some 96, _, _, _, _, _⟩) rfl (fun K hK => ?_) AllReadyH.nil
          go_simp
          refine (HCA.out _ (by assumption)).mono ?_
          rintro e wa ⟨rfl, hSa⟩
          go_simp
          refine hK.out _ _ hSa (fun hS => ?_)
          clear hK
          refine wpAnyH_ready (rs := [13]) (by kernel_rfl) (by simp) ?_
          refine AllReadyH.cons (o := ⟨some 98, _, _, _, _, _⟩) rfl (fun K hK => ?_) AllReadyH.nil
          go_simp
          refine (HCB.out _ (by assumption)).mono ?_
          rintro e wa ⟨rfl, hSa⟩
          go_simp
          refine hK.out _ _ hSa (fun hS => ?_)
          clear hK
          refine wpAnyH_take (i := 14) (oi := ⟨some 99, _, _, _, _, _⟩) (v := (.bool true)) rfl (by kernel_rfl) (by kernel_rfl) (by kernel_rfl) (fun _ _ _ h => h) (Or.inl ⟨by kernel_rfl, fun w' hSw => ?_⟩) hS ?_
          · go_simp
            all_goals first | rfl | simp | simp [hne]
          simp only [Act.put, List.setIfInBounds_toArray, List.set_cons_zero, List.set_cons_succ]
          refine wpAnyH_take (i := 15) (oi := ⟨some 100, _, _, _, _, _⟩) (v := (.bool true)) rfl (by kernel_rfl) (by kernel_rfl) (by kernel_rfl) (fun _ _ _ h => h) (Or.inl ⟨by kernel_rfl, fun w' hSw => ?_⟩) hS ?_
          · go_simp
            all_goals first | rfl | simp | simp [hne]
          simp only [Act.put, List.setIfInBounds_toArray, List.set_cons_zero, List.set_cons_succ]
          refine wpAnyH_take (i := 16) (oi := ⟨some 101, _, _, _, _, _⟩) (v := (.bool true)) rfl (by kernel_rfl) (by kernel_rfl) (by kernel_rfl) (fun _ _ _ h => h) (Or.inl ⟨by kernel_rfl, fun w' hSw => ?_⟩) hS ?_
          · go_simp
            all_goals first | rfl | simp | simp [hne]
          simp only [Act.put, List.setIfInBounds_toArray, List.set_cons_zero, List.set_cons_succ]
          refine wpAnyH_take (i := 17) (oi := ⟨some 4, _, _, _, _, _⟩) (v := (.bool true)) rfl (by kernel_rfl) (by kernel_rfl) (by kernel_rfl) (fun _ _ _ h => h) (Or.inl ⟨by kernel_rfl, fun w' hSw => ?_⟩) hS ?_
          · go_simp
            all_goals first | rfl | simp | simp [hne]
          simp only [Act.put, List.setIfInBounds_toArray, List.set_cons_zero, List.set_cons_succ]
          refine wpAnyH_done (by kernel_rfl) ?_ _
          have HG := Lib.hid (grown_trans HG4.out hS.1)
          clear hS hne HCA HCB
          go_wp2
          go_ret
          exact ⟨rfl, HG.out⟩
        | true =>
          have HLT := Lib.hid (less_trans (HX.out.1 (by first | trivial | rfl)) (HZ.out.1 (by first | trivial | rfl)))
          have HL2 := Lib.hid ((implLess w4 0 0 T T2 _ _ HV4.out HVC.out hbu hbu2 HT4.out w10 HS10.out.1).mono (R' := fun e w' => e = .returned (.bool true) ∧ w10.grownBy w' none) (fun e w' q => ⟨q.1.is_yes HLT.out, q.2⟩))
          obtain ⟨hGq, x0, x1, x2, x3, x4, y0, y1, y2, y3, y4, z0, z1, z2, z3, z4⟩ := HS10.out
          clear hGq
          go_wp2_with fail
          refine HL2.out.mono ?_
          rintro e w11 ⟨rfl, hg11⟩
          have HS11 := Lib.hid (HALL.out w11 (grown_trans HS10.out.1 hg11))
          clear x0 x1 x2 x3 x4 y0 y1 y2 y3 y4 z0 z1 z2 z3 z4 hg11 HL2 HS10
          have hne : ((showB T).toList == (showB T').toList) = false := by
            rw [← Bool.not_eq_true, showB_beq HOK.out HOK'.out]; exact fun h => h (.inl (HX.out.1 (by first | trivial | rfl)))
          obtain ⟨SA, hSA⟩ : ∃ S, S = showB T := ⟨_, rfl⟩
          obtain ⟨SB, hSB⟩ : ∃ S, S = showB T' := ⟨_, rfl⟩
          rw [← hSA, ← hSB] at hne
          have HSA := Lib.hid hSA
          have HSB := Lib.hid hSB
          clear hSA hSB
          have HCA := Lib.hid (fun (V : World) (hV : w4.grownBy V none ∧ V.cell? ⟨ab, 0, none⟩ = some (.int .i64 s) ∧ V.cell? ⟨ab, 1, none⟩ = some (.int .i64 m) ∧ V.cell? ⟨ab, 2, none⟩ = some (.string t) ∧ V.cell? ⟨ab, 3, none⟩ = some (.slice an ns.length cn) ∧ V.cell? ⟨ab, 4, none⟩ = some (.slice ak ks.length ck) ∧ V.cell? ⟨bb, 0, none⟩ = some (.int .i64 s') ∧ V.cell? ⟨bb, 1, none⟩ = some (.int .i64 m') ∧ V.cell? ⟨bb, 2, none⟩ = some (.string t') ∧ V.cell? ⟨bb, 3, none⟩ = some (.slice an' ns'.length cn') ∧ V.cell? ⟨bb, 4, none⟩ = some (.slice ak' ks'.length ck') ∧ V.cell? ⟨cb, 0, none⟩ = some (.int .i64 s2) ∧ V.cell? ⟨cb, 1, none⟩ = some (.int .i64 m2) ∧ V.cell? ⟨cb, 2, none⟩ = some (.string t2) ∧ V.cell? ⟨cb, 3, none⟩ = some (.slice an2 ns2.length cn2) ∧ V.cell? ⟨cb, 4, none⟩ = some (.slice ak2 ks2.length ck2)) => (implShow w4 0 T _ HV4.out hbu HT4.out HPW4.out V hV.1).mono (R' := fun e w' => e = .returned (.string SA) ∧ (w4.grownBy w' none ∧ w'.cell? ⟨ab, 0, none⟩ = some (.int .i64 s) ∧ w'.cell? ⟨ab, 1, none⟩ = some (.int .i64 m) ∧ w'.cell? ⟨ab, 2, none⟩ = some (.string t) ∧ w'.cell? ⟨ab, 3, none⟩ = some (.slice an ns.length cn) ∧ w'.cell? ⟨ab, 4, none⟩ = some (.slice ak ks.length ck) ∧ w'.cell? ⟨bb, 0, none⟩ = some (.int .i64 s') ∧ w'.cell? ⟨bb, 1, none⟩ = some (.int .i64 m') ∧ w'.cell? ⟨bb, 2, none⟩ = some (.string t') ∧ w'.cell? ⟨bb, 3, none⟩ = some (.slice an' ns'.length cn') ∧ w'.cell? ⟨bb, 4, none⟩ = some (.slice ak' ks'.length ck') ∧ w'.cell? ⟨cb, 0, none⟩ = some (.int .i64 s2) ∧ w'.cell? ⟨cb, 1, none⟩ = some (.int .i64 m2) ∧ w'.cell? ⟨cb, 2, none⟩ = some (.string t2) ∧ w'.cell? ⟨cb, 3, none⟩ = some (.slice an2 ns2.length cn2) ∧ w'.cell? ⟨cb, 4, none⟩ = some (.slice ak2 ks2.length ck2))) (fun e w' q => by
            obtain ⟨S1, rfl, h1, h2⟩ := q
            rw [h1.one (.inl ⟨HOK.out, HSA.out⟩)]
            exact ⟨rfl, HALL.out w' (grown_trans hV.1 h2)⟩))
          have HCB := Lib.hid (fun (V : World) (hV : w4.grownBy V none ∧ V.cell? ⟨ab, 0, none⟩ = some (.int .i64 s) ∧ V.cell? ⟨ab, 1, none⟩ = some (.int .i64 m) ∧ V.cell? ⟨ab, 2, none⟩ = some (.string t) ∧ V.cell? ⟨ab, 3, none⟩ = some (.slice an ns.length cn) ∧ V.cell? ⟨ab, 4, none⟩ = some (.slice ak ks.length ck) ∧ V.cell? ⟨bb, 0, none⟩ = some (.int .i64 s') ∧ V.cell? ⟨bb, 1, none⟩ = some (.int .i64 m') ∧ V.cell? ⟨bb, 2, none⟩ = some (.string t') ∧ V.cell? ⟨bb, 3, none⟩ = some (.slice an' ns'.length cn') ∧ V.cell? ⟨bb, 4, none⟩ = some (.slice ak' ks'.length ck') ∧ V.cell? ⟨cb, 0, none⟩ = some (.int .i64 s2) ∧ V.cell? ⟨cb, 1, none⟩ = some (.int .i64 m2) ∧ V.cell? ⟨cb, 2, none⟩ = some (.string t2) ∧ V.cell? ⟨cb, 3, none⟩ = some (.slice an2 ns2.length cn2) ∧ V.cell? ⟨cb, 4, none⟩ = some (.slice ak2 ks2.length ck2)) => (implShow w4 0 T' _ HV4'.out hbu' HT4.out HPW4.out V hV.1).mono (R' := fun e w' => e = .returned (.string SB) ∧ (w4.grownBy w' none ∧ w'.cell? ⟨ab, 0, none⟩ = some (.int .i64 s) ∧ w'.cell? ⟨ab, 1, none⟩ = some (.int .i64 m) ∧ w'.cell? ⟨ab, 2, none⟩ = some (.string t) ∧ w'.cell? ⟨ab, 3, none⟩ = some (.slice an ns.length cn) ∧ w'.cell? ⟨ab, 4, none⟩ = some (.slice ak ks.length ck) ∧ w'.cell? ⟨bb, 0, none⟩ = some (.int .i64 s') ∧ w'.cell? ⟨bb, 1, none⟩ = some (.int .i64 m') ∧ w'.cell? ⟨bb, 2, none⟩ = some (.string t') ∧ w'.cell? ⟨bb, 3, none⟩ = some (.slice an' ns'.length cn') ∧ w'.cell? ⟨bb, 4, none⟩ = some (.slice ak' ks'.length ck') ∧ w'.cell? ⟨cb, 0, none⟩ = some (.int .i64 s2) ∧ w'.cell? ⟨cb, 1, none⟩ = some (.int .i64 m2) ∧ w'.cell? ⟨cb, 2, none⟩ = some (.string t2) ∧ w'.cell? ⟨cb, 3, none⟩ = some (.slice an2 ns2.length cn2) ∧ w'.cell? ⟨cb, 4, none⟩ = some (.slice ak2 ks2.length ck2))) (fun e w' q => by
            obtain ⟨S1, rfl, h1, h2⟩ := q
            rw [h1.one (.inl ⟨HOK'.out, HSB.out⟩)]
            exact ⟨rfl, HALL.out w' (grown_trans hV.1 h2)⟩))
          go_wp2
          refine wp_region_held_drew (S := fun w' => w4.grownBy w' none ∧ w'.cell? ⟨ab, 0, none⟩ = some (.int .i64 s) ∧ w'.cell? ⟨ab, 1, none⟩ = some (.int .i64 m) ∧ w'.cell? ⟨ab, 2, none⟩ = some (.string t) ∧ w'.cell? ⟨ab, 3, none⟩ = some (.slice an ns.length cn) ∧ w'.cell? ⟨ab, 4, none⟩ = some (.slice ak ks.length ck) ∧ w'.cell? ⟨bb, 0, none⟩ = some (.int .i64 s') ∧ w'.cell? ⟨bb, 1, none⟩ = some (.int .i64 m') ∧ w'.cell? ⟨bb, 2, none⟩ = some (.string t') ∧ w'.cell? ⟨bb, 3, none⟩ = some (.slice an' ns'.length cn') ∧ w'.cell? ⟨bb, 4, none⟩ = some (.slice ak' ks'.length ck') ∧ w'.cell? ⟨cb, 0, none⟩ = some (.int .i64 s2) ∧ w'.cell? ⟨cb, 1, none⟩ = some (.int .i64 m2) ∧ w'.cell? ⟨cb, 2, none⟩ = some (.string t2) ∧ w'.cell? ⟨cb, 3, none⟩ = some (.slice an2 ns2.length cn2) ∧ w'.cell? ⟨cb, 4, none⟩ = some (.slice ak2 ks2.length ck2)) (by kernel_rfl) (HALL.out _ (grown_drew HS11.out.1)) (fun hS => ?_)
          refine wpAnyH_take (i := 0) (oi := ⟨some 85, _, _, _, _, _⟩) (v := (.bool true)) rfl (by kernel_rfl) (by kernel_rfl) (by kernel_rfl) (fun _ _ _ h => h) (Or.inl ⟨by kernel_rfl, fun w' hSw => ?_⟩) hS ?_
          · go_simp
            all_goals first | rfl | simp | simp [hne]
          simp only [Act.put, List.setIfInBounds_toArray, List.set_cons_zero, List.set_cons_succ]
          refine wpAnyH_take (i := 1) (oi := ⟨some 86, _, _, _, _, _⟩) (v := (.bool true)) rfl (by kernel_rfl) (by kernel_rfl) (by kernel_rfl) (fun _ _ _ h => h) (Or.inl ⟨by kernel_rfl, fun w' hSw => ?_⟩) hS ?_
          · go_simp
            all_goals first | rfl | simp | simp [hne]
          simp only [Act.put, List.setIfInBounds_toArray, List.set_cons_zero, List.set_cons_succ]
          refine wpAnyH_take (i := 2) (oi := ⟨some 87, _, _, _, _, _⟩) (v := (.bool false)) rfl (by kernel_rfl) (by kernel_rfl) (by kernel_rfl) (fun _ _ _ h => h) (Or.inl ⟨by kernel_rfl, fun w' hSw => ?_⟩) hS ?_
          · go_simp
            all_goals first | rfl | simp | simp [hne]
          simp only [Act.put, List.setIfInBounds_toArray, List.set_cons_zero, List.set_cons_succ]
          refine wpAnyH_take (i := 3) (oi := ⟨some 88, _, _, _, _, _⟩) (v := (.bool false)) rfl (by kernel_rfl) (by kernel_rfl) (by kernel_rfl) (fun _ _ _ h => h) (Or.inl ⟨by kernel_rfl, fun w' hSw => ?_⟩) hS ?_
          · go_simp
            all_goals first | rfl | simp | simp [hne]
          simp only [Act.put, List.setIfInBounds_toArray, List.set_cons_zero, List.set_cons_succ]
          refine wpAnyH_take (i := 4) (oi := ⟨some 89, _, _, _, _, _⟩) (v := (.bool true)) rfl (by kernel_rfl) (by kernel_rfl) (by kernel_rfl) (fun _ _ _ h => h) (Or.inl ⟨by kernel_rfl, fun w' hSw => ?_⟩) hS ?_
          · go_simp
            all_goals first | rfl | simp | simp [hne]
          simp only [Act.put, List.setIfInBounds_toArray, List.set_cons_zero, List.set_cons_succ]
          refine wpAnyH_take (i := 5) (oi := ⟨some 90, _, _, _, _, _⟩) (v := (.bool true)) rfl (by kernel_rfl) (by kernel_rfl) (by kernel_rfl) (fun _ _ _ h => h) (Or.inl ⟨by kernel_rfl, fun w' hSw => ?_⟩) hS ?_
          · go_simp
            all_goals first | rfl | simp | simp [hne]
          simp only [Act.put, List.setIfInBounds_toArray, List.set_cons_zero, List.set_cons_succ]
          refine wpAnyH_take (i := 6) (oi := ⟨some 91, _, _, _, _, _⟩) (v := (.bool true)) rfl (by kernel_rfl) (by kernel_rfl) (by kernel_rfl) (fun _ _ _ h => h) (Or.inl ⟨by kernel_rfl, fun w' hSw => ?_⟩) hS ?_
          · go_simp
            all_goals first | rfl | simp | simp [hne]
          simp only [Act.put, List.setIfInBounds_toArray, List.set_cons_zero, List.set_cons_succ]
          refine wpAnyH_take (i := 7) (oi := ⟨some 92, _, _, _, _, _⟩) (v := (.bool true)) rfl (by kernel_rfl) (by kernel_rfl) (by kernel_rfl) (fun _ _ _ h => h) (Or.inl ⟨by kernel_rfl, fun w' hSw => ?_⟩) hS ?_
          · go_simp
            all_goals first | rfl | simp | simp [hne]
          simp only [Act.put, List.setIfInBounds_toArray, List.set_cons_zero, List.set_cons_succ]
          refine wpAnyH_take (i := 8) (oi := ⟨some 93, _, _, _, _, _⟩) (v := undef) rfl (by kernel_rfl) (by kernel_rfl) (by kernel_rfl) (fun _ _ _ h => h) (Or.inr ⟨by kernel_rfl, rfl⟩) hS ?_
          simp only [Act.put, List.setIfInBounds_toArray, List.set_cons_zero, List.set_cons_succ]
          refine wpAnyH_take (i := 9) (oi := ⟨some 94, _, _, _, _, _⟩) (v := (.bool true)) rfl (by kernel_rfl) (by kernel_rfl) (by kernel_rfl) (fun _ _ _ h => h) (Or.inl ⟨by kernel_rfl, fun w' hSw => ?_⟩) hS ?_
          · go_simp
            all_goals first | rfl | simp | simp [hne]
          simp only [Act.put, List.setIfInBounds_toArray, List.set_cons_zero, List.set_cons_succ]
          refine wpAnyH_take (i := 10) (oi := ⟨some 95, _, _, _, _, _⟩) (v := (.agg #[.int .i64 s, .int .i64 m, .string t, .slice an ns.length cn, .slice ak ks.length ck])) rfl (by kernel_rfl) (by kernel_rfl) (by kernel_rfl) (fun _ _ _ h => h) (Or.inl ⟨by kernel_rfl, fun w' hSw => ?_⟩) hS ?_
          · obtain ⟨s1, s2, s3, s4, s5, s6, s7, s8, s9, s10, s11, s12, s13, s14, s15, s16⟩ := hSw
            go_simp
            all_goals first | rfl | simp | simp [hne]
          simp only [Act.put, List.setIfInBounds_toArray, List.set_cons_zero, List.set_cons_succ]
          refine wpAnyH_take (i := 12) (oi := ⟨some 97, _, _, _, _, _⟩) (v := (.agg #[.int .i64 s', .int .i64 m', .string t', .slice an' ns'.length cn', .slice ak' ks'.length ck'])) rfl (by kernel_rfl) (by kernel_rfl) (by kernel_rfl) (fun _ _ _ h => h) (Or.inl ⟨by kernel_rfl, fun w' hSw => ?_⟩) hS ?_
          · obtain ⟨s1, s2, s3, s4, s5, s6, s7, s8, s9, s10, s11, s12, s13, s14, s15, s16⟩ := hSw
            go_simp
            all_goals first | rfl | simp | simp [hne]
          simp only [Act.put, List.setIfInBounds_toArray, List.set_cons_zero, List.set_cons_succ]
          refine wpAnyH_ready (rs := [11]) (by kernel_rfl) (by simp) ?_
          refine AllReadyH.cons (o := ⟨some 96, _, _, _, _, _⟩) rfl (fun K hK => ?_) AllReadyH.nil
          go_simp
          refine (HCA.out _ (by assumption)).mono ?_
          rintro e wa ⟨rfl, hSa⟩
          go_simp
          refine hK.out _ _ hSa (fun hS => ?_)
          clear hK
          refine wpAnyH_ready (rs := [13]) (by kernel_rfl) (by simp) ?_
          refine AllReadyH.cons (o := ⟨some 98, _, _, _, _, _⟩) rfl (fun K hK => ?_) AllReadyH.nil
          go_simp
          refine (HCB.out _ (by assumption)).mono ?_
          rintro e wa ⟨rfl, hSa⟩
          go_simp
          refine hK.out _ _ hSa (fun hS => ?_)
          clear hK
          refine wpAnyH_take (i := 14) (oi := ⟨some 99, _, _, _, _, _⟩) (v := (.bool true)) rfl (by kernel_rfl) (by kernel_rfl) (by kernel_rfl) (fun _ _ _ h => h) (Or.inl ⟨by kernel_rfl, fun w' hSw => ?_⟩) hS ?_
          · go_simp
            all_goals first | rfl | simp | simp [hne]
          simp only [Act.put, List.setIfInBounds_toArray, List.set_cons_zero, List.set_cons_succ]
          refine wpAnyH_take (i := 15) (oi := ⟨some 100, _, _, _, _, _⟩) (v := (.bool true)) rfl (by kernel_rfl) (by kernel_rfl) (by kernel_rfl) (fun _ _ _ h => h) (Or.inl ⟨by kernel_rfl, fun w' hSw => ?_⟩) hS ?_
          · go_simp
            all_goals first | rfl | simp | simp [hne]
          simp only [Act.put, List.setIfInBounds_toArray, List.set_cons_zero, List.set_cons_succ]
          refine wpAnyH_take (i := 16) (oi := ⟨some 101, _, _, _, _, _⟩) (v := (.bool true)) rfl (by kernel_rfl) (by kernel_rfl) (by kernel_rfl) (fun _ _ _ h => h) (Or.inl ⟨by kernel_rfl, fun w' hSw => ?_⟩) hS ?_
          · go_simp
            all_goals first | rfl | simp | simp [hne]
          simp only [Act.put, List.setIfInBounds_toArray, List.set_cons_zero, List.set_cons_succ]
          refine wpAnyH_take (i := 17) (oi := ⟨some 4, _, _, _, _, _⟩) (v := (.bool true)) rfl (by kernel_rfl) (by kernel_rfl) (by kernel_rfl) (fun _ _ _ h => h) (Or.inl ⟨by kernel_rfl, fun w' hSw => ?_⟩) hS ?_
          · go_simp
            all_goals first | rfl | simp | simp [hne]
          simp only [Act.put, List.setIfInBounds_toArray, List.set_cons_zero, List.set_cons_succ]
          refine wpAnyH_done (by kernel_rfl) ?_ _
          have HG := Lib.hid (grown_trans HG4.out hS.1)
          clear hS hne HCA HCB
          go_wp2
          go_ret
          exact ⟨rfl, HG.out⟩
end Go.Proofs.YtgmigloafcejdaaGreatDoor
