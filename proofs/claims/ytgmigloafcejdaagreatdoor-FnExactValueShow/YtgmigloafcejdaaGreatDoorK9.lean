/- The program's check of a value, whole; ValueOk. -/
import Derived.Test.YtgmigloafcejdaaGreatDoorK8
namespace Go.Proofs.YtgmigloafcejdaaGreatDoor
open Go.RowKit

theorem inode_any (w : World) (base : Nat) (h2w : 2 ≤ w.heap.size) (T : VT) (cs : List Value) (h : VIn w base T cs) : bulk T ≤ 1048576 → ∀ W : World, w.grownBy W none → ∀ bc l p : Nat, w.heap.size ≤ bc → Cnt W bc l p → l ≤ 3 → p ≤ 16 → Tab W →
    Calls Tryz.prog 67 #[.pointer (some ⟨bc, 0, none⟩), .agg cs.toArray] W fun e w' => NodeR W w' w.heap.size bc l p T e := by
  induction h with
  | @mk s n t ns ks an ak cn ck CS hn hp hk hcn hck ht hcl hkl hsl hs1 hs2 hn1 hn2 ih =>
    intro hbu W hW bc l p hbc hct hl hp16 hT
    rw [bulk] at hbu
    have hx : NCtx w W bc l p := ⟨hW, hbc, hct, hT, h2w⟩
    have hnd := fun (W0 : World) (hW0 : w.grownBy W0 none) (bc L P : Nat) (hbc : w.heap.size ≤ bc) (hc : Cnt W0 bc L P) (hL : L ≤ 3) (hP : P ≤ 16) (hT : Tab W0) (hb2 : 2 ≤ bc) =>
      inodes_any w base ks ak ck (by omega) CS hp (fun j k hj => ih j k hj (by have := bulk_kid hj; omega)) (fun j k hj => (hk j k hj).shape) W0 hW0 bc L P hbc hc hL hP hT hb2
    by_cases hlp : l < 3 ∧ p < 16
    case neg => exact node_over w W bc l p hx hl hp16 hlp s n t ns ks an ak cn ck
    obtain ⟨hl3, hp3⟩ := hlp
    by_cases ho : HasOnly s n t ns.length ks.length
    case neg => exact node_parts w W bc l p hx hl3 hp3 s n t ns ks an ak cn ck ho
    have h7 : s = 1 ∨ s = 2 ∨ s = 3 ∨ s = 4 ∨ s = 5 ∨ s = 6 ∨ s = 7 := by have := ho.1; omega
    rcases h7 with rfl | rfl | rfl | rfl | rfl | rfl | rfl
    · exact node_1 w W bc l p hx hl3 hp3 n t ns ks an ak cn ck ho
    · by_cases hr : n = 0 ∨ n = 1
      · rcases hr with hr | hr
        · exact node_2a w W bc l p hx hl3 hp3 n t ns ks an ak cn ck ho hr
        · exact node_2b w W bc l p hx hl3 hp3 n t ns ks an ak cn ck ho hr
      · exact node_2n w W bc l p hx hl3 hp3 n t ns ks an ak cn ck ho hr
    · by_cases hr : InR (-999999) n 999999
      · exact node_3y w W bc l p hx hl3 hp3 n t ns ks an ak cn ck ho hr
      · exact node_3n w W bc l p hx hl3 hp3 n t ns ks an ak cn ck ho hr
    · by_cases hr : TextOk t
      · exact node_4y w W bc l p hx hl3 hp3 n t ns ks an ak cn ck ho (by omega) hr
      · exact node_4n w W bc l p hx hl3 hp3 n t ns ks an ak cn ck ho (by omega) hr
    · exact node_5 w W bc l p hx hl3 hp3 n t ns ks an ak cn ck ho hnd
    · exact node_6 w W bc l p hx hl3 hp3 n t ns ks an ak cn ck ho hnd base hn (by omega) (fun x hx => by have := bulkS_mem hx; omega) hcn
    · exact node_7 w W bc l p hx hl3 hp3 n t ns ks an ak cn ck ho

/-- what the check of a value answers -/
def CheckR (w W w' : World) (T : VT) (nv ev : Value) : Prop := (ev = .nilIface ∧ OkT T ∧ NIn w' (fun b => b < w.heap.size ∨ W.heap.size ≤ b) T nv) ∨ (Fault ev ∧ ¬ OkT T)

set_option maxRecDepth 100000 in
set_option maxHeartbeats 1000000 in
theorem nodeOf_any (w : World) (base : Nat) (T : VT) (cs : List Value) (h : VIn w base T cs) (hbu : bulk T ≤ 1048576) (hT : Tab w) (W : World) (hW : w.grownBy W none) :
    Calls Tryz.prog 35 #[.agg cs.toArray] W fun e w' => ∃ nv ev, e = .returned (.tuple #[nv, ev]) ∧ W.grownBy w' none ∧ CheckR w W w' T nv ev := by
  have HNO := Lib.hid (inode_any w base hT.lt T cs h hbu)
  obtain ⟨s, n, t, an, ln, cn, ak, lk, ck, hcs⟩ := h.shape
  subst hcs
  clear h
  have HGA := Lib.hid (show W.grownBy ((W.alloc (Obj.cells #[Value.int .i64 s, .int .i64 n, .string t, .slice an ln cn, .slice ak lk ck] 27)).alloc (Obj.cells #[Value.int .i64 0, .int .i64 0] 112)) none from grown_alloc (grown_alloc (grown_refl _ _) _) _)
  have HC := Lib.hid (show Cnt ((W.alloc (Obj.cells #[Value.int .i64 s, .int .i64 n, .string t, .slice an ln cn, .slice ak lk ck] 27)).alloc (Obj.cells #[Value.int .i64 0, .int .i64 0] 112)) (W.heap.size + 1) 0 0 from by
    have := Blk.new (W.alloc (Obj.cells #[Value.int .i64 s, .int .i64 n, .string t, .slice an ln cn, .slice ak lk ck] 27)) 112 [.int .i64 0, .int .i64 0]
    simpa [Cnt] using this)
  have hsz : w.heap.size ≤ W.heap.size := hW.size
  have HCA := Lib.hid (HNO.out _ (grown_trans hW HGA.out) (W.heap.size + 1) 0 0 (by omega) HC.out (by omega) (by omega) (hT.grown (grown_trans hW HGA.out)))
  clear HNO hT hW
  go_enter Tryz.func35, Tryz.ntmps35
  go_wp2_with fail
  refine HCA.out.mono ?_
  rintro e w1 ⟨nv, ev, rfl, hg1, hr⟩
  have HG1 := Lib.hid (grown_into HGA.out hg1 (by omega))
  have HR := Lib.hid (show CheckR w W w1 T nv ev from by
    rcases hr with ⟨rfl, hok, _, hn⟩ | ⟨hf, hno, _⟩
    · exact .inl ⟨rfl, ⟨hok.1, by have := hok.2; omega⟩, hn.wide (fun b h => h.elim .inl (fun h => .inr (by simp at h; omega)))⟩
    · exact .inr ⟨hf, fun h => hno ⟨h.1, by have := h.2; omega⟩⟩)
  clear hr hg1 HCA
  go_wp2
  go_ret2
  exact ⟨_, _, rfl, HG1.out, HR.out⟩

set_option maxRecDepth 100000 in
set_option maxHeartbeats 1000000 in
theorem implOk_any (w : World) (base : Nat) (T : VT) (cs : List Value) (h : VIn w base T cs) (hbu : bulk T ≤ 1048576) (hT : Tab w) (W : World) (hW : w.grownBy W none) :
    Calls Tryz.prog 15 #[.agg cs.toArray] W fun e w' => Says e (OkT T) ∧ W.grownBy w' none := by
  have HNO := Lib.hid (nodeOf_any w base T cs h hbu hT)
  obtain ⟨s, n, t, an, ln, cn, ak, lk, ck, hcs⟩ := h.shape
  subst hcs
  clear h
  have HGA := Lib.hid (show W.grownBy (W.alloc (Obj.cells #[Value.int .i64 s, .int .i64 n, .string t, .slice an ln cn, .slice ak lk ck] 27)) none from grown_alloc (grown_refl _ _) _)
  have HCA := Lib.hid (HNO.out _ (grown_trans hW HGA.out))
  have HT := Lib.hid (hT.grown hW)
  clear HNO hT hW
  go_enter Tryz.func15, Tryz.ntmps15
  go_wp2_with fail
  refine HCA.out.mono ?_
  rintro e w1 ⟨nv, ev, rfl, hg1, hr⟩
  have HG1 := Lib.hid (grown_trans HGA.out hg1)
  have HR := Lib.hid hr
  clear hr hg1 HCA
  rcases HR.out with ⟨rfl, hok, _⟩ | ⟨⟨q, rfl⟩, hno⟩
  · have HD := Lib.hid (show Says (.returned (.bool true)) (OkT T) from .yes hok)
    have HF := Lib.hid (faulty_nil w1)
    clear HR hok
    go_wp2_with fail
    refine HF.out.mono ?_
    rintro e w2 ⟨rfl, hg2⟩
    have HG2 := Lib.hid (grown_trans HG1.out hg2)
    clear hg2 HF
    go_wp2
    go_ret
    exact ⟨HD.out, HG2.out⟩
  · have HD := Lib.hid (show Says (.returned (.bool false)) (OkT T) from .no hno)
    have HF := Lib.hid (faulty_hit w1 (HT.out.grown HG1.out) q)
    clear HR hno
    go_wp2_with fail
    refine HF.out.mono ?_
    rintro e w2 ⟨rfl, hg2⟩
    have HG2 := Lib.hid (grown_trans HG1.out hg2)
    clear hg2 HF
    go_wp2
    go_ret
    exact ⟨HD.out, HG2.out⟩
end Go.Proofs.YtgmigloafcejdaaGreatDoor
