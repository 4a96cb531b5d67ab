/- A chain of an audit, by the program; an audit held whole. -/
import Derived.Test.YtdelijobaebfnaaDoorMv10
namespace Go.Proofs.YtdelijobaebfnaaDoor
open Go.RowKit

/-- the link of the first k entries lies in block B, and those ahead of it behind that -/
def Chain (w : World) (es : List AE) : Nat → Nat → Prop
  | 0, B => Blk w B 73 (linkC 0 ⟨#[]⟩ ⟨#[]⟩ ⟨#[]⟩ ⟨#[]⟩ (.pointer none))
  | k + 1, B => ∃ (u : AE) (B' : Nat), es[k]? = some u ∧ Blk w B 73 (linkC u.seq u.sum u.ten u.wha u.det (.pointer (some ⟨B', 0, none⟩))) ∧ Chain w es k B'
theorem Chain.kept {w w' : World} {es : List AE} (hg : w.grownBy w' none) : ∀ {k B : Nat}, Chain w es k B → Chain w' es k B
  | 0, _, h => Blk.kept h hg (by simp)
  | _ + 1, _, ⟨u, B', h1, h2, h3⟩ => ⟨u, B', h1, h2.kept hg (by simp), h3.kept hg⟩
theorem Chain.drewN {w : World} {es : List AE} {k B : Nat} (h : Chain w es k B) (n : Nat) : Chain (w.drewN n) es k B := h.kept (grown_drewN (grown_refl _ _) _)
theorem Chain.head {w : World} {es : List AE} {k B : Nat} (h : Chain w es k B) (hk : k ≤ es.length) (hs : ∀ j (hj : j < es.length), j < k → StepP es j es[j]) : w.cell? ⟨B, 0, none⟩ = some (.int .i64 (k : Int)) ∧ w.cell? ⟨B, 1, none⟩ = some (.string (lastE es k)) := by
  cases k with
  | zero => exact ⟨Blk.cell h rfl, Blk.cell h rfl⟩
  | succ j =>
    obtain ⟨u, B', h1, h2, -⟩ := h
    have hj : j < es.length := by omega
    have e1 : es[j] = u := by
      rw [List.getElem?_eq_getElem hj] at h1
      exact Option.some.inj h1
    have hst := hs j hj (by omega)
    rw [e1] at hst
    refine ⟨?_, ?_⟩
    · rw [show ((j + 1 : Nat) : Int) = u.seq from by rw [hst.1]; omega]
      exact h2.cell rfl
    · rw [lastE_at es j hj, e1]
      exact h2.cell rfl
theorem next_iff (es : List AE) (k : Nat) (u : AE) : NextP k (lastE es k) u ↔ k < 200 ∧ StepP es k u := Iff.rfl
/-- a chain, or the error -/
def ChR (a : Addr) (es : List AE) (e : Ending) (w' : World) : Prop :=
  (AuditP es ∧ ∃ B : Nat, e = .returned (.tuple #[.pointer (some ⟨B, 0, none⟩), .nilIface]) ∧ Chain w' es es.length B) ∨
  (¬ AuditP es ∧ e = .returned (.tuple #[.pointer none, .iface 158 (.pointer (some a))]))

set_option maxRecDepth 100000 in
set_option maxHeartbeats 32000000 in
theorem ichain_any (w : World) (hT : Tabs w) (hP : Pow w) (a : Addr) (hU : UnfC w a) (es : List AE) (ao : Option Addr) (cap base : Nat) (hl : ELies w base ao es) (hn : es.length ≤ 1048576) (hz : EZ es) :
    Calls Tryd.prog 24 #[.slice ao es.length cap] w fun e w' => ChR a es e w' ∧ w.grownBy w' none := by
  have HL := Lib.hid hl
  have HN := Lib.hid hn
  have HZ := Lib.hid hz
  have HU := Lib.hid hU
  have HT := Lib.hid hT
  have HP := Lib.hid hP
  clear hl hz hU hT hP
  go_enter Tryd.func24, Tryd.ntmps24
  go_wp2
  go_loopw [4, 13] (fun l i wr => ∃ k B : Nat, k ≤ es.length ∧ k ≤ 200 ∧ i = .int .i64 k ∧ l = .pointer (some ⟨B, 0, none⟩) ∧ Hid (Chain wr es k B) ∧ Hid (∀ j (h : j < es.length), j < k → StepP es j es[j]) ∧ w.grownBy wr none) (fun _ i _ => es.length - (intOf i).toNat)
  case atStart => exact ⟨0, _, Nat.zero_le _, Nat.zero_le _, rfl, rfl, Lib.hid (Blk.new w 73 (linkC 0 ⟨#[]⟩ ⟨#[]⟩ ⟨#[]⟩ ⟨#[]⟩ (.pointer none))), Lib.hid fun j _ h => absurd h (Nat.not_lt_zero _), grown_alloc (grown_refl _ _) _⟩
  case round =>
    obtain ⟨k, B, hk, hk2, rfl, rfl, HC, HA, hg⟩ := hrel
    have HG := Lib.hid hg
    clear hg
    by_cases hlt : k < es.length
    · have hkI : (k : Int) < es.length := by omega
      obtain ⟨E, hE⟩ : ∃ E, es[k] = E := ⟨_, rfl⟩
      have HNO := Lib.hid (fun hb : ¬ NextP k (lastE es k) E => show ¬ AuditP es from fun h => hb ⟨by have := h.1; omega, by have := h.2 k hlt; rwa [hE] at this⟩)
      have HGO := Lib.hid (fun hb : NextP k (lastE es k) E => show ∀ j (h : j < es.length), j < k + 1 → StepP es j es[j] from fun j h hj => by
        by_cases e : j = k
        · subst e; rw [hE]; exact hb.2
        · exact HA.out j h (by omega))
      have HCN := Lib.hid (fun (V : World) (g : Nat) (h1 : Blk V g 73 (linkC E.seq E.sum E.ten E.wha E.det (.pointer (some ⟨B, 0, none⟩)))) (h2 : Chain V es k B) => show Chain V es (k + 1) g from ⟨E, B, by rw [List.getElem?_eq_getElem hlt, hE], h1, h2⟩)
      have HEZ := HZ.out es[k] (List.getElem_mem hlt)
      rw [hE] at HEZ
      obtain ⟨z1, z2, z3, z4⟩ := HEZ
      have HLS := Lib.hid (lastE_small es (fun e he => (HZ.out e he).2.2.2) k)
      rcases HL.out with h0 | ⟨ab, oo, rfl, -, hc⟩
      · omega
      have hce := (hc k hlt).kept HG.out (by simp)
      rw [hE] at hce
      have HEN := Lib.hid (fun (V : World) (hV : wr.grownBy V none) => ientry_any V (HT.out.grown (grown_trans HG.out hV)) (HP.out.grown (grown_trans HG.out hV)) a (HU.out.grown (grown_trans HG.out hV)) B k (lastE es k) E (hV.cell (HC.out.head hk HA.out).1 (by simp)) (hV.cell (HC.out.head hk HA.out).2 (by simp)) (by omega) HLS.out z1 z2 z3)
      have hnI : (es.length : Int) ≤ 1048576 := by have := HN.out; omega
      obtain ⟨LB, hLB⟩ : ∃ x, lastE es k = x := ⟨_, rfl⟩
      rw [hLB] at HEN HNO HGO
      clear hc hE z1 z2 z3 z4 HLS hLB
      obtain ⟨sq, ten, wha, det, sm⟩ := E
      obtain ⟨x0, x1, x2, x3, x4⟩ := hce
      simp only at x0 x1 x2 x3 x4
      have HGA := Lib.hid (World.grownBy_alloc wr (Obj.cells #[Value.int .i64 sq, .string ten, .string wha, .string det, .string sm] 28) none)
      have HEN2 := Lib.hid (HEN.out _ HGA.out)
      clear HEN
      go_wp2_with fail
      refine HEN2.out.mono ?_
      rintro e w1 ⟨hr, hg1⟩
      have HG1 := Lib.hid (grown_trans HGA.out hg1)
      have HG1w := Lib.hid (grown_trans HG.out HG1.out)
      have eU : w1.cell? ⟨0, 0, none⟩ = some (.iface 158 (.pointer (some a))) := HU.out.grown HG1w.out
      clear hg1 HEN2 x0 x1 x2 x3 x4
      rcases hr with ⟨hok, g, rfl, hb, -⟩ | ⟨hno, rfl⟩
      case inr =>
        have HNN := Lib.hid (HNO.out hno)
        clear hno
        go_wp2_with fail
        refine (is_same a w1).mono ?_
        rintro e w2 ⟨rfl, hw⟩
        have hw := hw.symm
        subst hw
        go_wp2
        go_ret2
        exact ⟨.inr ⟨HNN.out, rfl⟩, HG1w.out⟩
      have HCC := Lib.hid (HCN.out w1 g hb (HC.out.kept HG1.out))
      have HSS := Lib.hid (HGO.out hok)
      have hk3 : k + 1 ≤ 200 := by have := hok.1; omega
      clear hok hb
      go_wp2_with fail
      refine (is_nil a w1).mono ?_
      rintro e w2 ⟨rfl, hw⟩
      have hw := hw.symm
      subst hw
      go_wp2
      go_roundw
      case rel => exact ⟨k + 1, g, by omega, hk3, by go_num, rfl, HCC, HSS, HG1w.out⟩
      case measure => simp [intOf]; omega
    · obtain rfl : k = es.length := by omega
      have HD := Lib.hid (show AuditP es from ⟨hk2, fun j h => HA.out j h h⟩)
      go_wp2
      go_ret2
      exact ⟨.inl ⟨HD.out, B, rfl, HC.out⟩, HG.out⟩

set_option maxRecDepth 100000 in
set_option maxHeartbeats 8000000 in
theorem iaudit_any (w : World) (hT : Tabs w) (hP : Pow w) (a : Addr) (hU : UnfC w a) (es : List AE) (ao : Option Addr) (cap base : Nat) (hl : ELies w base ao es) (hn : es.length ≤ 1048576) (hz : EZ es) :
    Calls Tryd.prog 8 #[.slice ao es.length cap] w fun e w' => Says e (AuditP es) ∧ w.grownBy w' none := by
  have HC := Lib.hid (ichain_any w hT hP a hU es ao cap base hl hn hz)
  have HU := Lib.hid hU
  clear hT hP hU hl hn hz
  go_enter Tryd.func8, Tryd.ntmps8
  go_wp2_with fail
  refine HC.out.mono ?_
  rintro e w1 ⟨hr, hg1⟩
  have eU : w1.cell? ⟨0, 0, none⟩ = some (.iface 158 (.pointer (some a))) := HU.out.grown hg1
  have HG1 := Lib.hid hg1
  clear hg1 HC
  rcases hr with ⟨hok, B, rfl, -⟩ | ⟨hno, rfl⟩
  · have HD := Lib.hid (show Says (.returned (.bool true)) (AuditP es) from .yes hok)
    clear hok
    go_wp2_with fail
    refine (is_nil a w1).mono ?_
    rintro e w2 ⟨rfl, hw⟩
    have hw := hw.symm
    subst hw
    go_wp2
    go_ret
    exact ⟨HD.out, HG1.out⟩
  · have HD := Lib.hid (show Says (.returned (.bool false)) (AuditP es) from .no hno)
    clear hno
    go_wp2_with fail
    refine (is_same a w1).mono ?_
    rintro e w2 ⟨rfl, hw⟩
    have hw := hw.symm
    subst hw
    go_wp2
    go_ret
    exact ⟨HD.out, HG1.out⟩
end Go.Proofs.YtdelijobaebfnaaDoor
