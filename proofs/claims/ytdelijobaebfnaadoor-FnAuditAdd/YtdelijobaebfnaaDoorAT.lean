/- An entry added to an audit, by the program. -/
import Derived.Test.YtdelijobaebfnaaDoorAR
namespace Go.Proofs.YtdelijobaebfnaaDoor
open Go.RowKit

/-- the entry that goes behind an audit -/
def addE (es : List AE) (ten wha det : ByteArray) : AE := ⟨(es.length : Int) + 1, ten, wha, det, sumE (lastE es es.length) (es.length + 1) ten wha det⟩
/-- whether one goes behind -/
def AddP (es : List AE) (ten wha det : ByteArray) : Prop := AuditP es ∧ es.length < 200 ∧ EntOk ten wha det
theorem lastE_ext (es : List AE) (E : AE) : ∀ i, i ≤ es.length → lastE (es ++ [E]) i = lastE es i
  | 0, _ => rfl
  | i + 1, h => by
    show (((es ++ [E])[i]?.map (·.sum)).getD ⟨#[]⟩) = ((es[i]?.map (·.sum)).getD ⟨#[]⟩)
    rw [List.getElem?_append_left (by omega)]
theorem step_ext (es : List AE) (E : AE) (i : Nat) (u : AE) (h : i ≤ es.length) : StepP (es ++ [E]) i u ↔ StepP es i u := by
  unfold StepP
  rw [lastE_ext es E i h]
theorem chain_ext {w : World} {es : List AE} (E : AE) : ∀ {k B : Nat}, k ≤ es.length → Chain w es k B → Chain w (es ++ [E]) k B
  | 0, _, _, h => h
  | k + 1, _, hk, ⟨u, B', h1, h2, h3⟩ => ⟨u, B', by rw [List.getElem?_append_left (by omega)]; exact h1, h2, chain_ext E (by omega) h3⟩
theorem add_audit {es : List AE} {ten wha det : ByteArray} (h : AddP es ten wha det) : AuditP (es ++ [addE es ten wha det]) := by
  refine ⟨by have := h.2.1; simp; omega, fun i hi => ?_⟩
  by_cases hl : i < es.length
  · rw [List.getElem_append_left hl, step_ext _ _ _ _ (by omega)]
    exact h.1.2 i hl
  · obtain rfl : i = es.length := by simp at hi; omega
    rw [List.getElem_append_right (by omega), step_ext _ _ _ _ (Nat.le_refl _)]
    simp only [Nat.sub_self, List.getElem_cons_zero]
    exact ⟨rfl, h.2.2, rfl⟩
theorem sumE_small (b : ByteArray) (n : Nat) (ten wha det : ByteArray) : (sumE b n ten wha det).size ≤ 1048576 := by
  rw [show sumE b n ten wha det = strI (hexL (sha (encI [b, decS n, ten, wha, det]))) from rfl, strI_size, hexL_len, sha_len]
  omega
theorem add_EZ {es : List AE} {ten wha det : ByteArray} (hz : EZ es) (h : EntOk ten wha det) : EZ (es ++ [addE es ten wha det]) := by
  intro e he
  rcases List.mem_append.1 he with h1 | h1
  · exact hz e h1
  · rw [List.mem_singleton.1 h1]
    refine ⟨?_, ?_, ?_, sumE_small _ _ _ _ _⟩
    · have := h.1.2.1; show ten.size ≤ 1048576; omega
    · have := h.2.1.2.1; show wha.size ≤ 1048576; omega
    · have := h.2.2.1; show det.size ≤ 1048576; omega

set_option maxRecDepth 100000 in
set_option maxHeartbeats 16000000 in
theorem iadding_any (w : World) (hT : Tabs w) (hP : Pow w) (a : Addr) (hU : UnfC w a) (es : List AE) (ao : Option Addr) (cap base : Nat) (hl : ELies w base ao es) (hn : es.length ≤ 1048576) (hz : EZ es) (ten wha det : ByteArray) (h1 : ten.size ≤ 1048576) (h2 : wha.size ≤ 1048576) (h3 : det.size ≤ 1048576) :
    Calls Tryd.prog 16 #[.slice ao es.length cap, .string ten, .string wha, .string det] w fun e w' =>
      ((AddP es ten wha det ∧ ∃ g : Nat, e = .returned (.tuple #[.slice (some ⟨g, 0, none⟩) (es.length + 1) (es.length + 1), .bool true]) ∧ Blk w' g 28 (entsV (es ++ [addE es ten wha det])) ∧ w.heap.size ≤ g) ∨
       (¬ AddP es ten wha det ∧ e = .returned (.tuple #[.slice none 0 0, .bool false]))) ∧ w.grownBy w' none := by
  have HC := Lib.hid (ichain_any w hT hP a hU es ao cap base hl hn hz)
  have HU := Lib.hid hU
  have HZ := Lib.hid hz
  have HLS := Lib.hid (lastE_small es (fun e he => (hz e he).2.2.2) es.length)
  have HAD := Lib.hid (fun (V : World) (hV : w.grownBy V none) (B : Nat) (p0 : V.cell? ⟨B, 0, none⟩ = some (.int .i64 (es.length : Int))) (p1 : V.cell? ⟨B, 1, none⟩ = some (.string (lastE es es.length))) => iadd_any V (hT.grown hV) (hP.grown hV) a (hU.grown hV) B es.length (lastE es es.length) ten wha det p0 p1 hn HLS.out h1 h2 h3)
  clear hT hP hU hl hz h1 h2 h3
  go_enter Tryd.func16, Tryd.ntmps16
  go_wp2_with fail
  refine HC.out.mono ?_
  rintro e w1 ⟨hr, hg1⟩
  have eU : w1.cell? ⟨0, 0, none⟩ = some (.iface 158 (.pointer (some a))) := HU.out.grown hg1
  have HG1 := Lib.hid hg1
  clear hg1 HC
  rcases hr with ⟨hok, B, rfl, hch⟩ | ⟨hno, rfl⟩
  case inr =>
    have HD := Lib.hid (show ¬ AddP es ten wha det from fun h => hno h.1)
    clear hno
    go_wp2_with fail
    refine (is_same a w1).mono ?_
    rintro e w2 ⟨rfl, hw⟩
    have hw := hw.symm
    subst hw
    go_wp2
    go_ret2
    exact ⟨.inr ⟨HD.out, rfl⟩, HG1.out⟩
  have HOK := Lib.hid hok
  have HCH := Lib.hid hch
  have hhd := hch.head (Nat.le_refl _) (fun j hj _ => hok.2 j hj)
  have HA := Lib.hid (HAD.out w1 HG1.out B hhd.1 hhd.2)
  clear hok hch hhd HAD
  go_wp2_with fail
  refine (is_nil a w1).mono ?_
  rintro e w2 ⟨rfl, hw⟩
  have hw := hw.symm
  subst hw
  go_wp2_with fail
  refine HA.out.mono ?_
  rintro e w2 ⟨hr, hg2⟩
  have HG2 := Lib.hid (grown_trans HG1.out hg2)
  have eU2 : w2.cell? ⟨0, 0, none⟩ = some (.iface 158 (.pointer (some a))) := HU.out.grown HG2.out
  have HCH2 := Lib.hid (HCH.out.kept hg2)
  clear hg2 eU HA HCH
  rcases hr with ⟨hok, g, rfl, hb, -⟩ | ⟨hno, rfl⟩
  case inr =>
    have HD := Lib.hid (show ¬ AddP es ten wha det from fun h => hno ⟨h.2.1, h.2.2⟩)
    clear hno
    go_wp2_with fail
    refine (is_same a w2).mono ?_
    rintro e w3 ⟨rfl, hw⟩
    have hw := hw.symm
    subst hw
    go_wp2
    go_ret2
    exact ⟨.inr ⟨HD.out, rfl⟩, HG2.out⟩
  have HAP := Lib.hid (show AddP es ten wha det from ⟨HOK.out, hok.1, hok.2⟩)
  have hlen : (es ++ [addE es ten wha det]).length = es.length + 1 := by simp
  have hchn : Chain w2 (es ++ [addE es ten wha det]) (es ++ [addE es ten wha det]).length g := by
    rw [hlen]
    refine ⟨addE es ten wha det, B, by simp, hb, chain_ext _ (Nat.le_refl _) HCH2.out⟩
  have hau := add_audit HAP.out
  have HEN := Lib.hid (ientries_any w2 (es ++ [addE es ten wha det]) g hchn hau.1 (add_EZ HZ.out hok.2) hau.2)
  rw [hlen] at HEN
  have HSZ := Lib.hid HG2.out.size
  clear hok hb hlen hchn hau
  go_wp2_with fail
  refine (is_nil a w2).mono ?_
  rintro e w3 ⟨rfl, hw⟩
  have hw := hw.symm
  subst hw
  go_wp2_with fail
  refine HEN.out.mono ?_
  rintro e w3 ⟨rfl, hb3, hg3⟩
  have HG3 := Lib.hid (grown_trans HG2.out hg3)
  have HB3 := Lib.hid hb3
  clear hb3 hg3 HEN eU2
  go_wp2
  go_ret2
  exact ⟨.inl ⟨HAP.out, w2.heap.size, rfl, HB3.out, HSZ.out⟩, HG3.out⟩
end Go.Proofs.YtdelijobaebfnaaDoor
