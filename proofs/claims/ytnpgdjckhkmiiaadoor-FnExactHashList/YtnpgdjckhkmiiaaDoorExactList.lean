/- FnExactHashList: at every list of texts, impl.HashList answers as the document's model does and leaves its argument alone (a list whose length and texts come to more than 2^20 is let by, by the law itself). Conditions: the tables of the sums, and those of the library's that the row lists, read as the program's text lays them (the card ties them). -/
import Derived.Test.YtnpgdjckhkmiiaaDoorT2
import Derived.Carry
import Derived.Deep.Strs
namespace Go.Proofs.YtnpgdjckhkmiiaaDoor.exactList
open Go.ChangeShapes Go.WideShapes Go.ChangeAt Go.RowKit
open Go.ChangeMaps (open_string shut_string)

theorem cells9 : Tryd.prog.cellsOf 9 = 1 := by kernel_rfl
/-- a list of texts that came in -/
theorem lies_of {H : Type} {enc : TypeId × Value → H} {W : World} {ao : Option Addr} {n cap : Nat} {d : DataW H} {p : List MemPlace} (h : DataW.Trod enc Tryd.prog W 0 (fun _ => true) true 29 (.slice ao n cap) d p) :
    ∃ ss : List ByteArray, ss.length = n ∧ Lies W ao ss ∧ n ≤ 9223372036854775807 ∧ ∀ j, (ss.getD j ByteArray.empty).size ≤ 9223372036854775807 := by
  obtain ⟨fuel, hf⟩ := h
  rcases Deep.open_strs Tryd.underlying29 Tryd.underlying9 cells9 hf with ⟨hcs, _⟩ | ⟨a, len, cap', m, Sx, hcs, _, hl, hm, hmm, _, hcell⟩
  · simp [Value.cells] at hcs
    obtain ⟨rfl, rfl, rfl⟩ := hcs
    exact ⟨[], rfl, .inl rfl, by omega, fun j => by simp⟩
  · simp [Value.cells] at hcs
    obtain ⟨rfl, rfl, rfl⟩ := hcs
    simp only [if_true] at hmm
    unfold maxLen at hm hcell
    refine ⟨(List.range n).map Sx, by simp, ?_, by omega, fun j => ?_⟩
    · by_cases h0 : n = 0
      · exact .inl (by simp [h0])
      obtain ⟨ab, o, spot⟩ := a
      have hspot : spot = none := by simpa [Addr.add] using World.cell?_spot (hcell 0 (by omega)).1
      subst hspot
      refine .inr ⟨ab, o, rfl, fun j hj => ?_⟩
      have hj' : j < n := by simpa using hj
      have := (hcell j (by omega)).1
      rw [Addr.add_lit] at this
      rw [this]
      simp [hj']
    · by_cases hj : j < n
      · have := (hcell j (by omega)).2
        simpa [hj] using this
      · have : ((List.range n).map Sx)[j]? = none := List.getElem?_eq_none (by simp; omega)
        simp [this]

theorem contract (H : Type) (enc : TypeId × Value → H) (W : World) (base : Nat) (args : Array Value) (ds gs : List (DataW H)) (before : List MemPlace)
    (hval : ∀ (j : Nat) t v, Tryd.f8.params[j]? = some t → args[j]? = some v → Value.okWide Tryd.prog W .any base t v)
    (hW : DataW.Whole enc Tryd.prog Tryd.f8.params.toList Rows.fnExactHashListSpec.vars false W args.toList ds gs before) (hL : laidMetH Tryd.prog Rows.fnExactHashListRow.laid W) :
    Calls Tryd.prog 8 args W fun e W' => ∃ v, e = .returned v ∧ Rows.fnExactHashListSpec.post enc Tryd.prog Tryd.f8 false true false false W args v W' := by
  have hW' := hW
  obtain ⟨p, q, hA0, hV0, rfl, hfz, hnd⟩ := hW
  have hA : DataW.TrodAll enc Tryd.prog W 0 (fun _ => true) true Tryd.f8.params.toList args.toList ds p := hA0
  have hV : DataW.TrodVars enc Tryd.prog W (fun _ => true) ["loop.example/portreeve/impl.hashStart", "loop.example/portreeve/impl.hashKeys"] gs q := hV0
  rw [Tryd.params8] at hA hval
  obtain ⟨v0, vs0, d0, ds0, p0, q0, hargs, rfl, rfl, h0, r0⟩ := trodAll_cons hA
  obtain ⟨rfl, rfl, rfl⟩ := trodAll_nil r0
  obtain rfl : args = #[v0] := by cases args; simp_all
  obtain ⟨ao, n, cap, rfl⟩ := okWide_slice Tryd.underlying29 (hval 0 29 v0 rfl rfl)
  obtain ⟨ss, rfl, hlies, hn, hs⟩ := lies_of h0
  obtain ⟨g1, t1, c1, f1, d1, p1, g2, t2, c2, f2, d2, p2, rfl, -⟩ := trodVars_two hV
  clear hA0 hA
  obtain ⟨hT, hPw⟩ := tabs_five hL
  refine (exactList_walk W hT hPw ao cap ss hlies hn hs).mono fun e W' ⟨he, hg⟩ => ?_
  subst he
  have hb : Below W.heap.size W W' := below_of_grown hg (by simp)
  refine ⟨_, rfl, _, _, _, [], p0 ++ [], q, hW', ?_, ?_, ?_, hb.frame _, fun h => by cases h⟩
  · exact trodAll_cons_mk (shut_bool Tryd.underlying4 true) trodAll_mk0
  · exact trodAll_cons_mk (Below.trod laidOut (by kernel_rfl) (of_decide_eq_true (by kernel_rfl)) h0 hb (by obtain ⟨fuel, hf⟩ := h0; exact DataW.trod_lt fuel _ _ _ hf)) trodAll_mk0
  · exact Below.trodVars laidOut hb (by kernel_rfl) hV

theorem laid_met (os : Os) : laidMet Tryd.prog Rows.fnExactHashListRow.laid ((layTabs5 (World.holding Tryd.prog os ⟨#[], #[], []⟩)).forCall (fun _ _ => 0) ⟨#[], #[.slice none 0 0], []⟩).memory :=
  laidMet_of_run' 8 (by kernel_rfl) (by kernel_rfl)
theorem reads (os : Os) {H : Type} (enc : TypeId × Value → H) : ∃ places, DataW.whole enc Tryd.prog ((layTabs5 (World.holding Tryd.prog os ⟨#[], #[], []⟩)).forCall (fun _ _ => 0) ⟨#[], #[.slice none 0 0], []⟩).memory Tryd.f8.params.toList Rows.fnExactHashListSpec.vars false #[Value.slice none 0 0].toList 8 = some ([.nil], [Rows.laid_loop_example_portreeve_impl_hashStart, Rows.laid_loop_example_portreeve_impl_hashKeys], places) :=
  ⟨MemPlace.row ⟨0, 0, none⟩ 8 ++ MemPlace.row ⟨1, 0, none⟩ 64, by kernel_rfl⟩

set_option maxRecDepth 100000 in
theorem lifted (os : Os) (started : os.Started) (H : Type) (enc : TypeId × Value → H) (F : Stop.Interp) :
    ReturnsInHanded {} Tryd.checked os 8 .any ((OpenSpec.ofChange Rows.fnExactHashListSpec).preRow enc Tryd.prog Tryd.f8 Rows.fnExactHashListRow.domain false Rows.fnExactHashListRow.laid) (((OpenSpec.ofChange Rows.fnExactHashListSpec).at F).post enc Tryd.prog Tryd.f8 false true false false) := by
  obtain ⟨places, hx⟩ := reads os enc
  refine returnsInHanded_of_row (C := Tryd.checked) (s := OpenSpec.ofChange Rows.fnExactHashListSpec) own started (by kernel_rfl) Tryd.func8
    (witness_row_at (enc := enc) (C := Tryd.checked) false (layTabs5 (World.holding Tryd.prog os ⟨#[], #[], []⟩)) #[.slice none 0 0] rfl (by kernel_rfl) (by kernel_rfl) (by kernel_rfl)
      (OpenSpec.preRow_of_cond 8 hx (by kernel_rfl) (fun k hk => by cases hk) (by kernel_rfl) (laid_met os))) ?_
  intro W base args ds gs before hval hW _ _ _ hL _ _
  exact contract H enc W base args ds gs before hval hW hL

theorem said : Rows.FnExactHashListSaid :=
  OpenClaim.holds_of_cond 8 Tryd.f8 rfl rfl rfl rfl rfl rfl rfl ⟨rfl, rfl, rfl, rfl, rfl⟩ rfl rfl rfl rfl rfl (by kernel_rfl) Tryd.func8 (by kernel_rfl)
    (of_decide_eq_true (by kernel_rfl)) (by unfold Func.isWrapper; first | (rw [if_pos (by decide +kernel)]; kernel_rfl) | (rw [if_neg (by decide +kernel)]; exact ⟨rfl, rfl⟩))
    (fun os started H enc _ F => by rw [OpenClaim.pre_eq_preRow]; exact lifted os started H enc F)

theorem plain (f : FuncId) (fn : Func) (hf : Tryd.pinned.checked.prog.funcNamed "loop.example/portreeve/laws.FnExactHashList" = some f) (hfn : Tryd.pinned.checked.prog.funcs[f]? = some fn) :
    false = Tryd.pinned.checked.prog.looks [] ∧ ∀ (j : Nat) t, fn.params[j]? = some t → Tryd.pinned.checked.prog.wantsStandIn t = false := by
  obtain rfl : f = 8 := Option.some.inj ((show Tryd.prog.funcNamed "loop.example/portreeve/laws.FnExactHashList" = some 8 by kernel_rfl).symm.trans hf) |>.symm
  obtain rfl : fn = Tryd.f8 := (Option.some.inj (Tryd.func8.symm.trans hfn)).symm
  refine ⟨by kernel_rfl, fun j t ht => ?_⟩
  rw [Tryd.params8] at ht
  obtain rfl : t = 29 := by simpa using Array.mem_of_getElem? ht
  exact (show Tryd.prog.wantsStandIn 29 = false by kernel_rfl)

end Go.Proofs.YtnpgdjckhkmiiaaDoor.exactList
namespace Go.Proofs.YtnpgdjckhkmiiaaDoor

/-- THE CARD -/
theorem exactHashList_card : Rows.FnExactHashListCardSaid :=
  Claim7.holds_tied_plain_at .later [] _ _ _ _ exactList.said (fun _ h => by cases h) (by kernel_rfl) (fun _ h => by cases h) fnExactHashList_row_tie rfl ⟨rfl, rfl⟩ (by kernel_rfl) rfl exactList.plain (by kernel_rfl)

end Go.Proofs.YtnpgdjckhkmiiaaDoor
