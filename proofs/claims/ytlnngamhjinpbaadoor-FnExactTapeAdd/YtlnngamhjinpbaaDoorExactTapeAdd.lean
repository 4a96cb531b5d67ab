/- FnExactTapeAdd: at every tape and record, impl.TapeAdd answers as the document's model does, leaves its argument alone, and its answer owns its memory, behind another call too (a record of more than 2^20 letters, and a tape of more than 2^20 pieces and letters, are let by, by the law itself). Conditions: the tables of the sums, and those of the library's that the row lists, read as the program's text lays them (the card ties them). -/
import Derived.Test.YtlnngamhjinpbaaDoorXT2
import Derived.Test.YtlnngamhjinpbaaDoorK3
import Derived.Test.YtlnngamhjinpbaaDoorT5
namespace Go.Proofs.YtlnngamhjinpbaaDoor.exactTapeAdd
open Go.ChangeShapes Go.WideShapes Go.ChangeAt Go.RowKit

set_option maxRecDepth 100000 in
theorem contract (H : Type) (enc : TypeId × Value → H) (W : World) (base : Nat) (args : Array Value) (ds gs : List (DataW H)) (before : List MemPlace)
    (hval : ∀ (j : Nat) t v, Tryd.f3.params[j]? = some t → args[j]? = some v → Value.okWide Tryd.prog W .any base t v)
    (hW : DataW.Whole enc Tryd.prog Tryd.f3.params.toList Rows.fnExactTapeAddSpec.vars false W args.toList ds gs before) (hL : laidMetH Tryd.prog Rows.fnExactTapeAddRow.laid W) :
    Calls Tryd.prog 3 args W fun e W' => ∃ v, e = .returned v ∧ Rows.fnExactTapeAddSpec.post enc Tryd.prog Tryd.f3 false true false false W args v W' := by
  have hW' := hW
  obtain ⟨p, q, hA0, hV0, rfl, hfz, hnd⟩ := hW
  have hA : DataW.TrodAll enc Tryd.prog W 0 (fun _ => true) true Tryd.f3.params.toList args.toList ds p := hA0
  have hV : DataW.TrodVars enc Tryd.prog W (fun _ => true) ["loop.example/portreeve/impl.hashStart", "loop.example/portreeve/impl.hashKeys"] gs q := hV0
  rw [Tryd.params3] at hA hval
  obtain ⟨v0, vs0, d0, ds0, p0, q0, hargs0, rfl, rfl, h0, r0⟩ := trodAll_cons hA
  obtain ⟨v1, vs1, d1, ds1, p1, q1, hargs1, rfl, rfl, h1, r1⟩ := trodAll_cons r0
  obtain ⟨rfl, rfl, rfl⟩ := trodAll_nil r1
  obtain rfl : args = #[v0, v1] := by cases args; simp_all
  obtain ⟨g1, t1, c1, f1, e1, l1, g2, t2, c2, f2, e2, l2, rfl, -⟩ := trodVars_two hV
  clear hA0 hA
  obtain ⟨hT, hPw⟩ := tabs_five hL
  have h0' := h0
  obtain ⟨fuel, hf⟩ := h0'
  obtain ⟨a1, a2, k1, k2, ss, ls, hcs, hl1, hl2, hn1, hn2, hz1, hz2⟩ := open_tape fuel _ _ hf
  have hagg : v0 = .agg v0.cells := by cases v0 <;> simp [Value.cells] at hcs ⊢
  obtain ⟨r, rfl⟩ := okWide_string Tryd.underlying9 (hval 1 9 v1 rfl rfl)
  have hwk := exactTapeAdd_walk W hT hPw a1 a2 k1 k2 ss ls r hl1 hl2 hn1 hn2 hz1 hz2
  have hca : v0.cells = #[.slice a1 ss.length k1, .slice a2 ls.length k2] := by
    rw [← Array.toArray_toList (xs := v0.cells), hcs]
  rw [← hca, ← hagg] at hwk
  refine (hwk).mono fun e W' ⟨he, hg⟩ => ?_
  subst he
  have hb : Below W.heap.size W W' := below_of_grown hg (by simp)
  refine ⟨_, rfl, _, _, _, [], p0 ++ (p1 ++ []), q, hW', ?_, ?_, ?_, hb.frame _, fun h => by cases h⟩
  · exact trodAll_cons_mk (shut_bool Tryd.underlying4 true) trodAll_mk0
  · exact trodAll_cons_mk (Below.trod laidOut (by kernel_rfl) (of_decide_eq_true (by kernel_rfl)) h0 hb (by obtain ⟨fuel, hf⟩ := h0; exact DataW.trod_lt fuel _ _ _ hf)) (trodAll_cons_mk (Below.trod laidOut (by kernel_rfl) (of_decide_eq_true (by kernel_rfl)) h1 hb (by obtain ⟨fuel, hf⟩ := h1; exact DataW.trod_lt fuel _ _ _ hf)) trodAll_mk0)
  · exact Below.trodVars laidOut hb (by kernel_rfl) hV

theorem laid_met (os : Os) : laidMet Tryd.prog Rows.fnExactTapeAddRow.laid ((layTabs5 (World.holding Tryd.prog os ⟨#[], #[], []⟩)).forCall (fun _ _ => 0) ⟨#[], #[.agg #[.slice none 0 0, .slice none 0 0], .string ByteArray.empty], []⟩).memory :=
  laidMet_of_run' 8 (by kernel_rfl) (by kernel_rfl)
theorem reads (os : Os) {H : Type} (enc : TypeId × Value → H) : ∃ places, DataW.whole enc Tryd.prog ((layTabs5 (World.holding Tryd.prog os ⟨#[], #[], []⟩)).forCall (fun _ _ => 0) ⟨#[], #[.agg #[.slice none 0 0, .slice none 0 0], .string ByteArray.empty], []⟩).memory Tryd.f3.params.toList Rows.fnExactTapeAddSpec.vars false (#[.agg #[.slice none 0 0, .slice none 0 0], .string ByteArray.empty] : Array Value).toList 8 = some ([.agg [.nil, .nil], .lit (.string [])], [Rows.laid_loop_example_portreeve_impl_hashStart, Rows.laid_loop_example_portreeve_impl_hashKeys], places) :=
  ⟨MemPlace.row ⟨0, 0, none⟩ 8 ++ MemPlace.row ⟨5, 0, none⟩ 64, by kernel_rfl⟩

set_option maxRecDepth 100000 in
theorem lifted (os : Os) (started : os.Started) (H : Type) (enc : TypeId × Value → H) (F : Stop.Interp) :
    ReturnsInHanded {} Tryd.checked os 3 .any ((OpenSpec.ofChange Rows.fnExactTapeAddSpec).preRow enc Tryd.prog Tryd.f3 Rows.fnExactTapeAddRow.domain false Rows.fnExactTapeAddRow.laid) (((OpenSpec.ofChange Rows.fnExactTapeAddSpec).at F).post enc Tryd.prog Tryd.f3 false true false false) := by
  obtain ⟨places, hx⟩ := reads os enc
  refine returnsInHanded_of_row (C := Tryd.checked) (s := OpenSpec.ofChange Rows.fnExactTapeAddSpec) own started (by kernel_rfl) Tryd.func3
    (witness_row_at (enc := enc) (C := Tryd.checked) false (layTabs5 (World.holding Tryd.prog os ⟨#[], #[], []⟩)) #[.agg #[.slice none 0 0, .slice none 0 0], .string ByteArray.empty] rfl (by kernel_rfl) (by kernel_rfl) (by kernel_rfl)
      (OpenSpec.preRow_of_cond 8 hx (by kernel_rfl) (fun k hk => by cases hk) (by kernel_rfl) (laid_met os))) ?_
  intro W base args ds gs before hval hW _ _ _ hL _ _
  exact contract H enc W base args ds gs before hval hW hL

theorem said : Rows.FnExactTapeAddSaid :=
  OpenClaim.holds_of_cond 3 Tryd.f3 rfl rfl rfl rfl rfl rfl rfl ⟨rfl, rfl, rfl, rfl, rfl⟩ rfl rfl rfl rfl rfl (by kernel_rfl) Tryd.func3 (by kernel_rfl)
    (of_decide_eq_true (by kernel_rfl)) (by unfold Func.isWrapper; first | (rw [if_pos (by decide +kernel)]; kernel_rfl) | (rw [if_neg (by decide +kernel)]; exact ⟨rfl, rfl⟩))
    (fun os started H enc _ F => by rw [OpenClaim.pre_eq_preRow]; exact lifted os started H enc F)

theorem plain (f : FuncId) (fn : Func) (hf : Tryd.pinned.checked.prog.funcNamed "loop.example/portreeve/laws.FnExactTapeAdd" = some f) (hfn : Tryd.pinned.checked.prog.funcs[f]? = some fn) :
    true = Tryd.pinned.checked.prog.looks [] ∧ ∀ (j : Nat) t, fn.params[j]? = some t → Tryd.pinned.checked.prog.wantsStandIn t = false := by
  obtain rfl : f = 3 := Option.some.inj ((show Tryd.prog.funcNamed "loop.example/portreeve/laws.FnExactTapeAdd" = some 3 by kernel_rfl).symm.trans hf) |>.symm
  obtain rfl : fn = Tryd.f3 := (Option.some.inj (Tryd.func3.symm.trans hfn)).symm
  refine ⟨by kernel_rfl, fun j t ht => ?_⟩
  rw [Tryd.params3] at ht
  have hm : t = 24 ∨ t = 9 := by simpa using Array.mem_of_getElem? ht
  rcases hm with rfl | rfl
  · exact (show Tryd.prog.wantsStandIn 24 = false by kernel_rfl)
  · exact (show Tryd.prog.wantsStandIn 9 = false by kernel_rfl)

end Go.Proofs.YtlnngamhjinpbaaDoor.exactTapeAdd
namespace Go.Proofs.YtlnngamhjinpbaaDoor

/-- THE CARD -/
theorem exactTapeAdd_card : Rows.FnExactTapeAddCardSaid :=
  Claim7.holds_tied_plain_at .later [] _ _ _ _ exactTapeAdd.said (fun _ h => by cases h) (by kernel_rfl) (fun _ h => by cases h) fnExactTapeAdd_row_tie rfl ⟨rfl, rfl⟩ (by kernel_rfl) rfl exactTapeAdd.plain (by kernel_rfl)

end Go.Proofs.YtlnngamhjinpbaaDoor
