/- A value copied by the exact laws. -/
import Derived.Test.YtgmigloafcejdaaGreatDoorV3
namespace Go.Proofs.YtgmigloafcejdaaGreatDoor
open Go.RowKit

theorem bulk_kid {ks : List VT} {j : Nat} {k : VT} (h : ks[j]? = some k) : bulk k ≤ bulkK ks := by
  have hl : j < ks.length := by
    apply Classical.byContradiction
    intro hh
    rw [List.getElem?_eq_none (by omega)] at h
    cases h
  have h1 := bulkK_take ks j hl
  have h2 := bulkK_le ks (j + 1)
  have : ks[j] = k := by rw [List.getElem?_eq_getElem hl] at h; exact Option.some.inj h
  rw [this] at h1
  omega

theorem results_blk1 {P : Program} {fn : Func} {p : Tmp} {ty : TypeId} (h : fn.results = #[.cell p ty]) (tmps : Array Value) (w : World) (g : Nat) (t : TypeId) (L : List Value) (d : TypeDesc)
    (hg : Blk w g t L) (hu : P.underlying ty = some d) (hd : (match d with | .struct _ | .array _ _ => true | _ => false) = true) (hi : (P.info? ty).map (·.size) = some L.length)
    (hp : tmps[p]?.getD undef = .pointer (some ⟨g, 0, none⟩)) :
    (results fn tmps).run P w = .ok (.agg L.toArray) w := by
  simp [results, h, hp, asAddr, run_loadVar_row w g t ty L.toArray (0, 0) d hg hu hd (by simpa using hi)]
theorem info30s : (Tryz.prog.info? 27).map (·.size) = some 5 := by kernel_rfl
theorem Copied.kept2 {w w' : World} {g : Nat} {ks : List VT} {k : Nat} {row : Option Nat} (h : Copied w g ks k) (hg : w.grownBy w' row) (hr : ∀ q, row = some q → q < g) : Copied w' g ks k := by
  obtain ⟨X, CS, h1, h2, h3⟩ := h
  exact ⟨X, CS, h1, h2.kept hg (fun e => by have := hr g e.symm; omega), fun j hj => ⟨(h3 j hj).1, fun t ht => ((h3 j hj).2 t ht).kept hg (fun q hq => by have := hr q hq; omega)⟩⟩
/-- a value of parts that were copied -/
theorem VIn.made {w : World} {base b1 b2 : Nat} {s n : Int} {t : ByteArray} {ns : List ByteArray} {ks : List VT} (hl : Lies w b1 (some ⟨b1, 0, none⟩) ns) (hc : Copied w b2 ks ks.length) (h1 : base ≤ b1) (h2 : base ≤ b2) (ht : t.size ≤ 9223372036854775807) (hcl : ns.length ≤ 9223372036854775807) (hkl : ks.length ≤ 9223372036854775807) (hsl : ∀ s ∈ ns, s.size ≤ 9223372036854775807)
    (hs1 : -9223372036854775808 ≤ s) (hs2 : s ≤ 9223372036854775807) (hn1 : -9223372036854775808 ≤ n) (hn2 : n ≤ 9223372036854775807) :
    VIn w base (.node s n t ns ks) [.int .i64 s, .int .i64 n, .string t, .slice (some ⟨b1, 0, none⟩) ns.length ns.length, .slice (some ⟨b2, 0, none⟩) ks.length ks.length] := by
  obtain ⟨X, CX, hX, hbk, hall⟩ := hc
  rw [Nat.sub_self] at hbk
  refine .mk CX (hl.base h1) (.inr ⟨b2, 0, rfl, h2, fun j hj => ?_⟩) (fun j k hj => ?_) (Nat.le_refl _) (Nat.le_refl _) ht hcl hkl hsl hs1 hs2 hn1 hn2
  · rw [Nat.zero_add]
    exact (hall j hj).1.app.five hbk
  · have hl : j < ks.length := by
      apply Classical.byContradiction
      intro hh
      rw [List.getElem?_eq_none (by omega)] at hj
      cases hj
    exact ((hall j hl).2 k hj).base (by omega)

set_option maxRecDepth 100000 in
set_option maxHeartbeats 1000000 in
theorem toV_any (w : World) (base : Nat) (T : VT) (cs : List Value) (h : VIn w base T cs) : bulk T ≤ 1048576 → ∀ W : World, w.grownBy W none → Calls Tryz.prog 20 #[.agg cs.toArray] W fun e w' => ∃ cs', e = .returned (.agg cs'.toArray) ∧ VIn w' W.heap.size T cs' ∧ W.grownBy w' none := by
  induction h with
  | @mk s n t ns ks an ak cn ck CS hn hp hk hcn hck ht hcl hkl hsl hs1 hs2 hn1 hn2 ih =>
    intro hbu W hW
    rw [bulk] at hbu
    have HS := Lib.hid (fun (X : World) (hX : w.grownBy X none) => toS_any X base an cn ns (hn.kept hX (fun q e => by cases e)) (by omega))
    have HK := Lib.hid (fun (X : World) (hX : w.grownBy X none) => toK_any w base ks ak ck (by omega) CS hp (fun j k hj Y hY => ih j k hj (by have := bulk_kid hj; omega) Y hY) X hX)
    have HW := Lib.hid hW
    have HSL := Lib.hid hsl
    clear hn hp hk ih hsl hW
    have HBA := Lib.hid (show Blk (((W.alloc (Obj.cells #[Value.int .i64 s, .int .i64 n, .string t, .slice an ns.length cn, .slice ak ks.length ck] 39)).alloc (Obj.cells #[Value.int .i64 0, .int .i64 0, .string ⟨#[]⟩, .slice none 0 0, .slice none 0 0] 27)).alloc (Obj.cells #[Value.int .i64 s, .int .i64 n, .string t, .slice none 0 0, .slice none 0 0] 27)) W.heap.size 39 [.int .i64 s, .int .i64 n, .string t, .slice an ns.length cn, .slice ak ks.length ck] from ((Blk.new W 39 [.int .i64 s, .int .i64 n, .string t, .slice an ns.length cn, .slice ak ks.length ck]).alloc _).alloc _)
    have HBR := Lib.hid (show Blk (((W.alloc (Obj.cells #[Value.int .i64 s, .int .i64 n, .string t, .slice an ns.length cn, .slice ak ks.length ck] 39)).alloc (Obj.cells #[Value.int .i64 0, .int .i64 0, .string ⟨#[]⟩, .slice none 0 0, .slice none 0 0] 27)).alloc (Obj.cells #[Value.int .i64 s, .int .i64 n, .string t, .slice none 0 0, .slice none 0 0] 27)) (W.heap.size + 1) 27 [.int .i64 0, .int .i64 0, .string ⟨#[]⟩, .slice none 0 0, .slice none 0 0] from by
      have := (Blk.new (W.alloc (Obj.cells #[Value.int .i64 s, .int .i64 n, .string t, .slice an ns.length cn, .slice ak ks.length ck] 39)) 27 [.int .i64 0, .int .i64 0, .string ⟨#[]⟩, .slice none 0 0, .slice none 0 0]).alloc (Obj.cells #[Value.int .i64 s, .int .i64 n, .string t, .slice none 0 0, .slice none 0 0] 27)
      simpa using this)
    have HBO := Lib.hid (show Blk (((W.alloc (Obj.cells #[Value.int .i64 s, .int .i64 n, .string t, .slice an ns.length cn, .slice ak ks.length ck] 39)).alloc (Obj.cells #[Value.int .i64 0, .int .i64 0, .string ⟨#[]⟩, .slice none 0 0, .slice none 0 0] 27)).alloc (Obj.cells #[Value.int .i64 s, .int .i64 n, .string t, .slice none 0 0, .slice none 0 0] 27)) (W.heap.size + 1 + 1) 27 [.int .i64 s, .int .i64 n, .string t, .slice none 0 0, .slice none 0 0] from by
      have := Blk.new ((W.alloc (Obj.cells #[Value.int .i64 s, .int .i64 n, .string t, .slice an ns.length cn, .slice ak ks.length ck] 39)).alloc (Obj.cells #[Value.int .i64 0, .int .i64 0, .string ⟨#[]⟩, .slice none 0 0, .slice none 0 0] 27)) 27 [.int .i64 s, .int .i64 n, .string t, .slice none 0 0, .slice none 0 0]
      simpa using this)
    have HG3 := Lib.hid (show W.grownBy (((W.alloc (Obj.cells #[Value.int .i64 s, .int .i64 n, .string t, .slice an ns.length cn, .slice ak ks.length ck] 39)).alloc (Obj.cells #[Value.int .i64 0, .int .i64 0, .string ⟨#[]⟩, .slice none 0 0, .slice none 0 0] 27)).alloc (Obj.cells #[Value.int .i64 s, .int .i64 n, .string t, .slice none 0 0, .slice none 0 0] 27)) none from grown_alloc (grown_alloc (grown_alloc (grown_refl _ _) _) _) _)
    have HZ3 := Lib.hid (show ((((W.alloc (Obj.cells #[Value.int .i64 s, .int .i64 n, .string t, .slice an ns.length cn, .slice ak ks.length ck] 39)).alloc (Obj.cells #[Value.int .i64 0, .int .i64 0, .string ⟨#[]⟩, .slice none 0 0, .slice none 0 0] 27)).alloc (Obj.cells #[Value.int .i64 s, .int .i64 n, .string t, .slice none 0 0, .slice none 0 0] 27))).heap.size = W.heap.size + 3 from by simp)
    go_enter Tryz.func20, Tryz.ntmps20
    go_wp2_with fail
    generalize (((W.alloc (Obj.cells #[Value.int .i64 s, .int .i64 n, .string t, .slice an ns.length cn, .slice ak ks.length ck] 39)).alloc (Obj.cells #[Value.int .i64 0, .int .i64 0, .string ⟨#[]⟩, .slice none 0 0, .slice none 0 0] 27)).alloc (Obj.cells #[Value.int .i64 s, .int .i64 n, .string t, .slice none 0 0, .slice none 0 0] 27)) = W3 at HBA HBR HBO HG3 HZ3 ⊢
    refine (HS.out W3 (grown_trans HW.out HG3.out)).mono ?_
    rintro e w1 ⟨rfl, hl1, hg1⟩
    have HL1 := Lib.hid hl1
    have HG1 := Lib.hid (grown_trans HG3.out hg1)
    have HA1 := Lib.hid (HBA.out.kept hg1 (by simp))
    have HR1 := Lib.hid (HBR.out.kept hg1 (by simp))
    have HO1 := Lib.hid (HBO.out.kept hg1 (by simp))
    have hsz1 : W.heap.size + 3 ≤ w1.heap.size := by have := hg1.size; have := HZ3.out; omega
    have d4 : w1.cell? ⟨W.heap.size, 4, none⟩ = some (.slice ak ks.length ck) := HA1.out.cell rfl
    have o3 : w1.cell? ⟨W.heap.size + 1 + 1, 3, none⟩ = some (.slice none 0 0) := HO1.out.cell rfl
    have f3 := HO1.out.frozen 3
    clear hl1 hg1 HS HBA HBR HBO
    go_wp2_with fail
    have HG2 := Lib.hid (show w1.grownBy (w1.setCell ⟨W.heap.size + 1 + 1, 3, none⟩ (.slice (some ⟨W3.heap.size, 0, none⟩) ns.length ns.length)) (some (W.heap.size + 1 + 1)) from grown_set (grown_refl _ _) 3 _)
    have HO2 := Lib.hid (show Blk (w1.setCell ⟨W.heap.size + 1 + 1, 3, none⟩ (.slice (some ⟨W3.heap.size, 0, none⟩) ns.length ns.length)) (W.heap.size + 1 + 1) 27 [.int .i64 s, .int .i64 n, .string t, .slice (some ⟨W3.heap.size, 0, none⟩) ns.length ns.length, .slice none 0 0] from HO1.out.set 3 _)
    generalize w1.setCell ⟨W.heap.size + 1 + 1, 3, none⟩ (.slice (some ⟨W3.heap.size, 0, none⟩) ns.length ns.length) = w2 at HG2 HO2 ⊢
    have HR2 := Lib.hid (HR1.out.kept HG2.out (by simp))
    have HL2 := Lib.hid (HL1.out.kept HG2.out (fun q hq => by cases hq; have := HZ3.out; omega))
    have HGW2 := Lib.hid (show W.grownBy w2 none from grown_into HG1.out HG2.out (by omega))
    have hsz2 : W.heap.size + 3 ≤ w2.heap.size := by have := HG2.out.size; omega
    have HGW2S := Lib.hid hsz2
    clear d4 o3 f3 HG1 HA1 HR1 HO1 HL1 HG2 hsz1
    refine (HK.out w2 (grown_trans HW.out HGW2.out)).mono ?_
    rintro e w3 ⟨rfl, hcop, hg3⟩
    have HCO := Lib.hid hcop
    have HGW3 := Lib.hid (grown_trans HGW2.out hg3)
    have HR3 := Lib.hid (HR2.out.kept hg3 (by simp))
    have HO3 := Lib.hid (HO2.out.kept hg3 (by simp))
    have HL3 := Lib.hid (HL2.out.kept hg3 (fun q hq => by cases hq))
    have hsz3 : W.heap.size + 3 ≤ w3.heap.size := by have := hg3.size; omega
    have o0 : w3.cell? ⟨W.heap.size + 1 + 1, 0, none⟩ = some (.int .i64 s) := HO3.out.cell rfl
    have o1 : w3.cell? ⟨W.heap.size + 1 + 1, 1, none⟩ = some (.int .i64 n) := HO3.out.cell rfl
    have o2 : w3.cell? ⟨W.heap.size + 1 + 1, 2, none⟩ = some (.string t) := HO3.out.cell rfl
    have o3 : w3.cell? ⟨W.heap.size + 1 + 1, 3, none⟩ = some (.slice (some ⟨W3.heap.size, 0, none⟩) ns.length ns.length) := HO3.out.cell rfl
    have o4 : w3.cell? ⟨W.heap.size + 1 + 1, 4, none⟩ = some (.slice none 0 0) := HO3.out.cell rfl
    have f4 := HO3.out.frozen 4
    have r0 : w3.cell? ⟨W.heap.size + 1, 0, none⟩ = some (.int .i64 0) := HR3.out.cell rfl
    have r1 : w3.cell? ⟨W.heap.size + 1, 1, none⟩ = some (.int .i64 0) := HR3.out.cell rfl
    have r2 : w3.cell? ⟨W.heap.size + 1, 2, none⟩ = some (.string ⟨#[]⟩) := HR3.out.cell rfl
    have r3 : w3.cell? ⟨W.heap.size + 1, 3, none⟩ = some (.slice none 0 0) := HR3.out.cell rfl
    have r4 : w3.cell? ⟨W.heap.size + 1, 4, none⟩ = some (.slice none 0 0) := HR3.out.cell rfl
    have g0 := HR3.out.frozen 0
    have g1 := HR3.out.frozen 1
    have g2 := HR3.out.frozen 2
    have g3 := HR3.out.frozen 3
    have g4 := HR3.out.frozen 4
    clear hcop hg3 HK HR2 HO2 HL2 HGW2 hsz2
    go_wp2
    have HGA := Lib.hid (show w3.grownBy (w3.setCell ⟨W.heap.size + 1 + 1, 4, none⟩ (.slice (some ⟨w2.heap.size, 0, none⟩) ks.length ks.length)) (some (W.heap.size + 1 + 1)) from grown_set (grown_refl _ _) 4 _)
    have HRA := Lib.hid (HR3.out.kept HGA.out (by simp))
    have HLA := Lib.hid (HL3.out.kept HGA.out (fun q hq => by cases hq; have := HZ3.out; omega))
    have HCA := Lib.hid (HCO.out.kept2 HGA.out (fun q hq => by cases hq; have := HGW2S.out; omega))
    have HWA := Lib.hid (show W.grownBy (w3.setCell ⟨W.heap.size + 1 + 1, 4, none⟩ (.slice (some ⟨w2.heap.size, 0, none⟩) ks.length ks.length)) none from grown_into HGW3.out HGA.out (by omega))
    clear o0 o1 o2 o3 o4 f4 r0 r1 r2 r3 r4 g0 g1 g2 g3 g4 HGA HO3
    generalize w3.setCell ⟨W.heap.size + 1 + 1, 4, none⟩ (.slice (some ⟨w2.heap.size, 0, none⟩) ks.length ks.length) = wa at HRA HLA HCA HWA ⊢
    have hgb := grown_set (grown_set (grown_set (grown_set (grown_set (grown_refl wa (some (W.heap.size + 1))) 0 (.int .i64 s)) 1 (.int .i64 n)) 2 (.string t)) 3 (.slice (some ⟨W3.heap.size, 0, none⟩) ns.length ns.length)) 4 (.slice (some ⟨w2.heap.size, 0, none⟩) ks.length ks.length)
    have hbb : Blk _ (W.heap.size + 1) 27 [.int .i64 s, .int .i64 n, .string t, .slice (some ⟨W3.heap.size, 0, none⟩) ns.length ns.length, .slice (some ⟨w2.heap.size, 0, none⟩) ks.length ks.length] := ((((HRA.out.set 0 (.int .i64 s)).set 1 (.int .i64 n)).set 2 (.string t)).set 3 (.slice (some ⟨W3.heap.size, 0, none⟩) ns.length ns.length)).set 4 (.slice (some ⟨w2.heap.size, 0, none⟩) ks.length ks.length)
    generalize ((((wa.setCell ⟨W.heap.size + 1, 0, none⟩ (.int .i64 s)).setCell ⟨W.heap.size + 1, 1, none⟩ (.int .i64 n)).setCell ⟨W.heap.size + 1, 2, none⟩ (.string t)).setCell ⟨W.heap.size + 1, 3, none⟩ (.slice (some ⟨W3.heap.size, 0, none⟩) ns.length ns.length)).setCell ⟨W.heap.size + 1, 4, none⟩ (.slice (some ⟨w2.heap.size, 0, none⟩) ks.length ks.length) = wb at hgb hbb ⊢
    have HFIN := Lib.hid (show VIn wb W.heap.size (.node s n t ns ks) [.int .i64 s, .int .i64 n, .string t, .slice (some ⟨W3.heap.size, 0, none⟩) ns.length ns.length, .slice (some ⟨w2.heap.size, 0, none⟩) ks.length ks.length] ∧ W.grownBy wb none from
      ⟨VIn.made (HLA.out.kept hgb (fun q hq => by cases hq; have := HZ3.out; omega)) (HCA.out.kept2 hgb (fun q hq => by cases hq; have := HGW2S.out; omega)) (by have := HZ3.out; omega) (by have := HGW2S.out; omega) ht hcl hkl HSL.out hs1 hs2 hn1 hn2, grown_into HWA.out hgb (by omega)⟩)
    clear hgb HRA HLA HCA HWA
    exact ⟨rfl, _, results_blk1 Tryz.results20 _ wb (W.heap.size + 1) 27 _ _ hbb Tryz.underlying27 rfl info30s rfl, _, rfl, HFIN.out.1, HFIN.out.2⟩
end Go.Proofs.YtgmigloafcejdaaGreatDoor
