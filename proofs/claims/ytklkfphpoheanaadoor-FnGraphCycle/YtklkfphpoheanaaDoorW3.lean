/- Drawn graphs. -/
import Derived.Test.YtklkfphpoheanaaDoorW1
import Derived.Test.YtklkfphpoheanaaDoorW2
namespace Go.Proofs.YtklkfphpoheanaaDoor
open Go.RowKit

theorem Rd.rlt {w : World} {rb : Nat} {ao : Option Addr} {n cap p : Nat} (h : Rd w rb ao n cap p) : rb < w.heap.size := h.1.lt
theorem Rd.alloc {w : World} {rb : Nat} {ao : Option Addr} {n cap p : Nat} (h : Rd w rb ao n cap p) (o : Obj) : Rd (w.alloc o) rb ao n cap p :=
  ⟨h.1.alloc o, h.2.kept (World.grownBy_alloc w o none) (fun k hk => by cases hk)⟩
theorem Rd.other {w w' : World} {rb : Nat} {ao : Option Addr} {n cap p base : Nat} {row : Option Nat} (h : Rd w rb ao n cap p) (hg : w.grownBy w' row) (hr : ∀ q, row = some q → base ≤ q) (hab : ∀ ab o, ao = some ⟨ab, o, none⟩ → 0 < n → ab < base) (hrb : rb < base) : Rd w' rb ao n cap p := by
  refine ⟨h.1.kept hg (fun e => by have := hr rb e.symm; omega), h.2.1, ?_⟩
  rcases h.2.2 with h0 | ⟨ab, o, rfl, hne, hc⟩
  · exact .inl h0
  · by_cases hn : n = 0
    · exact .inl hn
    · refine .inr ⟨ab, o, rfl, hne, fun j hj => ?_⟩
      obtain ⟨x, h0, h1, hx⟩ := hc j hj
      exact ⟨x, h0, h1, hg.cell hx (fun e => by have := hr ab e.symm; have := hab ab o rfl (by omega); omega)⟩
theorem Rd.code_lt {w : World} {rb : Nat} {ao : Option Addr} {n cap p : Nat} (h : Rd w rb ao n cap p) : ∀ ab o, ao = some ⟨ab, o, none⟩ → 0 < n → ab < w.heap.size := by
  intro ab o he hn
  rcases h.2.2 with h0 | ⟨ab', o', he', _, hc⟩
  · omega
  · rw [he] at he'
    cases he'
    obtain ⟨x, _, _, hx⟩ := hc 0 hn
    have := World.block_lt_of_cell? w _ hx
    simpa using this

theorem NR.keep_rb {w w' : World} {base rb : Nat} {v : Value} {E : List (Int × Int)} (h : NR w base v E) (hg : w.grownBy w' (some rb)) (hrb : rb < base) : NR w' base v E :=
  h.kept hg (fun t ht e => by
    have h1 := (h.lt t ht).1
    have h2 : t = rb := by simpa using e
    omega)

set_option maxRecDepth 100000 in
set_option maxHeartbeats 2000000 in
theorem graph_any (w : World) (rb : Nat) (ao : Option Addr) (n cap p : Nat) (hr : Rd w rb ao n cap p) (hp : p < 1000) :
    Calls Tryd.prog 21 #[.pointer (some ⟨rb, 0, none⟩)] w fun e w' => ∃ (N : Int) (v : Value) (E : List (Int × Int)) (p' : Nat), e = .returned (.tuple #[.int .i64 N, v]) ∧ -1 ≤ N ∧ N ≤ 17 ∧ NR w' w.heap.size v E ∧ E.length ≤ 20 ∧ Rd w' rb ao n cap p' ∧ p' ≤ p + 100 ∧ w.grownBy w' (some rb) := by
  have hrb := hr.rlt
  have HAB := Lib.hid hr.code_lt
  have HP1 := Lib.hid (pick_any w rb ao n cap p hr (by omega) 8 (by decide) (by decide))
  clear hr
  go_enter Tryd.func21, Tryd.ntmps21
  go_wp2_with fail
  refine HP1.out.mono ?_
  rintro e w1 ⟨x, rfl, hx0, hx1, hr1, hg1⟩
  have HP2 := Lib.hid (pick_any w1 rb ao n cap (p + 1) hr1 (by omega) 10 (by decide) (by decide))
  have HG1 := Lib.hid hg1
  clear hr1 hg1 HP1
  go_wp2_with fail
  refine HP2.out.mono ?_
  rintro e w2 ⟨y, rfl, hy0, hy1, hr2, hg2⟩
  have HR2 := Lib.hid hr2
  have HG2 := Lib.hid (grown_trans HG1.out hg2)
  clear hr2 hg2 HP2 HG1
  go_upto_if 13 with (fail)
  go_cut [4, 13] from 14 to 18 (fun v _ wx => ∃ N : Int, v = .int .i64 N ∧ -1 ≤ N ∧ N ≤ 17 ∧ (∃ p', p' ≤ p + 3 ∧ Hid (Rd wx rb ao n cap p')) ∧ Hid (w.grownBy wx (some rb)))
  case first =>
    by_cases hy : y = 0
    · have hyb : (y == 0) = true := by simp [hy]
      have HP3 := Lib.hid (pick_any (w2.alloc (.cells #[.int .i64 (-1), .int .i64 16, .int .i64 17] 3)) rb ao n cap (p + 1 + 1) (HR2.out.alloc _) (by omega) 3 (by decide) (by decide))
      clear hy
      go_wp2_with fail
      refine HP3.out.mono ?_
      rintro e w3 ⟨z, rfl, hz0, hz1, hr3, hg3⟩
      have hbl := (Blk.new w2 3 [.int .i64 (-1), .int .i64 16, .int .i64 17]).kept hg3 (by have := HR2.out.rlt; simp; omega)
      have HR3 := Lib.hid hr3
      have HG3 := Lib.hid (show w.grownBy w3 (some rb) from grown_trans (grown_alloc HG2.out _) hg3)
      obtain rfl | rfl | rfl : z = 0 ∨ z = 1 ∨ z = 2 := by omega
      · have d := hbl.cell (j := 0) rfl
        clear hbl hr3 hg3 HP3
        go_wp2_with fail
        go_meet
        exact ⟨-1, rfl, by omega, by omega, ⟨_, by omega, HR3⟩, HG3⟩
      · have d := hbl.cell (j := 1) rfl
        clear hbl hr3 hg3 HP3
        go_wp2_with fail
        go_meet
        exact ⟨16, rfl, by omega, by omega, ⟨_, by omega, HR3⟩, HG3⟩
      · have d := hbl.cell (j := 2) rfl
        clear hbl hr3 hg3 HP3
        go_wp2_with fail
        go_meet
        exact ⟨17, rfl, by omega, by omega, ⟨_, by omega, HR3⟩, HG3⟩
    · have hyb : (y == 0) = false := by simp [hy]
      clear hy
      go_wp2_with fail
      go_meet
      exact ⟨x, rfl, by omega, by omega, ⟨_, by omega, HR2⟩, HG2⟩
  case rest =>
    obtain ⟨N, rfl, hN1, hN2, ⟨p3, hp3, HRC⟩, HGC⟩ := hcut
    have hsc := HGC.out.size
    have hrc := HRC.out.rlt
    have HP4 := Lib.hid (pick_any (wc.alloc (.cells #[] 32)) rb ao n cap p3 (HRC.out.alloc _) (by omega) 10 (by decide) (by decide))
    have HN0 := Lib.hid (NR.empty wc)
    clear HR2 HG2
    go_wp2_with fail
    refine HP4.out.mono ?_
    rintro e w4 ⟨k0, rfl, hk0, hk1, hr4, hg4⟩
    obtain ⟨kk, rfl⟩ := Int.eq_ofNat_of_zero_le hk0
    have HR4 := Lib.hid hr4
    have HG4 := Lib.hid (show w.grownBy w4 (some rb) from grown_trans (grown_alloc HGC.out _) hg4)
    have HN4 := Lib.hid (show NR w4 w.heap.size (.slice (some ⟨wc.heap.size, 0, none⟩) 0 0) [] from (HN0.out.keep_rb hg4 hrc).base hsc)
    clear hr4 hg4 HP4 HN0 HRC HGC
    go_wp2
    go_loopw [5, 6] (fun v i wi => ∃ (k : Nat) (E : List (Int × Int)) (q : Nat), i = .int .i64 k ∧ k + E.length ≤ 9 ∧ NR wi w.heap.size v E ∧ q + 3 * k ≤ p + 40 ∧ Rd wi rb ao n cap q ∧ w.heap.size ≤ wi.heap.size ∧ w.grownBy wi (some rb)) (fun _ i _ => (intOf i).toNat)
    case atStart => exact ⟨kk, [], p3 + 1, rfl, by simp; omega, HN4.out, by omega, HR4.out, HG4.out.size, HG4.out⟩
    case round =>
      clear HR4 HG4 HN4
      obtain ⟨k, E, q, rfl, hkE, hnr, hq, hrd, hsz, hg⟩ := hrel
      have HNR := Lib.hid hnr
      have HRD := Lib.hid hrd
      have HG := Lib.hid hg
      clear hnr hrd hg
      by_cases hgo : 0 < k ∧ 0 < N
      · obtain ⟨hk, hN⟩ := hgo
        have hkI : (0 : Int) < (k : Int) := by omega
        have HPA := Lib.hid (pick_any wr rb ao n cap q HRD.out (by omega) N (by omega) (by omega))
        go_wp2_with fail
        refine HPA.out.mono ?_
        rintro e wa ⟨a, rfl, ha0, ha1, hra, hga⟩
        have HPB := Lib.hid (pick_any wa rb ao n cap (q + 1) hra (by omega) N (by omega) (by omega))
        have HGA := Lib.hid (grown_trans HG.out hga)
        have HNA := Lib.hid (HNR.out.keep_rb hga hrb)
        clear hra hga HPA HG HNR HRD
        go_wp2_with fail
        refine HPB.out.mono ?_
        rintro e wb ⟨b, rfl, hb0, hb1, hrb2, hgb⟩
        have HPC := Lib.hid (pick_any wb rb ao n cap (q + 1 + 1) hrb2 (by omega) 3 (by decide) (by decide))
        have HGB := Lib.hid (grown_trans HGA.out hgb)
        have HNB := Lib.hid (HNA.out.keep_rb hgb hrb)
        clear hrb2 hgb HPB HGA HNA
        go_wp2_with fail
        refine HPC.out.mono ?_
        rintro e wd ⟨c, rfl, hc0, hc1, hrd, hgd⟩
        have HRD := Lib.hid hrd
        have HGD := Lib.hid (grown_trans HGB.out hgd)
        have HND := Lib.hid (HNB.out.keep_rb hgd hrb)
        have hsd := HGD.out.size
        clear hrd hgd HPC HGB HNB
        have FIN : ∀ (f g : Int) (v9 : Value) (w9 : World), NR w9 w.heap.size v9 (E ++ [(f, g)]) → (wd.alloc (.cells #[.int .i64 f, .int .i64 g] 32)).grownBy w9 (Value.ownBlock _) → ∃ (k' : Nat) (E' : List (Int × Int)) (q' : Nat), Value.int .i64 ((k : Int) - 1) = .int .i64 k' ∧ k' + E'.length ≤ 9 ∧ NR w9 w.heap.size v9 E' ∧ q' + 3 * k' ≤ p + 40 ∧ Rd w9 rb ao n cap q' ∧ w.heap.size ≤ w9.heap.size ∧ w.grownBy w9 (some rb) := fun f g v9 w9 h1 h2 =>
          ⟨k - 1, E ++ [(f, g)], q + 1 + 1 + 1, by congr 1; omega, by simp; omega, h1, by omega, (HRD.out.alloc _).other h2 (fun t ht => (HND.out.lt t ht).1) HAB.out hrb, Nat.le_trans (Nat.le_trans hsd (World.grownBy_alloc _ _ none).size) h2.size, grown_own (grown_alloc HGD.out _) h2 (fun t ht => (HND.out.lt t ht).1)⟩
        have HFIN := Lib.hid FIN
        clear FIN
        by_cases hcab : 0 < c ∧ a < b
        · obtain ⟨hc, hab⟩ := hcab
          go_wp2_with (first | (at_builtin; refine wpList_append_need rfl _ _ rfl w.heap.size _ E (b) (a) rfl (HND.out.kept (World.grownBy_alloc _ _ none) (by simp)) _ rfl (Blk.new _ 32 [.int .i64 (b), .int .i64 (a)]) (by omega) (by simp; omega) ?_; intro v9 w9 HN9 HG9))
          go_roundw
          case rel => exact HFIN.out b a v9 w9 HN9.out HG9.out
          case measure => simp [intOf]; omega
        · by_cases hc : 0 < c
          · have hab : ¬ a < b := fun h => hcab ⟨hc, h⟩
            clear hcab
            go_wp2_with (first | (at_builtin; refine wpList_append_need rfl _ _ rfl w.heap.size _ E (a) (b) rfl (HND.out.kept (World.grownBy_alloc _ _ none) (by simp)) _ rfl (Blk.new _ 32 [.int .i64 (a), .int .i64 (b)]) (by omega) (by simp; omega) ?_; intro v9 w9 HN9 HG9))
            go_roundw
            case rel => exact HFIN.out a b v9 w9 HN9.out HG9.out
            case measure => simp [intOf]; omega
          · clear hcab
            go_wp2_with (first | (at_builtin; refine wpList_append_need rfl _ _ rfl w.heap.size _ E (a) (b) rfl (HND.out.kept (World.grownBy_alloc _ _ none) (by simp)) _ rfl (Blk.new _ 32 [.int .i64 (a), .int .i64 (b)]) (by omega) (by simp; omega) ?_; intro v9 w9 HN9 HG9))
            go_roundw
            case rel => exact HFIN.out a b v9 w9 HN9.out HG9.out
            case measure => simp [intOf]; omega
      · by_cases hk : 0 < k
        · have hN : ¬ 0 < N := fun h => hgo ⟨hk, h⟩
          have hkI : (0 : Int) < (k : Int) := by omega
          clear hgo
          have HPE := Lib.hid (pick_any wr rb ao n cap q HRD.out (by omega) 12 (by decide) (by decide))
          go_wp2_with fail
          refine HPE.out.mono ?_
          rintro e we ⟨y2, rfl, hy20, hy21, hre, hge⟩
          have HRE := Lib.hid hre
          have HGE := Lib.hid (grown_trans HG.out hge)
          have HNE := Lib.hid (HNR.out.keep_rb hge hrb)
          have HPF := Lib.hid (pick_any we rb ao n cap (q + 1) hre (by omega) 3 (by decide) (by decide))
          clear hre hge HPE HG HNR HRD
          by_cases hy2 : y2 = 0
          · have hy2b : (y2 == 0) = true := by simp [hy2]
            clear hy2
            go_wp2_with fail
            refine HPF.out.mono ?_
            rintro e wf ⟨z, rfl, hz0, hz1, hrf, hgf⟩
            have HRF := Lib.hid hrf
            have HGF := Lib.hid (grown_trans HGE.out hgf)
            have HNF := Lib.hid (HNE.out.keep_rb hgf hrb)
            have hsf := HGF.out.size
            clear hrf hgf HPF HGE HNE HRE
            go_wp2_with (first | (at_builtin; refine wpList_append_need rfl _ _ rfl w.heap.size _ E (z - 1) (N) rfl (HNF.out.kept (World.grownBy_alloc _ _ none) (by simp)) _ rfl (Blk.new _ 32 [.int .i64 (z - 1), .int .i64 (N)]) (by omega) (by simp; omega) ?_; intro v9 w9 HN9 HG9))
            go_ret2
            exact ⟨N, _, E ++ [(z - 1, N)], q + 1 + 1, rfl, hN1, hN2, HN9.out, by simp; omega, (HRF.out.alloc _).other HG9.out (fun t ht => (HNF.out.lt t ht).1) HAB.out hrb, by omega, grown_own (grown_alloc HGF.out _) HG9.out (fun t ht => (HNF.out.lt t ht).1)⟩
          · have hy2b : (y2 == 0) = false := by simp [hy2]
            clear hy2
            go_wp2
            go_ret2
            exact ⟨N, _, E, q + 1, rfl, hN1, hN2, HNE.out, by omega, HRE.out, by omega, HGE.out⟩
        · have hkI : ¬ (0 : Int) < (k : Int) := by omega
          clear hgo
          have HPE := Lib.hid (pick_any wr rb ao n cap q HRD.out (by omega) 12 (by decide) (by decide))
          go_wp2_with fail
          refine HPE.out.mono ?_
          rintro e we ⟨y2, rfl, hy20, hy21, hre, hge⟩
          have HRE := Lib.hid hre
          have HGE := Lib.hid (grown_trans HG.out hge)
          have HNE := Lib.hid (HNR.out.keep_rb hge hrb)
          have HPF := Lib.hid (pick_any we rb ao n cap (q + 1) hre (by omega) 3 (by decide) (by decide))
          clear hre hge HPE HG HNR HRD
          by_cases hy2 : y2 = 0
          · have hy2b : (y2 == 0) = true := by simp [hy2]
            clear hy2
            go_wp2_with fail
            refine HPF.out.mono ?_
            rintro e wf ⟨z, rfl, hz0, hz1, hrf, hgf⟩
            have HRF := Lib.hid hrf
            have HGF := Lib.hid (grown_trans HGE.out hgf)
            have HNF := Lib.hid (HNE.out.keep_rb hgf hrb)
            have hsf := HGF.out.size
            clear hrf hgf HPF HGE HNE HRE
            go_wp2_with (first | (at_builtin; refine wpList_append_need rfl _ _ rfl w.heap.size _ E (z - 1) (N) rfl (HNF.out.kept (World.grownBy_alloc _ _ none) (by simp)) _ rfl (Blk.new _ 32 [.int .i64 (z - 1), .int .i64 (N)]) (by omega) (by simp; omega) ?_; intro v9 w9 HN9 HG9))
            go_ret2
            exact ⟨N, _, E ++ [(z - 1, N)], q + 1 + 1, rfl, hN1, hN2, HN9.out, by simp; omega, (HRF.out.alloc _).other HG9.out (fun t ht => (HNF.out.lt t ht).1) HAB.out hrb, by omega, grown_own (grown_alloc HGF.out _) HG9.out (fun t ht => (HNF.out.lt t ht).1)⟩
          · have hy2b : (y2 == 0) = false := by simp [hy2]
            clear hy2
            go_wp2
            go_ret2
            exact ⟨N, _, E, q + 1, rfl, hN1, hN2, HNE.out, by omega, HRE.out, by omega, HGE.out⟩

end Go.Proofs.YtklkfphpoheanaaDoor
