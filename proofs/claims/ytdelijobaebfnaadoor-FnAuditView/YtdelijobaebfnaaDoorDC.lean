/- Audits drawn: any. -/
import Derived.Test.YtdelijobaebfnaaDoorDB
namespace Go.Proofs.YtdelijobaebfnaaDoor
open Go.RowKit

def lenOf : Value → Nat
  | .slice _ n _ => n
  | _ => 0
theorem ent17 : EntOk ⟨#[97, 99, 109, 101]⟩ ⟨#[112, 108, 97, 110]⟩ ⟨#[]⟩ := ⟨nameB (by decide), nameB (by decide), detB (by decide)⟩

set_option maxRecDepth 100000 in
set_option maxHeartbeats 16000000 in
theorem any17_any (w : World) (rb : Nat) (ao : Option Addr) (n cap p : Nat) (hr : Rd w rb ao n cap p) (hp : p ≤ 5000) :
    Calls Tryd.prog 22 #[.pointer (some ⟨rb, 0, none⟩)] w fun e w' => Drew17 rb ao n cap w.heap.size p 300 200 1001 e w' ∧ w.grownBy w' (some rb) := by
  have HRL := Lib.hid hr.lt
  have HD := Lib.hid (draw17_any w rb ao n cap p hr (by omega))
  clear hr
  go_enter Tryd.func22, Tryd.ntmps22
  go_wp2_with fail
  refine HD.out.mono ?_
  rintro e w1 ⟨⟨M, g, cp, p1, rfl, hM, how, heb, hr1, hp1⟩, hg1⟩
  have HO1 := Lib.hid how
  have HE1 := Lib.hid heb
  have HG1 := Lib.hid hg1
  have HGE := Lib.hid (show w.heap.size ≤ g ∧ g ≠ rb from ⟨how.ec.1, by have := how.ec.1; have := HRL.out; omega⟩)
  have HP := Lib.hid (pick_any w1 rb ao n cap p1 hr1 (by omega) 24 (by decide) (by decide))
  clear how heb hr1 hg1 HD
  go_wp2_with fail
  refine HP.out.mono ?_
  rintro e w2 ⟨y, rfl, hy0, hy1, hr2, hg2⟩
  have HG2 := Lib.hid (grown_trans HG1.out hg2)
  have HO2 := Lib.hid (HO1.out.kept hg2 (fun e => HGE.out.2 (Option.some.inj e)))
  have HR2 := Lib.hid hr2
  clear hr2 hg2 HP
  by_cases y0 : y = 0
  · subst y0
    have HS := Lib.hid (spoil17_any w2 rb ao n cap _ HR2.out (by omega) M g cp HO2.out.ec.2.2 hM HE1.out)
    go_wp2_with fail
    refine HS.out.mono ?_
    rintro e w3 ⟨⟨M3, g3, cp3, p3, rfl, hM3, how3, heb3, hr3, hp3⟩, hg3⟩
    have HX := Lib.hid (And.intro how3 (And.intro heb3 hr3))
    have HG3 := Lib.hid (grown_trans HG2.out hg3)
    have HSZ := Lib.hid HG2.out.size
    clear how3 heb3 hr3 hg3 HS
    go_wp2
    go_ret
    exact ⟨⟨M3, g3, cp3, p3, rfl, by omega, HX.out.1.low HSZ.out, HX.out.2.1, HX.out.2.2, by omega⟩, HG3.out⟩
  have y0b : (y == 0) = false := by rw [beq_eq_false_iff_ne]; exact y0
  by_cases y1 : y = 1
  · subst y1
    clear y0 y0b
    go_wp2
    go_loopw [3] (fun v wr => ∃ (M' : List AE) (g' cp' p' : Nat), v = .slice (some ⟨g', 0, none⟩) M'.length cp' ∧ M'.length ≤ 200 ∧ Hid (Own wr w.heap.size g' cp' M') ∧ Hid (EB 1000 M') ∧ Hid (Rd wr rb ao n cap p') ∧ p' ≤ p + 17 + M'.length ∧ Hid (w.grownBy wr (some rb))) (fun v _ => 200 - lenOf v)
    case atStart => exact ⟨M, g, cp, p1 + 1, rfl, by omega, HO2, HE1, HR2, by omega, HG2⟩
    case round =>
      obtain ⟨M', g', cp', p', rfl, hl, HO, HE, HR, hp', HG⟩ := hrel
      have HGN := Lib.hid (show w.heap.size ≤ g' ∧ g' ≠ rb from ⟨HO.out.ec.1, by have := HO.out.ec.1; have := HRL.out; omega⟩)
      have HPP := Lib.hid (pick_any wr rb ao n cap p' HR.out (by omega) 2 (by decide) (by decide))
      go_wp2_with fail
      refine HPP.out.mono ?_
      rintro e w4 ⟨z, rfl, hz0, hz1, hr4, hg4⟩
      have HG4 := Lib.hid (grown_trans HG.out hg4)
      have HO4 := Lib.hid (HO.out.kept hg4 (fun e => HGN.out.2 (Option.some.inj e)))
      have HR4 := Lib.hid hr4
      clear hr4 hg4 HPP
      by_cases hlt : (M'.length : Int) < 200 - z
      · have HL9 := Lib.hid (sl9g_any w4 M' g' cp' HO4.out.ec.2.2 (HE.out.ez (by omega)) ⟨#[97, 99, 109, 101]⟩ ⟨#[112, 108, 97, 110]⟩ ⟨#[]⟩ (by omega) ent17)
        have hML : (M'.length : Int) ≤ 200 := by omega
        go_wp2_with fail
        refine HL9.out.mono ?_
        rintro e w5 ⟨⟨g5, cn, rfl, hlo, hcn, -, how⟩, hg5⟩
        have hlen : (M' ++ [addE M' ⟨#[97, 99, 109, 101]⟩ ⟨#[112, 108, 97, 110]⟩ ⟨#[]⟩]).length = M'.length + 1 := by simp
        have HG5 := Lib.hid (grown_trans HG4.out (grown_widen hg5))
        have HO5 := Lib.hid (show Own w5 w.heap.size g5 cn (M' ++ [addE M' ⟨#[97, 99, 109, 101]⟩ ⟨#[112, 108, 97, 110]⟩ ⟨#[]⟩]) from by unfold Own; rw [hlen]; exact owns_low5 how HG4.out.size)
        have HE5 := Lib.hid (HE.out.add (by omega) (by omega) (ten := ⟨#[97, 99, 109, 101]⟩) (wha := ⟨#[112, 108, 97, 110]⟩) (det := ⟨#[]⟩) (by decide) (by decide) (by decide))
        have HR5 := Lib.hid (HR4.out.kept hg5)
        clear hlo hcn how hg5 HL9
        go_wp2
        go_roundw
        case rel => exact ⟨M' ++ [addE M' ⟨#[97, 99, 109, 101]⟩ ⟨#[112, 108, 97, 110]⟩ ⟨#[]⟩], g5, cn, p' + 1, by rw [hlen], by rw [hlen]; omega, HO5, HE5, HR5, by rw [hlen]; omega, HG5⟩
        case measure => simp [lenOf]; omega
      · have hML : (M'.length : Int) ≤ 200 := by omega
        go_wp2
        go_ret
        exact ⟨⟨M', g', cp', p' + 1, rfl, hl, HO4.out, HE.out.mono (by omega), HR4.out, by omega⟩, HG4.out⟩
  have y1b : (y == 1) = false := by rw [beq_eq_false_iff_ne]; exact y1
  go_wp2
  go_ret
  exact ⟨⟨M, g, cp, p1 + 1, rfl, by omega, HO2.out, HE1.out.mono (by omega), HR2.out, by omega⟩, HG2.out⟩

set_option maxRecDepth 100000 in
set_option maxHeartbeats 4000000 in
theorem drawAW_any (w : World) (ao : Option Addr) (n cap : Nat) (hn : n ≤ 1048576) (hcap : n ≤ cap) (hc : Came w ao n) :
    Calls Tryd.prog 7 #[.slice ao n cap] w fun e w' => (∃ (M : List AE) (g cp : Nat), e = .returned (.slice (some ⟨g, 0, none⟩) M.length cp) ∧ M.length ≤ 200 ∧ Own w' w.heap.size g cp M ∧ EB 1001 M) ∧ w.grownBy w' none := by
  have HO := Lib.hid (open_any w ao n cap hn hcap hc)
  clear hc
  go_enter Tryd.func7, Tryd.ntmps7
  go_wp2_with fail
  refine HO.out.mono ?_
  rintro e w1 ⟨rfl, ⟨n', hr1⟩, hg1⟩
  have HG1 := Lib.hid hg1
  have HA := Lib.hid (any17_any w1 w.heap.size ao n' cap 0 hr1 (by omega))
  clear hr1 hg1 HO
  go_wp2_with fail
  refine HA.out.mono ?_
  rintro e w2 ⟨⟨M, g, cp, p', rfl, hM, how, heb, hr2, -⟩, hg2⟩
  have HX := Lib.hid (And.intro (how.low HG1.out.size) heb)
  have HG2 := Lib.hid (grown_into HG1.out hg2 (Nat.le_refl _))
  clear how heb hr2 hg2 HA
  go_wp2
  go_ret
  exact ⟨⟨M, g, cp, rfl, hM, HX.out.1, HX.out.2⟩, HG2.out⟩
theorem results_tmp4 {fn : Func} {t u v x : Tmp} (h : fn.results = #[.tmp t, .tmp u, .tmp v, .tmp x]) (tmps : Array Value) (P : Program) (w : World) :
    (results fn tmps).run P w = .ok (.tuple #[tmps.getD t undef, tmps.getD u undef, tmps.getD v undef, tmps.getD x undef]) w := by
  simp [results, h]
theorem bI_size (s : ByteArray) : s.size = (bI s).length := by simp [bI]

set_option maxRecDepth 100000 in
set_option maxHeartbeats 8000000 in
theorem drawAA_any (w : World) (ao : Option Addr) (n cap : Nat) (hn : n ≤ 1048576) (hcap : n ≤ cap) (hc : Came w ao n) :
    Calls Tryd.prog 15 #[.slice ao n cap] w fun e w' => (∃ (M : List AE) (g cp : Nat) (ten wha det : ByteArray), e = .returned (.tuple #[.slice (some ⟨g, 0, none⟩) M.length cp, .string ten, .string wha, .string det]) ∧ M.length ≤ 200 ∧ Own w' w.heap.size g cp M ∧ EB 1001 M ∧ ten.size ≤ 1000 ∧ wha.size ≤ 1000 ∧ det.size ≤ 1000) ∧ w.grownBy w' none := by
  have HO := Lib.hid (open_any w ao n cap hn hcap hc)
  clear hc
  go_enter Tryd.func15, Tryd.ntmps15
  go_wp2_with fail
  refine HO.out.mono ?_
  rintro e w1 ⟨rfl, ⟨n', hr1⟩, hg1⟩
  have HG1 := Lib.hid hg1
  obtain ⟨rb, hrb⟩ : ∃ x, w.heap.size = x := ⟨_, rfl⟩
  rw [hrb] at hr1 ⊢
  have HRB := Lib.hid (show w.heap.size = rb ∧ rb < w1.heap.size from ⟨hrb, hr1.lt⟩)
  have HA := Lib.hid (any17_any w1 rb ao n' cap 0 hr1 (by omega))
  clear hr1 hg1 hrb HO
  go_wp2_with fail
  refine HA.out.mono ?_
  rintro e w2 ⟨⟨M, g, cp, p', rfl, hM, how, heb, hr2, hp2⟩, hg2⟩
  have HO2 := Lib.hid (how.low (Nat.le_of_lt HRB.out.2))
  have HE2 := Lib.hid heb
  have HGN := Lib.hid (show g ≠ rb from by have := how.ec.1; have := HRB.out.2; omega)
  have HG2 := Lib.hid (grown_into HG1.out hg2 (by have := HRB.out.1; omega))
  have HF1 := Lib.hid (ofl_any w2 rb ao n' cap p' hr2 (by omega) [⟨#[97, 99, 109, 101]⟩, ⟨#[98, 101, 116, 97]⟩, ⟨#[]⟩, ⟨#[65]⟩] (by decide) (by decide))
  clear how heb hr2 hg2 HA
  go_wp2_with fail
  refine HF1.out.mono ?_
  rintro e w3 ⟨s1, hm1, rfl, hr3, hg3⟩
  have HM1 := Lib.hid (show s1.size ≤ 1000 from by simp at hm1; rcases hm1 with rfl | rfl | rfl | rfl <;> decide)
  have HG3 := Lib.hid (grown_into HG2.out hg3 (by have := HRB.out.1; omega))
  have HO3 := Lib.hid (HO2.out.kept hg3 (fun e => HGN.out (Option.some.inj e)))
  have HF2 := Lib.hid (ofl_any w3 rb ao n' cap _ hr3 (by omega) [⟨#[112, 108, 97, 110]⟩, ⟨#[115, 116, 101, 112]⟩, ⟨#[98, 97, 100, 32, 111, 110, 101]⟩] (by decide) (by decide))
  clear hm1 hr3 hg3 HF1
  go_wp2_with fail
  refine HF2.out.mono ?_
  rintro e w4 ⟨s2, hm2, rfl, hr4, hg4⟩
  have HM2 := Lib.hid (show s2.size ≤ 1000 from by simp at hm2; rcases hm2 with rfl | rfl | rfl <;> decide)
  have HG4 := Lib.hid (grown_into HG3.out hg4 (by have := HRB.out.1; omega))
  have HO4 := Lib.hid (HO3.out.kept hg4 (fun e => HGN.out (Option.some.inj e)))
  have HR4 := Lib.hid hr4
  clear hm2 hr4 hg4 HF2
  go_wp2_with fail
  refine (many_any w4 ⟨#[100]⟩ 160 (by decide) (by decide)).mono ?_
  rintro e wx ⟨r1, rfl, hr1, hwx⟩
  have hwx := hwx.symm
  subst hwx
  have HS1 := Lib.hid (show r1.size ≤ 1000 from by rw [bI_size, hr1, repI_len]; decide)
  clear hr1
  go_wp2_with fail
  refine (many_any w4 ⟨#[100]⟩ 161 (by decide) (by decide)).mono ?_
  rintro e wx ⟨r2, rfl, hr2, hwx⟩
  have hwx := hwx.symm
  subst hwx
  have HS2 := Lib.hid (show r2.size ≤ 1000 from by rw [bI_size, hr2, repI_len]; decide)
  have HF3 := Lib.hid (ofl_any w4 rb ao n' cap _ HR4.out (by omega) [⟨#[]⟩, ⟨#[120]⟩, ⟨#[10]⟩, r1, r2] (by simp) (by simp))
  clear hr2
  go_wp2_with fail
  refine HF3.out.mono ?_
  rintro e w5 ⟨s3, hm3, rfl, hr5, hg5⟩
  have HM3 := Lib.hid (show s3.size ≤ 1000 from by
    simp at hm3
    rcases hm3 with rfl | rfl | rfl | rfl | rfl
    · decide
    · decide
    · decide
    · exact HS1.out
    · exact HS2.out)
  have HG5 := Lib.hid (grown_into HG4.out hg5 (by have := HRB.out.1; omega))
  have HO5 := Lib.hid (HO4.out.kept hg5 (fun e => HGN.out (Option.some.inj e)))
  clear hm3 hr5 hg5 HF3
  go_wp2
  (try simp only [Exit.inBlock, Exit.then])
  refine bodyPost_ret (results_tmp4 rfl _ _ _) rfl ?_
  exact ⟨⟨M, g, cp, s1, s2, s3, rfl, hM, HO5.out.low (by have := HRB.out; omega), HE2.out, HM1.out, HM2.out, HM3.out⟩, HG5.out⟩
end Go.Proofs.YtdelijobaebfnaaDoor
