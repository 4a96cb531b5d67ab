/- Audits drawn: one entry behind the other. -/
import Derived.Test.YtdelijobaebfnaaDoorAW
import Derived.Test.YtdelijobaebfnaaDoorMa3
namespace Go.Proofs.YtdelijobaebfnaaDoor
open Go.RowKit

/-- a list of entries in a row of its own -/
def Own (w : World) (lo g cp : Nat) (M : List AE) : Prop := w.ownsRow lo 28 5 (.slice (some ⟨g, 0, none⟩) M.length cp) M.length (entsV M)
theorem Own.ec {w : World} {lo g cp : Nat} {M : List AE} (h : Own w lo g cp M) : lo ≤ g ∧ M.length ≤ cp ∧ EC w g M := by
  rcases h.2 with ⟨h1, -⟩ | ⟨g', cap, cur, e, hlo, hb, hcap, -, hsz, htk⟩
  · cases h1
  · injection e with e1 e2 e3
    injection e1 with e4
    injection e4 with e5
    subst e5 e3
    refine ⟨hlo, hcap, (Array.getElem?_eq_some_iff.1 hb).1, fun i u hu => ?_⟩
    rw [← htk] at hu
    have hb' : Blk w g 28 cur.toList := by unfold Blk; rw [Array.toArray_toList]; exact hb
    have hi : i < M.length * 5 := by
      have := (List.getElem?_eq_some_iff.1 hu).1
      simp only [List.length_take] at this
      omega
    rw [List.getElem?_take_of_lt hi] at hu
    exact hb'.cell hu
theorem Own.kept {w w' : World} {lo g cp : Nat} {M : List AE} {row : Option Nat} (h : Own w lo g cp M) (hg : w.grownBy w' row) (hne : some g ≠ row) : Own w' lo g cp M := World.ownsRow.kept h hg (.inr hne)
theorem Own.low {w : World} {lo lo' g cp : Nat} {M : List AE} (h : Own w lo g cp M) (hb : lo' ≤ lo) : Own w lo' g cp M := owns_low5 h hb
/-- entries that are small -/
def EB1 (b : Nat) (e : AE) : Prop := e.ten.size ≤ b ∧ e.wha.size ≤ b ∧ e.det.size ≤ b ∧ e.sum.size ≤ b ∧ -(b : Int) ≤ e.seq ∧ e.seq ≤ b
def EB (b : Nat) (M : List AE) : Prop := ∀ e ∈ M, EB1 b e
theorem EB.ez {b : Nat} {M : List AE} (h : EB b M) (hb : b ≤ 1048576) : EZ M := fun e he => by
  obtain ⟨h1, h2, h3, h4, -⟩ := h e he
  exact ⟨by omega, by omega, by omega, by omega⟩
theorem EB.mono {b c : Nat} {M : List AE} (h : EB b M) (hb : b ≤ c) : EB c M := fun e he => by
  obtain ⟨h1, h2, h3, h4, h5, h6⟩ := h e he
  exact ⟨by omega, by omega, by omega, by omega, by omega, by omega⟩
theorem EB.app {b : Nat} {M : List AE} {E : AE} (h : EB b M) (hE : EB1 b E) : EB b (M ++ [E]) := fun e he => by
  rcases List.mem_append.1 he with h1 | h1
  · exact h e h1
  · rw [List.mem_singleton.1 h1]; exact hE
theorem sumE_64 (b : ByteArray) (n : Nat) (ten wha det : ByteArray) : (sumE b n ten wha det).size = 64 := by
  rw [show sumE b n ten wha det = strI (hexL (sha (encI [b, decS n, ten, wha, det]))) from rfl, strI_size, hexL_len, sha_len]
theorem EB.add {b : Nat} {M : List AE} (h : EB b M) (hb : 200 ≤ b) (hn : M.length < 200) {ten wha det : ByteArray} (h1 : ten.size ≤ 200) (h2 : wha.size ≤ 200) (h3 : det.size ≤ 200) : EB b (M ++ [addE M ten wha det]) := by
  refine h.app ⟨show ten.size ≤ b by omega, show wha.size ≤ b by omega, show det.size ≤ b by omega, ?_, ?_, ?_⟩
  · show (sumE _ _ _ _ _).size ≤ b
    rw [sumE_64]; omega
  · show -(b : Int) ≤ (M.length : Int) + 1
    omega
  · show (M.length : Int) + 1 ≤ b
    omega
theorem ofl_any (w : World) (rb : Nat) (ao : Option Addr) (n cap p : Nat) (hr : Rd w rb ao n cap p) (hp : p < 1000000) (L : List ByteArray) (h1 : 0 < L.length) (h2 : L.length ≤ 1000) :
    Calls Tryd.prog 35 #[.pointer (some ⟨rb, 0, none⟩), .slice (some ⟨w.heap.size, 0, none⟩) L.length L.length] (w.alloc (.cells (strs L).toArray 9)) fun e w' => ∃ s, s ∈ L ∧ e = .returned (.string s) ∧ Rd w' rb ao n cap (p + 1) ∧ w.grownBy w' (some rb) := by
  have hlt := hr.lt
  refine (of_any (w.alloc (.cells (strs L).toArray 9)) rb ao n cap p (hr.kept (World.grownBy_alloc w _ none)) hp w.heap.size (by omega) L h1 h2 L.length (fun j hj => (Blk.new w 9 (strs L)).cell (by simp [strs, hj]))).mono ?_
  rintro e w' ⟨j, hj, rfl, hr', hg⟩
  exact ⟨_, by rw [show L.getD j ByteArray.empty = L[j] from by simp [hj]]; exact List.getElem_mem hj, rfl, hr', grown_trans (World.grownBy_alloc w _ _) hg⟩
theorem nameB {s : ByteArray} (h : (decide (1 ≤ s.size) && decide (s.size ≤ 7) && (List.range s.size).all fun k => decide (97 ≤ (s.data.toList.getD k 0).toNat) && decide ((s.data.toList.getD k 0).toNat ≤ 122)) = true) : NameOk s := by
  simp only [Bool.and_eq_true, decide_eq_true_eq, List.all_eq_true, List.mem_range] at h
  obtain ⟨⟨h1, h2⟩, h3⟩ := h
  refine ⟨h1, h2, fun k hk => .inl ?_⟩
  have := h3 k hk
  have e : s.data.toList.getD k 0 = s[k] := by
    have hl : k < s.data.toList.length := by simpa using hk
    rw [List.getD_eq_getElem?_getD, List.getElem?_eq_getElem hl, Option.getD_some]
    rfl
  rw [e] at this
  exact this
theorem detB {s : ByteArray} (h : (decide (s.size ≤ 160) && (List.range s.size).all fun k => decide (32 ≤ (s.data.toList.getD k 0).toNat) && decide ((s.data.toList.getD k 0).toNat ≤ 126)) = true) : DetOk s := by
  simp only [Bool.and_eq_true, decide_eq_true_eq, List.all_eq_true, List.mem_range] at h
  obtain ⟨h1, h3⟩ := h
  refine ⟨h1, fun k hk => ?_⟩
  have := h3 k hk
  have e : s.data.toList.getD k 0 = s[k] := by
    have hl : k < s.data.toList.length := by simpa using hk
    rw [List.getD_eq_getElem?_getD, List.getElem?_eq_getElem hl, Option.getD_some]
    rfl
  rw [e] at this
  exact this
theorem tenB : ∀ s ∈ ([⟨#[97, 99, 109, 101]⟩, ⟨#[98, 101, 116, 97]⟩] : List ByteArray), NameOk s ∧ s.size ≤ 200 := by
  intro s hs
  simp at hs
  rcases hs with rfl | rfl <;> exact ⟨nameB (by decide), by decide⟩
theorem whaB : ∀ s ∈ ([⟨#[112, 108, 97, 110]⟩, ⟨#[115, 116, 101, 112]⟩] : List ByteArray), NameOk s ∧ s.size ≤ 200 := by
  intro s hs
  simp at hs
  rcases hs with rfl | rfl <;> exact ⟨nameB (by decide), by decide⟩
theorem dtB : ∀ s ∈ ([⟨#[]⟩, ⟨#[120, 32, 121]⟩, ⟨#[100, 101, 116, 97, 105, 108, 32, 32, 116, 119, 111]⟩] : List ByteArray), DetOk s ∧ s.size ≤ 200 := by
  intro s hs
  simp at hs
  rcases hs with rfl | rfl | rfl <;> exact ⟨detB (by decide), by decide⟩

set_option maxRecDepth 100000 in
set_option maxHeartbeats 16000000 in
theorem draw17_any (w : World) (rb : Nat) (ao : Option Addr) (n cap p : Nat) (hr : Rd w rb ao n cap p) (hp : p ≤ 10000) :
    Calls Tryd.prog 41 #[.pointer (some ⟨rb, 0, none⟩)] w fun e w' => (∃ (M : List AE) (g cp p' : Nat), e = .returned (.slice (some ⟨g, 0, none⟩) M.length cp) ∧ M.length ≤ 5 ∧ Own w' w.heap.size g cp M ∧ EB 1000 M ∧ Rd w' rb ao n cap p' ∧ p' ≤ p + 16) ∧ w.grownBy w' (some rb) := by
  have hlt := hr.lt
  have HP := Lib.hid (pick_any (w.alloc (.cells #[] 28)) rb ao n cap p (hr.kept (World.grownBy_alloc w _ none)) (by omega) 6 (by decide) (by decide))
  have HRL := Lib.hid hlt
  clear hr
  go_enter Tryd.func41, Tryd.ntmps41
  go_wp2_with fail
  refine HP.out.mono ?_
  rintro e w1 ⟨x, rfl, hx0, hx1, hr1, hg1⟩
  obtain ⟨m, rfl⟩ := Int.eq_ofNat_of_zero_le hx0
  have HR1 := Lib.hid hr1
  have HG1 := Lib.hid (grown_trans (World.grownBy_alloc w (.cells #[] 28) (some rb)) hg1)
  have HO1 := Lib.hid (show Own w1 w.heap.size w.heap.size 0 [] from World.ownsRow.kept (owns_empty (Blk.new w 28 []) (Nat.le_refl _)) hg1 (.inr (by simp [Value.ownBlock]; omega)))
  clear hr1 hg1 HP hx0
  go_wp2
  go_loopw [3, 4] (fun v i wr => ∃ (k : Nat) (M : List AE) (g cp p' : Nat), i = .int .i64 k ∧ M.length + k ≤ 5 ∧ v = .slice (some ⟨g, 0, none⟩) M.length cp ∧ Hid (Own wr w.heap.size g cp M) ∧ Hid (EB 1000 M) ∧ Hid (Rd wr rb ao n cap p') ∧ p' = p + 1 + 3 * M.length ∧ Hid (w.grownBy wr (some rb))) (fun _ i _ => (intOf i).toNat)
  case atStart => exact ⟨m, [], _, 0, p + 1, rfl, by simp; omega, rfl, HO1, Lib.hid (fun e he => by cases he), HR1, by simp, HG1⟩
  case round =>
    obtain ⟨k, M, g, cp, p', rfl, hk, rfl, HO, HEB, HRD, hpp, HG⟩ := hrel
    have HGE := Lib.hid (show w.heap.size ≤ g from HO.out.ec.1)
    by_cases hk0 : 0 < k
    · have hkI : (0 : Int) < k := by omega
      have hkB : (k : Int) ≤ 5 := by omega
      have HF1 := Lib.hid (ofl_any wr rb ao n cap p' HRD.out (by omega) [⟨#[97, 99, 109, 101]⟩, ⟨#[98, 101, 116, 97]⟩] (by decide) (by decide))
      go_wp2_with fail
      refine HF1.out.mono ?_
      rintro e w2 ⟨s1, hm1, rfl, hr2, hg2⟩
      have HM1 := Lib.hid (tenB s1 hm1)
      have HG2 := Lib.hid (grown_trans HG.out hg2)
      have HO2 := Lib.hid (HO.out.kept hg2 (fun e => by have := HGE.out; have := HRL.out; have := Option.some.inj e; omega))
      have HF2 := Lib.hid (ofl_any w2 rb ao n cap _ hr2 (by omega) [⟨#[112, 108, 97, 110]⟩, ⟨#[115, 116, 101, 112]⟩] (by decide) (by decide))
      clear hm1 hr2 hg2 HF1
      go_wp2_with fail
      refine HF2.out.mono ?_
      rintro e w3 ⟨s2, hm2, rfl, hr3, hg3⟩
      have HM2 := Lib.hid (whaB s2 hm2)
      have HG3 := Lib.hid (grown_trans HG2.out hg3)
      have HO3 := Lib.hid (HO2.out.kept hg3 (fun e => by have := HGE.out; have := HRL.out; have := Option.some.inj e; omega))
      have HF3 := Lib.hid (ofl_any w3 rb ao n cap _ hr3 (by omega) [⟨#[]⟩, ⟨#[120, 32, 121]⟩, ⟨#[100, 101, 116, 97, 105, 108, 32, 32, 116, 119, 111]⟩] (by decide) (by decide))
      clear hm2 hr3 hg3 HF2
      go_wp2_with fail
      refine HF3.out.mono ?_
      rintro e w4 ⟨s3, hm3, rfl, hr4, hg4⟩
      have HM3 := Lib.hid (dtB s3 hm3)
      have HG4 := Lib.hid (grown_trans HG3.out hg4)
      have HO4 := Lib.hid (HO3.out.kept hg4 (fun e => by have := HGE.out; have := HRL.out; have := Option.some.inj e; omega))
      have HR4 := Lib.hid hr4
      have HF4 := Lib.hid (sl9g_any w4 M g cp HO4.out.ec.2.2 (HEB.out.ez (by omega)) s1 s2 s3 (by omega) ⟨HM1.out.1, HM2.out.1, HM3.out.1⟩)
      clear hm3 hr4 hg4 HF3
      go_wp2_with fail
      refine HF4.out.mono ?_
      rintro e w5 ⟨⟨g', cn, rfl, hlo, hcn, -, how⟩, hg5⟩
      have HG5 := Lib.hid (grown_trans HG4.out (grown_widen hg5))
      have hlen : (M ++ [addE M s1 s2 s3]).length = M.length + 1 := by simp
      have HO5 := Lib.hid (show Own w5 w.heap.size g' cn (M ++ [addE M s1 s2 s3]) from by unfold Own; rw [hlen]; exact owns_low5 how HG4.out.size)
      have HE5 := Lib.hid (HEB.out.add (by omega) (by omega) HM1.out.2 HM2.out.2 HM3.out.2)
      have HR5 := Lib.hid (HR4.out.kept hg5)
      clear hlo hcn how hg5 HF4
      go_wp2
      go_roundw
      case rel => exact ⟨k - 1, M ++ [addE M s1 s2 s3], g', cn, p' + 1 + 1 + 1, by congr 1; omega, by rw [hlen]; omega, by rw [hlen], HO5, HE5, HR5, by rw [hlen]; omega, HG5⟩
      case measure => simp [intOf]; omega
    · obtain rfl : k = 0 := by omega
      go_wp2
      go_ret
      exact ⟨⟨M, g, cp, p', rfl, by omega, HO.out, HEB.out, HRD.out, by omega⟩, HG.out⟩
end Go.Proofs.YtdelijobaebfnaaDoor
