/- A role that somebody has: by the program and by the document. -/
import Derived.Test.YtpmjinlbfddmmaaM7
namespace Go.Proofs.Ytpmjinlbfddmmaa
open Go.RowKit

theorem bl_irrefl : ∀ x : List UInt8, Op.bytesLess x x = false
  | [] => rfl
  | a :: x => by simp [Op.bytesLess, bl_irrefl x]
theorem bl_trans : ∀ x y z : List UInt8, Op.bytesLess x y = true → Op.bytesLess y z = true → Op.bytesLess x z = true
  | _, [], _, h, _ => by simp [Op.bytesLess] at h
  | _, _ :: _, [], _, h => by simp [Op.bytesLess] at h
  | [], _ :: _, _ :: _, _, _ => by simp [Op.bytesLess]
  | a :: x, b :: y, c :: z, h1, h2 => by
    simp only [Op.bytesLess, Bool.or_eq_true, Bool.and_eq_true, decide_eq_true_eq, beq_iff_eq] at h1 h2 ⊢
    rcases h1 with h1 | ⟨rfl, h1⟩
    · rcases h2 with h2 | ⟨rfl, h2⟩
      · exact .inl (UInt8.lt_trans h1 h2)
      · exact .inl h1
    · rcases h2 with h2 | ⟨rfl, h2⟩
      · exact .inl h2
      · exact .inr ⟨rfl, bl_trans x y z h1 h2⟩

theorem asc_apart {ok : ByteArray → Prop} {ns : List ByteArray} (h : AscBy ok ns) : ∀ d i, (hj : i + d + 1 < ns.length) → Op.bytesLess (ns[i]'(by omega)).toList (ns[i + d + 1]).toList = true
  | 0, i, hj => by
    have := (h (i + 1) hj).2 (by omega)
    rw [show i + 1 - 1 = i from by omega] at this
    simpa [show i < ns.length from by omega] using this
  | d + 1, i, hj => by
    have h1 := asc_apart h d i (by omega)
    have h2 := (h (i + (d + 1) + 1) hj).2 (by omega)
    rw [show i + (d + 1) + 1 - 1 = i + d + 1 from by omega] at h2
    have h3 : ns.getD (i + d + 1) ByteArray.empty = ns[i + d + 1]'(by omega) := by simp [show i + d + 1 < ns.length from by omega]
    rw [h3] at h2
    exact bl_trans _ _ _ h1 h2
theorem asc_one {ok : ByteArray → Prop} {ns : List ByteArray} (h : AscBy ok ns) (i j : Nat) (hi : i < ns.length) (hj : j < ns.length) (e : ns[i].toList = ns[j].toList) : i = j := by
  rcases Nat.lt_trichotomy i j with hl | hl | hl
  · obtain ⟨d, rfl⟩ : ∃ d, j = i + d + 1 := ⟨j - i - 1, by omega⟩
    have := asc_apart h d i hj
    rw [e, bl_irrefl] at this
    cases this
  · exact hl
  · obtain ⟨d, rfl⟩ : ∃ d, i = j + d + 1 := ⟨i - j - 1, by omega⟩
    have := asc_apart h d j hi
    rw [← e, bl_irrefl] at this
    cases this

def MayP (us : List (ByteArray × List ByteArray)) (nm rl : ByteArray) : Prop := UsersP us ∧ ∃ i, ∃ h : i < us.length, us[i].1.toList = nm.toList ∧ Has us[i].2 rl

set_option maxRecDepth 100000 in
set_option maxHeartbeats 1000000 in
theorem index_any (w : World) (base : Nat) (ss : List ByteArray) (ao : Option Addr) (cap : Nat) (hl : Lies w base ao ss) (hn : ss.length ≤ 1048576) (s : ByteArray) : Calls Try.prog 70 #[.slice ao ss.length cap, .string s] w fun e w' => (∃ r : Int, e = .returned (.int .i64 r) ∧ (0 ≤ r ↔ Has ss s)) ∧ w' = w := by
  have HL := Lib.hid hl
  clear hl
  go_enter Try.func70, Try.ntmps70
  go_wp2
  go_loop [8] (fun i => ∃ k : Nat, k ≤ ss.length ∧ i = .int .i64 k ∧ Hid (∀ j (h : j < ss.length), j < k → ss[j].toList ≠ s.toList)) (fun i => ss.length - (intOf i).toNat)
  case atStart => exact ⟨0, Nat.zero_le _, rfl, Lib.hid fun j _ h => absurd h (Nat.not_lt_zero _)⟩
  case round =>
    obtain ⟨k, hk, rfl, HA⟩ := hrel
    by_cases hlt : k < ss.length
    · rcases HL.out with h0 | ⟨ab, o, rfl, -, hc⟩
      · omega
      obtain ⟨x, hx⟩ : ∃ x, x = ss.getD k ByteArray.empty := ⟨_, rfl⟩
      have hge : ss[k] = x := by rw [hx]; simp [hlt]
      have e0 := hc k hlt
      rw [← hx] at e0
      have hkI : (k : Int) < ss.length := by omega
      clear hx hc
      have HX := Lib.hid hge
      clear hge
      cases hE : (s.toList == x.toList)
      · have HN := Lib.hid (show x.toList ≠ s.toList from fun e => by rw [e] at hE; simp at hE)
        go_wp2
        exact ⟨⟨k + 1, by omega, by go_num, Lib.hid fun j h hj => by
          by_cases e : j = k
          · subst e; rw [HX.out]; exact HN.out
          · exact HA.out j h (by omega)⟩, by simp [intOf]; omega⟩
      · have HD := Lib.hid (show (0 : Int) ≤ (k : Int) ↔ Has ss s from ⟨fun _ => ⟨k, hlt, by rw [HX.out]; exact (by simpa using hE : s.toList = x.toList).symm⟩, fun _ => by omega⟩)
        go_wp2
        go_ret
        exact ⟨⟨_, rfl, HD.out⟩, rfl⟩
    · obtain rfl : k = ss.length := by omega
      have HD := Lib.hid (show (0 : Int) ≤ -1 ↔ Has ss s from ⟨fun h => by omega, fun ⟨i, h, e⟩ => absurd e (HA.out i h h)⟩)
      go_wp2
      go_ret
      exact ⟨⟨_, rfl, HD.out⟩, rfl⟩

set_option maxHeartbeats 1000000 in
theorem contains_any (w : World) (base : Nat) (ss : List ByteArray) (ao : Option Addr) (cap : Nat) (hl : Lies w base ao ss) (hn : ss.length ≤ 1048576) (s : ByteArray) : Calls Try.prog 50 #[.slice ao ss.length cap, .string s] w fun e w' => Says e (Has ss s) ∧ w' = w := by
  have HC := Lib.hid (index_any w base ss ao cap hl hn s)
  clear hl
  go_enter Try.func50, Try.ntmps50
  go_wp2_with fail
  refine HC.out.mono ?_
  rintro e w1 ⟨⟨r, rfl, hr⟩, rfl⟩
  have HD := Lib.hid (show Says (.returned (.bool (decide (0 ≤ r)))) (Has ss s) from ⟨_, rfl, by rw [decide_eq_true_eq]; exact hr⟩)
  clear hr HC
  go_wp2
  go_ret
  exact ⟨HD.out, rfl⟩

set_option maxRecDepth 100000 in
set_option maxHeartbeats 1000000 in
/-- what is asked of each user -/
theorem one_any (W : World) (base : Nat) (u : ByteArray × List ByteArray) (ar : Option Addr) (cr : Nat) (hl : Lies W base ar u.2) (hn : u.2.length ≤ 1048576) (bn br : Nat) (nm rl : ByteArray) (hbn : W.cell? ⟨bn, 0, none⟩ = some (.string nm)) (hbr : W.cell? ⟨br, 0, none⟩ = some (.string rl)) :
    Calls Try.prog 49 #[.agg #[.string u.1, .slice ar u.2.length cr], .pointer (some ⟨bn, 0, none⟩), .pointer (some ⟨br, 0, none⟩)] W fun e w' => Says e (u.1.toList = nm.toList ∧ Has u.2 rl) ∧ W.grownBy w' none := by
  have HG := Lib.hid (show W.grownBy (W.alloc (Obj.cells #[Value.string u.1, .slice ar u.2.length cr] 70)) none from grown_alloc (grown_refl _ _) _)
  have c1 : (W.alloc (Obj.cells #[Value.string u.1, .slice ar u.2.length cr] 70)).cell? ⟨bn, 0, none⟩ = some (.string nm) := HG.out.cell hbn (by simp)
  have c2 : (W.alloc (Obj.cells #[Value.string u.1, .slice ar u.2.length cr] 70)).cell? ⟨br, 0, none⟩ = some (.string rl) := HG.out.cell hbr (by simp)
  have HC := Lib.hid (contains_any (W.alloc (Obj.cells #[Value.string u.1, .slice ar u.2.length cr] 70)) base u.2 ar cr (hl.kept HG.out (fun q e => by cases e)) hn rl)
  clear hl
  cases hE : (u.1.toList == nm.toList)
  · have HD := Lib.hid (show Says (.returned (.bool false)) (u.1.toList = nm.toList ∧ Has u.2 rl) from .no (fun h => by rw [h.1] at hE; simp at hE))
    go_enter Try.func49, Try.ntmps49
    go_wp2
    go_ret
    exact ⟨HD.out, HG.out⟩
  · have HE := Lib.hid (show u.1.toList = nm.toList from by simpa using hE)
    go_enter Try.func49, Try.ntmps49
    go_wp2_with fail
    refine HC.out.mono ?_
    rintro e w1 ⟨⟨b, rfl, hb⟩, rfl⟩
    have HD := Lib.hid (show Says (.returned (.bool b)) (u.1.toList = nm.toList ∧ Has u.2 rl) from ⟨b, rfl, by rw [hb]; exact ⟨fun h => ⟨HE.out, h⟩, fun h => h.2⟩⟩)
    clear hb HC
    go_wp2
    go_ret
    exact ⟨HD.out, HG.out⟩

set_option maxRecDepth 100000 in
set_option maxHeartbeats 1000000 in
theorem indexFunc_any (w : World) (base : Nat) (us : List (ByteArray × List ByteArray)) (ao : Option Addr) (cap : Nat) (hl : ULies w base ao us) (hn : us.length + bulkU us ≤ 1048576) (bn br : Nat) (nm rl : ByteArray) (hbn : w.cell? ⟨bn, 0, none⟩ = some (.string nm)) (hbr : w.cell? ⟨br, 0, none⟩ = some (.string rl)) :
    Calls Try.prog 71 #[.slice ao us.length cap, .func (.func 49) #[] #[.pointer (some ⟨bn, 0, none⟩), .pointer (some ⟨br, 0, none⟩)]] w fun e w' => (∃ r : Int, e = .returned (.int .i64 r) ∧ (0 ≤ r ↔ ∃ i, ∃ h : i < us.length, us[i].1.toList = nm.toList ∧ Has us[i].2 rl)) ∧ w.grownBy w' none := by
  have HP := Lib.hid hl
  have HRS := Lib.hid (fun (j : Nat) (h : j < us.length) => roles_len us 1048576 hn j h)
  have HBN := Lib.hid hbn
  have HBR := Lib.hid hbr
  have hn' : us.length ≤ 1048576 := by omega
  clear hl hbn hbr
  go_enter Try.func71, Try.ntmps71
  go_wp2
  go_loopw [8] (fun i wr => ∃ k : Nat, k ≤ us.length ∧ i = .int .i64 k ∧ Hid (∀ j (h : j < us.length), j < k → ¬ (us[j].1.toList = nm.toList ∧ Has us[j].2 rl)) ∧ w.grownBy wr none) (fun i _ => us.length - (intOf i).toNat)
  case atStart => exact ⟨0, Nat.zero_le _, rfl, Lib.hid (fun j _ h => absurd h (Nat.not_lt_zero _)), grown_refl _ _⟩
  case round =>
    obtain ⟨k, hk, rfl, HA, hg⟩ := hrel
    have HG := Lib.hid hg
    clear hg
    by_cases hlt : k < us.length
    · rcases HP.out with h00 | ⟨b, o, rfl, -, hc⟩
      · omega
      obtain ⟨ar, cr, ht⟩ := hc k hlt
      obtain ⟨d0, d1, hls⟩ := ht.kept HG.out (by simp) (fun q e => by cases e)
      have z1 := HRS.out k hlt
      obtain ⟨u, hu⟩ : ∃ u, us[k] = u := ⟨_, rfl⟩
      have HU := Lib.hid hu
      rw [hu] at d0 d1 hls z1
      have HCA := Lib.hid (one_any wr base u ar cr hls z1 bn br nm rl (HG.out.cell HBN.out (by simp)) (HG.out.cell HBR.out (by simp)))
      have hkI : (k : Int) < us.length := by omega
      clear hc ht hls hu
      go_wp2_with fail
      refine HCA.out.mono ?_
      rintro e w1 ⟨⟨bb, rfl, hb⟩, hg1⟩
      have HG1 := Lib.hid (grown_trans HG.out hg1)
      have HB := Lib.hid hb
      clear hg1 hb HCA d0 d1
      cases bb
      · go_wp2
        go_roundw
        case rel =>
          refine ⟨k + 1, by omega, by go_num, Lib.hid (fun j h hj => ?_), HG1.out⟩
          by_cases e : j = k
          · subst e; rw [HU.out]; exact fun h => by have := HB.out.2 h; cases this
          · exact HA.out j h (by omega)
        case measure => simp [intOf]; omega
      · have HD := Lib.hid (show (0 : Int) ≤ (k : Int) ↔ ∃ i, ∃ h : i < us.length, us[i].1.toList = nm.toList ∧ Has us[i].2 rl from ⟨fun _ => ⟨k, hlt, by rw [HU.out]; exact HB.out.1 rfl⟩, fun _ => by omega⟩)
        go_wp2
        go_ret
        exact ⟨⟨_, rfl, HD.out⟩, HG1.out⟩
    · obtain rfl : k = us.length := by omega
      have HD := Lib.hid (show (0 : Int) ≤ -1 ↔ ∃ i, ∃ h : i < us.length, us[i].1.toList = nm.toList ∧ Has us[i].2 rl from ⟨fun h => by omega, fun ⟨i, h, e⟩ => absurd e (HA.out i h h)⟩)
      go_wp2
      go_ret
      exact ⟨⟨_, rfl, HD.out⟩, HG.out⟩

set_option maxHeartbeats 1000000 in
theorem containsFunc_any (w : World) (base : Nat) (us : List (ByteArray × List ByteArray)) (ao : Option Addr) (cap : Nat) (hl : ULies w base ao us) (hn : us.length + bulkU us ≤ 1048576) (bn br : Nat) (nm rl : ByteArray) (hbn : w.cell? ⟨bn, 0, none⟩ = some (.string nm)) (hbr : w.cell? ⟨br, 0, none⟩ = some (.string rl)) :
    Calls Try.prog 51 #[.slice ao us.length cap, .func (.func 49) #[] #[.pointer (some ⟨bn, 0, none⟩), .pointer (some ⟨br, 0, none⟩)]] w fun e w' => Says e (∃ i, ∃ h : i < us.length, us[i].1.toList = nm.toList ∧ Has us[i].2 rl) ∧ w.grownBy w' none := by
  have HC := Lib.hid (indexFunc_any w base us ao cap hl hn bn br nm rl hbn hbr)
  clear hl hbn hbr
  go_enter Try.func51, Try.ntmps51
  go_wp2_with fail
  refine HC.out.mono ?_
  rintro e w1 ⟨⟨r, rfl, hr⟩, hg1⟩
  have HD := Lib.hid (show Says (.returned (.bool (decide (0 ≤ r)))) (∃ i, ∃ h : i < us.length, us[i].1.toList = nm.toList ∧ Has us[i].2 rl) from ⟨_, rfl, by rw [decide_eq_true_eq]; exact hr⟩)
  have HG := Lib.hid hg1
  clear hr HC hg1
  go_wp2
  go_ret
  exact ⟨HD.out, HG.out⟩

set_option maxRecDepth 100000 in
set_option maxHeartbeats 1000000 in
theorem imay_any (w : World) (base : Nat) (us : List (ByteArray × List ByteArray)) (ao : Option Addr) (cap : Nat) (hl : ULies w base ao us) (hn : us.length + bulkU us ≤ 1048576) (nm rl : ByteArray) :
    Calls Try.prog 21 #[.slice ao us.length cap, .string nm, .string rl] w fun e w' => Says e (MayP us nm rl) ∧ w.grownBy w' none := by
  have HG := Lib.hid (show w.grownBy ((w.alloc (Obj.cells #[Value.string nm] 9)).alloc (Obj.cells #[Value.string rl] 9)) none from grown_alloc (grown_alloc (grown_refl _ _) _) _)
  have HB1 := Lib.hid (show Blk ((w.alloc (Obj.cells #[Value.string nm] 9)).alloc (Obj.cells #[Value.string rl] 9)) w.heap.size 9 [Value.string nm] from (Blk.new w 9 _).alloc _)
  have HB2 := Lib.hid (show Blk ((w.alloc (Obj.cells #[Value.string nm] 9)).alloc (Obj.cells #[Value.string rl] 9)) (w.heap.size + 1) 9 [Value.string rl] from by
    have := Blk.new (w.alloc (Obj.cells #[Value.string nm] 9)) 9 [Value.string rl]
    simpa using this)
  have HU := Lib.hid (iusers_any _ base us ao cap (hl.grown HG.out) hn)
  have HL := Lib.hid hl
  clear hl
  go_enter Try.func21, Try.ntmps21
  go_wp2_with fail
  refine HU.out.mono ?_
  rintro e w1 ⟨⟨b, rfl, hb⟩, hg1⟩
  have HG1 := Lib.hid (grown_trans HG.out hg1)
  have HB := Lib.hid hb
  have c1 : w1.cell? ⟨w.heap.size, 0, none⟩ = some (.string nm) := (HB1.out.kept hg1 (by simp)).cell rfl
  have c2 : w1.cell? ⟨w.heap.size + 1, 0, none⟩ = some (.string rl) := (HB2.out.kept hg1 (by simp)).cell rfl
  have HC := Lib.hid (containsFunc_any w1 base us ao cap (HL.out.grown HG1.out) hn w.heap.size (w.heap.size + 1) nm rl c1 c2)
  clear hg1 hb HU c1 c2
  cases b
  · have HD := Lib.hid (show Says (.returned (.bool false)) (MayP us nm rl) from .no (fun h => by have := HB.out.2 h.1; cases this))
    go_wp2
    go_ret
    exact ⟨HD.out, HG1.out⟩
  · have HUP := Lib.hid (HB.out.1 rfl)
    go_wp2_with fail
    refine HC.out.mono ?_
    rintro e w2 ⟨⟨c, rfl, hc⟩, hg2⟩
    have HD := Lib.hid (show Says (.returned (.bool c)) (MayP us nm rl) from ⟨c, rfl, by rw [hc]; exact ⟨fun h => ⟨HUP.out, h⟩, fun h => h.2⟩⟩)
    have HG2 := Lib.hid (grown_trans HG1.out hg2)
    clear hc hg2 HC
    go_wp2
    go_ret
    exact ⟨HD.out, HG2.out⟩
end Go.Proofs.Ytpmjinlbfddmmaa
