/- FnExactAuditAdd, walked. -/
import Derived.Test.YtfdhopkjblbkmaaDoorAS
import Derived.Test.YtfdhopkjblbkmaaDoorAU
namespace Go.Proofs.YtfdhopkjblbkmaaDoor
open Go.RowKit

/-- the program's list: none, or a block of its own, from lo on -/
def GRow (w : World) (lo : Nat) (ga : Option Addr) (M : List AE) : Prop := (M = [] ∧ ga = none) ∨ ∃ g, ga = some ⟨g, 0, none⟩ ∧ lo ≤ g ∧ g < w.heap.size ∧ Blk w g 37 (entsV M)
/-- that list, marked -/
def GMk (w : World) (lo : Nat) (ga : Option Addr) (n k : Nat) : Prop := (n = 0 ∧ ga = none) ∨ ∃ g, ga = some ⟨g, 0, none⟩ ∧ lo ≤ g ∧ g < w.heap.size ∧ Blk w g 37 (mkE k n)
/-- its block -/
def rowG (ga : Option Addr) : Option Nat := ga.map (·.block)
theorem GRow.lies {w : World} {lo : Nat} {ga : Option Addr} {M : List AE} (h : GRow w lo ga M) : ELies w lo ga M := by
  rcases h with ⟨rfl, -⟩ | ⟨g, rfl, h1, -, h2⟩
  · exact .inl rfl
  · rcases h2.ents with h | ⟨ab, o, e, hb, h⟩
    · exact .inl h
    · injection e with e1
      injection e1 with e2 e3
      subst e2
      exact .inr ⟨g, o, by rw [← e3], h1, h⟩
theorem GRow.kept {w w' : World} {lo : Nat} {ga : Option Addr} {M : List AE} {row : Option Nat} (h : GRow w lo ga M) (hg : w.grownBy w' row) (hn : ∀ q, row = some q → q < lo) : GRow w' lo ga M := by
  rcases h with h | ⟨g, e, h1, h3, h2⟩
  · exact .inl h
  · exact .inr ⟨g, e, h1, Nat.lt_of_lt_of_le h3 hg.size, h2.kept hg (fun e => by have := hn g e.symm; omega)⟩
theorem GMk.kept {w w' : World} {lo : Nat} {ga : Option Addr} {n k : Nat} (h : GMk w lo ga n k) (hg : w.grownBy w' none) : GMk w' lo ga n k := by
  rcases h with h | ⟨g, e, h1, h3, h2⟩
  · exact .inl h
  · exact .inr ⟨g, e, h1, Nat.lt_of_lt_of_le h3 hg.size, h2.kept hg (by simp)⟩
theorem GRow.row {w : World} {lo : Nat} {ga : Option Addr} {M : List AE} (h : GRow w lo ga M) : ∀ q, rowG ga = some q → lo ≤ q ∧ q < w.heap.size := by
  intro q hq
  rcases h with ⟨-, rfl⟩ | ⟨g, rfl, h1, h3, -⟩
  · simp [rowG] at hq
  · simp [rowG] at hq
    omega

set_option maxRecDepth 100000 in
set_option maxHeartbeats 4000000 in
theorem markG_any (w : World) (lo : Nat) (ga : Option Addr) (M : List AE) (h : GRow w lo ga M) (hn : M.length ≤ 1048576) (k : Nat) (hk : 0 < k) (hkb : k ≤ 1048576) :
    Calls Tryd.prog 11 #[.slice ga M.length M.length, .int .i64 (k : Int)] w fun e w' => e = .returned (.int .i64 ((k + M.length * 5 : Nat) : Int)) ∧ GMk w' lo ga M.length k ∧ w.grownBy w' (rowG ga) := by
  rcases h with ⟨rfl, rfl⟩ | ⟨g, rfl, h1, h3, hb⟩
  · show Calls Tryd.prog 11 #[.slice none 0 0, .int .i64 (k : Int)] w _
    go_enter Tryd.func11, Tryd.ntmps11
    go_wp2
    go_loopw [1, 5] (fun kv i wr => kv = .int .i64 (k : Int) ∧ i = .int .i64 0 ∧ wr = w) (fun _ _ _ => 0)
    case atStart => exact ⟨rfl, rfl, rfl⟩
    case round =>
      obtain ⟨rfl, rfl, rfl⟩ := hrel
      go_wp2
      go_ret
      exact ⟨rfl, .inl ⟨rfl, rfl⟩, grown_refl _ _⟩
  · refine (markE_any w g M.length (entsV M) hb (entsV_len M) hn k hk hkb).mono ?_
    rintro e w' ⟨rfl, hb', hg⟩
    exact ⟨rfl, .inr ⟨g, rfl, h1, Nat.lt_of_lt_of_le h3 hg.size, hb'⟩, hg⟩

set_option maxRecDepth 100000 in
set_option maxHeartbeats 4000000 in
theorem heldG_any (w : World) (lo : Nat) (ga : Option Addr) (n : Nat) (k : Nat) (h : GMk w lo ga n k) (hn : n ≤ 1048576) (hk : 0 < k) (hkb : k ≤ 1048576) :
    Calls Tryd.prog 12 #[.slice ga n n, .int .i64 (k : Int)] w fun e w' => e = .returned (.int .i64 ((k + n * 5 : Nat) : Int)) ∧ w.grownBy w' none := by
  rcases h with ⟨rfl, rfl⟩ | ⟨g, rfl, h1, h3, hb⟩
  · show Calls Tryd.prog 12 #[.slice none 0 0, .int .i64 (k : Int)] w _
    go_enter Tryd.func12, Tryd.ntmps12
    go_wp2
    go_loopw [1, 5] (fun kv i wr => kv = .int .i64 (k : Int) ∧ i = .int .i64 0 ∧ wr = w) (fun _ _ _ => 0)
    case atStart => exact ⟨rfl, rfl, rfl⟩
    case round =>
      obtain ⟨rfl, rfl, rfl⟩ := hrel
      go_wp2
      go_ret
      exact ⟨rfl, grown_refl _ _⟩
  · exact heldE_any w g n k hb hn hk hkb

set_option maxRecDepth 100000 in
set_option maxHeartbeats 32000000 in
theorem exactAuditAdd_walk (w : World) (hT : Tabs w) (hP : Pow w) (a : Addr) (hU : UnfC w a) (es : List AE) (ao : Option Addr) (cap : Nat) (hl : ELies w 0 ao es) (hn : es.length ≤ 9223372036854775807) (hz : ESz es) (ten wha det : ByteArray) :
    Calls Tryd.prog 3 #[.slice ao es.length cap, .string ten, .string wha, .string det] w fun e w' => e = .returned (.bool true) ∧ w.grownBy w' none := by
  have HL := Lib.hid hl
  have HT := Lib.hid hT
  have HP := Lib.hid hP
  have HU := Lib.hid hU
  have HSZ := Lib.hid (szEntries_any w es ao cap hl hn hz w (grown_refl _ _) 1048576 (by omega))
  clear hl hz hT hP hU
  by_cases zten : (ten.size : Int) > 1048576
  case pos =>
    go_enter Tryd.func3, Tryd.ntmps3
    go_wp2
    go_ret
    exact ⟨rfl, grown_refl _ _⟩
  by_cases zwha : (wha.size : Int) > 1048576
  case pos =>
    go_enter Tryd.func3, Tryd.ntmps3
    go_wp2
    go_ret
    exact ⟨rfl, grown_refl _ _⟩
  by_cases zdet : (det.size : Int) > 1048576
  case pos =>
    go_enter Tryd.func3, Tryd.ntmps3
    go_wp2
    go_ret
    exact ⟨rfl, grown_refl _ _⟩
  go_enter Tryd.func3, Tryd.ntmps3
  go_wp2_with fail
  refine HSZ.out.mono ?_
  rintro e w1 ⟨r, rfl, hr, hg⟩
  have HG1 := Lib.hid hg
  clear hg HSZ
  rcases hr with ⟨rfl, -⟩ | ⟨hr0, hr⟩
  · go_wp2
    go_ret
    exact ⟨rfl, HG1.out⟩
  have hn1 : es.length ≤ 1048576 := by omega
  have hr1 : ¬ r < 0 := by omega
  have HEZ := Lib.hid (show EZ es from fun e he => by
    obtain ⟨j, hj, rfl⟩ := List.mem_iff_getElem.1 he
    have := bulkE_at es j hj
    unfold eB at this
    exact ⟨by omega, by omega, by omega, by omega⟩)
  have HN1 := Lib.hid hn1
  have HTO := Lib.hid (fun (W : World) (hW : w.grownBy W none) => toEntries_any w 0 es ao cap HL.out hn1 W hW)
  obtain ⟨t, M, hM, hS, hI⟩ : ∃ (t : Bool) (M : List AE), M.length ≤ 200 ∧
      (∀ (W : World) (g : Nat), Blk W g 37 (entsV es) → Calls Tryd.prog 7 #[.slice (some ⟨g, 0, none⟩) es.length es.length, .string ten, .string wha, .string det] W fun e w' => (∃ an cn, e = .returned (.tuple #[.slice an M.length cn, .bool t]) ∧ ERow w' W.heap.size an M) ∧ W.grownBy w' none) ∧
      (∀ (W : World) (g : Nat), Blk W g 37 (entsV es) → w.grownBy W none → Calls Tryd.prog 9 #[.slice (some ⟨g, 0, none⟩) es.length es.length, .string ten, .string wha, .string det] W fun e w' => (∃ ga, e = .returned (.tuple #[.slice ga M.length M.length, .bool t]) ∧ GRow w' W.heap.size ga M) ∧ W.grownBy w' none) := by
    by_cases hA : AddP es ten wha det
    · have hlen : (es ++ [addE es ten wha det]).length = es.length + 1 := by simp
      refine ⟨true, es ++ [addE es ten wha det], by rw [hlen]; have := hA.2.1; omega, fun W g hb => (sadding_any W es g hb hn1 HEZ.out ten wha det (by omega) (by omega) (by omega)).mono fun e w' q => ?_, fun W g hb hW => (iadding_any W (HT.out.grown hW) (HP.out.grown hW) a (HU.out.grown hW) es (some ⟨g, 0, none⟩) es.length g hb.ents hn1 HEZ.out ten wha det (by omega) (by omega) (by omega)).mono fun e w' q => ?_⟩
      · rcases q with ⟨⟨-, an, cn, rfl, her⟩ | ⟨h, -⟩, hg⟩
        · exact ⟨⟨an, cn, by rw [hlen], her⟩, hg⟩
        · exact absurd hA h
      · rcases q with ⟨⟨-, g', rfl, hb', hlo⟩ | ⟨h, -⟩, hg⟩
        · exact ⟨⟨some ⟨g', 0, none⟩, by rw [hlen], .inr ⟨g', rfl, hlo, hb'.lt, hb'⟩⟩, hg⟩
        · exact absurd hA h
    · refine ⟨false, [], by simp, fun W g hb => (sadding_any W es g hb hn1 HEZ.out ten wha det (by omega) (by omega) (by omega)).mono fun e w' q => ?_, fun W g hb hW => (iadding_any W (HT.out.grown hW) (HP.out.grown hW) a (HU.out.grown hW) es (some ⟨g, 0, none⟩) es.length g hb.ents hn1 HEZ.out ten wha det (by omega) (by omega) (by omega)).mono fun e w' q => ?_⟩
      · rcases q with ⟨⟨h, -⟩ | ⟨-, an, rfl⟩, hg⟩
        · exact absurd h hA
        · exact ⟨⟨an, 0, rfl, .inl rfl⟩, hg⟩
      · rcases q with ⟨⟨h, -⟩ | ⟨-, rfl⟩, hg⟩
        · exact absurd h hA
        · exact ⟨⟨none, rfl, .inl ⟨rfl, rfl⟩⟩, hg⟩
  have HS := Lib.hid hS
  have HI := Lib.hid hI
  have HM := Lib.hid (show M.length ≤ 1048576 from by omega)
  have tt : (t == t) = true := by simp
  have hkn : ¬ ((1 + es.length * 5 : Nat) : Int) < 0 := by omega
  have hkm : ¬ ((1 + M.length * 5 : Nat) : Int) < 0 := by omega
  clear hr hn1 hM hS hI
  -- the document's answer
  go_wp2_with fail
  refine (HTO.out w1 HG1.out).mono ?_
  rintro e w2 ⟨rfl, hb2, hg2⟩
  have HG2 := Lib.hid (grown_trans HG1.out hg2)
  have HV0 := Lib.hid (HS.out w2 w1.heap.size hb2)
  clear hb2 hg2
  go_wp2_with fail
  refine HV0.out.mono ?_
  rintro e w3 ⟨⟨an, cn, rfl, her⟩, hg3⟩
  have HG3 := Lib.hid (grown_trans HG2.out hg3)
  have HR3 := Lib.hid (her.base (lo' := 0) (Nat.zero_le _))
  clear hg3 HV0 her
  -- the argument
  go_wp2_with fail
  refine (HTO.out w3 HG3.out).mono ?_
  rintro e w4 ⟨rfl, hb4, hg4⟩
  have HG4 := Lib.hid (grown_trans HG3.out hg4)
  obtain ⟨gx, hgx⟩ : ∃ x, w3.heap.size = x := ⟨_, rfl⟩
  have HR4 := Lib.hid (HR3.out.kept hg4 (fun _ _ _ => by simp))
  have HAB := Lib.hid (show ∀ ab, an = some ⟨ab, 0, none⟩ → 0 < M.length → ab < gx from fun ab e hpos => by
    rcases HR3.out with h | ⟨ab', e', -, h3, -⟩
    · exact absurd h (by omega)
    · rw [e] at e'
      injection e' with e2
      injection e2 with e3 e4
      omega)
  rw [hgx] at hb4 ⊢
  have HB4 := Lib.hid hb4
  have HGX := Lib.hid (show w.heap.size ≤ gx ∧ gx < w4.heap.size from ⟨by have := HG3.out.size; omega, hb4.lt⟩)
  have HV1 := Lib.hid (HI.out w4 gx hb4 HG4.out)
  clear hb4 hg4 hgx
  -- the program's answer
  go_wp2_with fail
  refine HV1.out.mono ?_
  rintro e w5 ⟨⟨ga, rfl, hga⟩, hg5⟩
  have HG5 := Lib.hid (grown_trans HG4.out hg5)
  have HB5 := Lib.hid (HB4.out.kept hg5 (by simp))
  have HR5 := Lib.hid (HR4.out.kept hg5 (fun _ _ _ => by simp))
  have HA5 := Lib.hid (hga.kept (row := none) (grown_refl _ _) (fun q e => by cases e))
  have HLO := Lib.hid (show gx < w4.heap.size from HGX.out.2)
  clear hg5 HV1 hga
  -- the two agree
  go_wp2_with fail
  refine (eqEntries_any w5 _ _ M ga an M.length cn HA5.out.lies HR5.out.lies HM.out w5 (grown_refl _ _)).mono ?_
  rintro e w6 ⟨rfl, hg6⟩
  have HG6 := Lib.hid (grown_trans HG5.out hg6)
  have HB6 := Lib.hid (HB5.out.kept hg6 (by simp))
  have HR6 := Lib.hid (HR5.out.kept hg6 (fun _ _ _ => by simp))
  have HA6 := Lib.hid (HA5.out.kept hg6 (fun q e => by cases e))
  clear hg6
  -- the argument is as it was
  go_wp2_with fail
  refine (HTO.out w6 HG6.out).mono ?_
  rintro e w7 ⟨rfl, hb7, hg7⟩
  have HG7 := Lib.hid (grown_trans HG6.out hg7)
  have HB7 := Lib.hid (HB6.out.kept hg7 (by simp))
  have HR7 := Lib.hid (HR6.out.kept hg7 (fun _ _ _ => by simp))
  have HA7 := Lib.hid (HA6.out.kept hg7 (fun q e => by cases e))
  have HV2 := Lib.hid (eqEntries_any w7 gx w6.heap.size es (some ⟨gx, 0, none⟩) (some ⟨w6.heap.size, 0, none⟩) es.length es.length HB7.out.ents hb7.ents HN1.out w7 (grown_refl _ _))
  clear hb7 hg7
  go_wp2_with fail
  refine HV2.out.mono ?_
  rintro e w8 ⟨rfl, hg8⟩
  have HG8 := Lib.hid (grown_trans HG7.out hg8)
  have HB8 := Lib.hid (HB7.out.kept hg8 (by simp))
  have HR8 := Lib.hid (HR7.out.kept hg8 (fun _ _ _ => by simp))
  have HA8 := Lib.hid (HA7.out.kept hg8 (fun q e => by cases e))
  clear hg8 HV2
  -- the argument marked
  go_wp2_with fail
  refine (markE_any w8 gx es.length (entsV es) HB8.out (entsV_len es) HN1.out 1 (by omega) (by omega)).mono ?_
  rintro e w9 ⟨rfl, -, hg9⟩
  have HG9 := Lib.hid (grown_into HG8.out hg9 HGX.out.1)
  have HR9 := Lib.hid (HR8.out.kept hg9 (fun ab e hpos h => by have h1 := HAB.out ab e hpos; have h2 := Option.some.inj h; omega))
  have HA9 := Lib.hid (HA8.out.kept hg9 (fun q e => by have h2 := Option.some.inj e; have := HGX.out.2; omega))
  clear hg9 HB8
  go_wp2_with fail
  refine (eqEntries_any w9 _ _ M ga an M.length cn HA9.out.lies HR9.out.lies HM.out w9 (grown_refl _ _)).mono ?_
  rintro e w10 ⟨rfl, hg10⟩
  have HG10 := Lib.hid (grown_trans HG9.out hg10)
  have HR10 := Lib.hid (HR9.out.kept hg10 (fun _ _ _ => by simp))
  have HA10 := Lib.hid (HA9.out.kept hg10 (fun q e => by cases e))
  clear hg10
  -- the answer marked, and held
  go_wp2_with fail
  refine (markG_any w10 _ ga M HA10.out HM.out 1 (by omega) (by omega)).mono ?_
  rintro e w11 ⟨rfl, hm11, hg11⟩
  have HM11 := Lib.hid hm11
  have HG11 := Lib.hid (show w.grownBy w11 none from grown_own HG10.out hg11 (fun q hq => by have h1 := (HA10.out.row q hq).1; have h2 := HG4.out.size; omega))
  have HR11 := Lib.hid (HR10.out.kept hg11 (fun ab e hpos h => by have h1 := HAB.out ab e hpos; have h2 := (HA10.out.row ab h.symm).1; have h3 := HGX.out.2; omega))
  clear hm11 hg11
  go_wp2_with fail
  refine (heldG_any w11 _ ga M.length 1 HM11.out HM.out (by omega) (by omega)).mono ?_
  rintro e w12 ⟨rfl, hg12⟩
  have HG12 := Lib.hid (grown_trans HG11.out hg12)
  have HM12 := Lib.hid (HM11.out.kept hg12)
  have HR12 := Lib.hid (HR11.out.kept hg12 (fun _ _ _ => by simp))
  clear hg12
  -- behind another call
  go_wp2_with fail
  refine (HTO.out w12 HG12.out).mono ?_
  rintro e w13 ⟨rfl, hb13, hg13⟩
  have HG13 := Lib.hid (grown_trans HG12.out hg13)
  have HM13 := Lib.hid (HM12.out.kept hg13)
  have HR13 := Lib.hid (HR12.out.kept hg13 (fun _ _ _ => by simp))
  have HV3 := Lib.hid (HI.out w13 w12.heap.size hb13 HG13.out)
  clear hb13 hg13
  go_wp2_with fail
  refine HV3.out.mono ?_
  rintro e w14 ⟨⟨ha, rfl, hha⟩, hg14⟩
  have HG14 := Lib.hid (grown_trans HG13.out hg14)
  have HM14 := Lib.hid (HM13.out.kept hg14)
  have HR14 := Lib.hid (HR13.out.kept hg14 (fun _ _ _ => by simp))
  have HH14 := Lib.hid hha
  clear hg14 hha HV3
  go_wp2_with fail
  refine (eqEntries_any w14 _ _ M ha an M.length cn HH14.out.lies HR14.out.lies HM.out w14 (grown_refl _ _)).mono ?_
  rintro e w15 ⟨rfl, hg15⟩
  have HG15 := Lib.hid (grown_trans HG14.out hg15)
  have HM15 := Lib.hid (HM14.out.kept hg15)
  clear hg15
  go_wp2_with fail
  refine (heldG_any w15 _ ga M.length 1 HM15.out HM.out (by omega) (by omega)).mono ?_
  rintro e w16 ⟨rfl, hg16⟩
  have HG16 := Lib.hid (grown_trans HG15.out hg16)
  clear hg16
  go_wp2
  go_ret
  exact ⟨rfl, HG16.out⟩
end Go.Proofs.YtfdhopkjblbkmaaDoor
