/- Seals: the codes of a credential, one upon the other, by both. -/
import Derived.Test.YtecekbhkombnnaaGreatDoorCP
import Derived.Test.YtecekbhkombnnaaGreatDoorXM2
namespace Go.Proofs.YtecekbhkombnnaaGreatDoor
open Go.RowKit

/-- the code of a text by a key, as figures -/
def macB (k m : ByteArray) : ByteArray := strI (hexL (macI (bI k) (bI m)))
theorem macB_size (k m : ByteArray) : (macB k m).size = 64 := by
  have h1 : (bI (macB k m)).length = 64 := by
    unfold macB
    rw [bI_strI _ (hexL_b _), hexL_len]
    unfold macI
    rw [sha_len]
  rw [← bI_len]
  exact h1
/-- the seal of a credential, up to some limit -/
def sealTo (k h : ByteArray) (ls : List ByteArray) (n : Nat) : ByteArray := (ls.take n).foldl macB (macB k h)
theorem sealTo_zero (k h : ByteArray) (ls : List ByteArray) : sealTo k h ls 0 = macB k h := rfl
theorem sealTo_add (k h : ByteArray) (ls : List ByteArray) (n : Nat) (hn : n < ls.length) : sealTo k h ls (n + 1) = macB (sealTo k h ls n) ls[n] := by
  unfold sealTo
  rw [List.take_succ_eq_append_getElem hn, List.foldl_append]
  rfl
theorem sealTo_size (k h : ByteArray) (ls : List ByteArray) (n : Nat) (hn : n ≤ ls.length) : (sealTo k h ls n).size = 64 := by
  cases n with
  | zero => exact macB_size k h
  | succ n => rw [sealTo_add k h ls n (by omega)]; exact macB_size _ _
theorem imac_any (w : World) (hw : Tabs w) (k m : ByteArray) (hk : k.size ≤ 4194304) (hm : m.size ≤ 4194240) :
    Calls Tryz.prog 29 #[.string k, .string m] w fun e w' => e = .returned (.string (macB k m)) ∧ w.grownBy w' none := HashMac_any w hw k m hk (by omega)
theorem smac_any (w : World) (k m : ByteArray) (hk : k.size ≤ 4194304) (hm : m.size ≤ 4194240) :
    Calls Tryz.prog 23 #[.string k, .string m] w fun e w' => e = .returned (.string (macB k m)) ∧ w.grownBy w' none :=
  (specHashMac_any w k m hk hm).mono fun e w' q => ⟨by rw [q.1, mac_same _ _ (bI_b k) (bI_b m)]; rfl, q.2⟩

set_option maxRecDepth 100000 in
set_option maxHeartbeats 8000000 in
theorem sright_any (w : World) (key tn sp : ByteArray) (run frm unt : Nat) (ao : Option Addr) (cp : Nat) (ls : List ByteArray) (se : ByteArray) (base : Nat) (hl : Lies w base ao ls) (hn : ls.length ≤ 1048576) (hz : ∀ l ∈ ls, l.size ≤ 1048576) (hk : key.size ≤ 1048576) (h1 : tn.size ≤ 1048576) (h2 : sp.size ≤ 1048576) (k1 : run ≤ 999999) (k2 : frm ≤ 999999) (k3 : unt ≤ 999999) :
    Calls Tryz.prog 33 #[.string key, .agg #[.string tn, .string sp, .int .i64 (run : Int), .int .i64 (frm : Int), .int .i64 (unt : Int), .slice ao ls.length cp, .string se]] w fun e w' => e = .returned (.string (sealTo key (headC tn sp run frm unt) ls ls.length)) ∧ w.grownBy w' none := by
  obtain ⟨W, hW⟩ : ∃ W, w.alloc (Obj.cells #[Value.string tn, .string sp, .int .i64 (run : Int), .int .i64 (frm : Int), .int .i64 (unt : Int), .slice ao ls.length cp, .string se] 26) = W := ⟨_, rfl⟩
  obtain ⟨B, hB⟩ : ∃ x, w.heap.size = x := ⟨_, rfl⟩
  have HG := Lib.hid (show w.grownBy W none from by rw [← hW]; exact grown_alloc (grown_refl _ _) _)
  have HB := Lib.hid (show Blk W B 26 [.string tn, .string sp, .int .i64 (run : Int), .int .i64 (frm : Int), .int .i64 (unt : Int), .slice ao ls.length cp, .string se] from by rw [← hW, ← hB]; exact Blk.new w 26 _)
  have HSZ := headC_size tn sp run frm unt (by omega) (by omega) (by omega)
  have HHD := Lib.hid (shead_base W tn sp run frm unt ao cp ls se h1 h2 k1 k2 k3)
  obtain ⟨H, hH⟩ : ∃ H, headC tn sp run frm unt = H := ⟨_, rfl⟩
  rw [hH] at HSZ HHD
  rw [hH]
  have HM := Lib.hid (fun (V : World) (HV : w.grownBy V none) (s t : ByteArray) (hs : s.size ≤ 4194304) (ht : t.size ≤ 4194240) => smac_any V s t hs ht)
  have HL := Lib.hid hl
  have HZ := Lib.hid hz
  have HK := Lib.hid (show key.size ≤ 4194304 ∧ H.size ≤ 4194240 from ⟨by omega, by omega⟩)
  have HW := Lib.hid hW
  have HBE := Lib.hid hB
  clear hW hB hl hz hH HSZ h1 h2 k1 k2 k3 hk
  go_enter Tryz.func33, Tryz.ntmps33
  go_wp2_with fail
  rw [HW.out, HBE.out]
  refine HHD.out.mono ?_
  rintro e w1 ⟨rfl, hg1⟩
  have HG1 := Lib.hid hg1
  clear hg1 HHD
  go_wp2_with fail
  refine (HM.out w1 (grown_trans HG.out HG1.out) key H HK.out.1 HK.out.2).mono ?_
  rintro e w2 ⟨rfl, hg2⟩
  have HG2 := Lib.hid (grown_trans HG1.out hg2)
  clear hg2 HG1
  rw [← sealTo_zero key H ls]
  have HB2 := Lib.hid (HB.out.kept HG2.out (by simp))
  have c5 : w2.cell? ⟨B, 5, none⟩ = some (.slice ao ls.length cp) := HB2.out.cell rfl
  go_wp2
  clear c5
  go_loopw [5, 6] (fun t i wr => ∃ k : Nat, k ≤ ls.length ∧ i = .int .i64 k ∧ t = .string (sealTo key H ls k) ∧ W.grownBy wr none) (fun _ i _ => ls.length - (intOf i).toNat)
  case atStart => exact ⟨0, Nat.zero_le _, rfl, rfl, HG2.out⟩
  case round =>
    obtain ⟨k, hk, rfl, rfl, hg⟩ := hrel
    have HGr := Lib.hid hg
    have HBr := Lib.hid (HB.out.kept hg (by simp))
    clear hg
    have c5 : wr.cell? ⟨B, 5, none⟩ = some (.slice ao ls.length cp) := HBr.out.cell rfl
    by_cases hlt : k < ls.length
    · rcases HL.out with h00 | ⟨ab, oo, rfl, -, hc⟩
      · omega
      obtain ⟨s, hse⟩ : ∃ s, s = ls.getD k ByteArray.empty := ⟨_, rfl⟩
      have hge : ls[k] = s := by rw [hse]; simp [hlt]
      have d0 := (grown_trans HG.out HGr.out).cell (hc k hlt) (by simp)
      rw [← hse] at d0
      have hss : s.size ≤ 1048576 := HZ.out s (by rw [← hge]; exact List.getElem_mem hlt)
      have hts := sealTo_size key H ls k hk
      have HST := Lib.hid (show sealTo key H ls (k + 1) = macB (sealTo key H ls k) s from by rw [sealTo_add _ _ _ _ hlt, hge])
      obtain ⟨T, hT⟩ : ∃ T, sealTo key H ls k = T := ⟨_, rfl⟩
      rw [hT] at hts HST ⊢
      have HMC := Lib.hid (HM.out wr (grown_trans HG.out HGr.out) T s (by omega) (by omega))
      have hkI : (k : Int) < ls.length := by omega
      clear hc hse hge hT hss hts
      go_wp2_with fail
      refine HMC.out.mono ?_
      rintro e w3 ⟨rfl, hg3⟩
      have HG3 := Lib.hid (grown_trans HGr.out hg3)
      clear hg3 HMC d0 c5
      go_wp2
      go_roundw
      case rel => exact ⟨k + 1, by omega, by go_num, by rw [HST.out], HG3.out⟩
      case measure => simp [intOf]; omega
    · obtain rfl : k = ls.length := by omega
      go_wp2
      go_ret
      exact ⟨rfl, grown_trans HG.out HGr.out⟩

set_option maxRecDepth 100000 in
set_option maxHeartbeats 8000000 in
theorem iright_any (w : World) (hT : Tabs w) (hP : Pow w) (key tn sp : ByteArray) (run frm unt : Nat) (ao : Option Addr) (cp : Nat) (ls : List ByteArray) (se : ByteArray) (base : Nat) (hl : Lies w base ao ls) (hn : ls.length ≤ 1048576) (hz : ∀ l ∈ ls, l.size ≤ 1048576) (hk : key.size ≤ 1048576) (h1 : tn.size ≤ 1048576) (h2 : sp.size ≤ 1048576) (k1 : run ≤ 999999) (k2 : frm ≤ 999999) (k3 : unt ≤ 999999) :
    Calls Tryz.prog 38 #[.string key, .agg #[.string tn, .string sp, .int .i64 (run : Int), .int .i64 (frm : Int), .int .i64 (unt : Int), .slice ao ls.length cp, .string se]] w fun e w' => e = .returned (.string (sealTo key (headC tn sp run frm unt) ls ls.length)) ∧ w.grownBy w' none := by
  obtain ⟨W, hW⟩ : ∃ W, w.alloc (Obj.cells #[Value.string tn, .string sp, .int .i64 (run : Int), .int .i64 (frm : Int), .int .i64 (unt : Int), .slice ao ls.length cp, .string se] 26) = W := ⟨_, rfl⟩
  obtain ⟨B, hB⟩ : ∃ x, w.heap.size = x := ⟨_, rfl⟩
  have HG := Lib.hid (show w.grownBy W none from by rw [← hW]; exact grown_alloc (grown_refl _ _) _)
  have HB := Lib.hid (show Blk W B 26 [.string tn, .string sp, .int .i64 (run : Int), .int .i64 (frm : Int), .int .i64 (unt : Int), .slice ao ls.length cp, .string se] from by rw [← hW, ← hB]; exact Blk.new w 26 _)
  have HSZ := headC_size tn sp run frm unt (by omega) (by omega) (by omega)
  have HHD := Lib.hid (ihead_any W (hP.grown HG.out) tn sp run frm unt ao cp ls se h1 h2 k1 k2 k3)
  obtain ⟨H, hH⟩ : ∃ H, headC tn sp run frm unt = H := ⟨_, rfl⟩
  rw [hH] at HSZ HHD
  rw [hH]
  have HM := Lib.hid (fun (V : World) (HV : w.grownBy V none) (s t : ByteArray) (hs : s.size ≤ 4194304) (ht : t.size ≤ 4194240) => imac_any V (hT.grown HV) s t hs ht)
  have HL := Lib.hid hl
  have HZ := Lib.hid hz
  have HK := Lib.hid (show key.size ≤ 4194304 ∧ H.size ≤ 4194240 from ⟨by omega, by omega⟩)
  have HW := Lib.hid hW
  have HBE := Lib.hid hB
  clear hW hB hl hz hH HSZ h1 h2 k1 k2 k3 hk hT hP
  go_enter Tryz.func38, Tryz.ntmps38
  go_wp2_with fail
  rw [HW.out, HBE.out]
  refine HHD.out.mono ?_
  rintro e w1 ⟨rfl, hg1⟩
  have HG1 := Lib.hid hg1
  clear hg1 HHD
  go_wp2_with fail
  refine (HM.out w1 (grown_trans HG.out HG1.out) key H HK.out.1 HK.out.2).mono ?_
  rintro e w2 ⟨rfl, hg2⟩
  have HG2 := Lib.hid (grown_trans HG1.out hg2)
  clear hg2 HG1
  rw [← sealTo_zero key H ls]
  have HB2 := Lib.hid (HB.out.kept HG2.out (by simp))
  have c5 : w2.cell? ⟨B, 5, none⟩ = some (.slice ao ls.length cp) := HB2.out.cell rfl
  go_wp2
  clear c5
  go_loopw [5, 15] (fun t i wr => ∃ k : Nat, k ≤ ls.length ∧ i = .int .i64 k ∧ t = .string (sealTo key H ls k) ∧ W.grownBy wr none) (fun _ i _ => ls.length - (intOf i).toNat)
  case atStart => exact ⟨0, Nat.zero_le _, rfl, rfl, HG2.out⟩
  case round =>
    obtain ⟨k, hk, rfl, rfl, hg⟩ := hrel
    have HGr := Lib.hid hg
    have HBr := Lib.hid (HB.out.kept hg (by simp))
    clear hg
    have c5 : wr.cell? ⟨B, 5, none⟩ = some (.slice ao ls.length cp) := HBr.out.cell rfl
    by_cases hlt : k < ls.length
    · rcases HL.out with h00 | ⟨ab, oo, rfl, -, hc⟩
      · omega
      obtain ⟨s, hse⟩ : ∃ s, s = ls.getD k ByteArray.empty := ⟨_, rfl⟩
      have hge : ls[k] = s := by rw [hse]; simp [hlt]
      have d0 := (grown_trans HG.out HGr.out).cell (hc k hlt) (by simp)
      rw [← hse] at d0
      have hss : s.size ≤ 1048576 := HZ.out s (by rw [← hge]; exact List.getElem_mem hlt)
      have hts := sealTo_size key H ls k hk
      have HST := Lib.hid (show sealTo key H ls (k + 1) = macB (sealTo key H ls k) s from by rw [sealTo_add _ _ _ _ hlt, hge])
      obtain ⟨T, hT⟩ : ∃ T, sealTo key H ls k = T := ⟨_, rfl⟩
      rw [hT] at hts HST ⊢
      have HMC := Lib.hid (HM.out wr (grown_trans HG.out HGr.out) T s (by omega) (by omega))
      have hkI : (k : Int) < ls.length := by omega
      clear hc hse hge hT hss hts
      go_wp2_with fail
      refine HMC.out.mono ?_
      rintro e w3 ⟨rfl, hg3⟩
      have HG3 := Lib.hid (grown_trans HGr.out hg3)
      clear hg3 HMC d0 c5
      go_wp2
      go_roundw
      case rel => exact ⟨k + 1, by omega, by go_num, by rw [HST.out], HG3.out⟩
      case measure => simp [intOf]; omega
    · obtain rfl : k = ls.length := by omega
      go_wp2
      go_ret
      exact ⟨rfl, grown_trans HG.out HGr.out⟩
end Go.Proofs.YtecekbhkombnnaaGreatDoor
