/- The program's look at which parts a value has. -/
import Derived.Test.YtgmigloafcejdaaGreatDoorI1
namespace Go.Proofs.YtgmigloafcejdaaGreatDoor
open Go.RowKit

/-- the table of the parts that sorts have -/
def tabB (j : Nat) : Bool := j = 8 || j = 12 || j = 17 || j = 23 || j = 26 || j = 27
/-- what lies at package level -/
def Tab (w : World) : Prop := (∀ j, j < 32 → w.cell? ⟨1, j, none⟩ = some (.bool (tabB j))) ∧ w.cell? ⟨0, 0, none⟩ = some (.iface 160 (.agg #[.pointer (some ⟨10, 58, none⟩)]))
theorem Tab.kept {w w' : World} {row : Option Nat} (h : Tab w) (hg : w.grownBy w' row) (hr : ∀ q, row = some q → 2 ≤ q) : Tab w' :=
  ⟨fun j hj => hg.cell (h.1 j hj) (fun e => by have := hr 1 e.symm; omega), hg.cell h.2 (fun e => by have := hr 0 e.symm; omega)⟩
theorem Tab.grown {w w' : World} (h : Tab w) (hg : w.grownBy w' none) : Tab w' := h.kept hg (fun q e => by cases e)
theorem Tab.lt {w : World} (h : Tab w) : 2 ≤ w.heap.size := by
  rcases Nat.lt_or_ge 1 w.heap.size with h1 | h1
  · omega
  · have := h.1 0 (by decide)
    simp [World.cell?, Array.getElem?_eq_none h1] at this

def HasOnly (s n : Int) (t : ByteArray) (ns nk : Nat) : Prop := (1 ≤ s ∧ s ≤ 7) ∧ (s = 2 ∨ s = 3 ∨ n = 0) ∧ (s = 4 ∨ t.size = 0) ∧ (s = 6 ∨ ns = 0) ∧ (s = 5 ∨ s = 6 ∨ nk = 0)

set_option maxRecDepth 100000 in
set_option maxHeartbeats 2000000 in
theorem hasOnly_1 (W : World) (hT : Tab W) (n : Int) (t : ByteArray) (ns nk : Nat) (an ak : Option Addr) (cn ck : Nat) :
    Calls Tryz.prog 96 #[.agg #[.int .i64 1, .int .i64 n, .string t, .slice an ns cn, .slice ak nk ck]] W fun e w' => Says e (HasOnly 1 n t ns nk) ∧ W.grownBy w' none := by
  have HGA := Lib.hid (show W.grownBy (W.alloc (Obj.cells #[Value.int .i64 1, .int .i64 n, .string t, .slice an ns cn, .slice ak nk ck] 27)) none from grown_alloc (grown_refl _ _) _)
  have HET := Lib.hid (empty_iff t)
  have q0 := (hT.grown HGA.out).1 4 (by decide)
  rw [show tabB 4 = false from rfl] at q0
  have q1 := (hT.grown HGA.out).1 5 (by decide)
  rw [show tabB 5 = false from rfl] at q1
  have q2 := (hT.grown HGA.out).1 6 (by decide)
  rw [show tabB 6 = false from rfl] at q2
  have q3 := (hT.grown HGA.out).1 7 (by decide)
  rw [show tabB 7 = false from rfl] at q3
  by_cases hz : n = 0
  case neg =>
    have hzb : (n == 0) = false := by rw [beq_eq_false_iff_ne]; omega
    have HD := Lib.hid (show Says (.returned (.bool false)) (HasOnly 1 n t ns nk) from .no (fun h => by have := h.2.1; omega))
    clear hz
    go_enter Tryz.func96, Tryz.ntmps96
    go_wp2
    go_ret
    exact ⟨HD.out, grown_alloc (grown_alloc (grown_refl _ _) _) _⟩
  have hzb : (n == 0) = true := by rw [beq_iff_eq]; omega
  have HZH := Lib.hid hz
  clear hz
  by_cases ht : t.size = 0
  case neg =>
    have htb : t.toList.isEmpty = false := by rw [HET.out]; exact decide_eq_false ht
    have HD := Lib.hid (show Says (.returned (.bool false)) (HasOnly 1 n t ns nk) from .no (fun h => by have := h.2.2.1; omega))
    clear ht
    go_enter Tryz.func96, Tryz.ntmps96
    go_wp2
    go_ret
    exact ⟨HD.out, grown_alloc (grown_alloc (grown_refl _ _) _) _⟩
  have htb : t.toList.isEmpty = true := by rw [HET.out]; exact decide_eq_true ht
  have HTH := Lib.hid ht
  clear ht
  by_cases hn : ns = 0
  case neg =>
    have hnb : ((ns : Int) == 0) = false := by rw [beq_eq_false_iff_ne]; omega
    have HD := Lib.hid (show Says (.returned (.bool false)) (HasOnly 1 n t ns nk) from .no (fun h => by have := h.2.2.2.1; omega))
    clear hn
    go_enter Tryz.func96, Tryz.ntmps96
    go_wp2
    go_ret
    exact ⟨HD.out, grown_alloc (grown_alloc (grown_refl _ _) _) _⟩
  have hnb : ((ns : Int) == 0) = true := by rw [beq_iff_eq]; omega
  have HNH := Lib.hid hn
  clear hn
  by_cases hk : nk = 0
  case neg =>
    have hkb : ((nk : Int) == 0) = false := by rw [beq_eq_false_iff_ne]; omega
    have HD := Lib.hid (show Says (.returned (.bool false)) (HasOnly 1 n t ns nk) from .no (fun h => by have := h.2.2.2.2; omega))
    clear hk
    go_enter Tryz.func96, Tryz.ntmps96
    go_wp2
    go_ret
    exact ⟨HD.out, grown_alloc (grown_alloc (grown_refl _ _) _) _⟩
  have hkb : ((nk : Int) == 0) = true := by rw [beq_iff_eq]; omega
  have HKH := Lib.hid hk
  clear hk
  have HD := Lib.hid (show Says (.returned (.bool true)) (HasOnly 1 n t ns nk) from .yes ⟨by decide, .inr (.inr HZH.out), .inr HTH.out, .inr HNH.out, .inr (.inr HKH.out)⟩)
  go_enter Tryz.func96, Tryz.ntmps96
  go_wp2
  go_ret
  exact ⟨HD.out, grown_alloc (grown_alloc (grown_refl _ _) _) _⟩

set_option maxRecDepth 100000 in
set_option maxHeartbeats 2000000 in
theorem hasOnly_2 (W : World) (hT : Tab W) (n : Int) (t : ByteArray) (ns nk : Nat) (an ak : Option Addr) (cn ck : Nat) :
    Calls Tryz.prog 96 #[.agg #[.int .i64 2, .int .i64 n, .string t, .slice an ns cn, .slice ak nk ck]] W fun e w' => Says e (HasOnly 2 n t ns nk) ∧ W.grownBy w' none := by
  have HGA := Lib.hid (show W.grownBy (W.alloc (Obj.cells #[Value.int .i64 2, .int .i64 n, .string t, .slice an ns cn, .slice ak nk ck] 27)) none from grown_alloc (grown_refl _ _) _)
  have HET := Lib.hid (empty_iff t)
  have q0 := (hT.grown HGA.out).1 8 (by decide)
  rw [show tabB 8 = true from rfl] at q0
  have q1 := (hT.grown HGA.out).1 9 (by decide)
  rw [show tabB 9 = false from rfl] at q1
  have q2 := (hT.grown HGA.out).1 10 (by decide)
  rw [show tabB 10 = false from rfl] at q2
  have q3 := (hT.grown HGA.out).1 11 (by decide)
  rw [show tabB 11 = false from rfl] at q3
  by_cases ht : t.size = 0
  case neg =>
    have htb : t.toList.isEmpty = false := by rw [HET.out]; exact decide_eq_false ht
    have HD := Lib.hid (show Says (.returned (.bool false)) (HasOnly 2 n t ns nk) from .no (fun h => by have := h.2.2.1; omega))
    clear ht
    go_enter Tryz.func96, Tryz.ntmps96
    go_wp2
    go_ret
    exact ⟨HD.out, grown_alloc (grown_alloc (grown_refl _ _) _) _⟩
  have htb : t.toList.isEmpty = true := by rw [HET.out]; exact decide_eq_true ht
  have HTH := Lib.hid ht
  clear ht
  by_cases hn : ns = 0
  case neg =>
    have hnb : ((ns : Int) == 0) = false := by rw [beq_eq_false_iff_ne]; omega
    have HD := Lib.hid (show Says (.returned (.bool false)) (HasOnly 2 n t ns nk) from .no (fun h => by have := h.2.2.2.1; omega))
    clear hn
    go_enter Tryz.func96, Tryz.ntmps96
    go_wp2
    go_ret
    exact ⟨HD.out, grown_alloc (grown_alloc (grown_refl _ _) _) _⟩
  have hnb : ((ns : Int) == 0) = true := by rw [beq_iff_eq]; omega
  have HNH := Lib.hid hn
  clear hn
  by_cases hk : nk = 0
  case neg =>
    have hkb : ((nk : Int) == 0) = false := by rw [beq_eq_false_iff_ne]; omega
    have HD := Lib.hid (show Says (.returned (.bool false)) (HasOnly 2 n t ns nk) from .no (fun h => by have := h.2.2.2.2; omega))
    clear hk
    go_enter Tryz.func96, Tryz.ntmps96
    go_wp2
    go_ret
    exact ⟨HD.out, grown_alloc (grown_alloc (grown_refl _ _) _) _⟩
  have hkb : ((nk : Int) == 0) = true := by rw [beq_iff_eq]; omega
  have HKH := Lib.hid hk
  clear hk
  have HD := Lib.hid (show Says (.returned (.bool true)) (HasOnly 2 n t ns nk) from .yes ⟨by decide, .inl rfl, .inr HTH.out, .inr HNH.out, .inr (.inr HKH.out)⟩)
  go_enter Tryz.func96, Tryz.ntmps96
  go_wp2
  go_ret
  exact ⟨HD.out, grown_alloc (grown_alloc (grown_refl _ _) _) _⟩

set_option maxRecDepth 100000 in
set_option maxHeartbeats 2000000 in
theorem hasOnly_3 (W : World) (hT : Tab W) (n : Int) (t : ByteArray) (ns nk : Nat) (an ak : Option Addr) (cn ck : Nat) :
    Calls Tryz.prog 96 #[.agg #[.int .i64 3, .int .i64 n, .string t, .slice an ns cn, .slice ak nk ck]] W fun e w' => Says e (HasOnly 3 n t ns nk) ∧ W.grownBy w' none := by
  have HGA := Lib.hid (show W.grownBy (W.alloc (Obj.cells #[Value.int .i64 3, .int .i64 n, .string t, .slice an ns cn, .slice ak nk ck] 27)) none from grown_alloc (grown_refl _ _) _)
  have HET := Lib.hid (empty_iff t)
  have q0 := (hT.grown HGA.out).1 12 (by decide)
  rw [show tabB 12 = true from rfl] at q0
  have q1 := (hT.grown HGA.out).1 13 (by decide)
  rw [show tabB 13 = false from rfl] at q1
  have q2 := (hT.grown HGA.out).1 14 (by decide)
  rw [show tabB 14 = false from rfl] at q2
  have q3 := (hT.grown HGA.out).1 15 (by decide)
  rw [show tabB 15 = false from rfl] at q3
  by_cases ht : t.size = 0
  case neg =>
    have htb : t.toList.isEmpty = false := by rw [HET.out]; exact decide_eq_false ht
    have HD := Lib.hid (show Says (.returned (.bool false)) (HasOnly 3 n t ns nk) from .no (fun h => by have := h.2.2.1; omega))
    clear ht
    go_enter Tryz.func96, Tryz.ntmps96
    go_wp2
    go_ret
    exact ⟨HD.out, grown_alloc (grown_alloc (grown_refl _ _) _) _⟩
  have htb : t.toList.isEmpty = true := by rw [HET.out]; exact decide_eq_true ht
  have HTH := Lib.hid ht
  clear ht
  by_cases hn : ns = 0
  case neg =>
    have hnb : ((ns : Int) == 0) = false := by rw [beq_eq_false_iff_ne]; omega
    have HD := Lib.hid (show Says (.returned (.bool false)) (HasOnly 3 n t ns nk) from .no (fun h => by have := h.2.2.2.1; omega))
    clear hn
    go_enter Tryz.func96, Tryz.ntmps96
    go_wp2
    go_ret
    exact ⟨HD.out, grown_alloc (grown_alloc (grown_refl _ _) _) _⟩
  have hnb : ((ns : Int) == 0) = true := by rw [beq_iff_eq]; omega
  have HNH := Lib.hid hn
  clear hn
  by_cases hk : nk = 0
  case neg =>
    have hkb : ((nk : Int) == 0) = false := by rw [beq_eq_false_iff_ne]; omega
    have HD := Lib.hid (show Says (.returned (.bool false)) (HasOnly 3 n t ns nk) from .no (fun h => by have := h.2.2.2.2; omega))
    clear hk
    go_enter Tryz.func96, Tryz.ntmps96
    go_wp2
    go_ret
    exact ⟨HD.out, grown_alloc (grown_alloc (grown_refl _ _) _) _⟩
  have hkb : ((nk : Int) == 0) = true := by rw [beq_iff_eq]; omega
  have HKH := Lib.hid hk
  clear hk
  have HD := Lib.hid (show Says (.returned (.bool true)) (HasOnly 3 n t ns nk) from .yes ⟨by decide, .inr (.inl rfl), .inr HTH.out, .inr HNH.out, .inr (.inr HKH.out)⟩)
  go_enter Tryz.func96, Tryz.ntmps96
  go_wp2
  go_ret
  exact ⟨HD.out, grown_alloc (grown_alloc (grown_refl _ _) _) _⟩

set_option maxRecDepth 100000 in
set_option maxHeartbeats 2000000 in
theorem hasOnly_4 (W : World) (hT : Tab W) (n : Int) (t : ByteArray) (ns nk : Nat) (an ak : Option Addr) (cn ck : Nat) :
    Calls Tryz.prog 96 #[.agg #[.int .i64 4, .int .i64 n, .string t, .slice an ns cn, .slice ak nk ck]] W fun e w' => Says e (HasOnly 4 n t ns nk) ∧ W.grownBy w' none := by
  have HGA := Lib.hid (show W.grownBy (W.alloc (Obj.cells #[Value.int .i64 4, .int .i64 n, .string t, .slice an ns cn, .slice ak nk ck] 27)) none from grown_alloc (grown_refl _ _) _)
  have HET := Lib.hid (empty_iff t)
  have q0 := (hT.grown HGA.out).1 16 (by decide)
  rw [show tabB 16 = false from rfl] at q0
  have q1 := (hT.grown HGA.out).1 17 (by decide)
  rw [show tabB 17 = true from rfl] at q1
  have q2 := (hT.grown HGA.out).1 18 (by decide)
  rw [show tabB 18 = false from rfl] at q2
  have q3 := (hT.grown HGA.out).1 19 (by decide)
  rw [show tabB 19 = false from rfl] at q3
  by_cases hz : n = 0
  case neg =>
    have hzb : (n == 0) = false := by rw [beq_eq_false_iff_ne]; omega
    have HD := Lib.hid (show Says (.returned (.bool false)) (HasOnly 4 n t ns nk) from .no (fun h => by have := h.2.1; omega))
    clear hz
    go_enter Tryz.func96, Tryz.ntmps96
    go_wp2
    go_ret
    exact ⟨HD.out, grown_alloc (grown_alloc (grown_refl _ _) _) _⟩
  have hzb : (n == 0) = true := by rw [beq_iff_eq]; omega
  have HZH := Lib.hid hz
  clear hz
  by_cases hn : ns = 0
  case neg =>
    have hnb : ((ns : Int) == 0) = false := by rw [beq_eq_false_iff_ne]; omega
    have HD := Lib.hid (show Says (.returned (.bool false)) (HasOnly 4 n t ns nk) from .no (fun h => by have := h.2.2.2.1; omega))
    clear hn
    go_enter Tryz.func96, Tryz.ntmps96
    go_wp2
    go_ret
    exact ⟨HD.out, grown_alloc (grown_alloc (grown_refl _ _) _) _⟩
  have hnb : ((ns : Int) == 0) = true := by rw [beq_iff_eq]; omega
  have HNH := Lib.hid hn
  clear hn
  by_cases hk : nk = 0
  case neg =>
    have hkb : ((nk : Int) == 0) = false := by rw [beq_eq_false_iff_ne]; omega
    have HD := Lib.hid (show Says (.returned (.bool false)) (HasOnly 4 n t ns nk) from .no (fun h => by have := h.2.2.2.2; omega))
    clear hk
    go_enter Tryz.func96, Tryz.ntmps96
    go_wp2
    go_ret
    exact ⟨HD.out, grown_alloc (grown_alloc (grown_refl _ _) _) _⟩
  have hkb : ((nk : Int) == 0) = true := by rw [beq_iff_eq]; omega
  have HKH := Lib.hid hk
  clear hk
  have HD := Lib.hid (show Says (.returned (.bool true)) (HasOnly 4 n t ns nk) from .yes ⟨by decide, .inr (.inr HZH.out), .inl rfl, .inr HNH.out, .inr (.inr HKH.out)⟩)
  go_enter Tryz.func96, Tryz.ntmps96
  go_wp2
  go_ret
  exact ⟨HD.out, grown_alloc (grown_alloc (grown_refl _ _) _) _⟩

set_option maxRecDepth 100000 in
set_option maxHeartbeats 2000000 in
theorem hasOnly_5 (W : World) (hT : Tab W) (n : Int) (t : ByteArray) (ns nk : Nat) (an ak : Option Addr) (cn ck : Nat) :
    Calls Tryz.prog 96 #[.agg #[.int .i64 5, .int .i64 n, .string t, .slice an ns cn, .slice ak nk ck]] W fun e w' => Says e (HasOnly 5 n t ns nk) ∧ W.grownBy w' none := by
  have HGA := Lib.hid (show W.grownBy (W.alloc (Obj.cells #[Value.int .i64 5, .int .i64 n, .string t, .slice an ns cn, .slice ak nk ck] 27)) none from grown_alloc (grown_refl _ _) _)
  have HET := Lib.hid (empty_iff t)
  have q0 := (hT.grown HGA.out).1 20 (by decide)
  rw [show tabB 20 = false from rfl] at q0
  have q1 := (hT.grown HGA.out).1 21 (by decide)
  rw [show tabB 21 = false from rfl] at q1
  have q2 := (hT.grown HGA.out).1 22 (by decide)
  rw [show tabB 22 = false from rfl] at q2
  have q3 := (hT.grown HGA.out).1 23 (by decide)
  rw [show tabB 23 = true from rfl] at q3
  by_cases hz : n = 0
  case neg =>
    have hzb : (n == 0) = false := by rw [beq_eq_false_iff_ne]; omega
    have HD := Lib.hid (show Says (.returned (.bool false)) (HasOnly 5 n t ns nk) from .no (fun h => by have := h.2.1; omega))
    clear hz
    go_enter Tryz.func96, Tryz.ntmps96
    go_wp2
    go_ret
    exact ⟨HD.out, grown_alloc (grown_alloc (grown_refl _ _) _) _⟩
  have hzb : (n == 0) = true := by rw [beq_iff_eq]; omega
  have HZH := Lib.hid hz
  clear hz
  by_cases ht : t.size = 0
  case neg =>
    have htb : t.toList.isEmpty = false := by rw [HET.out]; exact decide_eq_false ht
    have HD := Lib.hid (show Says (.returned (.bool false)) (HasOnly 5 n t ns nk) from .no (fun h => by have := h.2.2.1; omega))
    clear ht
    go_enter Tryz.func96, Tryz.ntmps96
    go_wp2
    go_ret
    exact ⟨HD.out, grown_alloc (grown_alloc (grown_refl _ _) _) _⟩
  have htb : t.toList.isEmpty = true := by rw [HET.out]; exact decide_eq_true ht
  have HTH := Lib.hid ht
  clear ht
  by_cases hn : ns = 0
  case neg =>
    have hnb : ((ns : Int) == 0) = false := by rw [beq_eq_false_iff_ne]; omega
    have HD := Lib.hid (show Says (.returned (.bool false)) (HasOnly 5 n t ns nk) from .no (fun h => by have := h.2.2.2.1; omega))
    clear hn
    go_enter Tryz.func96, Tryz.ntmps96
    go_wp2
    go_ret
    exact ⟨HD.out, grown_alloc (grown_alloc (grown_refl _ _) _) _⟩
  have hnb : ((ns : Int) == 0) = true := by rw [beq_iff_eq]; omega
  have HNH := Lib.hid hn
  clear hn
  have HD := Lib.hid (show Says (.returned (.bool true)) (HasOnly 5 n t ns nk) from .yes ⟨by decide, .inr (.inr HZH.out), .inr HTH.out, .inr HNH.out, .inl rfl⟩)
  go_enter Tryz.func96, Tryz.ntmps96
  go_wp2
  go_ret
  exact ⟨HD.out, grown_alloc (grown_alloc (grown_refl _ _) _) _⟩

set_option maxRecDepth 100000 in
set_option maxHeartbeats 2000000 in
theorem hasOnly_6 (W : World) (hT : Tab W) (n : Int) (t : ByteArray) (ns nk : Nat) (an ak : Option Addr) (cn ck : Nat) :
    Calls Tryz.prog 96 #[.agg #[.int .i64 6, .int .i64 n, .string t, .slice an ns cn, .slice ak nk ck]] W fun e w' => Says e (HasOnly 6 n t ns nk) ∧ W.grownBy w' none := by
  have HGA := Lib.hid (show W.grownBy (W.alloc (Obj.cells #[Value.int .i64 6, .int .i64 n, .string t, .slice an ns cn, .slice ak nk ck] 27)) none from grown_alloc (grown_refl _ _) _)
  have HET := Lib.hid (empty_iff t)
  have q0 := (hT.grown HGA.out).1 24 (by decide)
  rw [show tabB 24 = false from rfl] at q0
  have q1 := (hT.grown HGA.out).1 25 (by decide)
  rw [show tabB 25 = false from rfl] at q1
  have q2 := (hT.grown HGA.out).1 26 (by decide)
  rw [show tabB 26 = true from rfl] at q2
  have q3 := (hT.grown HGA.out).1 27 (by decide)
  rw [show tabB 27 = true from rfl] at q3
  by_cases hz : n = 0
  case neg =>
    have hzb : (n == 0) = false := by rw [beq_eq_false_iff_ne]; omega
    have HD := Lib.hid (show Says (.returned (.bool false)) (HasOnly 6 n t ns nk) from .no (fun h => by have := h.2.1; omega))
    clear hz
    go_enter Tryz.func96, Tryz.ntmps96
    go_wp2
    go_ret
    exact ⟨HD.out, grown_alloc (grown_alloc (grown_refl _ _) _) _⟩
  have hzb : (n == 0) = true := by rw [beq_iff_eq]; omega
  have HZH := Lib.hid hz
  clear hz
  by_cases ht : t.size = 0
  case neg =>
    have htb : t.toList.isEmpty = false := by rw [HET.out]; exact decide_eq_false ht
    have HD := Lib.hid (show Says (.returned (.bool false)) (HasOnly 6 n t ns nk) from .no (fun h => by have := h.2.2.1; omega))
    clear ht
    go_enter Tryz.func96, Tryz.ntmps96
    go_wp2
    go_ret
    exact ⟨HD.out, grown_alloc (grown_alloc (grown_refl _ _) _) _⟩
  have htb : t.toList.isEmpty = true := by rw [HET.out]; exact decide_eq_true ht
  have HTH := Lib.hid ht
  clear ht
  have HD := Lib.hid (show Says (.returned (.bool true)) (HasOnly 6 n t ns nk) from .yes ⟨by decide, .inr (.inr HZH.out), .inr HTH.out, .inl rfl, .inr (.inl rfl)⟩)
  go_enter Tryz.func96, Tryz.ntmps96
  go_wp2
  go_ret
  exact ⟨HD.out, grown_alloc (grown_alloc (grown_refl _ _) _) _⟩

set_option maxRecDepth 100000 in
set_option maxHeartbeats 2000000 in
theorem hasOnly_7 (W : World) (hT : Tab W) (n : Int) (t : ByteArray) (ns nk : Nat) (an ak : Option Addr) (cn ck : Nat) :
    Calls Tryz.prog 96 #[.agg #[.int .i64 7, .int .i64 n, .string t, .slice an ns cn, .slice ak nk ck]] W fun e w' => Says e (HasOnly 7 n t ns nk) ∧ W.grownBy w' none := by
  have HGA := Lib.hid (show W.grownBy (W.alloc (Obj.cells #[Value.int .i64 7, .int .i64 n, .string t, .slice an ns cn, .slice ak nk ck] 27)) none from grown_alloc (grown_refl _ _) _)
  have HET := Lib.hid (empty_iff t)
  have q0 := (hT.grown HGA.out).1 28 (by decide)
  rw [show tabB 28 = false from rfl] at q0
  have q1 := (hT.grown HGA.out).1 29 (by decide)
  rw [show tabB 29 = false from rfl] at q1
  have q2 := (hT.grown HGA.out).1 30 (by decide)
  rw [show tabB 30 = false from rfl] at q2
  have q3 := (hT.grown HGA.out).1 31 (by decide)
  rw [show tabB 31 = false from rfl] at q3
  by_cases hz : n = 0
  case neg =>
    have hzb : (n == 0) = false := by rw [beq_eq_false_iff_ne]; omega
    have HD := Lib.hid (show Says (.returned (.bool false)) (HasOnly 7 n t ns nk) from .no (fun h => by have := h.2.1; omega))
    clear hz
    go_enter Tryz.func96, Tryz.ntmps96
    go_wp2
    go_ret
    exact ⟨HD.out, grown_alloc (grown_alloc (grown_refl _ _) _) _⟩
  have hzb : (n == 0) = true := by rw [beq_iff_eq]; omega
  have HZH := Lib.hid hz
  clear hz
  by_cases ht : t.size = 0
  case neg =>
    have htb : t.toList.isEmpty = false := by rw [HET.out]; exact decide_eq_false ht
    have HD := Lib.hid (show Says (.returned (.bool false)) (HasOnly 7 n t ns nk) from .no (fun h => by have := h.2.2.1; omega))
    clear ht
    go_enter Tryz.func96, Tryz.ntmps96
    go_wp2
    go_ret
    exact ⟨HD.out, grown_alloc (grown_alloc (grown_refl _ _) _) _⟩
  have htb : t.toList.isEmpty = true := by rw [HET.out]; exact decide_eq_true ht
  have HTH := Lib.hid ht
  clear ht
  by_cases hn : ns = 0
  case neg =>
    have hnb : ((ns : Int) == 0) = false := by rw [beq_eq_false_iff_ne]; omega
    have HD := Lib.hid (show Says (.returned (.bool false)) (HasOnly 7 n t ns nk) from .no (fun h => by have := h.2.2.2.1; omega))
    clear hn
    go_enter Tryz.func96, Tryz.ntmps96
    go_wp2
    go_ret
    exact ⟨HD.out, grown_alloc (grown_alloc (grown_refl _ _) _) _⟩
  have hnb : ((ns : Int) == 0) = true := by rw [beq_iff_eq]; omega
  have HNH := Lib.hid hn
  clear hn
  by_cases hk : nk = 0
  case neg =>
    have hkb : ((nk : Int) == 0) = false := by rw [beq_eq_false_iff_ne]; omega
    have HD := Lib.hid (show Says (.returned (.bool false)) (HasOnly 7 n t ns nk) from .no (fun h => by have := h.2.2.2.2; omega))
    clear hk
    go_enter Tryz.func96, Tryz.ntmps96
    go_wp2
    go_ret
    exact ⟨HD.out, grown_alloc (grown_alloc (grown_refl _ _) _) _⟩
  have hkb : ((nk : Int) == 0) = true := by rw [beq_iff_eq]; omega
  have HKH := Lib.hid hk
  clear hk
  have HD := Lib.hid (show Says (.returned (.bool true)) (HasOnly 7 n t ns nk) from .yes ⟨by decide, .inr (.inr HZH.out), .inr HTH.out, .inr HNH.out, .inr (.inr HKH.out)⟩)
  go_enter Tryz.func96, Tryz.ntmps96
  go_wp2
  go_ret
  exact ⟨HD.out, grown_alloc (grown_alloc (grown_refl _ _) _) _⟩

set_option maxRecDepth 100000 in
set_option maxHeartbeats 2000000 in
theorem hasOnly_x (W : World) (s n : Int) (hs : ¬ (1 ≤ s ∧ s ≤ 7)) (t : ByteArray) (ns nk : Nat) (an ak : Option Addr) (cn ck : Nat) :
    Calls Tryz.prog 96 #[.agg #[.int .i64 s, .int .i64 n, .string t, .slice an ns cn, .slice ak nk ck]] W fun e w' => Says e (HasOnly s n t ns nk) ∧ W.grownBy w' none := by
  have HD := Lib.hid (show Says (.returned (.bool false)) (HasOnly s n t ns nk) from .no (fun h => hs h.1))
  by_cases h1 : s < 1
  · clear hs
    go_enter Tryz.func96, Tryz.ntmps96
    go_wp2
    go_ret
    exact ⟨HD.out, grown_alloc (grown_refl _ _) _⟩
  have h7 : 7 < s := by omega
  clear hs
  go_enter Tryz.func96, Tryz.ntmps96
  go_wp2
  go_ret
  exact ⟨HD.out, grown_alloc (grown_refl _ _) _⟩

theorem hasOnly_any (W : World) (hT : Tab W) (s n : Int) (t : ByteArray) (ns nk : Nat) (an ak : Option Addr) (cn ck : Nat) :
    Calls Tryz.prog 96 #[.agg #[.int .i64 s, .int .i64 n, .string t, .slice an ns cn, .slice ak nk ck]] W fun e w' => Says e (HasOnly s n t ns nk) ∧ W.grownBy w' none := by
  by_cases hs : 1 ≤ s ∧ s ≤ 7
  · have : s = 1 ∨ s = 2 ∨ s = 3 ∨ s = 4 ∨ s = 5 ∨ s = 6 ∨ s = 7 := by omega
    rcases this with rfl | rfl | rfl | rfl | rfl | rfl | rfl
    · exact hasOnly_1 W hT n t ns nk an ak cn ck
    · exact hasOnly_2 W hT n t ns nk an ak cn ck
    · exact hasOnly_3 W hT n t ns nk an ak cn ck
    · exact hasOnly_4 W hT n t ns nk an ak cn ck
    · exact hasOnly_5 W hT n t ns nk an ak cn ck
    · exact hasOnly_6 W hT n t ns nk an ak cn ck
    · exact hasOnly_7 W hT n t ns nk an ak cn ck
  · exact hasOnly_x W s n hs t ns nk an ak cn ck
end Go.Proofs.YtgmigloafcejdaaGreatDoor

