/- Methods of the heap's rows, found through the embedded slice. -/
import Derived.Test.YtklkfphpoheanaaDoorP3
import Derived.Test.YtklkfphpoheanaaDoorG4
namespace Go.Proofs.YtklkfphpoheanaaDoor
open Go.RowKit

theorem metLess : (Tryd.prog.info? 67).map (fun i => (i.methods.find? (·.name == "Less")).map fun m => (m.path.toList, m.func)) = some (some ([⟨65, 0, true⟩], some (69, false))) := by kernel_rfl
theorem via_any {name : String} {f : FuncId} (hm : (Tryd.prog.info? 67).map (fun i => (i.methods.find? (·.name == name)).map fun m => (m.path.toList, m.func)) = some (some ([⟨65, 0, true⟩], some (f, false)))) (hb : Nat) (ta : Option Addr) (n cp : Nat) (W : World) (hc : W.cell? ⟨hb, 0, none⟩ = some (.slice ta n cp)) :
    (method 206 67 (.pointer (some ⟨hb, 0, none⟩)) name).run Tryd.prog W = .ok (f, .slice ta n cp) W := by
  cases hi : Tryd.prog.info? 67 with
  | none => simp [hi] at hm
  | some i =>
    cases hf : i.methods.find? (·.name == name) with
    | none => simp [hi, hf] at hm
    | some m =>
      simp [hi, hf] at hm
      obtain ⟨h1, h2⟩ := hm
      unfold method
      simp [typeInfo, hi, hf, h1, h2, follow, receiverAt, Place.get, hc, go_sem]
theorem direct_any {name : String} {f : FuncId} (hm : (Tryd.prog.info? 67).map (fun i => (i.methods.find? (·.name == name)).map fun m => (m.path.toList, m.func)) = some (some ([], some (f, true)))) (hb : Nat) (W : World) :
    (method 206 67 (.pointer (some ⟨hb, 0, none⟩)) name).run Tryd.prog W = .ok (f, .pointer (some ⟨hb, 0, none⟩)) W := by
  cases hi : Tryd.prog.info? 67 with
  | none => simp [hi] at hm
  | some i =>
    cases hf : i.methods.find? (·.name == name) with
    | none => simp [hi, hf] at hm
    | some m =>
      simp [hi, hf] at hm
      obtain ⟨h1, h2⟩ := hm
      unfold method
      simp [typeInfo, hi, hf, h1, h2, follow, receiverAt, Place.get, go_sem]
theorem metLen : (Tryd.prog.info? 67).map (fun i => (i.methods.find? (·.name == "Len")).map fun m => (m.path.toList, m.func)) = some (some ([⟨65, 0, true⟩], some (36, false))) := by kernel_rfl
theorem metSwap : (Tryd.prog.info? 67).map (fun i => (i.methods.find? (·.name == "Swap")).map fun m => (m.path.toList, m.func)) = some (some ([⟨65, 0, true⟩], some (71, false))) := by kernel_rfl
theorem metPush : (Tryd.prog.info? 67).map (fun i => (i.methods.find? (·.name == "Push")).map fun m => (m.path.toList, m.func)) = some (some ([], some (73, true))) := by kernel_rfl
theorem metPop : (Tryd.prog.info? 67).map (fun i => (i.methods.find? (·.name == "Pop")).map fun m => (m.path.toList, m.func)) = some (some ([], some (72, true))) := by kernel_rfl

end Go.Proofs.YtklkfphpoheanaaDoor
