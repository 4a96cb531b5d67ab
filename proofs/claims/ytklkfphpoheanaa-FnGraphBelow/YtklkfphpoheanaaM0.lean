/- Methods of the heap's rows, found through the embedded slice. -/
import Derived.Test.YtklkfphpoheanaaP3
import Derived.Test.YtklkfphpoheanaaG4
namespace Go.Proofs.Ytklkfphpoheanaa
open Go.RowKit

theorem metLess : (Try.prog.info? 71).map (fun i => (i.methods.find? (·.name == "Less")).map fun m => (m.path.toList, m.func)) = some (some ([⟨69, 0, true⟩], some (60, false))) := by kernel_rfl
theorem via_any {name : String} {f : FuncId} (hm : (Try.prog.info? 71).map (fun i => (i.methods.find? (·.name == name)).map fun m => (m.path.toList, m.func)) = some (some ([⟨69, 0, true⟩], some (f, false)))) (hb : Nat) (ta : Option Addr) (n cp : Nat) (W : World) (hc : W.cell? ⟨hb, 0, none⟩ = some (.slice ta n cp)) :
    (method 199 71 (.pointer (some ⟨hb, 0, none⟩)) name).run Try.prog W = .ok (f, .slice ta n cp) W := by
  cases hi : Try.prog.info? 71 with
  | none => simp [hi] at hm
  | some i =>
    cases hf : i.methods.find? (·.name == name) with
    | none => simp [hi, hf] at hm
    | some m =>
      simp [hi, hf] at hm
      obtain ⟨h1, h2⟩ := hm
      unfold method
      simp [typeInfo, hi, hf, h1, h2, follow, receiverAt, Place.get, hc, go_sem]
theorem direct_any {name : String} {f : FuncId} (hm : (Try.prog.info? 71).map (fun i => (i.methods.find? (·.name == name)).map fun m => (m.path.toList, m.func)) = some (some ([], some (f, true)))) (hb : Nat) (W : World) :
    (method 199 71 (.pointer (some ⟨hb, 0, none⟩)) name).run Try.prog W = .ok (f, .pointer (some ⟨hb, 0, none⟩)) W := by
  cases hi : Try.prog.info? 71 with
  | none => simp [hi] at hm
  | some i =>
    cases hf : i.methods.find? (·.name == name) with
    | none => simp [hi, hf] at hm
    | some m =>
      simp [hi, hf] at hm
      obtain ⟨h1, h2⟩ := hm
      unfold method
      simp [typeInfo, hi, hf, h1, h2, follow, receiverAt, Place.get, go_sem]
theorem metLen : (Try.prog.info? 71).map (fun i => (i.methods.find? (·.name == "Len")).map fun m => (m.path.toList, m.func)) = some (some ([⟨69, 0, true⟩], some (37, false))) := by kernel_rfl
theorem metSwap : (Try.prog.info? 71).map (fun i => (i.methods.find? (·.name == "Swap")).map fun m => (m.path.toList, m.func)) = some (some ([⟨69, 0, true⟩], some (62, false))) := by kernel_rfl
theorem metPush : (Try.prog.info? 71).map (fun i => (i.methods.find? (·.name == "Push")).map fun m => (m.path.toList, m.func)) = some (some ([], some (64, true))) := by kernel_rfl
theorem metPop : (Try.prog.info? 71).map (fun i => (i.methods.find? (·.name == "Pop")).map fun m => (m.path.toList, m.func)) = some (some ([], some (63, true))) := by kernel_rfl

end Go.Proofs.Ytklkfphpoheanaa
