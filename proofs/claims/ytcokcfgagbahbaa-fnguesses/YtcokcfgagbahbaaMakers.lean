/- The map of what is made: what makers answers, and what is looked up in it. No condition. -/
import Derived.Test.YtcokcfgagbahbaaRows
import Derived.WalkKit
import Derived.ProofKit
import Derived.Maps.Own
namespace Go.Proofs.Ytcokcfgagbahbaa
open Go.ChangeShapes Go.WideShapes Go.ChangeAt Go.RowKit

/-- The names, as bytes. -/
abbrev sWeaken : ByteArray := ⟨#[119, 101, 97, 107, 101, 110]⟩
abbrev sNarrow : ByteArray := ⟨#[110, 97, 114, 114, 111, 119]⟩
abbrev sPoint : ByteArray := ⟨#[112, 111, 105, 110, 116]⟩
abbrev sSeal : ByteArray := ⟨#[115, 101, 97, 108]⟩
abbrev sOpen : ByteArray := ⟨#[111, 112, 101, 110]⟩

/-- What the map holds. -/
def made5 : Array MapEntry := #[⟨.string sWeaken, .func (.func 67) #[] #[], 0⟩, ⟨.string sNarrow, .func (.func 68) #[] #[], 1⟩, ⟨.string sPoint, .func (.func 69) #[] #[], 2⟩, ⟨.string sSeal, .func (.func 70) #[] #[], 3⟩, ⟨.string sOpen, .func (.func 71) #[] #[], 4⟩]

theorem set_last (w : World) (o o' : Obj) : ({ (w.alloc o) with heap := (w.alloc o).heap.setIfInBounds w.heap.size o' } : World) = w.alloc o' := by
  have h : (w.heap.push o).setIfInBounds w.heap.size o' = w.heap.push o' := by
    apply Array.ext'
    simp
  show ({ w with heap := (w.heap.push o).setIfInBounds w.heap.size o' } : World) = { w with heap := w.heap.push o' }
  rw [h]

theorem run_insert (w : World) (es : Array MapEntry) (c : Nat) (s : ByteArray) (v : Value) (hf : Instr.findNow .string (.string s) es.toList 0 = some none) :
    (Instr.mapUpdate 87 (.map (some w.heap.size)) (.string s) v).run Try.prog (w.alloc (.map es c)) = .ok () (w.alloc (.map (es.push ⟨.string s, v, c⟩) (c + 1))) := by
  have hb := (MapKept.heap_alloc w (.map es c)).1
  have h1 := MapKept.run_getObj_map (P := Try.prog) hb
  have h2 := MapKept.run_checkKey (P := Try.prog) (w := w.alloc (.map es c)) (kt := 9) (k := .string s) Try.underlying9 (by trivial) false 9999
  have h3 := MapKept.run_findKey (P := Try.prog) (w := w.alloc (.map es c)) (kt := 9) (k := .string s) (l := es.toList) Try.underlying9 hf
  have h4 := MapKept.run_setObj_map (P := Try.prog) (.map (es.push ⟨.string s, v, c⟩) (c + 1)) hb
  rw [set_last] at h4
  simp [Instr.mapUpdate, go_sem, h1, h2, h3, h4]

/-- A look-up of a name that is there. -/
theorem run_look (w : World) (r : Nat) (s : ByteArray) (i : Nat) (v : Value) (hb : w.heap[r]? = some (.map made5 5)) (hf : Instr.findNow .string (.string s) made5.toList 0 = some (some (i, v))) :
    (Instr.lookup 87 (.map (some r)) (.string s) false).run Try.prog w = .ok v w := by
  have h1 := MapKept.run_getObj_map (P := Try.prog) hb
  have h2 := MapKept.run_checkKey (P := Try.prog) (w := w) (kt := 9) (k := .string s) Try.underlying9 (by trivial) false 9999
  have h3 := MapKept.run_findKey (P := Try.prog) (w := w) (kt := 9) (k := .string s) (l := made5.toList) Try.underlying9 hf
  have h0 : made5.isEmpty = false := rfl
  simp [Instr.lookup, go_sem, h0, h1, h2, h3]

theorem inserts (w : World) : ∃ m1 m2 m3 m4 : Obj,
    (Instr.mapUpdate 87 (.map (some w.heap.size)) (.string sWeaken) (.func (.func 67) #[] #[])).run Try.prog (w.alloc (.map #[] 0)) = .ok () (w.alloc m1) ∧
    (Instr.mapUpdate 87 (.map (some w.heap.size)) (.string sNarrow) (.func (.func 68) #[] #[])).run Try.prog (w.alloc m1) = .ok () (w.alloc m2) ∧
    (Instr.mapUpdate 87 (.map (some w.heap.size)) (.string sPoint) (.func (.func 69) #[] #[])).run Try.prog (w.alloc m2) = .ok () (w.alloc m3) ∧
    (Instr.mapUpdate 87 (.map (some w.heap.size)) (.string sSeal) (.func (.func 70) #[] #[])).run Try.prog (w.alloc m3) = .ok () (w.alloc m4) ∧
    (Instr.mapUpdate 87 (.map (some w.heap.size)) (.string sOpen) (.func (.func 71) #[] #[])).run Try.prog (w.alloc m4) = .ok () (w.alloc (.map made5 5)) :=
  ⟨_, _, _, _, run_insert w #[] 0 sWeaken _ (by kernel_rfl), run_insert w _ 1 sNarrow _ (by kernel_rfl), run_insert w _ 2 sPoint _ (by kernel_rfl), run_insert w _ 3 sSeal _ (by kernel_rfl), run_insert w _ 4 sOpen _ (by kernel_rfl)⟩

set_option maxHeartbeats 1000000 in
theorem makers_any (w : World) :
    Calls Try.prog 59 #[] w fun e w' => e = .returned (.map (some w.heap.size)) ∧ w' = w.alloc (.map made5 5) := by
  have q0 := @run_makeMap Try.prog
  obtain ⟨m1, m2, m3, m4, q1, q2, q3, q4, q5⟩ := inserts w
  go_enter Try.func59, Try.ntmps59
  go_wp2
  go_ret
  exact ⟨rfl, rfl⟩
end Go.Proofs.Ytcokcfgagbahbaa
