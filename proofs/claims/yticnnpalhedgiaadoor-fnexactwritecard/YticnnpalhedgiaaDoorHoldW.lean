/- Six cells of a block that is new, written: all that was held is held. No condition. -/
import Derived.Test.YticnnpalhedgiaaDoorHold
namespace Go.Proofs.YticnnpalhedgiaaDoor
open Go.ChangeShapes Go.WideShapes Go.ChangeAt Go.RowKit
theorem Hold.six6 {w0 w : World} {fs : List Fct} {r : Nat} (h : Hold w0 w fs) (h0 : w0.heap.size ≤ r) (hd : ∀ f ∈ fs, ∀ k, f.S k → k ≠ r) (v0 v1 v2 v3 v4 v5 : Value) :
    Hold w0 ((((((w.setCell ⟨r, 0, none⟩ v0).setCell ⟨r, 1, none⟩ v1).setCell ⟨r, 2, none⟩ v2).setCell ⟨r, 3, none⟩ v3).setCell ⟨r, 4, none⟩ v4).setCell ⟨r, 5, none⟩ v5) fs :=
  h.wrote (T := fun k => k = r) (KeptS.ofBut (((((((KeepBut.refl r w).setCell _ v0).setCell _ v1).setCell _ v2).setCell _ v3).setCell _ v4).setCell _ v5) rfl) (fun k e => by omega) hd
theorem Hold.set2 {w0 w : World} {fs : List Fct} {r : Nat} (h : Hold w0 w fs) (h0 : w0.heap.size ≤ r) (hd : ∀ f ∈ fs, ∀ k, f.S k → k ≠ r) (v0 v1 : Value) :
    Hold w0 ((w.setCell ⟨r, 0, none⟩ v0).setCell ⟨r, 1, none⟩ v1) fs :=
  h.wrote (T := fun k => k = r) (KeptS.ofBut (((KeepBut.refl r w).setCell _ v0).setCell _ v1) rfl) (fun k e => by omega) hd
theorem Hold.realloc {w0 w : World} {fs : List Fct} {o o' : Obj} (h : Hold w0 (w.alloc o) fs) (l : w0.heap.size ≤ w.heap.size) (hd : ∀ f ∈ fs, ∀ k, f.S k → k < w.heap.size) : Hold w0 (w.alloc o') fs :=
  ⟨Aft.realloc (W := w0) h.bel l, fun f hf => f.keep _ _ (h.all f hf) (by rw [World.size_alloc, World.size_alloc]; exact Nat.le_refl _) fun k _ hs => by
    have hk := hd f hf k hs
    exact ((KeepBut.refl w.heap.size w).alloc o').block k hk (by omega) |>.trans (((KeepBut.refl w.heap.size w).alloc o).block k hk (by omega)).symm⟩
/-- The memory of an answer, as Filter asks it. -/
theorem ans_mem {w : World} {a a' : Option Addr} {n n' : Nat} {L : List Wd} {G : List Bool} (h : AnsM a a' n n' L G w) (hn : n ≤ 1048576) (hn' : n' ≤ 1048576) : SliceB w.heap.size w a' n' G := (h.mem hn hn').gs
end Go.Proofs.YticnnpalhedgiaaDoor
