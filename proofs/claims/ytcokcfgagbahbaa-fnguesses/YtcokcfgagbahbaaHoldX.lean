/- A list of facts while a word's block is laid and filled. No condition. -/
import Derived.Test.YtcokcfgagbahbaaFct
namespace Go.Proofs.Ytcokcfgagbahbaa
open Go.ChangeShapes Go.WideShapes Go.ChangeAt Go.RowKit
set_option maxRecDepth 100000

theorem Hold.boxG {w0 w : World} {fs : List Fct} (h : Hold w0 w fs) (vs : List Value) (T : TypeId) (r : Nat) (hr : r = w.heap.size) : Hold w0 (w.alloc (.cells vs.toArray T)) (celF r vs :: fs) := by
  subst hr
  exact (h.alloc _).push (celF w.heap.size vs) (Cel.new w vs T)
theorem Hold.setcG {w0 w : World} {fs : List Fct} {r : Nat} {vs : List Value} (h : Hold w0 w (celF r vs :: fs)) (h0 : w0.heap.size ≤ r) (hd : ∀ f ∈ fs, ¬ f.S r) (i : Nat) (v : Value) : Hold w0 (w.setCell ⟨r, i, none⟩ v) (celF r (vs.set i v) :: fs) :=
  ((h.tail).wrote (T := fun k => k = r) (KeptS.ofBut ((KeepBut.refl r w).setCell i v) rfl) (fun k e => by omega) (fun f hf k hk e => by subst e; exact hd f hf hk)).push (celF r (vs.set i v)) ((h.cel (.head _)).set i v)
theorem Hold.set6 {w0 w : World} {fs : List Fct} {r : Nat} {v0 v1 v2 v3 v4 v5 : Value} (h : Hold w0 w (celF r [v0, v1, v2, v3, v4, v5] :: fs)) (h0 : w0.heap.size ≤ r) (hd : ∀ f ∈ fs, ¬ f.S r) (u0 u1 u2 u3 u4 u5 : Value) :
    Hold w0 ((((((w.setCell ⟨r, 0, none⟩ u0).setCell ⟨r, 1, none⟩ u1).setCell ⟨r, 2, none⟩ u2).setCell ⟨r, 3, none⟩ u3).setCell ⟨r, 4, none⟩ u4).setCell ⟨r, 5, none⟩ u5) (celF r [u0, u1, u2, u3, u4, u5] :: fs) :=
  (((((h.setcG h0 hd 0 u0).setcG h0 hd 1 u1).setcG h0 hd 2 u2).setcG h0 hd 3 u3).setcG h0 hd 4 u4).setcG h0 hd 5 u5
end Go.Proofs.Ytcokcfgagbahbaa
