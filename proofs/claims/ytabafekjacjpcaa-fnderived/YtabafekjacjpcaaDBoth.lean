/- What each of the five makers of chapter 4 answers, on both sides: the same word; it is right, and under the word that it is made of. -/
import Derived.Test.YtabafekjacjpcaaIFive
import Derived.Test.YtabafekjacjpcaaDMath
namespace Go.Proofs.Ytabafekjacjpcaa
open Go.ChangeShapes Go.WideShapes Go.ChangeAt Go.RowKit

/-- f and g answer the word u at these arguments; u is right; u is under x. -/
structure Both (f g : Nat) (args : Array Value) (x : Wd) (u0 : Int) (u1 : Bool) (u2 u3 u4 u5 : Int) : Prop where
  im : ∀ w, Calls Try.prog f args w fun e w' => e = .returned (.agg #[.int .i64 u0, .bool u1, .int .i64 u2, .int .i64 u3, .int .i64 u4, .int .i64 u5]) ∧ Below w.heap.size w w'
  sp : ∀ w, Calls Try.prog g args w fun e w' => e = .returned (.agg #[.int .i64 u0, .bool u1, .int .i64 u2, .int .i64 u3, .int .i64 u4, .int .i64 u5]) ∧ Below w.heap.size w w'
  ok : ∀ w, Calls Try.prog 25 #[.agg #[.int .i64 u0, .bool u1, .int .i64 u2, .int .i64 u3, .int .i64 u4, .int .i64 u5]] w fun e w' => e = .returned (.bool true) ∧ Below w.heap.size w w'
  un : ∀ (w : World) (a : Option Addr) (cap : Nat), SliceW w.heap.size w a 1 [x] → Calls Try.prog 26 #[.agg #[.int .i64 u0, .bool u1, .int .i64 u2, .int .i64 u3, .int .i64 u4, .int .i64 u5], .slice a 1 cap] w fun e w' => e = .returned (.bool true) ∧ Below w.heap.size w w'

theorem both_mk {f g : Nat} {args : Array Value} {n0 : Int} {i0 : Bool} {b0 t0 p0 s0 : Int} {c : Bool} {x b t p s : Int}
    (him : ∀ w, Calls Try.prog f args w fun e w' => e = .returned (madeV (x % 65536) c b t p s) ∧ Below w.heap.size w w')
    (hsp : ∀ w, Calls Try.prog g args w fun e w' => e = .returned (madeV (x % 65536) c b t p s) ∧ Below w.heap.size w w')
    (h : c = true → kokB b t p s = true ∧ i0 = true ∧ covB b0 t0 p0 s0 b t p s = true) :
    ∃ (u0 : Int) (u1 : Bool) (u2 u3 u4 u5 : Int), Both f g args ⟨n0, i0, b0, t0, p0, s0⟩ u0 u1 u2 u3 u4 u5 := by
  refine ⟨x % 65536, c, bif c then b else 0, bif c then t else 0, bif c then p else 0, bif c then s else 0, him, hsp, fun w => ?_, fun w a cap hS => ?_⟩
  · have g := implWordOk_any (x % 65536) c (bif c then b else 0) (bif c then t else 0) (bif c then p else 0) (bif c then s else 0) w
    rw [made_ok x fun hc => (h hc).1] at g
    exact g
  · have g := implUnders_any (x % 65536) c (bif c then b else 0) (bif c then t else 0) (bif c then p else 0) (bif c then s else 0) a 1 cap _ w hS
    rw [made_un fun hc => (h hc).2] at g
    exact g

theorem both_weaken (n : Int) (i : Bool) (b t p s m : Int) : ∃ (u0 : Int) (u1 : Bool) (u2 u3 u4 u5 : Int),
    Both 11 16 #[.agg #[.int .i64 n, .bool i, .int .i64 b, .int .i64 t, .int .i64 p, .int .i64 s], .int .i64 m] ⟨n, i, b, t, p, s⟩ u0 u1 u2 u3 u4 u5 :=
  both_mk (implWeaken_any n i b t p s m) (specWeaken_any n i b t p s m) (weak_made m)
theorem both_narrow (n : Int) (i : Bool) (b t p s m : Int) : ∃ (u0 : Int) (u1 : Bool) (u2 u3 u4 u5 : Int),
    Both 13 17 #[.agg #[.int .i64 n, .bool i, .int .i64 b, .int .i64 t, .int .i64 p, .int .i64 s], .int .i64 m] ⟨n, i, b, t, p, s⟩ u0 u1 u2 u3 u4 u5 :=
  both_mk (implNarrow_any n i b t p s m) (specNarrow_any n i b t p s m) (narrow_made m)
theorem both_point (n : Int) (i : Bool) (b t p s m : Int) : ∃ (u0 : Int) (u1 : Bool) (u2 u3 u4 u5 : Int),
    Both 15 18 #[.agg #[.int .i64 n, .bool i, .int .i64 b, .int .i64 t, .int .i64 p, .int .i64 s], .int .i64 m] ⟨n, i, b, t, p, s⟩ u0 u1 u2 u3 u4 u5 :=
  both_mk (implPoint_any n i b t p s m) (specPoint_any n i b t p s m) point_made
theorem both_seal (n : Int) (i : Bool) (b t p s n' : Int) (i' : Bool) (b' t' p' s' : Int) : ∃ (u0 : Int) (u1 : Bool) (u2 u3 u4 u5 : Int),
    Both 20 23 #[.agg #[.int .i64 n, .bool i, .int .i64 b, .int .i64 t, .int .i64 p, .int .i64 s], .agg #[.int .i64 n', .bool i', .int .i64 b', .int .i64 t', .int .i64 p', .int .i64 s']] ⟨n, i, b, t, p, s⟩ u0 u1 u2 u3 u4 u5 :=
  both_mk (implSealBy_any n i b t p s n' i' b' t' p' s') (specSealBy_any n i b t p s n' i' b' t' p' s') seal_made
theorem both_open (n : Int) (i : Bool) (b t p s n' : Int) (i' : Bool) (b' t' p' s' : Int) : ∃ (u0 : Int) (u1 : Bool) (u2 u3 u4 u5 : Int),
    Both 22 24 #[.agg #[.int .i64 n, .bool i, .int .i64 b, .int .i64 t, .int .i64 p, .int .i64 s], .agg #[.int .i64 n', .bool i', .int .i64 b', .int .i64 t', .int .i64 p', .int .i64 s']] ⟨n, i, b, t, p, s⟩ u0 u1 u2 u3 u4 u5 :=
  both_mk (implOpenBy_any n i b t p s n' i' b' t' p' s') (specOpenBy_any n i b t p s n' i' b' t' p' s') open_made
end Go.Proofs.Ytabafekjacjpcaa
