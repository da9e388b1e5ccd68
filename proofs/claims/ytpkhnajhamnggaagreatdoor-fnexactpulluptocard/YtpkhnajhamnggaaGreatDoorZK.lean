/- What a place does, as values; l9Value and l9Trap of the specification, trapped of the program. l9Value: at the ops 1 to 10. · Effects as wholes: 22 cells that are loaded, stored, answered by one law each; l9Trap of the specification, trapped of the program. No condition. · Work of the specification: what it answers, at the ops 1 to 15 and a register from 0 on. -/
import Derived.Test.YtpkhnajhamnggaaGreatDoorZJ
import Derived.Test.YtpkhnajhamnggaaGreatDoorZG
import Derived.Test.YtpkhnajhamnggaaGreatDoorZE
import Derived.Test.YtpkhnajhamnggaaGreatDoorFetA
import Derived.Test.YtpkhnajhamnggaaGreatDoorEffL
import Derived.Test.YtpkhnajhamnggaaGreatDoorMemB
import Derived.Deep.MidRow
namespace Go.Proofs.YtpkhnajhamnggaaGreatDoor
open Go.ChangeShapes Go.WideShapes Go.ChangeAt Go.RowKit
set_option maxRecDepth 100000

def plnW (n : Int) : Wd := ⟨n % 65536, false, 0, 0, 0, 0⟩
def mdeW (n : Int) (c : Bool) (b t p s : Int) : Wd := ⟨n, c, bif c then b else 0, bif c then t else 0, bif c then p else 0, bif c then s else 0⟩
def pntW (x : Wd) (m : Int) : Wd := mdeW (m % 65536) (openB x.n x.i x.b x.t x.p x.s) x.b x.t x.p x.s
def weaW (x : Wd) (m : Int) : Wd := mdeW (x.n % 65536) (openB x.n x.i x.b x.t x.p x.s) x.b x.t (bits .and .i64 x.p (m % 64)) x.s
def narW (x : Wd) (m : Int) : Wd := mdeW (x.n % 65536) (narB x.n x.i x.b x.t x.p x.s m) (wd x.n (x.n + m)).1 (wd x.n (x.n + m)).2 x.p x.s
def seaW (x y : Wd) : Wd := mdeW (x.n % 65536) (openB x.n x.i x.b x.t x.p x.s && mayB y.n y.i y.b y.t y.p y.s) x.b x.t x.p y.n
def opnW (x y : Wd) : Wd := mdeW (x.n % 65536) (opnB x.n x.i x.b x.t x.p x.s y.n y.i y.b y.t y.p y.s) x.b x.t x.p 0
/-- The value that an op makes for its register. -/
def valX (o n : Int) (a b got : Wd) : Wd :=
  if o = 1 then plnW n else if o = 2 then plnW (wrap64 (a.n + b.n)) else if o = 3 then a else if o = 4 then weaW a b.n else if o = 5 then narW a b.n else if o = 6 then pntW a (wrap64 (wrap64 (a.n + b.n) + n)) else if o = 7 then seaW a b else if o = 8 then opnW a b else if o = 10 then got else if a.i = true then plnW 1 else plnW 0

/-- An effect that traps. -/
def trpE (t : Int) (pc : Wd) : Eff := ⟨t, -1, wd0, pc, -1, wd0, -1⟩
/-- What Work answers, at the ops 1 to 15. -/
def wrkE (o r n : Int) (pc a b got : Wd) : Eff :=
  if o = 11 then ⟨0, -1, wd0, pntW pc (wrap64 (pc.n + 1)), wrap64 (a.n + n), b, -1⟩
  else if o = 12 then (if runZ a.n a.i a.b a.t a.p a.s = 0 then ⟨0, r, pntW pc (wrap64 (pc.n + 1)), a, -1, wd0, -1⟩ else trpE (runZ a.n a.i a.b a.t a.p a.s) pc)
  else if o = 13 then ⟨0, -1, wd0, if a.n = 0 then pntW pc (wrap64 (pc.n + n)) else pntW pc (wrap64 (pc.n + 1)), -1, wd0, -1⟩
  else if o = 14 then (if tryZ a.n a.i a.b a.t a.p a.s a.n 32 = 0 then ⟨0, -1, wd0, pntW pc (wrap64 (pc.n + 1)), -1, wd0, a.b⟩ else trpE (tryZ a.n a.i a.b a.t a.p a.s a.n 32) pc)
  else if o = 15 then trpE 5 pc
  else ⟨0, r, valX o n a b got, pntW pc (wrap64 (pc.n + 1)), -1, wd0, -1⟩

theorem op10 {o : Int} (h : 1 ≤ o ∧ o ≤ 10) : o = 1 ∨ o = 2 ∨ o = 3 ∨ o = 4 ∨ o = 5 ∨ o = 6 ∨ o = 7 ∨ o = 8 ∨ o = 9 ∨ o = 10 := by omega

set_option maxHeartbeats 8000000 in
theorem l9Value_any (o r ra rb n : Int) (a b got : Wd) (ho : 1 ≤ o ∧ o ≤ 10) (w : World) :
    Calls Tryz.prog 82 #[.agg #[.int .i64 o, .int .i64 r, .int .i64 ra, .int .i64 rb, .int .i64 n], .agg #[.int .i64 a.n, .bool a.i, .int .i64 a.b, .int .i64 a.t, .int .i64 a.p, .int .i64 a.s], .agg #[.int .i64 b.n, .bool b.i, .int .i64 b.b, .int .i64 b.t, .int .i64 b.p, .int .i64 b.s], .agg #[.int .i64 got.n, .bool got.i, .int .i64 got.b, .int .i64 got.t, .int .i64 got.p, .int .i64 got.s]] w fun e w' => e = .returned (wdV (valX o n a b got)) ∧ Below w.heap.size w w' := by
  have H : Hid (Hold w (((((w.alloc (.cells (il o r ra rb n : List Value).toArray 76)).alloc (.cells (wl a : List Value).toArray 38)).alloc (.cells (wl b : List Value).toArray 38)).alloc (.cells (wl got : List Value).toArray 38)).alloc (.cells ([.int .i64 0, .bool false, .int .i64 0, .int .i64 0, .int .i64 0, .int .i64 0] : List Value).toArray 38)) [celF (w.heap.size + 1 + 1 + 1 + 1) ([.int .i64 0, .bool false, .int .i64 0, .int .i64 0, .int .i64 0, .int .i64 0]), celF (w.heap.size + 1 + 1 + 1) (wl got), celF (w.heap.size + 1 + 1) (wl b), celF (w.heap.size + 1) (wl a), celF (w.heap.size) (il o r ra rb n)]) := ((((((Hold.new w).box (il o r ra rb n : List Value) 76 (w.heap.size) (by simp)).box (wl a : List Value) 38 (w.heap.size + 1) (by simp)).box (wl b : List Value) 38 (w.heap.size + 1 + 1) (by simp)).box (wl got : List Value) 38 (w.heap.size + 1 + 1 + 1) (by simp)).box ([.int .i64 0, .bool false, .int .i64 0, .int .i64 0, .int .i64 0, .int .i64 0] : List Value) 38 (w.heap.size + 1 + 1 + 1 + 1) (by simp))
  obtain ⟨vv, VV⟩ : ∃ y, Hid (y = valX o n a b got) := ⟨_, rfl⟩
  rw [← VV.out]
  generalize hw1 : (((((w.alloc (.cells (il o r ra rb n : List Value).toArray 76)).alloc (.cells (wl a : List Value).toArray 38)).alloc (.cells (wl b : List Value).toArray 38)).alloc (.cells (wl got : List Value).toArray 38)).alloc (.cells ([.int .i64 0, .bool false, .int .i64 0, .int .i64 0, .int .i64 0, .int .i64 0] : List Value).toArray 38)) = w1 at H
  go_enter Tryz.func82, Tryz.ntmps82
  go_upto_region 1 with fail
  clear hw1
  obtain ⟨i0, i1, i2, i3, i4⟩ := (H.out.cel (.tail _ (.tail _ (.tail _ (.tail _ (.head _)))))).c5
  obtain ⟨a0, a1, a2, a3, a4, a5⟩ := (H.out.cel (.tail _ (.tail _ (.tail _ (.head _))))).c6
  obtain ⟨b0, b1, b2, b3, b4, b5⟩ := (H.out.cel (.tail _ (.tail _ (.head _)))).c6
  obtain ⟨g0, g1, g2, g3, g4, g5⟩ := (H.out.cel (.tail _ (.head _))).c6
  obtain ⟨z0, z1, z2, z3, z4, z5⟩ := (H.out.cel (.head _)).c6
  obtain ⟨f0, f1, f2, f3, f4, f5⟩ := (H.out.cel (.head _)).f6
  rcases op10 ho with rfl | rfl | rfl | rfl | rfl | rfl | rfl | rfl | rfl | rfl
  · have hk : vv = plnW n := VV.out
    clear VV
    have VV := hid_mk hk
    clear hk
    obtain ⟨y, Y⟩ : ∃ y, Hid (y = plnW n) := ⟨_, rfl⟩
    have S2 : Hid (∀ w, Calls Tryz.prog 122 #[.int .i64 n] w fun e w' => e = .returned (.agg #[.int .i64 y.n, .bool y.i, .int .i64 y.b, .int .i64 y.t, .int .i64 y.p, .int .i64 y.s]) ∧ Below w.heap.size w w') := by
      rw [Y.out]
      exact fun w => specPlain_any n w
    have hv : vv = y := VV.out.trans Y.out.symm
    subst hv
    clear VV Y
    go_wp2_with (go_at_call 122; refine (S2.out _).mono ?_; rintro e w2 ⟨rfl, hb⟩; refine Hid.out ?_)
    refine Lib.hid ?_
    replace H := hid_mk (H.out.next hb)
    clear hb z0 z1 z2 z3 z4 z5 f0 f1 f2 f3 f4 f5
    obtain ⟨z0, z1, z2, z3, z4, z5⟩ := (H.out.cel (.head _)).c6
    obtain ⟨f0, f1, f2, f3, f4, f5⟩ := (H.out.cel (.head _)).f6
    go_wp2
    refine bodyPost_ret (v := .agg #[.int .i64 vv.n, .bool vv.i, .int .i64 vv.b, .int .i64 vv.t, .int .i64 vv.p, .int .i64 vv.s]) (by simp [results, Tryz.results82, go_sem, z0, z1, z2, z3, z4, z5]) rfl ⟨rfl, ?_⟩
    exact six_done H.out.bel _ (by omega) _ _ _ _ _ _
  · have hk : vv = plnW (wrap64 (a.n + b.n)) := VV.out
    clear VV
    have VV := hid_mk hk
    clear hk
    obtain ⟨y, Y⟩ : ∃ y, Hid (y = plnW (wrap64 (a.n + b.n))) := ⟨_, rfl⟩
    have S2 : Hid (∀ w, Calls Tryz.prog 122 #[.int .i64 (wrap64 (a.n + b.n))] w fun e w' => e = .returned (.agg #[.int .i64 y.n, .bool y.i, .int .i64 y.b, .int .i64 y.t, .int .i64 y.p, .int .i64 y.s]) ∧ Below w.heap.size w w') := by
      rw [Y.out]
      exact fun w => specPlain_any (wrap64 (a.n + b.n)) w
    have hv : vv = y := VV.out.trans Y.out.symm
    subst hv
    clear VV Y
    go_wp2_with (go_at_call 122; refine (S2.out _).mono ?_; rintro e w2 ⟨rfl, hb⟩; refine Hid.out ?_)
    refine Lib.hid ?_
    replace H := hid_mk (H.out.next hb)
    clear hb z0 z1 z2 z3 z4 z5 f0 f1 f2 f3 f4 f5
    obtain ⟨z0, z1, z2, z3, z4, z5⟩ := (H.out.cel (.head _)).c6
    obtain ⟨f0, f1, f2, f3, f4, f5⟩ := (H.out.cel (.head _)).f6
    go_wp2
    refine bodyPost_ret (v := .agg #[.int .i64 vv.n, .bool vv.i, .int .i64 vv.b, .int .i64 vv.t, .int .i64 vv.p, .int .i64 vv.s]) (by simp [results, Tryz.results82, go_sem, z0, z1, z2, z3, z4, z5]) rfl ⟨rfl, ?_⟩
    exact six_done H.out.bel _ (by omega) _ _ _ _ _ _
  · have hv : vv = a := VV.out
    subst hv
    go_wp2
    refine bodyPost_ret (v := .agg #[.int .i64 vv.n, .bool vv.i, .int .i64 vv.b, .int .i64 vv.t, .int .i64 vv.p, .int .i64 vv.s]) (by simp [results, Tryz.results82, go_sem, z0, z1, z2, z3, z4, z5]) rfl ⟨rfl, ?_⟩
    exact six_done H.out.bel _ (by omega) _ _ _ _ _ _
  · have hk : vv = weaW a b.n := VV.out
    clear VV
    have VV := hid_mk hk
    clear hk
    obtain ⟨y, Y⟩ : ∃ y, Hid (y = weaW a b.n) := ⟨_, rfl⟩
    have S2 : Hid (∀ w, Calls Tryz.prog 123 #[.agg #[.int .i64 a.n, .bool a.i, .int .i64 a.b, .int .i64 a.t, .int .i64 a.p, .int .i64 a.s], .int .i64 b.n] w fun e w' => e = .returned (.agg #[.int .i64 y.n, .bool y.i, .int .i64 y.b, .int .i64 y.t, .int .i64 y.p, .int .i64 y.s]) ∧ Below w.heap.size w w') := by
      rw [Y.out]
      exact fun w => specWeaken_any a.n a.i a.b a.t a.p a.s b.n w
    have hv : vv = y := VV.out.trans Y.out.symm
    subst hv
    clear VV Y
    go_wp2_with (go_at_call 123; refine (S2.out _).mono ?_; rintro e w2 ⟨rfl, hb⟩; refine Hid.out ?_)
    refine Lib.hid ?_
    replace H := hid_mk (H.out.next hb)
    clear hb z0 z1 z2 z3 z4 z5 f0 f1 f2 f3 f4 f5
    obtain ⟨z0, z1, z2, z3, z4, z5⟩ := (H.out.cel (.head _)).c6
    obtain ⟨f0, f1, f2, f3, f4, f5⟩ := (H.out.cel (.head _)).f6
    go_wp2
    refine bodyPost_ret (v := .agg #[.int .i64 vv.n, .bool vv.i, .int .i64 vv.b, .int .i64 vv.t, .int .i64 vv.p, .int .i64 vv.s]) (by simp [results, Tryz.results82, go_sem, z0, z1, z2, z3, z4, z5]) rfl ⟨rfl, ?_⟩
    exact six_done H.out.bel _ (by omega) _ _ _ _ _ _
  · have hk : vv = narW a b.n := VV.out
    clear VV
    have VV := hid_mk hk
    clear hk
    obtain ⟨y, Y⟩ : ∃ y, Hid (y = narW a b.n) := ⟨_, rfl⟩
    have S2 : Hid (∀ w, Calls Tryz.prog 124 #[.agg #[.int .i64 a.n, .bool a.i, .int .i64 a.b, .int .i64 a.t, .int .i64 a.p, .int .i64 a.s], .int .i64 b.n] w fun e w' => e = .returned (.agg #[.int .i64 y.n, .bool y.i, .int .i64 y.b, .int .i64 y.t, .int .i64 y.p, .int .i64 y.s]) ∧ Below w.heap.size w w') := by
      rw [Y.out]
      exact fun w => specNarrow_any a.n a.i a.b a.t a.p a.s b.n w
    have hv : vv = y := VV.out.trans Y.out.symm
    subst hv
    clear VV Y
    go_wp2_with (go_at_call 124; refine (S2.out _).mono ?_; rintro e w2 ⟨rfl, hb⟩; refine Hid.out ?_)
    refine Lib.hid ?_
    replace H := hid_mk (H.out.next hb)
    clear hb z0 z1 z2 z3 z4 z5 f0 f1 f2 f3 f4 f5
    obtain ⟨z0, z1, z2, z3, z4, z5⟩ := (H.out.cel (.head _)).c6
    obtain ⟨f0, f1, f2, f3, f4, f5⟩ := (H.out.cel (.head _)).f6
    go_wp2
    refine bodyPost_ret (v := .agg #[.int .i64 vv.n, .bool vv.i, .int .i64 vv.b, .int .i64 vv.t, .int .i64 vv.p, .int .i64 vv.s]) (by simp [results, Tryz.results82, go_sem, z0, z1, z2, z3, z4, z5]) rfl ⟨rfl, ?_⟩
    exact six_done H.out.bel _ (by omega) _ _ _ _ _ _
  · have hk : vv = pntW a (wrap64 (wrap64 (a.n + b.n) + n)) := VV.out
    clear VV
    have VV := hid_mk hk
    clear hk
    obtain ⟨y, Y⟩ : ∃ y, Hid (y = pntW a (wrap64 (wrap64 (a.n + b.n) + n))) := ⟨_, rfl⟩
    have S2 : Hid (∀ w, Calls Tryz.prog 80 #[.agg #[.int .i64 a.n, .bool a.i, .int .i64 a.b, .int .i64 a.t, .int .i64 a.p, .int .i64 a.s], .int .i64 (wrap64 (wrap64 (a.n + b.n) + n))] w fun e w' => e = .returned (.agg #[.int .i64 y.n, .bool y.i, .int .i64 y.b, .int .i64 y.t, .int .i64 y.p, .int .i64 y.s]) ∧ Below w.heap.size w w') := by
      rw [Y.out]
      exact fun w => specPoint_any a.n a.i a.b a.t a.p a.s (wrap64 (wrap64 (a.n + b.n) + n)) w
    have hv : vv = y := VV.out.trans Y.out.symm
    subst hv
    clear VV Y
    go_wp2_with (go_at_call 80; refine (S2.out _).mono ?_; rintro e w2 ⟨rfl, hb⟩; refine Hid.out ?_)
    refine Lib.hid ?_
    replace H := hid_mk (H.out.next hb)
    clear hb z0 z1 z2 z3 z4 z5 f0 f1 f2 f3 f4 f5
    obtain ⟨z0, z1, z2, z3, z4, z5⟩ := (H.out.cel (.head _)).c6
    obtain ⟨f0, f1, f2, f3, f4, f5⟩ := (H.out.cel (.head _)).f6
    go_wp2
    refine bodyPost_ret (v := .agg #[.int .i64 vv.n, .bool vv.i, .int .i64 vv.b, .int .i64 vv.t, .int .i64 vv.p, .int .i64 vv.s]) (by simp [results, Tryz.results82, go_sem, z0, z1, z2, z3, z4, z5]) rfl ⟨rfl, ?_⟩
    exact six_done H.out.bel _ (by omega) _ _ _ _ _ _
  · have hk : vv = seaW a b := VV.out
    clear VV
    have VV := hid_mk hk
    clear hk
    obtain ⟨y, Y⟩ : ∃ y, Hid (y = seaW a b) := ⟨_, rfl⟩
    have S2 : Hid (∀ w, Calls Tryz.prog 125 #[.agg #[.int .i64 a.n, .bool a.i, .int .i64 a.b, .int .i64 a.t, .int .i64 a.p, .int .i64 a.s], .agg #[.int .i64 b.n, .bool b.i, .int .i64 b.b, .int .i64 b.t, .int .i64 b.p, .int .i64 b.s]] w fun e w' => e = .returned (.agg #[.int .i64 y.n, .bool y.i, .int .i64 y.b, .int .i64 y.t, .int .i64 y.p, .int .i64 y.s]) ∧ Below w.heap.size w w') := by
      rw [Y.out]
      exact fun w => specSealBy_any a.n a.i a.b a.t a.p a.s b.n b.i b.b b.t b.p b.s w
    have hv : vv = y := VV.out.trans Y.out.symm
    subst hv
    clear VV Y
    go_wp2_with (go_at_call 125; refine (S2.out _).mono ?_; rintro e w2 ⟨rfl, hb⟩; refine Hid.out ?_)
    refine Lib.hid ?_
    replace H := hid_mk (H.out.next hb)
    clear hb z0 z1 z2 z3 z4 z5 f0 f1 f2 f3 f4 f5
    obtain ⟨z0, z1, z2, z3, z4, z5⟩ := (H.out.cel (.head _)).c6
    obtain ⟨f0, f1, f2, f3, f4, f5⟩ := (H.out.cel (.head _)).f6
    go_wp2
    refine bodyPost_ret (v := .agg #[.int .i64 vv.n, .bool vv.i, .int .i64 vv.b, .int .i64 vv.t, .int .i64 vv.p, .int .i64 vv.s]) (by simp [results, Tryz.results82, go_sem, z0, z1, z2, z3, z4, z5]) rfl ⟨rfl, ?_⟩
    exact six_done H.out.bel _ (by omega) _ _ _ _ _ _
  · have hk : vv = opnW a b := VV.out
    clear VV
    have VV := hid_mk hk
    clear hk
    obtain ⟨y, Y⟩ : ∃ y, Hid (y = opnW a b) := ⟨_, rfl⟩
    have S2 : Hid (∀ w, Calls Tryz.prog 126 #[.agg #[.int .i64 a.n, .bool a.i, .int .i64 a.b, .int .i64 a.t, .int .i64 a.p, .int .i64 a.s], .agg #[.int .i64 b.n, .bool b.i, .int .i64 b.b, .int .i64 b.t, .int .i64 b.p, .int .i64 b.s]] w fun e w' => e = .returned (.agg #[.int .i64 y.n, .bool y.i, .int .i64 y.b, .int .i64 y.t, .int .i64 y.p, .int .i64 y.s]) ∧ Below w.heap.size w w') := by
      rw [Y.out]
      exact fun w => specOpenBy_any a.n a.i a.b a.t a.p a.s b.n b.i b.b b.t b.p b.s w
    have hv : vv = y := VV.out.trans Y.out.symm
    subst hv
    clear VV Y
    go_wp2_with (go_at_call 126; refine (S2.out _).mono ?_; rintro e w2 ⟨rfl, hb⟩; refine Hid.out ?_)
    refine Lib.hid ?_
    replace H := hid_mk (H.out.next hb)
    clear hb z0 z1 z2 z3 z4 z5 f0 f1 f2 f3 f4 f5
    obtain ⟨z0, z1, z2, z3, z4, z5⟩ := (H.out.cel (.head _)).c6
    obtain ⟨f0, f1, f2, f3, f4, f5⟩ := (H.out.cel (.head _)).f6
    go_wp2
    refine bodyPost_ret (v := .agg #[.int .i64 vv.n, .bool vv.i, .int .i64 vv.b, .int .i64 vv.t, .int .i64 vv.p, .int .i64 vv.s]) (by simp [results, Tryz.results82, go_sem, z0, z1, z2, z3, z4, z5]) rfl ⟨rfl, ?_⟩
    exact six_done H.out.bel _ (by omega) _ _ _ _ _ _
  · cases hi : a.i with
    | true =>
      have hk : vv = plnW 1 := by rw [VV.out, valX]; simp [hi]
      rw [hi] at a1
      clear VV
      have VV := hid_mk hk
      clear hk
      obtain ⟨y, Y⟩ : ∃ y, Hid (y = plnW 1) := ⟨_, rfl⟩
      have S2 : Hid (∀ w, Calls Tryz.prog 122 #[.int .i64 1] w fun e w' => e = .returned (.agg #[.int .i64 y.n, .bool y.i, .int .i64 y.b, .int .i64 y.t, .int .i64 y.p, .int .i64 y.s]) ∧ Below w.heap.size w w') := by
        rw [Y.out]
        exact fun w => specPlain_any 1 w
      have hv : vv = y := VV.out.trans Y.out.symm
      subst hv
      clear VV Y
      go_wp2_with (go_at_call 122; refine (S2.out _).mono ?_; rintro e w2 ⟨rfl, hb⟩; refine Hid.out ?_)
      refine Lib.hid ?_
      replace H := hid_mk (H.out.next hb)
      clear hb z0 z1 z2 z3 z4 z5 f0 f1 f2 f3 f4 f5
      obtain ⟨z0, z1, z2, z3, z4, z5⟩ := (H.out.cel (.head _)).c6
      obtain ⟨f0, f1, f2, f3, f4, f5⟩ := (H.out.cel (.head _)).f6
      go_wp2
      refine bodyPost_ret (v := .agg #[.int .i64 vv.n, .bool vv.i, .int .i64 vv.b, .int .i64 vv.t, .int .i64 vv.p, .int .i64 vv.s]) (by simp [results, Tryz.results82, go_sem, z0, z1, z2, z3, z4, z5]) rfl ⟨rfl, ?_⟩
      exact six_done H.out.bel _ (by omega) _ _ _ _ _ _
    | false =>
      have hk : vv = plnW 0 := by rw [VV.out, valX]; simp [hi]
      rw [hi] at a1
      clear VV
      have VV := hid_mk hk
      clear hk
      obtain ⟨y, Y⟩ : ∃ y, Hid (y = plnW 0) := ⟨_, rfl⟩
      have S2 : Hid (∀ w, Calls Tryz.prog 122 #[.int .i64 0] w fun e w' => e = .returned (.agg #[.int .i64 y.n, .bool y.i, .int .i64 y.b, .int .i64 y.t, .int .i64 y.p, .int .i64 y.s]) ∧ Below w.heap.size w w') := by
        rw [Y.out]
        exact fun w => specPlain_any 0 w
      have hv : vv = y := VV.out.trans Y.out.symm
      subst hv
      clear VV Y
      go_wp2_with (go_at_call 122; refine (S2.out _).mono ?_; rintro e w2 ⟨rfl, hb⟩; refine Hid.out ?_)
      refine Lib.hid ?_
      replace H := hid_mk (H.out.next hb)
      clear hb z0 z1 z2 z3 z4 z5 f0 f1 f2 f3 f4 f5
      obtain ⟨z0, z1, z2, z3, z4, z5⟩ := (H.out.cel (.head _)).c6
      obtain ⟨f0, f1, f2, f3, f4, f5⟩ := (H.out.cel (.head _)).f6
      go_wp2
      refine bodyPost_ret (v := .agg #[.int .i64 vv.n, .bool vv.i, .int .i64 vv.b, .int .i64 vv.t, .int .i64 vv.p, .int .i64 vv.s]) (by simp [results, Tryz.results82, go_sem, z0, z1, z2, z3, z4, z5]) rfl ⟨rfl, ?_⟩
      exact six_done H.out.bel _ (by omega) _ _ _ _ _ _
  · have hv : vv = got := VV.out
    subst hv
    go_wp2
    refine bodyPost_ret (v := .agg #[.int .i64 vv.n, .bool vv.i, .int .i64 vv.b, .int .i64 vv.t, .int .i64 vv.p, .int .i64 vv.s]) (by simp [results, Tryz.results82, go_sem, z0, z1, z2, z3, z4, z5]) rfl ⟨rfl, ?_⟩
    exact six_done H.out.bel _ (by omega) _ _ _ _ _ _

end Go.Proofs.YtpkhnajhamnggaaGreatDoor

namespace Go.Proofs.YtpkhnajhamnggaaGreatDoor
open Go.ChangeShapes Go.WideShapes Go.ChangeAt Go.RowKit
set_option maxRecDepth 100000

set_option maxHeartbeats 1000000 in
theorem l9Trap_any (t : Int) (pc : Wd) (w : World) :
    Calls Tryz.prog 59 #[.int .i64 t, .agg #[.int .i64 pc.n, .bool pc.i, .int .i64 pc.b, .int .i64 pc.t, .int .i64 pc.p, .int .i64 pc.s]] w fun e w' => e = .returned (.agg (effl (trpE t pc)).toArray) ∧ Below w.heap.size w w' := by
  have H : Hid (Hold w ((w.alloc (.cells (wl pc : List Value).toArray 38)).alloc (.cells ([.int .i64 0, .int .i64 0, .int .i64 0, .bool false, .int .i64 0, .int .i64 0, .int .i64 0, .int .i64 0, .int .i64 0, .bool false, .int .i64 0, .int .i64 0, .int .i64 0, .int .i64 0, .int .i64 0, .int .i64 0, .bool false, .int .i64 0, .int .i64 0, .int .i64 0, .int .i64 0, .int .i64 0] : List Value).toArray 82)) [celF (w.heap.size + 1) [.int .i64 0, .int .i64 0, .int .i64 0, .bool false, .int .i64 0, .int .i64 0, .int .i64 0, .int .i64 0, .int .i64 0, .bool false, .int .i64 0, .int .i64 0, .int .i64 0, .int .i64 0, .int .i64 0, .int .i64 0, .bool false, .int .i64 0, .int .i64 0, .int .i64 0, .int .i64 0, .int .i64 0], celF w.heap.size (wl pc)]) := (((Hold.new w).box (wl pc) 38 w.heap.size rfl).box [.int .i64 0, .int .i64 0, .int .i64 0, .bool false, .int .i64 0, .int .i64 0, .int .i64 0, .int .i64 0, .int .i64 0, .bool false, .int .i64 0, .int .i64 0, .int .i64 0, .int .i64 0, .int .i64 0, .int .i64 0, .bool false, .int .i64 0, .int .i64 0, .int .i64 0, .int .i64 0, .int .i64 0] 82 (w.heap.size + 1) (by simp))
  obtain ⟨V, HV⟩ : ∃ V, Hid (V = Value.agg (effl (trpE t pc)).toArray) := ⟨_, rfl⟩
  rw [← HV.out]
  generalize hw1 : (w.alloc (.cells (wl pc : List Value).toArray 38)).alloc (.cells ([.int .i64 0, .int .i64 0, .int .i64 0, .bool false, .int .i64 0, .int .i64 0, .int .i64 0, .int .i64 0, .int .i64 0, .bool false, .int .i64 0, .int .i64 0, .int .i64 0, .int .i64 0, .int .i64 0, .int .i64 0, .bool false, .int .i64 0, .int .i64 0, .int .i64 0, .int .i64 0, .int .i64 0] : List Value).toArray 82) = w1 at H
  go_enter Tryz.func59, Tryz.ntmps59
  go_upto_region 1 with fail
  clear hw1
  obtain ⟨p0, p1, p2, p3, p4, p5⟩ := (H.out.cel (.tail _ (.head _))).c6
  have C := hid_mk (H.out.cel (.head _))
  have C2 := hid_mk (C.out.sets (us := effl (trpE t pc)) rfl)
  have B2 := hid_mk (below_sets (effl (trpE t pc)) H.out.bel (r := w.heap.size + 1) (by omega))
  have hlv := hid_mk (lv_eff C2.out)
  clear H
  go_wp2_with (refine wpList_store_mid (by rfl) 82 _ _ (by rfl) (w.heap.size + 1) 0 (effl (trpE t pc)).toArray (by rfl) (by rfl) C.out.there sizeEff (effl_one _) ?_)
  refine bodyPost_ret (v := V) (by rw [HV.out]; exact results_cell1 Tryz.results59 (by rfl) hlv.out) rfl ⟨rfl, B2.out⟩

set_option maxHeartbeats 1000000 in
theorem trapped_any (t : Int) (pc : Wd) (w : World) :
    Calls Tryz.prog 65 #[.int .i64 t, .agg #[.int .i64 pc.n, .bool pc.i, .int .i64 pc.b, .int .i64 pc.t, .int .i64 pc.p, .int .i64 pc.s]] w fun e w' => e = .returned (.agg (effl (trpE t pc)).toArray) ∧ Below w.heap.size w w' := by
  have H : Hid (Hold w ((w.alloc (.cells (wl pc : List Value).toArray 38)).alloc (.cells ([.int .i64 0, .int .i64 0, .int .i64 0, .bool false, .int .i64 0, .int .i64 0, .int .i64 0, .int .i64 0, .int .i64 0, .bool false, .int .i64 0, .int .i64 0, .int .i64 0, .int .i64 0, .int .i64 0, .int .i64 0, .bool false, .int .i64 0, .int .i64 0, .int .i64 0, .int .i64 0, .int .i64 0] : List Value).toArray 82)) [celF (w.heap.size + 1) [.int .i64 0, .int .i64 0, .int .i64 0, .bool false, .int .i64 0, .int .i64 0, .int .i64 0, .int .i64 0, .int .i64 0, .bool false, .int .i64 0, .int .i64 0, .int .i64 0, .int .i64 0, .int .i64 0, .int .i64 0, .bool false, .int .i64 0, .int .i64 0, .int .i64 0, .int .i64 0, .int .i64 0], celF w.heap.size (wl pc)]) := (((Hold.new w).box (wl pc) 38 w.heap.size rfl).box [.int .i64 0, .int .i64 0, .int .i64 0, .bool false, .int .i64 0, .int .i64 0, .int .i64 0, .int .i64 0, .int .i64 0, .bool false, .int .i64 0, .int .i64 0, .int .i64 0, .int .i64 0, .int .i64 0, .int .i64 0, .bool false, .int .i64 0, .int .i64 0, .int .i64 0, .int .i64 0, .int .i64 0] 82 (w.heap.size + 1) (by simp))
  obtain ⟨V, HV⟩ : ∃ V, Hid (V = Value.agg (effl (trpE t pc)).toArray) := ⟨_, rfl⟩
  rw [← HV.out]
  generalize hw1 : (w.alloc (.cells (wl pc : List Value).toArray 38)).alloc (.cells ([.int .i64 0, .int .i64 0, .int .i64 0, .bool false, .int .i64 0, .int .i64 0, .int .i64 0, .int .i64 0, .int .i64 0, .bool false, .int .i64 0, .int .i64 0, .int .i64 0, .int .i64 0, .int .i64 0, .int .i64 0, .bool false, .int .i64 0, .int .i64 0, .int .i64 0, .int .i64 0, .int .i64 0] : List Value).toArray 82) = w1 at H
  go_enter Tryz.func65, Tryz.ntmps65
  go_upto_region 1 with fail
  clear hw1
  obtain ⟨p0, p1, p2, p3, p4, p5⟩ := (H.out.cel (.tail _ (.head _))).c6
  have C := hid_mk (H.out.cel (.head _))
  have C2 := hid_mk (C.out.sets (us := effl (trpE t pc)) rfl)
  have B2 := hid_mk (below_sets (effl (trpE t pc)) H.out.bel (r := w.heap.size + 1) (by omega))
  have hlv := hid_mk (lv_eff C2.out)
  clear H
  go_wp2_with (refine wpList_store_mid (by rfl) 82 _ _ (by rfl) (w.heap.size + 1) 0 (effl (trpE t pc)).toArray (by rfl) (by rfl) C.out.there sizeEff (effl_one _) ?_)
  refine bodyPost_ret (v := V) (by rw [HV.out]; exact results_cell1 Tryz.results65 (by rfl) hlv.out) rfl ⟨rfl, B2.out⟩
end Go.Proofs.YtpkhnajhamnggaaGreatDoor

namespace Go.Proofs.YtpkhnajhamnggaaGreatDoor
open Go.ChangeShapes Go.WideShapes Go.ChangeAt Go.RowKit
set_option maxRecDepth 100000

theorem Hold.setd {w0 w : World} {fs : List Fct} {r : Nat} {vs : List Value} (h : Hold w0 w (celF r vs :: fs)) (h0 : w0.heap.size ≤ r) (hd : ∀ f ∈ fs, ∀ k, f.S k → k ≠ r) (i : Nat) (v : Value) : Hold w0 (w.setCell ⟨r, i, none⟩ v) (celF r (vs.set i v) :: fs) :=
  ((h.tail).wrote (T := fun k => k = r) (KeptS.ofBut ((KeepBut.refl r w).setCell i v) rfl) (fun k e => by omega) hd).push (celF r (vs.set i v)) ((h.cel (.head _)).set i v)
theorem Hold.sets {w0 w : World} {fs : List Fct} {r : Nat} {vs : List Value} (us : List Value) (h : Hold w0 w (celF r vs :: fs)) (h0 : w0.heap.size ≤ r) (hd : ∀ f ∈ fs, ∀ k, f.S k → k ≠ r) (hl : us.length = vs.length) : Hold w0 (w.setCells r 0 us) (celF r us :: fs) := by
  have kb : ∀ (us : List Value) (o : Nat) (w : World), KeepBut r w (w.setCells r o us) := fun us => by
    induction us with
    | nil => intro o w; exact KeepBut.refl _ _
    | cons u us ih => intro o w; rw [World.setCells]; exact ((KeepBut.refl r w).setCell o u).trans (ih _ _)
  exact ((h.tail).wrote (T := fun k => k = r) (KeptS.ofBut (kb us 0 w) rfl) (fun k e => by omega) hd).push (celF r us) ((h.cel (.head _)).sets hl)

theorem setZ_at {o r : Int} (ho : 1 ≤ o ∧ o ≤ 10) : setZ o r = r := by
  rcases op10 ho with rfl | rfl | rfl | rfl | rfl | rfl | rfl | rfl | rfl | rfl <;> rfl
theorem wrkE_low {o r n : Int} {pc a b got : Wd} (ho : o ≤ 10) : wrkE o r n pc a b got = ⟨0, r, valX o n a b got, pntW pc (wrap64 (pc.n + 1)), -1, wd0, -1⟩ := by
  unfold wrkE
  rw [if_neg (by omega), if_neg (by omega), if_neg (by omega), if_neg (by omega), if_neg (by omega)]
set_option maxHeartbeats 20000000 in
theorem specWork_any (o r ra rb n : Int) (pc a b got : Wd) (ho : 1 ≤ o ∧ o ≤ 15) (hr : 0 ≤ r) (w : World) :
    Calls Tryz.prog 35 #[.agg #[.int .i64 o, .int .i64 r, .int .i64 ra, .int .i64 rb, .int .i64 n], .agg #[.int .i64 pc.n, .bool pc.i, .int .i64 pc.b, .int .i64 pc.t, .int .i64 pc.p, .int .i64 pc.s], .agg #[.int .i64 a.n, .bool a.i, .int .i64 a.b, .int .i64 a.t, .int .i64 a.p, .int .i64 a.s], .agg #[.int .i64 b.n, .bool b.i, .int .i64 b.b, .int .i64 b.t, .int .i64 b.p, .int .i64 b.s], .agg #[.int .i64 got.n, .bool got.i, .int .i64 got.b, .int .i64 got.t, .int .i64 got.p, .int .i64 got.s]] w fun e w' => e = .returned (.agg (effl (wrkE o r n pc a b got)).toArray) ∧ Below w.heap.size w w' := by
  have H : Hid (Hold w ((((((w.alloc (.cells (il o r ra rb n : List Value).toArray 76)).alloc (.cells (wl pc : List Value).toArray 38)).alloc (.cells (wl a : List Value).toArray 38)).alloc (.cells (wl b : List Value).toArray 38)).alloc (.cells (wl got : List Value).toArray 38)).alloc (.cells ([.int .i64 0, .int .i64 0, .int .i64 0, .bool false, .int .i64 0, .int .i64 0, .int .i64 0, .int .i64 0, .int .i64 0, .bool false, .int .i64 0, .int .i64 0, .int .i64 0, .int .i64 0, .int .i64 0, .int .i64 0, .bool false, .int .i64 0, .int .i64 0, .int .i64 0, .int .i64 0, .int .i64 0] : List Value).toArray 82)) [celF (w.heap.size + 1 + 1 + 1 + 1 + 1) ([.int .i64 0, .int .i64 0, .int .i64 0, .bool false, .int .i64 0, .int .i64 0, .int .i64 0, .int .i64 0, .int .i64 0, .bool false, .int .i64 0, .int .i64 0, .int .i64 0, .int .i64 0, .int .i64 0, .int .i64 0, .bool false, .int .i64 0, .int .i64 0, .int .i64 0, .int .i64 0, .int .i64 0]), celF (w.heap.size + 1 + 1 + 1 + 1) (wl got), celF (w.heap.size + 1 + 1 + 1) (wl b), celF (w.heap.size + 1 + 1) (wl a), celF (w.heap.size + 1) (wl pc), celF (w.heap.size) (il o r ra rb n)]) := (((((((Hold.new w).box (il o r ra rb n : List Value) 76 (w.heap.size) (by simp)).box (wl pc : List Value) 38 (w.heap.size + 1) (by simp)).box (wl a : List Value) 38 (w.heap.size + 1 + 1) (by simp)).box (wl b : List Value) 38 (w.heap.size + 1 + 1 + 1) (by simp)).box (wl got : List Value) 38 (w.heap.size + 1 + 1 + 1 + 1) (by simp)).box ([.int .i64 0, .int .i64 0, .int .i64 0, .bool false, .int .i64 0, .int .i64 0, .int .i64 0, .int .i64 0, .int .i64 0, .bool false, .int .i64 0, .int .i64 0, .int .i64 0, .int .i64 0, .int .i64 0, .int .i64 0, .bool false, .int .i64 0, .int .i64 0, .int .i64 0, .int .i64 0, .int .i64 0] : List Value) 82 (w.heap.size + 1 + 1 + 1 + 1 + 1) (by simp))
  obtain ⟨E, EE⟩ : ∃ y, Hid (y = wrkE o r n pc a b got) := ⟨_, rfl⟩
  rw [← EE.out]
  obtain ⟨q, Q⟩ : ∃ y, Hid (y = pntW pc (wrap64 (pc.n + 1))) := ⟨_, rfl⟩
  have S1 : Hid (∀ w, Calls Tryz.prog 80 #[.agg #[.int .i64 pc.n, .bool pc.i, .int .i64 pc.b, .int .i64 pc.t, .int .i64 pc.p, .int .i64 pc.s], .int .i64 (wrap64 (pc.n + 1))] w fun e w' => e = .returned (.agg #[.int .i64 q.n, .bool q.i, .int .i64 q.b, .int .i64 q.t, .int .i64 q.p, .int .i64 q.s]) ∧ Below w.heap.size w w') := by
    rw [Q.out]
    exact fun w => specPoint_any pc.n pc.i pc.b pc.t pc.p pc.s _ w
  generalize hw1 : ((((((w.alloc (.cells (il o r ra rb n : List Value).toArray 76)).alloc (.cells (wl pc : List Value).toArray 38)).alloc (.cells (wl a : List Value).toArray 38)).alloc (.cells (wl b : List Value).toArray 38)).alloc (.cells (wl got : List Value).toArray 38)).alloc (.cells ([.int .i64 0, .int .i64 0, .int .i64 0, .bool false, .int .i64 0, .int .i64 0, .int .i64 0, .int .i64 0, .int .i64 0, .bool false, .int .i64 0, .int .i64 0, .int .i64 0, .int .i64 0, .int .i64 0, .int .i64 0, .bool false, .int .i64 0, .int .i64 0, .int .i64 0, .int .i64 0, .int .i64 0] : List Value).toArray 82)) = w1 at H
  go_enter Tryz.func35, Tryz.ntmps35
  go_upto_region 1 with fail
  clear hw1
  obtain ⟨p0, p1, p2, p3, p4, p5⟩ := (H.out.cel (.tail _ (.tail _ (.tail _ (.tail _ (.head _)))))).c6
  go_wp2_with fail
  refine (S1.out _).mono ?_
  rintro e w2 ⟨rfl, hb⟩
  replace H := hid_mk (H.out.next hb)
  have hz2 : w.heap.size + 1 + 1 + 1 + 1 + 1 < w2.heap.size := (H.out.cel (.head _)).lt
  have C0 := hid_mk (Cel.new w2 [.int .i64 0, .int .i64 0, .int .i64 0, .bool false, .int .i64 0, .int .i64 0, .int .i64 0, .int .i64 0, .int .i64 0, .bool false, .int .i64 0, .int .i64 0, .int .i64 0, .int .i64 0, .int .i64 0, .int .i64 0, .bool false, .int .i64 0, .int .i64 0, .int .i64 0, .int .i64 0, .int .i64 0] 82)
  replace H := hid_mk (H.out.box ([.int .i64 0, .int .i64 0, .int .i64 0, .bool false, .int .i64 0, .int .i64 0, .int .i64 0, .int .i64 0, .int .i64 0, .bool false, .int .i64 0, .int .i64 0, .int .i64 0, .int .i64 0, .int .i64 0, .int .i64 0, .bool false, .int .i64 0, .int .i64 0, .int .i64 0, .int .i64 0, .int .i64 0] : List Value) 82 w2.heap.size rfl)
  clear hb p0 p1 p2 p3 p4 p5 S1
  go_upto_region 2 with (refine wpList_store_mid (by rfl) 82 _ _ (by rfl) w2.heap.size 0 (effl ⟨0, -1, ⟨0, false, 0, 0, 0, 0⟩, q, -1, ⟨0, false, 0, 0, 0, 0⟩, -1⟩).toArray (by rfl) (by rfl) C0.out.there sizeEff (effl_one _) ?_)
  clear C0
  generalize w2.alloc (.cells ([.int .i64 0, .int .i64 0, .int .i64 0, .bool false, .int .i64 0, .int .i64 0, .int .i64 0, .int .i64 0, .int .i64 0, .bool false, .int .i64 0, .int .i64 0, .int .i64 0, .int .i64 0, .int .i64 0, .int .i64 0, .bool false, .int .i64 0, .int .i64 0, .int .i64 0, .int .i64 0, .int .i64 0] : List Value).toArray 82) = w2' at H ⊢
  generalize w2.heap.size = re at H hz2 ⊢
  have DD : Hid (∀ f ∈ [celF (w.heap.size + 1 + 1 + 1 + 1 + 1) ([.int .i64 0, .int .i64 0, .int .i64 0, .bool false, .int .i64 0, .int .i64 0, .int .i64 0, .int .i64 0, .int .i64 0, .bool false, .int .i64 0, .int .i64 0, .int .i64 0, .int .i64 0, .int .i64 0, .int .i64 0, .bool false, .int .i64 0, .int .i64 0, .int .i64 0, .int .i64 0, .int .i64 0]), celF (w.heap.size + 1 + 1 + 1 + 1) (wl got), celF (w.heap.size + 1 + 1 + 1) (wl b), celF (w.heap.size + 1 + 1) (wl a), celF (w.heap.size + 1) (wl pc), celF (w.heap.size) (il o r ra rb n)], ∀ k, f.S k → k ≠ re) := fun f hf k hk => by
    simp only [List.mem_cons, List.not_mem_nil, or_false] at hf
    rcases hf with rfl | rfl | rfl | rfl | rfl | rfl
    all_goals
      simp only [celF] at hk
      omega
  replace H : Hid (Hold w (w2'.setCells re 0 [.int .i64 0, .int .i64 (-1), .int .i64 0, .bool false, .int .i64 0, .int .i64 0, .int .i64 0, .int .i64 0, .int .i64 q.n, .bool q.i, .int .i64 q.b, .int .i64 q.t, .int .i64 q.p, .int .i64 q.s, .int .i64 (-1), .int .i64 0, .bool false, .int .i64 0, .int .i64 0, .int .i64 0, .int .i64 0, .int .i64 (-1)]) [celF re [.int .i64 0, .int .i64 (-1), .int .i64 0, .bool false, .int .i64 0, .int .i64 0, .int .i64 0, .int .i64 0, .int .i64 q.n, .bool q.i, .int .i64 q.b, .int .i64 q.t, .int .i64 q.p, .int .i64 q.s, .int .i64 (-1), .int .i64 0, .bool false, .int .i64 0, .int .i64 0, .int .i64 0, .int .i64 0, .int .i64 (-1)], celF (w.heap.size + 1 + 1 + 1 + 1 + 1) ([.int .i64 0, .int .i64 0, .int .i64 0, .bool false, .int .i64 0, .int .i64 0, .int .i64 0, .int .i64 0, .int .i64 0, .bool false, .int .i64 0, .int .i64 0, .int .i64 0, .int .i64 0, .int .i64 0, .int .i64 0, .bool false, .int .i64 0, .int .i64 0, .int .i64 0, .int .i64 0, .int .i64 0]), celF (w.heap.size + 1 + 1 + 1 + 1) (wl got), celF (w.heap.size + 1 + 1 + 1) (wl b), celF (w.heap.size + 1 + 1) (wl a), celF (w.heap.size + 1) (wl pc), celF (w.heap.size) (il o r ra rb n)]) := H.out.sets (effl ⟨0, -1, ⟨0, false, 0, 0, 0, 0⟩, q, -1, ⟨0, false, 0, 0, 0, 0⟩, -1⟩) (by omega) DD.out rfl
  generalize hw3 : w2'.setCells re 0 _ = w3 at H ⊢
  clear hw3
  obtain ⟨i0, i1, i2, i3, i4⟩ := (H.out.cel (.tail _ (.tail _ (.tail _ (.tail _ (.tail _ (.tail _ (.head _)))))))).c5
  by_cases hlo : o ≤ 10
  · have hh := wrkE_low (o := o) (r := r) (n := n) (pc := pc) (a := a) (b := b) (got := got) hlo
    have hsz : setZ o r = r := setZ_at ⟨ho.1, hlo⟩
    have s2 := specSets_any o r ra rb n
    rw [hsz] at s2
    obtain ⟨y, Y⟩ : ∃ y, Hid (y = valX o n a b got) := ⟨_, rfl⟩
    have s3 : ∀ w, Calls Tryz.prog 82 #[.agg #[.int .i64 o, .int .i64 r, .int .i64 ra, .int .i64 rb, .int .i64 n], .agg #[.int .i64 a.n, .bool a.i, .int .i64 a.b, .int .i64 a.t, .int .i64 a.p, .int .i64 a.s], .agg #[.int .i64 b.n, .bool b.i, .int .i64 b.b, .int .i64 b.t, .int .i64 b.p, .int .i64 b.s], .agg #[.int .i64 got.n, .bool got.i, .int .i64 got.b, .int .i64 got.t, .int .i64 got.p, .int .i64 got.s]] w fun e w' => e = .returned (.agg #[.int .i64 y.n, .bool y.i, .int .i64 y.b, .int .i64 y.t, .int .i64 y.p, .int .i64 y.s]) ∧ Below w.heap.size w w' := by
      rw [Y.out]
      exact fun w => l9Value_any o r ra rb n a b got ⟨ho.1, hlo⟩ w
    rw [← EE.out, ← Q.out, ← Y.out] at hh
    have HE : E = ⟨0, r, y, q, -1, wd0, -1⟩ := hh
    have HE' := hid_mk HE
    have h11 : (o == (11 : Int)) = false := by simp; omega
    have h12 : (o == (12 : Int)) = false := by simp; omega
    have h13 : (o == (13 : Int)) = false := by simp; omega
    have h14 : (o == (14 : Int)) = false := by simp; omega
    have h15 : (o == (15 : Int)) = false := by simp; omega
    have S2 := hid_mk s2
    have S3 := hid_mk s3
    clear s2 s3 hsz hlo EE Q Y hh HE
    go_wp2_with fail
    refine (S2.out _).mono ?_
    rintro e w4 ⟨rfl, hb⟩
    replace H := hid_mk (H.out.next hb)
    clear hb i0 i1 i2 i3 i4
    have e1 := (H.out.cel (.head _)).c 1 _ rfl
    have g1 := (H.out.cel (.head _)).f 1 (by simp)
    go_upto_region 5 with fail
    clear e1 g1
    replace H : Hid (Hold w (w4.setCell ⟨re, 1, none⟩ (.int .i64 r)) [celF re [.int .i64 0, .int .i64 r, .int .i64 0, .bool false, .int .i64 0, .int .i64 0, .int .i64 0, .int .i64 0, .int .i64 q.n, .bool q.i, .int .i64 q.b, .int .i64 q.t, .int .i64 q.p, .int .i64 q.s, .int .i64 (-1), .int .i64 0, .bool false, .int .i64 0, .int .i64 0, .int .i64 0, .int .i64 0, .int .i64 (-1)], celF (w.heap.size + 1 + 1 + 1 + 1 + 1) ([.int .i64 0, .int .i64 0, .int .i64 0, .bool false, .int .i64 0, .int .i64 0, .int .i64 0, .int .i64 0, .int .i64 0, .bool false, .int .i64 0, .int .i64 0, .int .i64 0, .int .i64 0, .int .i64 0, .int .i64 0, .bool false, .int .i64 0, .int .i64 0, .int .i64 0, .int .i64 0, .int .i64 0]), celF (w.heap.size + 1 + 1 + 1 + 1) (wl got), celF (w.heap.size + 1 + 1 + 1) (wl b), celF (w.heap.size + 1 + 1) (wl a), celF (w.heap.size + 1) (wl pc), celF (w.heap.size) (il o r ra rb n)]) := (H.out.setd (by omega) DD.out 1 (.int .i64 r))
    generalize (w4.setCell ⟨re, 1, none⟩ (.int .i64 r)) = w5 at H ⊢
    have e1 := (H.out.cel (.head _)).c 1 _ rfl
    obtain ⟨i0, i1, i2, i3, i4⟩ := (H.out.cel (.tail _ (.tail _ (.tail _ (.tail _ (.tail _ (.tail _ (.head _)))))))).c5
    obtain ⟨a0, a1, a2, a3, a4, a5⟩ := (H.out.cel (.tail _ (.tail _ (.tail _ (.tail _ (.head _)))))).c6
    obtain ⟨b0, b1, b2, b3, b4, b5⟩ := (H.out.cel (.tail _ (.tail _ (.tail _ (.head _))))).c6
    obtain ⟨c0, c1, c2, c3, c4, c5⟩ := (H.out.cel (.tail _ (.tail _ (.head _)))).c6
    go_wp2_with fail
    refine (S3.out _).mono ?_
    rintro e w6 ⟨rfl, hb⟩
    replace H := hid_mk (H.out.next hb)
    clear hb e1 i0 i1 i2 i3 i4 a0 a1 a2 a3 a4 a5 b0 b1 b2 b3 b4 b5 c0 c1 c2 c3 c4 c5
    have e2 := (H.out.cel (.head _)).c 2 _ rfl
    have e3 := (H.out.cel (.head _)).c 3 _ rfl
    have e4 := (H.out.cel (.head _)).c 4 _ rfl
    have e5 := (H.out.cel (.head _)).c 5 _ rfl
    have e6 := (H.out.cel (.head _)).c 6 _ rfl
    have e7 := (H.out.cel (.head _)).c 7 _ rfl
    have g2 := (H.out.cel (.head _)).f 2 (by simp)
    have g3 := (H.out.cel (.head _)).f 3 (by simp)
    have g4 := (H.out.cel (.head _)).f 4 (by simp)
    have g5 := (H.out.cel (.head _)).f 5 (by simp)
    have g6 := (H.out.cel (.head _)).f 6 (by simp)
    have g7 := (H.out.cel (.head _)).f 7 (by simp)
    go_upto_region 25 with fail
    clear e2 g2 e3 g3 e4 g4 e5 g5 e6 g6 e7 g7
    replace H : Hid (Hold w ((((((w6.setCell ⟨re, 2, none⟩ (.int .i64 y.n)).setCell ⟨re, 3, none⟩ (.bool y.i)).setCell ⟨re, 4, none⟩ (.int .i64 y.b)).setCell ⟨re, 5, none⟩ (.int .i64 y.t)).setCell ⟨re, 6, none⟩ (.int .i64 y.p)).setCell ⟨re, 7, none⟩ (.int .i64 y.s)) [celF re [.int .i64 0, .int .i64 r, .int .i64 y.n, .bool y.i, .int .i64 y.b, .int .i64 y.t, .int .i64 y.p, .int .i64 y.s, .int .i64 q.n, .bool q.i, .int .i64 q.b, .int .i64 q.t, .int .i64 q.p, .int .i64 q.s, .int .i64 (-1), .int .i64 0, .bool false, .int .i64 0, .int .i64 0, .int .i64 0, .int .i64 0, .int .i64 (-1)], celF (w.heap.size + 1 + 1 + 1 + 1 + 1) ([.int .i64 0, .int .i64 0, .int .i64 0, .bool false, .int .i64 0, .int .i64 0, .int .i64 0, .int .i64 0, .int .i64 0, .bool false, .int .i64 0, .int .i64 0, .int .i64 0, .int .i64 0, .int .i64 0, .int .i64 0, .bool false, .int .i64 0, .int .i64 0, .int .i64 0, .int .i64 0, .int .i64 0]), celF (w.heap.size + 1 + 1 + 1 + 1) (wl got), celF (w.heap.size + 1 + 1 + 1) (wl b), celF (w.heap.size + 1 + 1) (wl a), celF (w.heap.size + 1) (wl pc), celF (w.heap.size) (il o r ra rb n)]) := ((((((H.out.setd (by omega) DD.out 2 (.int .i64 y.n)).setd (by omega) DD.out 3 (.bool y.i)).setd (by omega) DD.out 4 (.int .i64 y.b)).setd (by omega) DD.out 5 (.int .i64 y.t)).setd (by omega) DD.out 6 (.int .i64 y.p)).setd (by omega) DD.out 7 (.int .i64 y.s))
    generalize ((((((w6.setCell ⟨re, 2, none⟩ (.int .i64 y.n)).setCell ⟨re, 3, none⟩ (.bool y.i)).setCell ⟨re, 4, none⟩ (.int .i64 y.b)).setCell ⟨re, 5, none⟩ (.int .i64 y.t)).setCell ⟨re, 6, none⟩ (.int .i64 y.p)).setCell ⟨re, 7, none⟩ (.int .i64 y.s)) = w7 at H ⊢
    have CE : Hid (Cel _ re (effl ⟨0, r, y, q, -1, wd0, -1⟩)) := H.out.cel (.head _)
    have CZ := hid_mk (H.out.cel (.tail _ (.head _)))
    have C2 := hid_mk (CZ.out.sets (us := effl ⟨0, r, y, q, -1, wd0, -1⟩) rfl)
    have B2 := hid_mk (below_sets (effl ⟨0, r, y, q, -1, wd0, -1⟩) H.out.bel (r := w.heap.size + 1 + 1 + 1 + 1 + 1) (by omega))
    have hlv := hid_mk (lv_eff C2.out)
    go_wp2_with (first | (refine wpList_load_mid (by rfl) 82 _ (by rfl) re 0 (by rfl) (effl ⟨0, r, y, q, -1, wd0, -1⟩) _ CE.out.range Tryz.underlying82 rfl sizeEff ?_) | (refine wpList_store_mid (by rfl) 82 _ _ (by rfl) (w.heap.size + 1 + 1 + 1 + 1 + 1) 0 (effl ⟨0, r, y, q, -1, wd0, -1⟩).toArray (by rfl) (by rfl) CZ.out.there sizeEff (effl_one _) ?_))
    refine bodyPost_ret (v := .agg (effl E).toArray) (by rw [HE'.out]; exact results_cell1 Tryz.results35 (by rfl) hlv.out) rfl ⟨rfl, B2.out⟩
  · have hc : o = 11 ∨ o = 12 ∨ o = 13 ∨ o = 14 ∨ o = 15 := by omega
    clear hlo
    rcases hc with rfl | rfl | rfl | rfl | rfl
    · have HE' : Hid (E = ⟨0, -1, wd0, q, wrap64 (a.n + n), b, -1⟩) := hid_mk (by rw [EE.out, Q.out]; rfl)
      obtain ⟨a0, a1, a2, a3, a4, a5⟩ := (H.out.cel (.tail _ (.tail _ (.tail _ (.tail _ (.head _)))))).c6
      have e14 := (H.out.cel (.head _)).c 14 _ rfl
      have g14 := (H.out.cel (.head _)).f 14 (by simp)
      go_upto_region 9 with fail
      clear e14 g14 a0 a1 a2 a3 a4 a5 i0 i1 i2 i3 i4
      replace H : Hid (Hold w (w3.setCell ⟨re, 14, none⟩ (.int .i64 (wrap64 (a.n + n)))) [celF re [.int .i64 0, .int .i64 (-1), .int .i64 0, .bool false, .int .i64 0, .int .i64 0, .int .i64 0, .int .i64 0, .int .i64 q.n, .bool q.i, .int .i64 q.b, .int .i64 q.t, .int .i64 q.p, .int .i64 q.s, .int .i64 (wrap64 (a.n + n)), .int .i64 0, .bool false, .int .i64 0, .int .i64 0, .int .i64 0, .int .i64 0, .int .i64 (-1)], celF (w.heap.size + 1 + 1 + 1 + 1 + 1) ([.int .i64 0, .int .i64 0, .int .i64 0, .bool false, .int .i64 0, .int .i64 0, .int .i64 0, .int .i64 0, .int .i64 0, .bool false, .int .i64 0, .int .i64 0, .int .i64 0, .int .i64 0, .int .i64 0, .int .i64 0, .bool false, .int .i64 0, .int .i64 0, .int .i64 0, .int .i64 0, .int .i64 0]), celF (w.heap.size + 1 + 1 + 1 + 1) (wl got), celF (w.heap.size + 1 + 1 + 1) (wl b), celF (w.heap.size + 1 + 1) (wl a), celF (w.heap.size + 1) (wl pc), celF (w.heap.size) (il 11 r ra rb n)]) := (H.out.setd (by omega) DD.out 14 (.int .i64 (wrap64 (a.n + n))))
      generalize (w3.setCell ⟨re, 14, none⟩ (.int .i64 (wrap64 (a.n + n)))) = w4 at H ⊢
      obtain ⟨b0, b1, b2, b3, b4, b5⟩ := (H.out.cel (.tail _ (.tail _ (.tail _ (.head _))))).c6
      have e15 := (H.out.cel (.head _)).c 15 _ rfl
      have e16 := (H.out.cel (.head _)).c 16 _ rfl
      have e17 := (H.out.cel (.head _)).c 17 _ rfl
      have e18 := (H.out.cel (.head _)).c 18 _ rfl
      have e19 := (H.out.cel (.head _)).c 19 _ rfl
      have e20 := (H.out.cel (.head _)).c 20 _ rfl
      have g15 := (H.out.cel (.head _)).f 15 (by simp)
      have g16 := (H.out.cel (.head _)).f 16 (by simp)
      have g17 := (H.out.cel (.head _)).f 17 (by simp)
      have g18 := (H.out.cel (.head _)).f 18 (by simp)
      have g19 := (H.out.cel (.head _)).f 19 (by simp)
      have g20 := (H.out.cel (.head _)).f 20 (by simp)
      go_upto_region 10 with fail
      clear e15 g15 e16 g16 e17 g17 e18 g18 e19 g19 e20 g20 b0 b1 b2 b3 b4 b5
      replace H : Hid (Hold w ((((((w4.setCell ⟨re, 15, none⟩ (.int .i64 b.n)).setCell ⟨re, 16, none⟩ (.bool b.i)).setCell ⟨re, 17, none⟩ (.int .i64 b.b)).setCell ⟨re, 18, none⟩ (.int .i64 b.t)).setCell ⟨re, 19, none⟩ (.int .i64 b.p)).setCell ⟨re, 20, none⟩ (.int .i64 b.s)) [celF re [.int .i64 0, .int .i64 (-1), .int .i64 0, .bool false, .int .i64 0, .int .i64 0, .int .i64 0, .int .i64 0, .int .i64 q.n, .bool q.i, .int .i64 q.b, .int .i64 q.t, .int .i64 q.p, .int .i64 q.s, .int .i64 (wrap64 (a.n + n)), .int .i64 b.n, .bool b.i, .int .i64 b.b, .int .i64 b.t, .int .i64 b.p, .int .i64 b.s, .int .i64 (-1)], celF (w.heap.size + 1 + 1 + 1 + 1 + 1) ([.int .i64 0, .int .i64 0, .int .i64 0, .bool false, .int .i64 0, .int .i64 0, .int .i64 0, .int .i64 0, .int .i64 0, .bool false, .int .i64 0, .int .i64 0, .int .i64 0, .int .i64 0, .int .i64 0, .int .i64 0, .bool false, .int .i64 0, .int .i64 0, .int .i64 0, .int .i64 0, .int .i64 0]), celF (w.heap.size + 1 + 1 + 1 + 1) (wl got), celF (w.heap.size + 1 + 1 + 1) (wl b), celF (w.heap.size + 1 + 1) (wl a), celF (w.heap.size + 1) (wl pc), celF (w.heap.size) (il 11 r ra rb n)]) := ((((((H.out.setd (by omega) DD.out 15 (.int .i64 b.n)).setd (by omega) DD.out 16 (.bool b.i)).setd (by omega) DD.out 17 (.int .i64 b.b)).setd (by omega) DD.out 18 (.int .i64 b.t)).setd (by omega) DD.out 19 (.int .i64 b.p)).setd (by omega) DD.out 20 (.int .i64 b.s))
      generalize ((((((w4.setCell ⟨re, 15, none⟩ (.int .i64 b.n)).setCell ⟨re, 16, none⟩ (.bool b.i)).setCell ⟨re, 17, none⟩ (.int .i64 b.b)).setCell ⟨re, 18, none⟩ (.int .i64 b.t)).setCell ⟨re, 19, none⟩ (.int .i64 b.p)).setCell ⟨re, 20, none⟩ (.int .i64 b.s)) = w5 at H ⊢
      have CE : Hid (Cel _ re (effl ⟨0, -1, wd0, q, wrap64 (a.n + n), b, -1⟩)) := H.out.cel (.head _)
      have CZ := hid_mk (H.out.cel (.tail _ (.head _)))
      have C2 := hid_mk (CZ.out.sets (us := effl ⟨0, -1, wd0, q, wrap64 (a.n + n), b, -1⟩) rfl)
      have B2 := hid_mk (below_sets (effl ⟨0, -1, wd0, q, wrap64 (a.n + n), b, -1⟩) H.out.bel (r := w.heap.size + 1 + 1 + 1 + 1 + 1) (by omega))
      have hlv := hid_mk (lv_eff C2.out)
      go_wp2_with (first | (refine wpList_load_mid (by rfl) 82 _ (by rfl) re 0 (by rfl) (effl ⟨0, -1, wd0, q, wrap64 (a.n + n), b, -1⟩) _ CE.out.range Tryz.underlying82 rfl sizeEff ?_) | (refine wpList_store_mid (by rfl) 82 _ _ (by rfl) (w.heap.size + 1 + 1 + 1 + 1 + 1) 0 (effl ⟨0, -1, wd0, q, wrap64 (a.n + n), b, -1⟩).toArray (by rfl) (by rfl) CZ.out.there sizeEff (effl_one _) ?_))
      refine bodyPost_ret (v := .agg (effl E).toArray) (by rw [HE'.out]; exact results_cell1 Tryz.results35 (by rfl) hlv.out) rfl ⟨rfl, B2.out⟩
    · obtain ⟨z, hz⟩ : ∃ z, Hid (z = tryZ a.n a.i a.b a.t a.p a.s a.n 4) := ⟨_, rfl⟩
      have s2 := specTry_any a.n a.i a.b a.t a.p a.s a.n 4
      rw [← hz.out] at s2
      have S2 := hid_mk s2
      clear s2
      obtain ⟨a0, a1, a2, a3, a4, a5⟩ := (H.out.cel (.tail _ (.tail _ (.tail _ (.tail _ (.head _)))))).c6
      go_wp2_with fail
      refine (S2.out _).mono ?_
      rintro e w4 ⟨rfl, hb⟩
      replace H := hid_mk (H.out.next hb)
      clear hb a0 a1 a2 a3 a4 a5 i0 i1 i2 i3 i4
      obtain ⟨i0, i1, i2, i3, i4⟩ := (H.out.cel (.tail _ (.tail _ (.tail _ (.tail _ (.tail _ (.tail _ (.head _)))))))).c5
      have e1 := (H.out.cel (.head _)).c 1 _ rfl
      have g1 := (H.out.cel (.head _)).f 1 (by simp)
      go_upto_region 14 with fail
      clear e1 g1 i0 i1 i2 i3 i4
      replace H : Hid (Hold w (w4.setCell ⟨re, 1, none⟩ (.int .i64 r)) [celF re [.int .i64 0, .int .i64 r, .int .i64 0, .bool false, .int .i64 0, .int .i64 0, .int .i64 0, .int .i64 0, .int .i64 q.n, .bool q.i, .int .i64 q.b, .int .i64 q.t, .int .i64 q.p, .int .i64 q.s, .int .i64 (-1), .int .i64 0, .bool false, .int .i64 0, .int .i64 0, .int .i64 0, .int .i64 0, .int .i64 (-1)], celF (w.heap.size + 1 + 1 + 1 + 1 + 1) ([.int .i64 0, .int .i64 0, .int .i64 0, .bool false, .int .i64 0, .int .i64 0, .int .i64 0, .int .i64 0, .int .i64 0, .bool false, .int .i64 0, .int .i64 0, .int .i64 0, .int .i64 0, .int .i64 0, .int .i64 0, .bool false, .int .i64 0, .int .i64 0, .int .i64 0, .int .i64 0, .int .i64 0]), celF (w.heap.size + 1 + 1 + 1 + 1) (wl got), celF (w.heap.size + 1 + 1 + 1) (wl b), celF (w.heap.size + 1 + 1) (wl a), celF (w.heap.size + 1) (wl pc), celF (w.heap.size) (il 12 r ra rb n)]) := (H.out.setd (by omega) DD.out 1 (.int .i64 r))
      generalize (w4.setCell ⟨re, 1, none⟩ (.int .i64 r)) = w5 at H ⊢
      have e8 := (H.out.cel (.head _)).c 8 _ rfl
      have e9 := (H.out.cel (.head _)).c 9 _ rfl
      have e10 := (H.out.cel (.head _)).c 10 _ rfl
      have e11 := (H.out.cel (.head _)).c 11 _ rfl
      have e12 := (H.out.cel (.head _)).c 12 _ rfl
      have e13 := (H.out.cel (.head _)).c 13 _ rfl
      have e2 := (H.out.cel (.head _)).c 2 _ rfl
      have e3 := (H.out.cel (.head _)).c 3 _ rfl
      have e4 := (H.out.cel (.head _)).c 4 _ rfl
      have e5 := (H.out.cel (.head _)).c 5 _ rfl
      have e6 := (H.out.cel (.head _)).c 6 _ rfl
      have e7 := (H.out.cel (.head _)).c 7 _ rfl
      have g2 := (H.out.cel (.head _)).f 2 (by simp)
      have g3 := (H.out.cel (.head _)).f 3 (by simp)
      have g4 := (H.out.cel (.head _)).f 4 (by simp)
      have g5 := (H.out.cel (.head _)).f 5 (by simp)
      have g6 := (H.out.cel (.head _)).f 6 (by simp)
      have g7 := (H.out.cel (.head _)).f 7 (by simp)
      go_upto_region 15 with fail
      clear e2 g2 e3 g3 e4 g4 e5 g5 e6 g6 e7 g7 e8 e9 e10 e11 e12 e13
      replace H : Hid (Hold w ((((((w5.setCell ⟨re, 2, none⟩ (.int .i64 q.n)).setCell ⟨re, 3, none⟩ (.bool q.i)).setCell ⟨re, 4, none⟩ (.int .i64 q.b)).setCell ⟨re, 5, none⟩ (.int .i64 q.t)).setCell ⟨re, 6, none⟩ (.int .i64 q.p)).setCell ⟨re, 7, none⟩ (.int .i64 q.s)) [celF re [.int .i64 0, .int .i64 r, .int .i64 q.n, .bool q.i, .int .i64 q.b, .int .i64 q.t, .int .i64 q.p, .int .i64 q.s, .int .i64 q.n, .bool q.i, .int .i64 q.b, .int .i64 q.t, .int .i64 q.p, .int .i64 q.s, .int .i64 (-1), .int .i64 0, .bool false, .int .i64 0, .int .i64 0, .int .i64 0, .int .i64 0, .int .i64 (-1)], celF (w.heap.size + 1 + 1 + 1 + 1 + 1) ([.int .i64 0, .int .i64 0, .int .i64 0, .bool false, .int .i64 0, .int .i64 0, .int .i64 0, .int .i64 0, .int .i64 0, .bool false, .int .i64 0, .int .i64 0, .int .i64 0, .int .i64 0, .int .i64 0, .int .i64 0, .bool false, .int .i64 0, .int .i64 0, .int .i64 0, .int .i64 0, .int .i64 0]), celF (w.heap.size + 1 + 1 + 1 + 1) (wl got), celF (w.heap.size + 1 + 1 + 1) (wl b), celF (w.heap.size + 1 + 1) (wl a), celF (w.heap.size + 1) (wl pc), celF (w.heap.size) (il 12 r ra rb n)]) := ((((((H.out.setd (by omega) DD.out 2 (.int .i64 q.n)).setd (by omega) DD.out 3 (.bool q.i)).setd (by omega) DD.out 4 (.int .i64 q.b)).setd (by omega) DD.out 5 (.int .i64 q.t)).setd (by omega) DD.out 6 (.int .i64 q.p)).setd (by omega) DD.out 7 (.int .i64 q.s))
      generalize ((((((w5.setCell ⟨re, 2, none⟩ (.int .i64 q.n)).setCell ⟨re, 3, none⟩ (.bool q.i)).setCell ⟨re, 4, none⟩ (.int .i64 q.b)).setCell ⟨re, 5, none⟩ (.int .i64 q.t)).setCell ⟨re, 6, none⟩ (.int .i64 q.p)).setCell ⟨re, 7, none⟩ (.int .i64 q.s)) = w6 at H ⊢
      obtain ⟨a0, a1, a2, a3, a4, a5⟩ := (H.out.cel (.tail _ (.tail _ (.tail _ (.tail _ (.head _)))))).c6
      have e8 := (H.out.cel (.head _)).c 8 _ rfl
      have e9 := (H.out.cel (.head _)).c 9 _ rfl
      have e10 := (H.out.cel (.head _)).c 10 _ rfl
      have e11 := (H.out.cel (.head _)).c 11 _ rfl
      have e12 := (H.out.cel (.head _)).c 12 _ rfl
      have e13 := (H.out.cel (.head _)).c 13 _ rfl
      have g8 := (H.out.cel (.head _)).f 8 (by simp)
      have g9 := (H.out.cel (.head _)).f 9 (by simp)
      have g10 := (H.out.cel (.head _)).f 10 (by simp)
      have g11 := (H.out.cel (.head _)).f 11 (by simp)
      have g12 := (H.out.cel (.head _)).f 12 (by simp)
      have g13 := (H.out.cel (.head _)).f 13 (by simp)
      go_upto_region 25 with fail
      clear e8 g8 e9 g9 e10 g10 e11 g11 e12 g12 e13 g13 a0 a1 a2 a3 a4 a5
      replace H : Hid (Hold w ((((((w6.setCell ⟨re, 8, none⟩ (.int .i64 a.n)).setCell ⟨re, 9, none⟩ (.bool a.i)).setCell ⟨re, 10, none⟩ (.int .i64 a.b)).setCell ⟨re, 11, none⟩ (.int .i64 a.t)).setCell ⟨re, 12, none⟩ (.int .i64 a.p)).setCell ⟨re, 13, none⟩ (.int .i64 a.s)) [celF re [.int .i64 0, .int .i64 r, .int .i64 q.n, .bool q.i, .int .i64 q.b, .int .i64 q.t, .int .i64 q.p, .int .i64 q.s, .int .i64 a.n, .bool a.i, .int .i64 a.b, .int .i64 a.t, .int .i64 a.p, .int .i64 a.s, .int .i64 (-1), .int .i64 0, .bool false, .int .i64 0, .int .i64 0, .int .i64 0, .int .i64 0, .int .i64 (-1)], celF (w.heap.size + 1 + 1 + 1 + 1 + 1) ([.int .i64 0, .int .i64 0, .int .i64 0, .bool false, .int .i64 0, .int .i64 0, .int .i64 0, .int .i64 0, .int .i64 0, .bool false, .int .i64 0, .int .i64 0, .int .i64 0, .int .i64 0, .int .i64 0, .int .i64 0, .bool false, .int .i64 0, .int .i64 0, .int .i64 0, .int .i64 0, .int .i64 0]), celF (w.heap.size + 1 + 1 + 1 + 1) (wl got), celF (w.heap.size + 1 + 1 + 1) (wl b), celF (w.heap.size + 1 + 1) (wl a), celF (w.heap.size + 1) (wl pc), celF (w.heap.size) (il 12 r ra rb n)]) := ((((((H.out.setd (by omega) DD.out 8 (.int .i64 a.n)).setd (by omega) DD.out 9 (.bool a.i)).setd (by omega) DD.out 10 (.int .i64 a.b)).setd (by omega) DD.out 11 (.int .i64 a.t)).setd (by omega) DD.out 12 (.int .i64 a.p)).setd (by omega) DD.out 13 (.int .i64 a.s))
      generalize ((((((w6.setCell ⟨re, 8, none⟩ (.int .i64 a.n)).setCell ⟨re, 9, none⟩ (.bool a.i)).setCell ⟨re, 10, none⟩ (.int .i64 a.b)).setCell ⟨re, 11, none⟩ (.int .i64 a.t)).setCell ⟨re, 12, none⟩ (.int .i64 a.p)).setCell ⟨re, 13, none⟩ (.int .i64 a.s)) = w7 at H ⊢
      by_cases hz0 : z = 0
      · have HE' : Hid (E = ⟨0, r, q, a, -1, wd0, -1⟩) := hid_mk (by rw [EE.out, Q.out]; exact if_pos (hz.out.symm.trans hz0))
        subst hz0
        have hcm : ((0 : Int) != 0) = false := by decide
        have CE : Hid (Cel _ re (effl ⟨0, r, q, a, -1, wd0, -1⟩)) := H.out.cel (.head _)
        have CZ := hid_mk (H.out.cel (.tail _ (.head _)))
        have C2 := hid_mk (CZ.out.sets (us := effl ⟨0, r, q, a, -1, wd0, -1⟩) rfl)
        have B2 := hid_mk (below_sets (effl ⟨0, r, q, a, -1, wd0, -1⟩) H.out.bel (r := w.heap.size + 1 + 1 + 1 + 1 + 1) (by omega))
        have hlv := hid_mk (lv_eff C2.out)
        go_wp2_with (first | (refine wpList_load_mid (by rfl) 82 _ (by rfl) re 0 (by rfl) (effl ⟨0, r, q, a, -1, wd0, -1⟩) _ CE.out.range Tryz.underlying82 rfl sizeEff ?_) | (refine wpList_store_mid (by rfl) 82 _ _ (by rfl) (w.heap.size + 1 + 1 + 1 + 1 + 1) 0 (effl ⟨0, r, q, a, -1, wd0, -1⟩).toArray (by rfl) (by rfl) CZ.out.there sizeEff (effl_one _) ?_))
        refine bodyPost_ret (v := .agg (effl E).toArray) (by rw [HE'.out]; exact results_cell1 Tryz.results35 (by rfl) hlv.out) rfl ⟨rfl, B2.out⟩
      · have HE' : Hid (E = trpE z pc) := hid_mk (by rw [EE.out]; rw [hz.out]; exact if_neg (fun h => hz0 (hz.out.trans h)))
        have hcm : (z != 0) = true := by simp [hz0]
        obtain ⟨p0, p1, p2, p3, p4, p5⟩ := (H.out.cel (.tail _ (.tail _ (.tail _ (.tail _ (.tail _ (.head _))))))).c6
        go_wp2_with fail
        refine (l9Trap_any z pc _).mono ?_
        rintro e w9 ⟨rfl, hb⟩
        replace H := hid_mk (H.out.next hb)
        clear hb p0 p1 p2 p3 p4 p5
        have CZ := hid_mk (H.out.cel (.tail _ (.head _)))
        have C2 := hid_mk (CZ.out.sets (us := effl (trpE z pc)) rfl)
        have B2 := hid_mk (below_sets (effl (trpE z pc)) H.out.bel (r := w.heap.size + 1 + 1 + 1 + 1 + 1) (by omega))
        have hlv := hid_mk (lv_eff C2.out)
        go_wp2_with (refine wpList_store_mid (by rfl) 82 _ _ (by rfl) (w.heap.size + 1 + 1 + 1 + 1 + 1) 0 (effl (trpE z pc)).toArray (by rfl) (by rfl) CZ.out.there sizeEff (effl_one _) ?_)
        refine bodyPost_ret (v := .agg (effl E).toArray) (by rw [HE'.out]; exact results_cell1 Tryz.results35 (by rfl) hlv.out) rfl ⟨rfl, B2.out⟩
    · by_cases ha : a.n = 0
      · obtain ⟨y, Y⟩ : ∃ y, Hid (y = pntW pc (wrap64 (pc.n + n))) := ⟨_, rfl⟩
        have HE' : Hid (E = ⟨0, -1, wd0, y, -1, wd0, -1⟩) := hid_mk (by rw [EE.out, Y.out, wrkE, if_neg (by decide), if_neg (by decide), if_pos rfl, if_pos ha])
        have S2 : Hid (∀ w, Calls Tryz.prog 80 #[.agg #[.int .i64 pc.n, .bool pc.i, .int .i64 pc.b, .int .i64 pc.t, .int .i64 pc.p, .int .i64 pc.s], .int .i64 (wrap64 (pc.n + n))] w fun e w' => e = .returned (.agg #[.int .i64 y.n, .bool y.i, .int .i64 y.b, .int .i64 y.t, .int .i64 y.p, .int .i64 y.s]) ∧ Below w.heap.size w w') := by
          rw [Y.out]
          exact fun w => specPoint_any pc.n pc.i pc.b pc.t pc.p pc.s _ w
        have hcm : (a.n == (0 : Int)) = true := by simp [ha]
        obtain ⟨a0, a1, a2, a3, a4, a5⟩ := (H.out.cel (.tail _ (.tail _ (.tail _ (.tail _ (.head _)))))).c6
        obtain ⟨p0, p1, p2, p3, p4, p5⟩ := (H.out.cel (.tail _ (.tail _ (.tail _ (.tail _ (.tail _ (.head _))))))).c6
        clear ha Y
        go_wp2_with fail
        refine (S2.out _).mono ?_
        rintro e w4 ⟨rfl, hb⟩
        replace H := hid_mk (H.out.next hb)
        clear hb a0 a1 a2 a3 a4 a5 p0 p1 p2 p3 p4 p5 i0 i1 i2 i3 i4
        have e8 := (H.out.cel (.head _)).c 8 _ rfl
        have e9 := (H.out.cel (.head _)).c 9 _ rfl
        have e10 := (H.out.cel (.head _)).c 10 _ rfl
        have e11 := (H.out.cel (.head _)).c 11 _ rfl
        have e12 := (H.out.cel (.head _)).c 12 _ rfl
        have e13 := (H.out.cel (.head _)).c 13 _ rfl
        have g8 := (H.out.cel (.head _)).f 8 (by simp)
        have g9 := (H.out.cel (.head _)).f 9 (by simp)
        have g10 := (H.out.cel (.head _)).f 10 (by simp)
        have g11 := (H.out.cel (.head _)).f 11 (by simp)
        have g12 := (H.out.cel (.head _)).f 12 (by simp)
        have g13 := (H.out.cel (.head _)).f 13 (by simp)
        go_upto_region 19 with fail
        clear e8 g8 e9 g9 e10 g10 e11 g11 e12 g12 e13 g13
        replace H : Hid (Hold w ((((((w4.setCell ⟨re, 8, none⟩ (.int .i64 y.n)).setCell ⟨re, 9, none⟩ (.bool y.i)).setCell ⟨re, 10, none⟩ (.int .i64 y.b)).setCell ⟨re, 11, none⟩ (.int .i64 y.t)).setCell ⟨re, 12, none⟩ (.int .i64 y.p)).setCell ⟨re, 13, none⟩ (.int .i64 y.s)) [celF re [.int .i64 0, .int .i64 (-1), .int .i64 0, .bool false, .int .i64 0, .int .i64 0, .int .i64 0, .int .i64 0, .int .i64 y.n, .bool y.i, .int .i64 y.b, .int .i64 y.t, .int .i64 y.p, .int .i64 y.s, .int .i64 (-1), .int .i64 0, .bool false, .int .i64 0, .int .i64 0, .int .i64 0, .int .i64 0, .int .i64 (-1)], celF (w.heap.size + 1 + 1 + 1 + 1 + 1) ([.int .i64 0, .int .i64 0, .int .i64 0, .bool false, .int .i64 0, .int .i64 0, .int .i64 0, .int .i64 0, .int .i64 0, .bool false, .int .i64 0, .int .i64 0, .int .i64 0, .int .i64 0, .int .i64 0, .int .i64 0, .bool false, .int .i64 0, .int .i64 0, .int .i64 0, .int .i64 0, .int .i64 0]), celF (w.heap.size + 1 + 1 + 1 + 1) (wl got), celF (w.heap.size + 1 + 1 + 1) (wl b), celF (w.heap.size + 1 + 1) (wl a), celF (w.heap.size + 1) (wl pc), celF (w.heap.size) (il 13 r ra rb n)]) := ((((((H.out.setd (by omega) DD.out 8 (.int .i64 y.n)).setd (by omega) DD.out 9 (.bool y.i)).setd (by omega) DD.out 10 (.int .i64 y.b)).setd (by omega) DD.out 11 (.int .i64 y.t)).setd (by omega) DD.out 12 (.int .i64 y.p)).setd (by omega) DD.out 13 (.int .i64 y.s))
        generalize ((((((w4.setCell ⟨re, 8, none⟩ (.int .i64 y.n)).setCell ⟨re, 9, none⟩ (.bool y.i)).setCell ⟨re, 10, none⟩ (.int .i64 y.b)).setCell ⟨re, 11, none⟩ (.int .i64 y.t)).setCell ⟨re, 12, none⟩ (.int .i64 y.p)).setCell ⟨re, 13, none⟩ (.int .i64 y.s)) = w5 at H ⊢
        have CE : Hid (Cel _ re (effl ⟨0, -1, wd0, y, -1, wd0, -1⟩)) := H.out.cel (.head _)
        have CZ := hid_mk (H.out.cel (.tail _ (.head _)))
        have C2 := hid_mk (CZ.out.sets (us := effl ⟨0, -1, wd0, y, -1, wd0, -1⟩) rfl)
        have B2 := hid_mk (below_sets (effl ⟨0, -1, wd0, y, -1, wd0, -1⟩) H.out.bel (r := w.heap.size + 1 + 1 + 1 + 1 + 1) (by omega))
        have hlv := hid_mk (lv_eff C2.out)
        go_wp2_with (first | (refine wpList_load_mid (by rfl) 82 _ (by rfl) re 0 (by rfl) (effl ⟨0, -1, wd0, y, -1, wd0, -1⟩) _ CE.out.range Tryz.underlying82 rfl sizeEff ?_) | (refine wpList_store_mid (by rfl) 82 _ _ (by rfl) (w.heap.size + 1 + 1 + 1 + 1 + 1) 0 (effl ⟨0, -1, wd0, y, -1, wd0, -1⟩).toArray (by rfl) (by rfl) CZ.out.there sizeEff (effl_one _) ?_))
        refine bodyPost_ret (v := .agg (effl E).toArray) (by rw [HE'.out]; exact results_cell1 Tryz.results35 (by rfl) hlv.out) rfl ⟨rfl, B2.out⟩
      · have HE' : Hid (E = ⟨0, -1, wd0, q, -1, wd0, -1⟩) := hid_mk (by rw [EE.out, Q.out, wrkE, if_neg (by decide), if_neg (by decide), if_pos rfl, if_neg ha])
        have hcm : (a.n == (0 : Int)) = false := by simp [ha]
        obtain ⟨a0, a1, a2, a3, a4, a5⟩ := (H.out.cel (.tail _ (.tail _ (.tail _ (.tail _ (.head _)))))).c6
        have CE : Hid (Cel _ re (effl ⟨0, -1, wd0, q, -1, wd0, -1⟩)) := H.out.cel (.head _)
        have CZ := hid_mk (H.out.cel (.tail _ (.head _)))
        have C2 := hid_mk (CZ.out.sets (us := effl ⟨0, -1, wd0, q, -1, wd0, -1⟩) rfl)
        have B2 := hid_mk (below_sets (effl ⟨0, -1, wd0, q, -1, wd0, -1⟩) H.out.bel (r := w.heap.size + 1 + 1 + 1 + 1 + 1) (by omega))
        have hlv := hid_mk (lv_eff C2.out)
        go_wp2_with (first | (refine wpList_load_mid (by rfl) 82 _ (by rfl) re 0 (by rfl) (effl ⟨0, -1, wd0, q, -1, wd0, -1⟩) _ CE.out.range Tryz.underlying82 rfl sizeEff ?_) | (refine wpList_store_mid (by rfl) 82 _ _ (by rfl) (w.heap.size + 1 + 1 + 1 + 1 + 1) 0 (effl ⟨0, -1, wd0, q, -1, wd0, -1⟩).toArray (by rfl) (by rfl) CZ.out.there sizeEff (effl_one _) ?_))
        refine bodyPost_ret (v := .agg (effl E).toArray) (by rw [HE'.out]; exact results_cell1 Tryz.results35 (by rfl) hlv.out) rfl ⟨rfl, B2.out⟩
    · obtain ⟨z, hz⟩ : ∃ z, Hid (z = tryZ a.n a.i a.b a.t a.p a.s a.n 32) := ⟨_, rfl⟩
      have s2 := specTry_any a.n a.i a.b a.t a.p a.s a.n 32
      rw [← hz.out] at s2
      have S2 := hid_mk s2
      clear s2
      obtain ⟨a0, a1, a2, a3, a4, a5⟩ := (H.out.cel (.tail _ (.tail _ (.tail _ (.tail _ (.head _)))))).c6
      go_wp2_with fail
      refine (S2.out _).mono ?_
      rintro e w4 ⟨rfl, hb⟩
      replace H := hid_mk (H.out.next hb)
      clear hb a0 a1 a2 a3 a4 a5 i0 i1 i2 i3 i4
      obtain ⟨a0, a1, a2, a3, a4, a5⟩ := (H.out.cel (.tail _ (.tail _ (.tail _ (.tail _ (.head _)))))).c6
      have e21 := (H.out.cel (.head _)).c 21 _ rfl
      have g21 := (H.out.cel (.head _)).f 21 (by simp)
      go_upto_region 25 with fail
      clear e21 g21 a0 a1 a2 a3 a4 a5
      replace H : Hid (Hold w (w4.setCell ⟨re, 21, none⟩ (.int .i64 a.b)) [celF re [.int .i64 0, .int .i64 (-1), .int .i64 0, .bool false, .int .i64 0, .int .i64 0, .int .i64 0, .int .i64 0, .int .i64 q.n, .bool q.i, .int .i64 q.b, .int .i64 q.t, .int .i64 q.p, .int .i64 q.s, .int .i64 (-1), .int .i64 0, .bool false, .int .i64 0, .int .i64 0, .int .i64 0, .int .i64 0, .int .i64 a.b], celF (w.heap.size + 1 + 1 + 1 + 1 + 1) ([.int .i64 0, .int .i64 0, .int .i64 0, .bool false, .int .i64 0, .int .i64 0, .int .i64 0, .int .i64 0, .int .i64 0, .bool false, .int .i64 0, .int .i64 0, .int .i64 0, .int .i64 0, .int .i64 0, .int .i64 0, .bool false, .int .i64 0, .int .i64 0, .int .i64 0, .int .i64 0, .int .i64 0]), celF (w.heap.size + 1 + 1 + 1 + 1) (wl got), celF (w.heap.size + 1 + 1 + 1) (wl b), celF (w.heap.size + 1 + 1) (wl a), celF (w.heap.size + 1) (wl pc), celF (w.heap.size) (il 14 r ra rb n)]) := (H.out.setd (by omega) DD.out 21 (.int .i64 a.b))
      generalize (w4.setCell ⟨re, 21, none⟩ (.int .i64 a.b)) = w5 at H ⊢
      by_cases hz0 : z = 0
      · have HE' : Hid (E = ⟨0, -1, wd0, q, -1, wd0, a.b⟩) := hid_mk (by rw [EE.out, Q.out]; exact if_pos (hz.out.symm.trans hz0))
        subst hz0
        have hcm : ((0 : Int) != 0) = false := by decide
        have CE : Hid (Cel _ re (effl ⟨0, -1, wd0, q, -1, wd0, a.b⟩)) := H.out.cel (.head _)
        have CZ := hid_mk (H.out.cel (.tail _ (.head _)))
        have C2 := hid_mk (CZ.out.sets (us := effl ⟨0, -1, wd0, q, -1, wd0, a.b⟩) rfl)
        have B2 := hid_mk (below_sets (effl ⟨0, -1, wd0, q, -1, wd0, a.b⟩) H.out.bel (r := w.heap.size + 1 + 1 + 1 + 1 + 1) (by omega))
        have hlv := hid_mk (lv_eff C2.out)
        go_wp2_with (first | (refine wpList_load_mid (by rfl) 82 _ (by rfl) re 0 (by rfl) (effl ⟨0, -1, wd0, q, -1, wd0, a.b⟩) _ CE.out.range Tryz.underlying82 rfl sizeEff ?_) | (refine wpList_store_mid (by rfl) 82 _ _ (by rfl) (w.heap.size + 1 + 1 + 1 + 1 + 1) 0 (effl ⟨0, -1, wd0, q, -1, wd0, a.b⟩).toArray (by rfl) (by rfl) CZ.out.there sizeEff (effl_one _) ?_))
        refine bodyPost_ret (v := .agg (effl E).toArray) (by rw [HE'.out]; exact results_cell1 Tryz.results35 (by rfl) hlv.out) rfl ⟨rfl, B2.out⟩
      · have HE' : Hid (E = trpE z pc) := hid_mk (by rw [EE.out]; rw [hz.out]; exact if_neg (fun h => hz0 (hz.out.trans h)))
        have hcm : (z != 0) = true := by simp [hz0]
        obtain ⟨p0, p1, p2, p3, p4, p5⟩ := (H.out.cel (.tail _ (.tail _ (.tail _ (.tail _ (.tail _ (.head _))))))).c6
        go_wp2_with fail
        refine (l9Trap_any z pc _).mono ?_
        rintro e w9 ⟨rfl, hb⟩
        replace H := hid_mk (H.out.next hb)
        clear hb p0 p1 p2 p3 p4 p5
        have CZ := hid_mk (H.out.cel (.tail _ (.head _)))
        have C2 := hid_mk (CZ.out.sets (us := effl (trpE z pc)) rfl)
        have B2 := hid_mk (below_sets (effl (trpE z pc)) H.out.bel (r := w.heap.size + 1 + 1 + 1 + 1 + 1) (by omega))
        have hlv := hid_mk (lv_eff C2.out)
        go_wp2_with (refine wpList_store_mid (by rfl) 82 _ _ (by rfl) (w.heap.size + 1 + 1 + 1 + 1 + 1) 0 (effl (trpE z pc)).toArray (by rfl) (by rfl) CZ.out.there sizeEff (effl_one _) ?_)
        refine bodyPost_ret (v := .agg (effl E).toArray) (by rw [HE'.out]; exact results_cell1 Tryz.results35 (by rfl) hlv.out) rfl ⟨rfl, B2.out⟩
    · have HE' : Hid (E = trpE 5 pc) := hid_mk (by rw [EE.out]; rfl)
      obtain ⟨p0, p1, p2, p3, p4, p5⟩ := (H.out.cel (.tail _ (.tail _ (.tail _ (.tail _ (.tail _ (.head _))))))).c6
      go_wp2_with fail
      refine (l9Trap_any 5 pc _).mono ?_
      rintro e w9 ⟨rfl, hb⟩
      replace H := hid_mk (H.out.next hb)
      clear hb p0 p1 p2 p3 p4 p5
      have CZ := hid_mk (H.out.cel (.tail _ (.head _)))
      have C2 := hid_mk (CZ.out.sets (us := effl (trpE 5 pc)) rfl)
      have B2 := hid_mk (below_sets (effl (trpE 5 pc)) H.out.bel (r := w.heap.size + 1 + 1 + 1 + 1 + 1) (by omega))
      have hlv := hid_mk (lv_eff C2.out)
      go_wp2_with (refine wpList_store_mid (by rfl) 82 _ _ (by rfl) (w.heap.size + 1 + 1 + 1 + 1 + 1) 0 (effl (trpE 5 pc)).toArray (by rfl) (by rfl) CZ.out.there sizeEff (effl_one _) ?_)
      refine bodyPost_ret (v := .agg (effl E).toArray) (by rw [HE'.out]; exact results_cell1 Tryz.results35 (by rfl) hlv.out) rfl ⟨rfl, B2.out⟩

end Go.Proofs.YtpkhnajhamnggaaGreatDoor
