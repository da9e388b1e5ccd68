/- l9Mem of the specification, accessed of the program: what is read, and the trap, at all memories. The program's errors hold what its text lays. -/
import Derived.Test.YtpkhnajhamnggaaGreatDoorZK
import Derived.Test.YtpkhnajhamnggaaGreatDoorZE
import Derived.Test.YtpkhnajhamnggaaGreatDoorMemB
namespace Go.Proofs.YtpkhnajhamnggaaGreatDoor
open Go.ChangeShapes Go.WideShapes Go.ChangeAt Go.RowKit
set_option maxRecDepth 100000

/-- What a place reads. -/
def accW (o n : Int) (L : List Wd) (G : List Bool) (a : Wd) : Wd := if o = 10 then rdW L G a (wrap64 (a.n + n)) else wd0
/-- The trap of what it reads or writes. -/
def accZ (o n : Int) (L : List Wd) (a b : Wd) : Int := if o = 10 then rdZ L a (wrap64 (a.n + n)) else if o = 11 then wrZ L a (wrap64 (a.n + n)) b else 0
theorem Cel.c2 {w : World} {r : Nat} {v0 v1 : Value} (h : Cel w r [v0, v1]) : w.cell? ⟨r, 0, none⟩ = some v0 ∧ w.cell? ⟨r, 1, none⟩ = some v1 := ⟨h.c 0 _ rfl, h.c 1 _ rfl⟩


set_option maxHeartbeats 8000000 in
theorem l9Mem_any (ma : Option Addr) (mn mc : Nat) (mb : Option Addr) (mk md : Nat) (L : List Wd) (G : List Bool) (o r ra rb n : Int) (a b : Wd) (w : World) (hM : MemS w ma mn mb mk L G) :
    Calls Tryz.prog 34 #[.agg #[.slice ma mn mc, .slice mb mk md], .agg #[.int .i64 o, .int .i64 r, .int .i64 ra, .int .i64 rb, .int .i64 n], .agg #[.int .i64 a.n, .bool a.i, .int .i64 a.b, .int .i64 a.t, .int .i64 a.p, .int .i64 a.s], .agg #[.int .i64 b.n, .bool b.i, .int .i64 b.b, .int .i64 b.t, .int .i64 b.p, .int .i64 b.s]] w fun e w' => e = .returned (.tuple #[wdV (accW o n L G a), .int .i64 (accZ o n L a b)]) ∧ Below w.heap.size w w' := by
  have H : Hid (Hold w (((((w.alloc (.cells ([.slice ma mn mc, .slice mb mk md] : List Value).toArray 40)).alloc (.cells (il o r ra rb n : List Value).toArray 76)).alloc (.cells (wl a : List Value).toArray 38)).alloc (.cells (wl b : List Value).toArray 38)).alloc (.cells ([.int .i64 0, .bool false, .int .i64 0, .int .i64 0, .int .i64 0, .int .i64 0] : List Value).toArray 38)) [celF (w.heap.size + 1 + 1 + 1 + 1) ([.int .i64 0, .bool false, .int .i64 0, .int .i64 0, .int .i64 0, .int .i64 0]), celF (w.heap.size + 1 + 1 + 1) (wl b), celF (w.heap.size + 1 + 1) (wl a), celF (w.heap.size + 1) (il o r ra rb n), celF (w.heap.size) ([.slice ma mn mc, .slice mb mk md])]) := ((((((Hold.new w).box ([.slice ma mn mc, .slice mb mk md] : List Value) 40 (w.heap.size) (by simp)).box (il o r ra rb n : List Value) 76 (w.heap.size + 1) (by simp)).box (wl a : List Value) 38 (w.heap.size + 1 + 1) (by simp)).box (wl b : List Value) 38 (w.heap.size + 1 + 1 + 1) (by simp)).box ([.int .i64 0, .bool false, .int .i64 0, .int .i64 0, .int .i64 0, .int .i64 0] : List Value) 38 (w.heap.size + 1 + 1 + 1 + 1) (by simp))
  obtain ⟨y, Y⟩ : ∃ y, Hid (y = accW o n L G a) := ⟨_, rfl⟩
  obtain ⟨z, Z⟩ : ∃ z, Hid (z = accZ o n L a b) := ⟨_, rfl⟩
  rw [← Y.out, ← Z.out, wdV]
  have SM := hid_mk hM
  clear hM
  generalize hw1 : (((((w.alloc (.cells ([.slice ma mn mc, .slice mb mk md] : List Value).toArray 40)).alloc (.cells (il o r ra rb n : List Value).toArray 76)).alloc (.cells (wl a : List Value).toArray 38)).alloc (.cells (wl b : List Value).toArray 38)).alloc (.cells ([.int .i64 0, .bool false, .int .i64 0, .int .i64 0, .int .i64 0, .int .i64 0] : List Value).toArray 38)) = w1 at H
  go_enter Tryz.func34, Tryz.ntmps34
  go_upto_region 1 with fail
  clear hw1
  obtain ⟨m0, m1⟩ := (H.out.cel (.tail _ (.tail _ (.tail _ (.tail _ (.head _)))))).c2
  obtain ⟨i0, i1, i2, i3, i4⟩ := (H.out.cel (.tail _ (.tail _ (.tail _ (.head _))))).c5
  obtain ⟨ax0, ax1, ax2, ax3, ax4, ax5⟩ := (H.out.cel (.tail _ (.tail _ (.head _)))).c6
  obtain ⟨bx0, bx1, bx2, bx3, bx4, bx5⟩ := (H.out.cel (.tail _ (.head _))).c6
  obtain ⟨z0, z1, z2, z3, z4, z5⟩ := (H.out.cel (.head _)).c6
  obtain ⟨f0, f1, f2, f3, f4, f5⟩ := (H.out.cel (.head _)).f6
  by_cases h10 : o = 10
  · subst h10
    have hy : rdW L G a (wrap64 (a.n + n)) = y := Y.out.symm
    have hz : rdZ L a (wrap64 (a.n + n)) = z := Z.out.symm
    clear Y Z
    go_wp2_with fail
    refine (specRead_any _ _ _ _ _ _ L G a _ _ (SM.out.below H.out.bel)).mono ?_
    rintro e w2 ⟨rfl, hb⟩
    rw [hy, hz, wdV]
    clear hy hz
    replace H := hid_mk ((H.out.next hb).alloc (.cells (wl y : List Value).toArray 38))
    clear hb m0 m1 i0 i1 i2 i3 i4 ax0 ax1 ax2 ax3 ax4 ax5 bx0 bx1 bx2 bx3 bx4 bx5 z0 z1 z2 z3 z4 z5 f0 f1 f2 f3 f4 f5
    go_upto_region 4 with fail
    have CY := hid_mk (Cel.new w2 (wl y) 38)
    generalize w2.alloc (.cells (wl y : List Value).toArray 38) = w3 at H CY ⊢
    generalize w2.heap.size = ry at CY ⊢
    obtain ⟨y0, y1, y2, y3, y4, y5⟩ := CY.out.c6
    obtain ⟨z0, z1, z2, z3, z4, z5⟩ := (H.out.cel (.head _)).c6
    obtain ⟨f0, f1, f2, f3, f4, f5⟩ := (H.out.cel (.head _)).f6
    go_wp2
    refine bodyPost_ret (v := .tuple #[.agg #[.int .i64 y.n, .bool y.i, .int .i64 y.b, .int .i64 y.t, .int .i64 y.p, .int .i64 y.s], .int .i64 z]) (by simp [results, Tryz.results34, go_sem, z0, z1, z2, z3, z4, z5]) rfl ⟨rfl, ?_⟩
    exact six_done H.out.bel _ (by omega) _ _ _ _ _ _
  · by_cases h11 : o = 11
    · subst h11
      have hy : y = wd0 := Y.out
      have hz : wrZ L a (wrap64 (a.n + n)) b = z := Z.out.symm
      subst hy
      clear Y Z
      go_wp2_with fail
      refine (l8Write_any _ _ _ _ a _ b L SM.out.ws.2.1 SM.out.ws.1 _).mono ?_
      rintro e w2 ⟨rfl, hb⟩
      rw [hz]
      clear hz
      replace H := hid_mk (H.out.next hb)
      clear hb m0 m1 i0 i1 i2 i3 i4 ax0 ax1 ax2 ax3 ax4 ax5 bx0 bx1 bx2 bx3 bx4 bx5 z0 z1 z2 z3 z4 z5 f0 f1 f2 f3 f4 f5
      obtain ⟨z0, z1, z2, z3, z4, z5⟩ := (H.out.cel (.head _)).c6
      obtain ⟨f0, f1, f2, f3, f4, f5⟩ := (H.out.cel (.head _)).f6
      go_wp2
      refine bodyPost_ret (v := .tuple #[.agg #[.int .i64 0, .bool false, .int .i64 0, .int .i64 0, .int .i64 0, .int .i64 0], .int .i64 z]) (by simp [results, Tryz.results34, go_sem, z0, z1, z2, z3, z4, z5]) rfl ⟨rfl, ?_⟩
      exact six_done H.out.bel _ (by omega) _ _ _ _ _ _
    · have hy : y = wd0 := by rw [Y.out, accW, if_neg h10]
      have hz : z = 0 := by rw [Z.out, accZ, if_neg h10, if_neg h11]
      subst hy hz
      have q10 : (o == (10 : Int)) = false := by simp [h10]
      have q11 : (o == (11 : Int)) = false := by simp [h11]
      clear Y Z h10 h11
      go_wp2
      refine bodyPost_ret (v := .tuple #[.agg #[.int .i64 0, .bool false, .int .i64 0, .int .i64 0, .int .i64 0, .int .i64 0], .int .i64 0]) (by simp [results, Tryz.results34, go_sem, z0, z1, z2, z3, z4, z5]) rfl ⟨rfl, ?_⟩
      exact six_done H.out.bel _ (by omega) _ _ _ _ _ _


set_option maxHeartbeats 8000000 in
theorem accessed_any (a0 a1 a2 a3 : Addr) (ma : Option Addr) (mn mc : Nat) (mb : Option Addr) (mk md : Nat) (L : List Wd) (G : List Bool) (o r ra rb n : Int) (a b : Wd) (hcap : mn ≤ mc) (w : World) (hM : MemS w ma mn mb mk L G) (hE0 : Errs a0 a1 a2 a3 w) :
    Calls Tryz.prog 94 #[.agg #[.slice ma mn mc, .slice mb mk md], .agg #[.int .i64 o, .int .i64 r, .int .i64 ra, .int .i64 rb, .int .i64 n], .agg #[.int .i64 a.n, .bool a.i, .int .i64 a.b, .int .i64 a.t, .int .i64 a.p, .int .i64 a.s], .agg #[.int .i64 b.n, .bool b.i, .int .i64 b.b, .int .i64 b.t, .int .i64 b.p, .int .i64 b.s]] w fun e w' => e = .returned (.tuple #[wdV (accW o n L G a), .int .i64 (accZ o n L a b)]) ∧ Below w.heap.size w w' := by
  have H : Hid (Hold w (((((w.alloc (.cells ([.slice ma mn mc, .slice mb mk md] : List Value).toArray 40)).alloc (.cells (il o r ra rb n : List Value).toArray 76)).alloc (.cells (wl a : List Value).toArray 38)).alloc (.cells (wl b : List Value).toArray 38)).alloc (.cells ([.int .i64 0, .bool false, .int .i64 0, .int .i64 0, .int .i64 0, .int .i64 0] : List Value).toArray 38)) [celF (w.heap.size + 1 + 1 + 1 + 1) ([.int .i64 0, .bool false, .int .i64 0, .int .i64 0, .int .i64 0, .int .i64 0]), celF (w.heap.size + 1 + 1 + 1) (wl b), celF (w.heap.size + 1 + 1) (wl a), celF (w.heap.size + 1) (il o r ra rb n), celF (w.heap.size) ([.slice ma mn mc, .slice mb mk md])]) := ((((((Hold.new w).box ([.slice ma mn mc, .slice mb mk md] : List Value) 40 (w.heap.size) (by simp)).box (il o r ra rb n : List Value) 76 (w.heap.size + 1) (by simp)).box (wl a : List Value) 38 (w.heap.size + 1 + 1) (by simp)).box (wl b : List Value) 38 (w.heap.size + 1 + 1 + 1) (by simp)).box ([.int .i64 0, .bool false, .int .i64 0, .int .i64 0, .int .i64 0, .int .i64 0] : List Value) 38 (w.heap.size + 1 + 1 + 1 + 1) (by simp))
  obtain ⟨y, Y⟩ : ∃ y, Hid (y = accW o n L G a) := ⟨_, rfl⟩
  obtain ⟨z, Z⟩ : ∃ z, Hid (z = accZ o n L a b) := ⟨_, rfl⟩
  rw [← Y.out, ← Z.out, wdV]
  have SM := hid_mk hM
  have HE := hid_mk hE0
  clear hM hE0
  generalize hw1 : (((((w.alloc (.cells ([.slice ma mn mc, .slice mb mk md] : List Value).toArray 40)).alloc (.cells (il o r ra rb n : List Value).toArray 76)).alloc (.cells (wl a : List Value).toArray 38)).alloc (.cells (wl b : List Value).toArray 38)).alloc (.cells ([.int .i64 0, .bool false, .int .i64 0, .int .i64 0, .int .i64 0, .int .i64 0] : List Value).toArray 38)) = w1 at H
  go_enter Tryz.func94, Tryz.ntmps94
  go_upto_region 1 with fail
  clear hw1
  obtain ⟨m0, m1⟩ := (H.out.cel (.tail _ (.tail _ (.tail _ (.tail _ (.head _)))))).c2
  obtain ⟨i0, i1, i2, i3, i4⟩ := (H.out.cel (.tail _ (.tail _ (.tail _ (.head _))))).c5
  obtain ⟨ax0, ax1, ax2, ax3, ax4, ax5⟩ := (H.out.cel (.tail _ (.tail _ (.head _)))).c6
  obtain ⟨bx0, bx1, bx2, bx3, bx4, bx5⟩ := (H.out.cel (.tail _ (.head _))).c6
  obtain ⟨z0, z1, z2, z3, z4, z5⟩ := (H.out.cel (.head _)).c6
  obtain ⟨f0, f1, f2, f3, f4, f5⟩ := (H.out.cel (.head _)).f6
  by_cases h10 : o = 10
  · subst h10
    have hy : rdW L G a (wrap64 (a.n + n)) = y := Y.out.symm
    have hz : rdZ L a (wrap64 (a.n + n)) = z := Z.out.symm
    clear Y Z
    go_wp2_with fail
    refine (implRead_any a0 a1 a2 a3 _ _ _ _ _ _ L G a _ _ (SM.out.below H.out.bel) (HE.out.below H.out.bel)).mono ?_
    rintro e w2 ⟨rfl, hb⟩
    rw [hy, hz, wdV]
    clear hy hz
    replace H := hid_mk (H.out.next hb)
    clear hb m0 m1 i0 i1 i2 i3 i4 ax0 ax1 ax2 ax3 ax4 ax5 bx0 bx1 bx2 bx3 bx4 bx5 z0 z1 z2 z3 z4 z5 f0 f1 f2 f3 f4 f5
    obtain ⟨z0, z1, z2, z3, z4, z5⟩ := (H.out.cel (.head _)).c6
    obtain ⟨f0, f1, f2, f3, f4, f5⟩ := (H.out.cel (.head _)).f6
    go_wp2
    refine bodyPost_ret (v := .tuple #[.agg #[.int .i64 y.n, .bool y.i, .int .i64 y.b, .int .i64 y.t, .int .i64 y.p, .int .i64 y.s], .int .i64 z]) (by simp [results, Tryz.results94, go_sem, z0, z1, z2, z3, z4, z5]) rfl ⟨rfl, ?_⟩
    exact six_done H.out.bel _ (by omega) _ _ _ _ _ _
  · by_cases h11 : o = 11
    · subst h11
      have hy : y = wd0 := Y.out
      have hz : wrZ L a (wrap64 (a.n + n)) b = z := Z.out.symm
      subst hy
      clear Y Z
      go_wp2_with fail
      refine (implWrite_any a0 a1 a2 a3 _ _ _ _ _ _ L G a _ b hcap _ (SM.out.below H.out.bel) (HE.out.below H.out.bel)).mono ?_
      rintro e w2 ⟨b1, d1, b2, d2, rfl, _, _, hb⟩
      rw [hz]
      clear hz
      replace H := hid_mk ((H.out.next hb).alloc (.cells ([.slice b1 (wrL L G a (wrap64 (a.n + n)) b).length d1, .slice b2 (keepG L G).length d2] : List Value).toArray 40))
      clear hb m0 m1 i0 i1 i2 i3 i4 ax0 ax1 ax2 ax3 ax4 ax5 bx0 bx1 bx2 bx3 bx4 bx5 z0 z1 z2 z3 z4 z5 f0 f1 f2 f3 f4 f5
      go_upto_region 6 with fail
      generalize w2.alloc (.cells ([.slice b1 (wrL L G a (wrap64 (a.n + n)) b).length d1, .slice b2 (keepG L G).length d2] : List Value).toArray 40) = w3 at H ⊢
      obtain ⟨z0, z1, z2, z3, z4, z5⟩ := (H.out.cel (.head _)).c6
      obtain ⟨f0, f1, f2, f3, f4, f5⟩ := (H.out.cel (.head _)).f6
      go_wp2
      refine bodyPost_ret (v := .tuple #[.agg #[.int .i64 0, .bool false, .int .i64 0, .int .i64 0, .int .i64 0, .int .i64 0], .int .i64 z]) (by simp [results, Tryz.results94, go_sem, z0, z1, z2, z3, z4, z5]) rfl ⟨rfl, ?_⟩
      exact six_done H.out.bel _ (by omega) _ _ _ _ _ _
    · have hy : y = wd0 := by rw [Y.out, accW, if_neg h10]
      have hz : z = 0 := by rw [Z.out, accZ, if_neg h10, if_neg h11]
      subst hy hz
      have q10 : (o == (10 : Int)) = false := by simp [h10]
      have q11 : (o == (11 : Int)) = false := by simp [h11]
      clear Y Z h10 h11
      go_wp2
      refine bodyPost_ret (v := .tuple #[.agg #[.int .i64 0, .bool false, .int .i64 0, .int .i64 0, .int .i64 0, .int .i64 0], .int .i64 0]) (by simp [results, Tryz.results94, go_sem, z0, z1, z2, z3, z4, z5]) rfl ⟨rfl, ?_⟩
      exact six_done H.out.bel _ (by omega) _ _ _ _ _ _

end Go.Proofs.YtpkhnajhamnggaaGreatDoor
