/- DrawUnpack: it returns a Packed of some three numbers, and turns nothing that was there. -/
import Derived.Test.YtkfnllgjgikkeabDraw2
namespace Go.Proofs.Ytkfnllgjgikkeab
open Go.ChangeShapes Go.WideShapes Go.ChangeAt Go.RowKit

theorem KeepBut.frozen {q : Nat} {w w' : World} (h : KeepBut q w w') {p : Addr} (hp : p.block < w.heap.size) (hq : p.block ≠ q) : w'.frozen? p = w.frozen? p := World.frozen?_of_block (w := w) (h.block p.block hp hq)

/-- Three ints in block r, which may be written. -/
structure Three (w : World) (r : Nat) (x y z : Int) : Prop where
  lt : r < w.heap.size
  c0 : w.cell? ⟨r, 0, none⟩ = some (.int .i64 x)
  c1 : w.cell? ⟨r, 1, none⟩ = some (.int .i64 y)
  c2 : w.cell? ⟨r, 2, none⟩ = some (.int .i64 z)
  f0 : w.frozen? ⟨r, 0, none⟩ = false
  f1 : w.frozen? ⟨r, 1, none⟩ = false
  f2 : w.frozen? ⟨r, 2, none⟩ = false
theorem Three.keep {w w' : World} {r q : Nat} {x y z : Int} (h : Three w r x y z) (k : KeepBut q w w') (hq : r ≠ q) : Three w' r x y z :=
  ⟨Nat.lt_of_lt_of_le h.lt k.size, (k.cell (p := ⟨r, 0, none⟩) h.lt hq).trans h.c0, (k.cell (p := ⟨r, 1, none⟩) h.lt hq).trans h.c1, (k.cell (p := ⟨r, 2, none⟩) h.lt hq).trans h.c2,
    (k.frozen (p := ⟨r, 0, none⟩) h.lt hq).trans h.f0, (k.frozen (p := ⟨r, 1, none⟩) h.lt hq).trans h.f1, (k.frozen (p := ⟨r, 2, none⟩) h.lt hq).trans h.f2⟩
theorem Three.new (w : World) (x y z : Int) (T : TypeId) : Three (w.alloc (.cells #[.int .i64 x, .int .i64 y, .int .i64 z] T)) w.heap.size x y z :=
  ⟨by simp, by simp, by simp, by simp, by simp, by simp, by simp⟩
theorem Three.alloc {w : World} {r : Nat} {x y z : Int} (h : Three w r x y z) (o : Obj) : Three (w.alloc o) r x y z :=
  h.keep (q := w.heap.size) ((KeepBut.refl _ _).alloc o) (Nat.ne_of_lt h.lt)

set_option maxRecDepth 100000 in
set_option maxHeartbeats 2000000 in
theorem drawUnpack_any {w : World} {a : Option Addr} {len cap : Nat} (hc : Code8 w.heap.size w a len) :
    Calls Try.prog 17 #[.slice a len cap] w fun e w' => ∃ x y z : Int, e = .returned (.agg #[.int .i64 x, .int .i64 y, .int .i64 z]) ∧ Below w.heap.size w w' := by
  have C : Hid (Code8 (w.heap.size + 1) (w.alloc (.cells #[.int .i64 0, .int .i64 0, .int .i64 0] 27)) a len) := by
    have g := hc.keep ((Below.refl w.heap.size w).alloc (Nat.le_refl _) (.cells #[.int .i64 0, .int .i64 0, .int .i64 0] 27))
    refine ⟨g.1, ?_⟩
    rcases g.2 with h0 | ⟨b, off, ha, hlt, hcl⟩
    · exact .inl h0
    · exact .inr ⟨b, off, ha, by omega, hcl⟩
  clear hc
  go_enter Try.func17, Try.ntmps17
  go_wp2_with fail
  have hs : (w.alloc (.cells #[.int .i64 0, .int .i64 0, .int .i64 0] 27)).heap.size = w.heap.size + 1 := by simp
  refine (d_new (by rw [hs]; exact C.out)).mono ?_
  rw [hs]
  rintro e w1 ⟨rfl, d1, b1⟩
  have R1 : Hid (Three w1 w.heap.size 0 0 0) := (Three.new w 0 0 0 27).keep (q := w.heap.size + 1) (KeepBut.ofBelow (by rw [hs]; exact b1)) (by omega)
  have B1 : Hid (Below w.heap.size w w1) := ((Below.refl _ _).alloc (Nat.le_refl _) _).trans (b1.mono (by omega))
  have D1 : Hid _ := d1
  clear d1 b1 C hs
  go_wp2_with fail
  refine (d_below 7 D1.out).mono ?_
  rintro e w2 ⟨x, rfl, _, _, d2, k2⟩
  have R2 : Hid _ := R1.out.keep k2 (by omega)
  have B2 : Hid (Below w.heap.size w w2) := B1.out.trans (k2.below (by omega) B1.out.size)
  have D2 : Hid _ := d2
  clear d2 k2 D1 R1 B1
  go_wp2_with fail
  refine (d_below 64 D2.out).mono ?_
  rintro e w3 ⟨y, rfl, _, _, d3, k3⟩
  have R3 : Hid _ := R2.out.keep k3 (by omega)
  have B3 : Hid (Below w.heap.size w w3) := B2.out.trans (k3.below (by omega) B2.out.size)
  have D3 : Hid _ := d3
  clear d3 k3 D2 R2 B2
  go_wp2_with fail
  refine (d_below 64 D3.out).mono ?_
  rintro e w4 ⟨z, rfl, _, _, d4, k4⟩
  have R4 : Hid _ := R3.out.keep k4 (by omega)
  have B4 : Hid (Below w.heap.size w w4) := B3.out.trans (k4.below (by omega) B3.out.size)
  have D4 : Hid _ := d4
  have g4 := d4.lt
  clear d4 k4 D3 R3 B3
  go_wp2_with fail
  refine (d_below 9 (D4.out.alloc _)).mono ?_
  rintro e w5 ⟨o, rfl, _, _, d5, k5⟩
  have P5 : Hid (Three w5 w4.heap.size x y z) := (Three.new w4 x y z 27).keep k5 (by omega)
  have R5 : Hid (Three w5 w.heap.size 0 0 0) := (R4.out.alloc _).keep k5 (by omega)
  have B5 : Hid (Below w.heap.size w w5) := (B4.out.alloc B4.out.size _).trans (k5.below (by omega) (by have := B4.out.size; simp; omega))
  have D5 : Hid _ := d5
  have l5 := R4.out.lt
  have m5 := R5.out.lt
  have n5 := P5.out.lt
  clear d5 k5 D4 R4 B4
  cases g0 : (o == 0)
  · cases g1 : (o == 1)
    · cases g2 : (o == 2)
      · obtain ⟨_, p0, p1, p2, q0, q1, q2⟩ := P5.out
        obtain ⟨_, r0, r1, r2, s0, s1, s2⟩ := R5.out
        go_wp2
        refine bodyPost_ret (v := .agg #[.int .i64 x, .int .i64 y, .int .i64 z]) (by simp [results, Try.results17, go_sem, r0, r1, r2]) rfl ⟨x, y, z, rfl, ?_⟩
        exact ((B5.out.setCell (by simp) _).setCell (by simp) _).setCell (by simp) _
      · go_wp2_with fail
        refine (d_pick [-1, 64] 3 _ _ rfl (by decide) (by decide) D5.out).mono ?_
        rintro e w6 ⟨v, rfl, _, d6, k6⟩
        have B6 : Hid (Below w.heap.size w w6) := B5.out.trans (k6.below (by omega) B5.out.size)
        obtain ⟨_, p0, p1, p2, q0, q1, q2⟩ := P5.out.keep k6 (by omega)
        obtain ⟨_, r0, r1, r2, s0, s1, s2⟩ := R5.out.keep k6 (by omega)
        clear d6 k6 D5 P5 R5 B5
        go_wp2
        refine bodyPost_ret (v := .agg #[.int .i64 x, .int .i64 y, .int .i64 v]) (by simp [results, Try.results17, go_sem, r0, r1, r2]) rfl ⟨_, _, _, rfl, ?_⟩
        exact (((B6.out.setCell (by simp; omega) _).setCell (by simp) _).setCell (by simp) _).setCell (by simp) _
    · go_wp2_with fail
      refine (d_pick [-1, 64] 3 _ _ rfl (by decide) (by decide) D5.out).mono ?_
      rintro e w6 ⟨v, rfl, _, d6, k6⟩
      have B6 : Hid (Below w.heap.size w w6) := B5.out.trans (k6.below (by omega) B5.out.size)
      obtain ⟨_, p0, p1, p2, q0, q1, q2⟩ := P5.out.keep k6 (by omega)
      obtain ⟨_, r0, r1, r2, s0, s1, s2⟩ := R5.out.keep k6 (by omega)
      clear d6 k6 D5 P5 R5 B5
      go_wp2
      refine bodyPost_ret (v := .agg #[.int .i64 x, .int .i64 v, .int .i64 z]) (by simp [results, Try.results17, go_sem, r0, r1, r2]) rfl ⟨_, _, _, rfl, ?_⟩
      exact (((B6.out.setCell (by simp; omega) _).setCell (by simp) _).setCell (by simp) _).setCell (by simp) _
  · go_wp2_with fail
    refine (d_pick [-1, 7] 3 _ _ rfl (by decide) (by decide) D5.out).mono ?_
    rintro e w6 ⟨v, rfl, _, d6, k6⟩
    have B6 : Hid (Below w.heap.size w w6) := B5.out.trans (k6.below (by omega) B5.out.size)
    obtain ⟨_, p0, p1, p2, q0, q1, q2⟩ := P5.out.keep k6 (by omega)
    obtain ⟨_, r0, r1, r2, s0, s1, s2⟩ := R5.out.keep k6 (by omega)
    clear d6 k6 D5 P5 R5 B5
    go_wp2
    refine bodyPost_ret (v := .agg #[.int .i64 v, .int .i64 y, .int .i64 z]) (by simp [results, Try.results17, go_sem, r0, r1, r2]) rfl ⟨_, _, _, rfl, ?_⟩
    exact (((B6.out.setCell (by simp; omega) _).setCell (by simp) _).setCell (by simp) _).setCell (by simp) _
end Go.Proofs.Ytkfnllgjgikkeab
