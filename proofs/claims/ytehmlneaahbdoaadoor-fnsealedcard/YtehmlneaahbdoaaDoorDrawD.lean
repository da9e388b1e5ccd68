/- l4Draw, DrawWeaken, DrawNarrow, DrawPoint: each returns a Word and an int; l4DrawBy: it returns a Word, through a cursor. They turn nothing that was there but the cursor. -/
import Derived.Test.YtehmlneaahbdoaaDoorDrawW2
namespace Go.Proofs.YtehmlneaahbdoaaDoor
open Go.ChangeShapes Go.WideShapes Go.ChangeAt Go.RowKit

section
variable {w0 w w' : World} {B q r u : Nat} {a : Option Addr} {len cap : Nat} {n : Int} {i : Bool} {b t p s : Int}
theorem MakeW.drew (h : MakeW w0 B q r u a len cap n i b t p s w) : MakeW w0 B q r u a len cap n i b t p s w.drew :=
  ⟨h.k.drew, h.z.drew, h.d.drew, h.kb.drew, h.ru, h.rq, h.uq, h.rB, h.nr, h.nu⟩
theorem MakeW.alloc (h : MakeW w0 B q r u a len cap n i b t p s w) (o : Obj) : MakeW w0 B q r u a len cap n i b t p s (w.alloc o) :=
  ⟨h.k.alloc o, h.z.alloc o, h.d.alloc o, h.kb.alloc o, h.ru, h.rq, h.uq, h.rB, h.nr, h.nu⟩
theorem Six.all {w : World} {r : Nat} {n : Int} {i : Bool} {b t p s : Int} (h : Six w r n i b t p s) : w.cell? ⟨r, 0, none⟩ = some (.int .i64 n) ∧ w.cell? ⟨r, 1, none⟩ = some (.bool i) ∧ w.cell? ⟨r, 2, none⟩ = some (.int .i64 b) ∧ w.cell? ⟨r, 3, none⟩ = some (.int .i64 t) ∧ w.cell? ⟨r, 4, none⟩ = some (.int .i64 p) ∧ w.cell? ⟨r, 5, none⟩ = some (.int .i64 s) := ⟨h.c0, h.c1, h.c2, h.c3, h.c4, h.c5⟩
theorem Six.over {w : World} {r : Nat} {n : Int} {i : Bool} {b t p s : Int} (h : Six w r n i b t p s) {u : Nat} (hr : r ≠ u) (v0 v1 v2 v3 v4 v5 : Value) : Six ((((((w.setCell ⟨u, 0, none⟩ v0).setCell ⟨u, 1, none⟩ v1).setCell ⟨u, 2, none⟩ v2).setCell ⟨u, 3, none⟩ v3).setCell ⟨u, 4, none⟩ v4).setCell ⟨u, 5, none⟩ v5) r n i b t p s :=
  (((((h.other hr 0 v0).other hr 1 v1).other hr 2 v2).other hr 3 v3).other hr 4 v4).other hr 5 v5
end

set_option maxRecDepth 100000 in
set_option maxHeartbeats 4000000 in
theorem d_by {B q : Nat} {w : World} {a : Option Addr} {len cap : Nat} (d : Drawn B q w a len cap) :
    Calls Tryd.prog 29 #[.pointer (some ⟨q, 0, none⟩)] w fun e w' => ∃ (n : Int) (i : Bool) (b t p s : Int), e = .returned (.agg #[.int .i64 n, .bool i, .int .i64 b, .int .i64 t, .int .i64 p, .int .i64 s]) ∧ Drawn B q w' a len cap ∧ KeepBut q w w' := by
  have D : Hid _ := d
  have lq := d.lt
  have lB := d.base
  clear d
  go_enter Tryd.func29, Tryd.ntmps29
  go_wp2_with fail
  refine (d_once 4 (D.out.alloc _)).mono ?_
  rintro e w1 ⟨o, rfl, d1, k1⟩
  have Z1 : Hid (Six w1 w.heap.size 0 false 0 0 0 0) := (Six.new w 0 false 0 0 0 0 27).keep k1 (by omega)
  have D1 : Hid _ := d1
  have K1 : Hid (KeepBut q w w1) := ((KeepBut.refl _ _).alloc _).trans k1
  have z1 := k1.size
  simp only [World.size_alloc] at z1
  clear d1 k1 D
  cases o
  · go_wp2_with fail
    refine (d_below 7 D1.out).mono ?_
    rintro e w2 ⟨x, rfl, _, _, d2, k2⟩
    have Z2 : Hid _ := Z1.out.keep k2 (by omega)
    have D2 : Hid _ := d2
    have K2 : Hid _ := K1.out.trans k2
    have z2 := k2.size
    clear d2 k2 D1 Z1 K1
    go_wp2_with fail
    refine (kw_some 0 8 32 0 _ _).mono ?_
    rintro e w3 ⟨n, i, b, t, p, s, rfl, hb3⟩
    have D3 : Hid _ := D2.out.below hb3
    have K3 : Hid _ := K2.out.trans (KeepBut.ofBelow hb3)
    obtain ⟨_, c0, c1, c2, c3, c4, c5, f0, f1, f2, f3, f4, f5⟩ := Z2.out.below hb3
    clear hb3 D2 K2 Z2
    go_wp2
    refine bodyPost_ret (v := .agg #[.int .i64 n, .bool i, .int .i64 b, .int .i64 t, .int .i64 p, .int .i64 s]) (by simp [results, Tryd.results29, go_sem, c0, c1, c2, c3, c4, c5]) rfl ⟨_, _, _, _, _, _, rfl, ?_, ?_⟩
    · repeat' (first | (with_reducible exact D3.out) | (refine Drawn.setNew ?_ (by omega) lB _ _))
    · repeat' (first | (with_reducible exact K3.out) | (refine KeepBut.setNew ?_ (Nat.le_refl _) _ _))
  · go_wp2_with fail
    refine (d_word D1.out).mono ?_
    rintro e w2 ⟨n, i, b, t, p, s, rfl, d2, k2⟩
    have D3 : Hid _ := d2
    have K3 : Hid _ := K1.out.trans k2
    obtain ⟨_, c0, c1, c2, c3, c4, c5, f0, f1, f2, f3, f4, f5⟩ := Z1.out.keep k2 (by omega)
    clear d2 k2 D1 Z1 K1
    go_wp2
    refine bodyPost_ret (v := .agg #[.int .i64 n, .bool i, .int .i64 b, .int .i64 t, .int .i64 p, .int .i64 s]) (by simp [results, Tryd.results29, go_sem, c0, c1, c2, c3, c4, c5]) rfl ⟨_, _, _, _, _, _, rfl, ?_, ?_⟩
    · repeat' (first | (with_reducible exact D3.out) | (refine Drawn.setNew ?_ (by omega) lB _ _))
    · repeat' (first | (with_reducible exact K3.out) | (refine KeepBut.setNew ?_ (Nat.le_refl _) _ _))
end Go.Proofs.YtehmlneaahbdoaaDoor
