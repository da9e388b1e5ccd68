/- l4Draw, DrawWeaken, DrawNarrow, DrawPoint: each returns a Word and an int; l4DrawBy: it returns a Word, through a cursor. They turn nothing that was there but the cursor. -/
import Derived.Test.YtabafekjacjpcaaDrawW2
namespace Go.Proofs.Ytabafekjacjpcaa
open Go.ChangeShapes Go.WideShapes Go.ChangeAt Go.RowKit

section
variable {w0 w w' : World} {B q r u : Nat} {a : Option Addr} {len cap : Nat} {n : Int} {i : Bool} {b t p s : Int}
theorem MakeW.drew (h : MakeW w0 B q r u a len cap n i b t p s w) : MakeW w0 B q r u a len cap n i b t p s w.drew :=
  ⟨h.k.drew, h.z.drew, h.d.drew, h.kb.drew, h.ru, h.rq, h.uq, h.rB, h.nr, h.nu⟩
theorem MakeW.alloc (h : MakeW w0 B q r u a len cap n i b t p s w) (o : Obj) : MakeW w0 B q r u a len cap n i b t p s (w.alloc o) :=
  ⟨h.k.alloc o, h.z.alloc o, h.d.alloc o, h.kb.alloc o, h.ru, h.rq, h.uq, h.rB, h.nr, h.nu⟩
theorem Six.all {w : World} {r : Nat} {n : Int} {i : Bool} {b t p s : Int} (h : Six w r n i b t p s) : w.cell? ⟨r, 0, none⟩ = some (.int .i64 n) ∧ w.cell? ⟨r, 1, none⟩ = some (.bool i) ∧ w.cell? ⟨r, 2, none⟩ = some (.int .i64 b) ∧ w.cell? ⟨r, 3, none⟩ = some (.int .i64 t) ∧ w.cell? ⟨r, 4, none⟩ = some (.int .i64 p) ∧ w.cell? ⟨r, 5, none⟩ = some (.int .i64 s) := ⟨h.c0, h.c1, h.c2, h.c3, h.c4, h.c5⟩
theorem Six.over {w : World} {r : Nat} {n : Int} {i : Bool} {b t p s : Int} (h : Six w r n i b t p s) {u : Nat} (hr : r ≠ u) (v0 v1 v2 v3 v4 v5 : Value) : Six ((((((w.setCell ⟨u, 0, none⟩ v0).setCell ⟨u, 1, none⟩ v1).setCell ⟨u, 2, none⟩ v2).setCell ⟨u, 3, none⟩ v3).setCell ⟨u, 4, none⟩ v4).setCell ⟨u, 5, none⟩ v5) r n i b t p s :=
  (((((h.other hr 0 v0).other hr 1 v1).other hr 2 v2).other hr 3 v3).other hr 4 v4).other hr 5 v5
end

set_option maxRecDepth 100000 in
set_option maxHeartbeats 4000000 in
theorem l4Draw_any {w : World} {a : Option Addr} {len cap : Nat} (hc : Code8 w.heap.size w a len) :
    Calls Try.prog 29 #[.slice a len cap] w fun e w' => ∃ (n : Int) (i : Bool) (b t p s : Int) (m : Int), e = .returned (.tuple #[.agg #[.int .i64 n, .bool i, .int .i64 b, .int .i64 t, .int .i64 p, .int .i64 s], .int .i64 m]) ∧ Below w.heap.size w w' := by
  have bz : Below w.heap.size w (w.alloc (.cells #[.int .i64 0, .bool false, .int .i64 0, .int .i64 0, .int .i64 0, .int .i64 0] 27)) := (Below.refl _ _).alloc (Nat.le_refl _) _
  have hs : (w.alloc (.cells #[.int .i64 0, .bool false, .int .i64 0, .int .i64 0, .int .i64 0, .int .i64 0] 27)).heap.size = w.heap.size + 1 := by simp
  have C : Hid (Code8 (w.heap.size + 1) (w.alloc (.cells #[.int .i64 0, .bool false, .int .i64 0, .int .i64 0, .int .i64 0, .int .i64 0] 27)) a len) := hs ▸ hc.later bz
  clear hc bz
  go_enter Try.func29, Try.ntmps29
  go_wp2_with fail
  refine (d_new (by rw [hs]; exact C.out)).mono ?_
  rw [hs]
  rintro e w1 ⟨rfl, d1, b1⟩
  have D1 : Hid _ := d1
  have F1 : Hid (Six w1 w.heap.size 0 false 0 0 0 0) := (Six.new w 0 false 0 0 0 0 27).below (by rw [hs]; exact b1)
  have K1 : Hid (Below w.heap.size w w1) := ((Below.refl _ w).alloc (Nat.le_refl _) _).trans (b1.mono (by omega))
  have z1 := b1.size
  clear d1 b1 C hs
  go_wp2_with fail
  refine (d_word D1.out).mono ?_
  rintro e w2 ⟨n, i, b, t, p, s, rfl, d2, k2⟩
  have z2 := k2.size
  have l2 := d2.lt
  have M2 : Hid (MakeW w (w.heap.size + 1) (w.heap.size + 1) w2.heap.size w.heap.size a len cap n i b t p s (w2.alloc (.cells #[.int .i64 n, .bool i, .int .i64 b, .int .i64 t, .int .i64 p, .int .i64 s] 27))) :=
    ⟨Six.new _ _ _ _ _ _ _ _, (F1.out.keep k2 (by omega)).alloc _, d2.alloc _, ((KeepBut.ofBelow K1.out).trans k2).alloc _, by omega, by omega, by omega, by omega, by omega, by omega⟩
  clear d2 k2 D1 F1 K1
  obtain ⟨r, hr⟩ : ∃ r, r = w2.heap.size := ⟨_, rfl⟩
  obtain ⟨w3, hw3⟩ : ∃ w3, w3 = w2.alloc (.cells #[.int .i64 n, .bool i, .int .i64 b, .int .i64 t, .int .i64 p, .int .i64 s] 27) := ⟨_, rfl⟩
  go_upto_region 3 with fail
  rw [← hr] at M2 ⊢
  rw [← hw3] at M2 ⊢
  clear hr hw3
  have M4 : Hid _ := M2.out.drew
  obtain ⟨_, c0, c1, c2, c3, c4, c5, f0, f1, f2, f3, f4, f5⟩ := M2.out.z
  have hru := M2.out.ru
  go_region_held3 (fun w' => w'.cell? ⟨r, 0, none⟩ = some (.int .i64 n) ∧ w'.cell? ⟨r, 1, none⟩ = some (.bool i) ∧ w'.cell? ⟨r, 2, none⟩ = some (.int .i64 b) ∧ w'.cell? ⟨r, 3, none⟩ = some (.int .i64 t) ∧ w'.cell? ⟨r, 4, none⟩ = some (.int .i64 p) ∧ w'.cell? ⟨r, 5, none⟩ = some (.int .i64 s)) (first | (with_reducible exact M4.out.k.all) | (with_reducible exact (M2.out.alloc _).drew.k.all) | (with_reducible exact M5.out.k.all) | (with_reducible exact (M5.out.k.over M5.out.ru _ _ _ _ _ _).all) | fail)
    (first
      | (go_at_call 49; refine (d_pick_drew [0, 1, 7, 20, 32, 63, 64, 100, -1, 65535, 9223372036854775807] 3 _ _ rfl (by decide) (by decide) M2.out.d).mono ?_; rintro e w5 ⟨y, rfl, _, d5, k5⟩; have M5 : Hid _ := M2.out.moved d5 k5; clear d5 k5; clear c0 c1 c2 c3 c4 c5 f0 f1 f2 f3 f4 f5; obtain ⟨_, c0, c1, c2, c3, c4, c5, f0, f1, f2, f3, f4, f5⟩ := M5.out.z))
  go_wp2
  refine bodyPost_ret (v := .tuple #[.agg #[.int .i64 n, .bool i, .int .i64 b, .int .i64 t, .int .i64 p, .int .i64 s], .int .i64 y]) (by simp [results, Try.results29, go_sem, c0, c1, c2, c3, c4, c5]) rfl ⟨_, _, _, _, _, _, _, rfl, ?_⟩
  have K5 : Hid (Below w.heap.size w w5) := M5.out.kb.below (by omega) (Nat.le_refl _)
  repeat' (first | (with_reducible exact K5.out) | (refine Below.setCell ?_ (by show w.heap.size ≤ w.heap.size; exact Nat.le_refl _) _))

set_option maxRecDepth 100000 in
set_option maxHeartbeats 4000000 in
theorem drawWeaken_any {w : World} {a : Option Addr} {len cap : Nat} (hc : Code8 w.heap.size w a len) :
    Calls Try.prog 10 #[.slice a len cap] w fun e w' => ∃ (n : Int) (i : Bool) (b t p s : Int) (m : Int), e = .returned (.tuple #[.agg #[.int .i64 n, .bool i, .int .i64 b, .int .i64 t, .int .i64 p, .int .i64 s], .int .i64 m]) ∧ Below w.heap.size w w' := by
  have bz : Below w.heap.size w (w.alloc (.cells #[.int .i64 0, .bool false, .int .i64 0, .int .i64 0, .int .i64 0, .int .i64 0] 27)) := (Below.refl _ _).alloc (Nat.le_refl _) _
  have C : Hid _ := hc.later bz
  clear hc bz
  go_enter Try.func10, Try.ntmps10
  go_wp2_with fail
  refine (l4Draw_any C.out).mono ?_
  rintro e w1 ⟨n, i, b, t, p, s, m, rfl, b1⟩
  have z1 := b1.size
  simp only [World.size_alloc] at z1
  have K1 : Hid (Below w.heap.size w w1) := ((Below.refl _ w).alloc (Nat.le_refl _) _).trans (b1.mono (by rw [World.size_alloc]; omega))
  obtain ⟨_, c0, c1, c2, c3, c4, c5, f0, f1, f2, f3, f4, f5⟩ := ((Six.new w 0 false 0 0 0 0 27).below b1).alloc (.cells #[.int .i64 n, .bool i, .int .i64 b, .int .i64 t, .int .i64 p, .int .i64 s] 27)
  obtain ⟨_, d0, d1, d2, d3, d4, d5, _, _, _, _, _, _⟩ := Six.new w1 n i b t p s 27
  clear b1 C
  go_wp2
  refine bodyPost_ret (v := .tuple #[.agg #[.int .i64 n, .bool i, .int .i64 b, .int .i64 t, .int .i64 p, .int .i64 s], .int .i64 m]) (by simp [results, Try.results10, go_sem, c0, c1, c2, c3, c4, c5]) rfl ⟨_, _, _, _, _, _, _, rfl, ?_⟩
  repeat' (first | (with_reducible exact K1.out) | (with_reducible refine Below.alloc ?_ (by omega) _) | (refine Below.setCell ?_ (by show w.heap.size ≤ w.heap.size; exact Nat.le_refl _) _))

set_option maxRecDepth 100000 in
set_option maxHeartbeats 4000000 in
theorem drawNarrow_any {w : World} {a : Option Addr} {len cap : Nat} (hc : Code8 w.heap.size w a len) :
    Calls Try.prog 12 #[.slice a len cap] w fun e w' => ∃ (n : Int) (i : Bool) (b t p s : Int) (m : Int), e = .returned (.tuple #[.agg #[.int .i64 n, .bool i, .int .i64 b, .int .i64 t, .int .i64 p, .int .i64 s], .int .i64 m]) ∧ Below w.heap.size w w' := by
  have bz : Below w.heap.size w (w.alloc (.cells #[.int .i64 0, .bool false, .int .i64 0, .int .i64 0, .int .i64 0, .int .i64 0] 27)) := (Below.refl _ _).alloc (Nat.le_refl _) _
  have C : Hid _ := hc.later bz
  clear hc bz
  go_enter Try.func12, Try.ntmps12
  go_wp2_with fail
  refine (l4Draw_any C.out).mono ?_
  rintro e w1 ⟨n, i, b, t, p, s, m, rfl, b1⟩
  have z1 := b1.size
  simp only [World.size_alloc] at z1
  have K1 : Hid (Below w.heap.size w w1) := ((Below.refl _ w).alloc (Nat.le_refl _) _).trans (b1.mono (by rw [World.size_alloc]; omega))
  obtain ⟨_, c0, c1, c2, c3, c4, c5, f0, f1, f2, f3, f4, f5⟩ := ((Six.new w 0 false 0 0 0 0 27).below b1).alloc (.cells #[.int .i64 n, .bool i, .int .i64 b, .int .i64 t, .int .i64 p, .int .i64 s] 27)
  obtain ⟨_, d0, d1, d2, d3, d4, d5, _, _, _, _, _, _⟩ := Six.new w1 n i b t p s 27
  clear b1 C
  go_wp2
  refine bodyPost_ret (v := .tuple #[.agg #[.int .i64 n, .bool i, .int .i64 b, .int .i64 t, .int .i64 p, .int .i64 s], .int .i64 m]) (by simp [results, Try.results12, go_sem, c0, c1, c2, c3, c4, c5]) rfl ⟨_, _, _, _, _, _, _, rfl, ?_⟩
  repeat' (first | (with_reducible exact K1.out) | (with_reducible refine Below.alloc ?_ (by omega) _) | (refine Below.setCell ?_ (by show w.heap.size ≤ w.heap.size; exact Nat.le_refl _) _))

set_option maxRecDepth 100000 in
set_option maxHeartbeats 4000000 in
theorem drawPoint_any {w : World} {a : Option Addr} {len cap : Nat} (hc : Code8 w.heap.size w a len) :
    Calls Try.prog 14 #[.slice a len cap] w fun e w' => ∃ (n : Int) (i : Bool) (b t p s : Int) (m : Int), e = .returned (.tuple #[.agg #[.int .i64 n, .bool i, .int .i64 b, .int .i64 t, .int .i64 p, .int .i64 s], .int .i64 m]) ∧ Below w.heap.size w w' := by
  have bz : Below w.heap.size w (w.alloc (.cells #[.int .i64 0, .bool false, .int .i64 0, .int .i64 0, .int .i64 0, .int .i64 0] 27)) := (Below.refl _ _).alloc (Nat.le_refl _) _
  have C : Hid _ := hc.later bz
  clear hc bz
  go_enter Try.func14, Try.ntmps14
  go_wp2_with fail
  refine (l4Draw_any C.out).mono ?_
  rintro e w1 ⟨n, i, b, t, p, s, m, rfl, b1⟩
  have z1 := b1.size
  simp only [World.size_alloc] at z1
  have K1 : Hid (Below w.heap.size w w1) := ((Below.refl _ w).alloc (Nat.le_refl _) _).trans (b1.mono (by rw [World.size_alloc]; omega))
  obtain ⟨_, c0, c1, c2, c3, c4, c5, f0, f1, f2, f3, f4, f5⟩ := ((Six.new w 0 false 0 0 0 0 27).below b1).alloc (.cells #[.int .i64 n, .bool i, .int .i64 b, .int .i64 t, .int .i64 p, .int .i64 s] 27)
  obtain ⟨_, d0, d1, d2, d3, d4, d5, _, _, _, _, _, _⟩ := Six.new w1 n i b t p s 27
  clear b1 C
  go_wp2
  refine bodyPost_ret (v := .tuple #[.agg #[.int .i64 n, .bool i, .int .i64 b, .int .i64 t, .int .i64 p, .int .i64 s], .int .i64 m]) (by simp [results, Try.results14, go_sem, c0, c1, c2, c3, c4, c5]) rfl ⟨_, _, _, _, _, _, _, rfl, ?_⟩
  repeat' (first | (with_reducible exact K1.out) | (with_reducible refine Below.alloc ?_ (by omega) _) | (refine Below.setCell ?_ (by show w.heap.size ≤ w.heap.size; exact Nat.le_refl _) _))

set_option maxRecDepth 100000 in
set_option maxHeartbeats 4000000 in
theorem d_by {B q : Nat} {w : World} {a : Option Addr} {len cap : Nat} (d : Drawn B q w a len cap) :
    Calls Try.prog 41 #[.pointer (some ⟨q, 0, none⟩)] w fun e w' => ∃ (n : Int) (i : Bool) (b t p s : Int), e = .returned (.agg #[.int .i64 n, .bool i, .int .i64 b, .int .i64 t, .int .i64 p, .int .i64 s]) ∧ Drawn B q w' a len cap ∧ KeepBut q w w' := by
  have D : Hid _ := d
  have lq := d.lt
  have lB := d.base
  clear d
  go_enter Try.func41, Try.ntmps41
  go_wp2_with fail
  refine (d_once 4 (D.out.alloc _)).mono ?_
  rintro e w1 ⟨o, rfl, d1, k1⟩
  have Z1 : Hid (Six w1 w.heap.size 0 false 0 0 0 0) := (Six.new w 0 false 0 0 0 0 27).keep k1 (by omega)
  have D1 : Hid _ := d1
  have K1 : Hid (KeepBut q w w1) := ((KeepBut.refl _ _).alloc _).trans k1
  have z1 := k1.size
  simp only [World.size_alloc] at z1
  clear d1 k1 D
  cases o
  · go_wp2_with fail
    refine (d_below 7 D1.out).mono ?_
    rintro e w2 ⟨x, rfl, _, _, d2, k2⟩
    have Z2 : Hid _ := Z1.out.keep k2 (by omega)
    have D2 : Hid _ := d2
    have K2 : Hid _ := K1.out.trans k2
    have z2 := k2.size
    clear d2 k2 D1 Z1 K1
    go_wp2_with fail
    refine (kw_some 0 8 32 0 _ _).mono ?_
    rintro e w3 ⟨n, i, b, t, p, s, rfl, hb3⟩
    have D3 : Hid _ := D2.out.below hb3
    have K3 : Hid _ := K2.out.trans (KeepBut.ofBelow hb3)
    obtain ⟨_, c0, c1, c2, c3, c4, c5, f0, f1, f2, f3, f4, f5⟩ := Z2.out.below hb3
    clear hb3 D2 K2 Z2
    go_wp2
    refine bodyPost_ret (v := .agg #[.int .i64 n, .bool i, .int .i64 b, .int .i64 t, .int .i64 p, .int .i64 s]) (by simp [results, Try.results41, go_sem, c0, c1, c2, c3, c4, c5]) rfl ⟨_, _, _, _, _, _, rfl, ?_, ?_⟩
    · repeat' (first | (with_reducible exact D3.out) | (refine Drawn.setNew ?_ (by omega) lB _ _))
    · repeat' (first | (with_reducible exact K3.out) | (refine KeepBut.setNew ?_ (Nat.le_refl _) _ _))
  · go_wp2_with fail
    refine (d_word D1.out).mono ?_
    rintro e w2 ⟨n, i, b, t, p, s, rfl, d2, k2⟩
    have D3 : Hid _ := d2
    have K3 : Hid _ := K1.out.trans k2
    obtain ⟨_, c0, c1, c2, c3, c4, c5, f0, f1, f2, f3, f4, f5⟩ := Z1.out.keep k2 (by omega)
    clear d2 k2 D1 Z1 K1
    go_wp2
    refine bodyPost_ret (v := .agg #[.int .i64 n, .bool i, .int .i64 b, .int .i64 t, .int .i64 p, .int .i64 s]) (by simp [results, Try.results41, go_sem, c0, c1, c2, c3, c4, c5]) rfl ⟨_, _, _, _, _, _, rfl, ?_, ?_⟩
    · repeat' (first | (with_reducible exact D3.out) | (refine Drawn.setNew ?_ (by omega) lB _ _))
    · repeat' (first | (with_reducible exact K3.out) | (refine KeepBut.setNew ?_ (Nat.le_refl _) _ _))
end Go.Proofs.Ytabafekjacjpcaa
