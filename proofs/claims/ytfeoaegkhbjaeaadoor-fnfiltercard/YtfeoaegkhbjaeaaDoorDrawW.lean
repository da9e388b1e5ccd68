/- l3DrawRight and l3Draw: each returns a Word of some ints and a bool, and turns nothing that was there but the cursor. -/
import Derived.Test.YtfeoaegkhbjaeaaDoorWordK
import Derived.Test.YtfeoaegkhbjaeaaDoorDrawK2
namespace Go.Proofs.YtfeoaegkhbjaeaaDoor
open Go.ChangeShapes Go.WideShapes Go.ChangeAt Go.RowKit

/-- A key in block r, the call's own result still zero in block u, the cursor in q. -/
structure MakeR (w0 : World) (B q r u : Nat) (a : Option Addr) (len cap : Nat) (b t p s : Int) (w : World) : Prop where
  k : Four w r b t p s
  z : Six w u 0 false 0 0 0 0
  d : Drawn B q w a len cap
  kb : KeepBut q w0 w
  ru : r ≠ u
  rq : r ≠ q
  uq : u ≠ q
  nu : w0.heap.size ≤ u
section
variable {w0 w w' : World} {B q r u : Nat} {a : Option Addr} {len cap : Nat} {b t p s : Int}
theorem MakeR.moved (h : MakeR w0 B q r u a len cap b t p s w) (d : Drawn B q w' a len cap) (k : KeepBut q w w') : MakeR w0 B q r u a len cap b t p s w' :=
  ⟨h.k.keep k h.rq, h.z.keep k h.uq, d, h.kb.trans k, h.ru, h.rq, h.uq, h.nu⟩
theorem MakeR.call (h : MakeR w0 B q r u a len cap b t p s w) (hb : Below w.heap.size w w') : MakeR w0 B q r u a len cap b t p s w' :=
  ⟨h.k.below hb, h.z.below hb, h.d.below hb, h.kb.trans (KeepBut.ofBelow hb), h.ru, h.rq, h.uq, h.nu⟩
theorem MakeR.drew (h : MakeR w0 B q r u a len cap b t p s w) : MakeR w0 B q r u a len cap b t p s w.drew := h.call ((Below.refl _ _).drew)
theorem MakeR.alloc (h : MakeR w0 B q r u a len cap b t p s w) (o : Obj) : MakeR w0 B q r u a len cap b t p s (w.alloc o) := h.call ((Below.refl _ _).alloc (Nat.le_refl _) _)
theorem MakeR.all (h : MakeR w0 B q r u a len cap b t p s w) : w.cell? ⟨r, 0, none⟩ = some (.int .i64 b) ∧ w.cell? ⟨r, 1, none⟩ = some (.int .i64 t) ∧ w.cell? ⟨r, 2, none⟩ = some (.int .i64 p) ∧ w.cell? ⟨r, 3, none⟩ = some (.int .i64 s) := ⟨h.k.c0, h.k.c1, h.k.c2, h.k.c3⟩
theorem MakeR.stored (h : MakeR w0 B q r u a len cap b t p s w) (v0 v1 v2 v3 v4 v5 : Value) :
    ((((((w.setCell ⟨u, 0, none⟩ v0).setCell ⟨u, 1, none⟩ v1).setCell ⟨u, 2, none⟩ v2).setCell ⟨u, 3, none⟩ v3).setCell ⟨u, 4, none⟩ v4).setCell ⟨u, 5, none⟩ v5).cell? ⟨r, 0, none⟩ = some (.int .i64 b) ∧
    ((((((w.setCell ⟨u, 0, none⟩ v0).setCell ⟨u, 1, none⟩ v1).setCell ⟨u, 2, none⟩ v2).setCell ⟨u, 3, none⟩ v3).setCell ⟨u, 4, none⟩ v4).setCell ⟨u, 5, none⟩ v5).cell? ⟨r, 1, none⟩ = some (.int .i64 t) ∧
    ((((((w.setCell ⟨u, 0, none⟩ v0).setCell ⟨u, 1, none⟩ v1).setCell ⟨u, 2, none⟩ v2).setCell ⟨u, 3, none⟩ v3).setCell ⟨u, 4, none⟩ v4).setCell ⟨u, 5, none⟩ v5).cell? ⟨r, 2, none⟩ = some (.int .i64 p) ∧
    ((((((w.setCell ⟨u, 0, none⟩ v0).setCell ⟨u, 1, none⟩ v1).setCell ⟨u, 2, none⟩ v2).setCell ⟨u, 3, none⟩ v3).setCell ⟨u, 4, none⟩ v4).setCell ⟨u, 5, none⟩ v5).cell? ⟨r, 3, none⟩ = some (.int .i64 s) := by
  have g := (((((h.k.other h.ru 0 v0).other h.ru 1 v1).other h.ru 2 v2).other h.ru 3 v3).other h.ru 4 v4).other h.ru 5 v5
  exact ⟨g.c0, g.c1, g.c2, g.c3⟩
end

theorem kw_some (b t p s n : Int) (w : World) :
    Calls Tryd.prog 82 #[.agg #[.int .i64 b, .int .i64 t, .int .i64 p, .int .i64 s], .int .i64 n] w fun e w' => ∃ (n' : Int) (i' : Bool) (b' t' p' s' : Int), e = .returned (.agg #[.int .i64 n', .bool i', .int .i64 b', .int .i64 t', .int .i64 p', .int .i64 s']) ∧ Below w.heap.size w w' :=
  (specKeyWord_any b t p s n w).mono fun _ _ ⟨he, hb⟩ => ⟨_, _, _, _, _, _, he, hb⟩

set_option maxRecDepth 100000 in
set_option maxHeartbeats 4000000 in
theorem d_wright {B q : Nat} {w : World} {a : Option Addr} {len cap : Nat} (d : Drawn B q w a len cap) :
    Calls Tryd.prog 74 #[.pointer (some ⟨q, 0, none⟩)] w fun e w' => ∃ (n : Int) (i : Bool) (b t p s : Int), e = .returned (.agg #[.int .i64 n, .bool i, .int .i64 b, .int .i64 t, .int .i64 p, .int .i64 s]) ∧ Drawn B q w' a len cap ∧ KeepBut q w w' := by
  have D : Hid _ := d
  have lq := d.lt
  have lB := d.base
  clear d
  go_enter Tryd.func74, Tryd.ntmps74
  go_wp2_with fail
  refine (d_once 3 (D.out.alloc _)).mono ?_
  rintro e w1 ⟨o, rfl, d1, k1⟩
  have Z1 : Hid (Six w1 w.heap.size 0 false 0 0 0 0) := (Six.new w 0 false 0 0 0 0 36).keep k1 (by omega)
  have D1 : Hid _ := d1
  have K1 : Hid (KeepBut q w w1) := ((KeepBut.refl _ _).alloc _).trans k1
  have z1 := k1.size
  simp only [World.size_alloc] at z1
  clear d1 k1 D
  cases o
  · go_wp2_with fail
    refine (d_right D1.out).mono ?_
    rintro e w2 ⟨b, t, p, s, rfl, d2, k2⟩
    have z2 := k2.size
    have M2 : Hid (MakeR w B q w2.heap.size w.heap.size a len cap b t p s (w2.alloc (.cells #[.int .i64 b, .int .i64 t, .int .i64 p, .int .i64 s] 34))) :=
      ⟨Four.new _ _ _ _ _ _, (Z1.out.keep k2 (by omega)).alloc _, d2.alloc _, (K1.out.trans k2).alloc _, by omega, by have := d2.lt; omega, by omega, Nat.le_refl _⟩
    clear d2 k2 D1 Z1 K1
    obtain ⟨r, hr⟩ : ∃ r, r = w2.heap.size := ⟨_, rfl⟩
    obtain ⟨w3, hw3⟩ : ∃ w3, w3 = w2.alloc (.cells #[.int .i64 b, .int .i64 t, .int .i64 p, .int .i64 s] 34) := ⟨_, rfl⟩
    go_upto_region 4 with fail
    rw [← hr] at M2 ⊢
    rw [← hw3] at M2 ⊢
    clear hr hw3
    have M4 : Hid _ := M2.out.drew
    go_region_held3 (fun w' => w'.cell? ⟨r, 0, none⟩ = some (.int .i64 b) ∧ w'.cell? ⟨r, 1, none⟩ = some (.int .i64 t) ∧ w'.cell? ⟨r, 2, none⟩ = some (.int .i64 p) ∧ w'.cell? ⟨r, 3, none⟩ = some (.int .i64 s)) (first | (with_reducible exact M4.out.all) | (with_reducible exact (M2.out.alloc _).drew.all) | (with_reducible exact M5.out.all) | (with_reducible exact M6.out.all) | (with_reducible exact M6.out.stored _ _ _ _ _ _) | fail)
      (first
        | (go_at_call 55; refine (d_pick_drew [b, b, IntKind.i64.wrap (b + 1), t, 3, 1] 3 _ _ rfl (by simp) (by simp) M2.out.d).mono ?_; rintro e w5 ⟨y, rfl, _, d5, k5⟩; have M5 : Hid _ := M2.out.moved d5 k5; clear d5 k5)
        | (go_at_call 82; refine (kw_some b t p s y _).mono ?_; rintro e w6 ⟨n', i', b', t', p', s', rfl, hb6⟩; have M6 : Hid _ := M5.out.call hb6; obtain ⟨_, c0, c1, c2, c3, c4, c5, f0, f1, f2, f3, f4, f5⟩ := M6.out.z; clear hb6))
    go_wp2
    have uq := M6.out.uq
    refine bodyPost_ret (v := .agg #[.int .i64 n', .bool i', .int .i64 b', .int .i64 t', .int .i64 p', .int .i64 s']) (by simp [results, Tryd.results74, go_sem, c0, c1, c2, c3, c4, c5]) rfl ⟨_, _, _, _, _, _, rfl, ?_, ?_⟩
    · repeat' (first | (with_reducible exact M6.out.d) | (refine Drawn.setNew ?_ uq lB _ _))
    · repeat' (first | (with_reducible exact M6.out.kb) | (refine KeepBut.setNew ?_ (Nat.le_refl _) _ _))
  · go_wp2_with fail
    refine (d_pick [0, 1, 2, 5, 31, 65535] 3 _ _ rfl (by decide) (by decide) D1.out).mono ?_
    rintro e w2 ⟨y, rfl, _, d2, k2⟩
    have Z2 : Hid _ := Z1.out.keep k2 (by omega)
    have D2 : Hid _ := d2
    have K2 : Hid _ := K1.out.trans k2
    have z2 := k2.size
    clear d2 k2 D1 Z1 K1
    go_wp2_with fail
    refine (specPlain_any y _).mono ?_
    rintro e w3 ⟨rfl, hb3⟩
    have D3 : Hid _ := D2.out.below hb3
    have K3 : Hid _ := K2.out.trans (KeepBut.ofBelow hb3)
    obtain ⟨_, c0, c1, c2, c3, c4, c5, f0, f1, f2, f3, f4, f5⟩ := Z2.out.below hb3
    clear hb3 D2 K2 Z2
    go_wp2
    refine bodyPost_ret (v := .agg #[.int .i64 (y % 65536), .bool false, .int .i64 0, .int .i64 0, .int .i64 0, .int .i64 0]) (by simp [results, Tryd.results74, go_sem, c0, c1, c2, c3, c4, c5]) rfl ⟨_, _, _, _, _, _, rfl, ?_, ?_⟩
    · repeat' (first | (with_reducible exact D3.out) | (refine Drawn.setNew ?_ (by omega) lB _ _))
    · repeat' (first | (with_reducible exact K3.out) | (refine KeepBut.setNew ?_ (Nat.le_refl _) _ _))
end Go.Proofs.YtfeoaegkhbjaeaaDoor
