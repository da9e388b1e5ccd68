/- DrawSealBy, DrawOpenBy: each returns two Words and turns nothing that was there. -/
import Derived.Test.YtehmlneaahbdoaaDoorDrawD
import Derived.Test.YtehmlneaahbdoaaDoorSMade
namespace Go.Proofs.YtehmlneaahbdoaaDoor
open Go.ChangeShapes Go.WideShapes Go.ChangeAt Go.RowKit

/-- A word that was drawn in block r, the call's own two results still zero in u and v, the cursor in q. -/
structure MakeS (w0 : World) (B q r u v : Nat) (a : Option Addr) (len cap : Nat) (n : Int) (i : Bool) (b t p s : Int) (w : World) : Prop where
  k : Six w r n i b t p s
  z : Six w u 0 false 0 0 0 0
  y : Six w v 0 false 0 0 0 0
  d : Drawn B q w a len cap
  kb : KeepBut q w0 w
  ru : r ≠ u
  rv : r ≠ v
  rq : r ≠ q
  uq : u ≠ q
  vq : v ≠ q
/-- .. and a second one in block x. -/
structure MakeO (w0 : World) (B q r x u v : Nat) (a : Option Addr) (len cap : Nat) (n : Int) (i : Bool) (b t p s n' : Int) (i' : Bool) (b' t' p' s' : Int) (w : World) : Prop where
  m : MakeS w0 B q r u v a len cap n i b t p s w
  o : Six w x n' i' b' t' p' s'
  xr : x ≠ r
  xu : x ≠ u
  xv : x ≠ v
  xq : x ≠ q
section
variable {w0 w w' : World} {B q r x u v : Nat} {a : Option Addr} {len cap : Nat} {n : Int} {i : Bool} {b t p s n' : Int} {i' : Bool} {b' t' p' s' : Int}
theorem MakeS.moved (h : MakeS w0 B q r u v a len cap n i b t p s w) (d : Drawn B q w' a len cap) (k : KeepBut q w w') : MakeS w0 B q r u v a len cap n i b t p s w' :=
  ⟨h.k.keep k h.rq, h.z.keep k h.uq, h.y.keep k h.vq, d, h.kb.trans k, h.ru, h.rv, h.rq, h.uq, h.vq⟩
theorem MakeS.call (h : MakeS w0 B q r u v a len cap n i b t p s w) (hb : Below w.heap.size w w') : MakeS w0 B q r u v a len cap n i b t p s w' := h.moved (h.d.below hb) (KeepBut.ofBelow hb)
theorem MakeS.drew (h : MakeS w0 B q r u v a len cap n i b t p s w) : MakeS w0 B q r u v a len cap n i b t p s w.drew := h.call (Below.refl _ _).drew
theorem MakeO.moved (h : MakeO w0 B q r x u v a len cap n i b t p s n' i' b' t' p' s' w) (d : Drawn B q w' a len cap) (k : KeepBut q w w') : MakeO w0 B q r x u v a len cap n i b t p s n' i' b' t' p' s' w' :=
  ⟨h.m.moved d k, h.o.keep k h.xq, h.xr, h.xu, h.xv, h.xq⟩
theorem MakeO.call (h : MakeO w0 B q r x u v a len cap n i b t p s n' i' b' t' p' s' w) (hb : Below w.heap.size w w') : MakeO w0 B q r x u v a len cap n i b t p s n' i' b' t' p' s' w' := h.moved (h.m.d.below hb) (KeepBut.ofBelow hb)
theorem MakeO.drew (h : MakeO w0 B q r x u v a len cap n i b t p s n' i' b' t' p' s' w) : MakeO w0 B q r x u v a len cap n i b t p s n' i' b' t' p' s' w.drew := h.call (Below.refl _ _).drew
/-- The word in r is written anew. -/
theorem MakeO.put (h : MakeO w0 B q r x u v a len cap n i b t p s n' i' b' t' p' s' w) (hB : B ≤ r) (hr : w0.heap.size ≤ r) (m0 : Int) (m1 : Bool) (m2 m3 m4 m5 : Int) :
    MakeO w0 B q r x u v a len cap m0 m1 m2 m3 m4 m5 n' i' b' t' p' s' ((((((w.setCell ⟨r, 0, none⟩ (.int .i64 m0)).setCell ⟨r, 1, none⟩ (.bool m1)).setCell ⟨r, 2, none⟩ (.int .i64 m2)).setCell ⟨r, 3, none⟩ (.int .i64 m3)).setCell ⟨r, 4, none⟩ (.int .i64 m4)).setCell ⟨r, 5, none⟩ (.int .i64 m5)) :=
  ⟨⟨(((((h.m.k.set0 m0).set1 m1).set2 m2).set3 m3).set4 m4).set5 m5, h.m.z.over h.m.ru.symm _ _ _ _ _ _, h.m.y.over h.m.rv.symm _ _ _ _ _ _,
    (((((h.m.d.setNew h.m.rq hB _ _).setNew h.m.rq hB _ _).setNew h.m.rq hB _ _).setNew h.m.rq hB _ _).setNew h.m.rq hB _ _).setNew h.m.rq hB _ _,
    (((((h.m.kb.setNew hr _ _).setNew hr _ _).setNew hr _ _).setNew hr _ _).setNew hr _ _).setNew hr _ _, h.m.ru, h.m.rv, h.m.rq, h.m.uq, h.m.vq⟩,
    h.o.over h.xr _ _ _ _ _ _, h.xr, h.xu, h.xv, h.xq⟩
end
theorem seal_some (n : Int) (i : Bool) (b t p s n' : Int) (i' : Bool) (b' t' p' s' : Int) (w : World) :
    Calls Tryd.prog 9 #[.agg #[.int .i64 n, .bool i, .int .i64 b, .int .i64 t, .int .i64 p, .int .i64 s], .agg #[.int .i64 n', .bool i', .int .i64 b', .int .i64 t', .int .i64 p', .int .i64 s']] w fun e w' => ∃ (m0 : Int) (m1 : Bool) (m2 m3 m4 m5 : Int), e = .returned (.agg #[.int .i64 m0, .bool m1, .int .i64 m2, .int .i64 m3, .int .i64 m4, .int .i64 m5]) ∧ Below w.heap.size w w' :=
  (specSealBy_any n i b t p s n' i' b' t' p' s' w).mono fun _ _ ⟨he, hb⟩ => ⟨_, _, _, _, _, _, he, hb⟩

set_option maxRecDepth 100000 in
set_option maxHeartbeats 4000000 in
theorem drawSealBy_any {w : World} {a : Option Addr} {len cap : Nat} (hc : Code8 w.heap.size w a len) :
    Calls Tryd.prog 7 #[.slice a len cap] w fun e w' => ∃ (n : Int) (i : Bool) (b t p s : Int) (n' : Int) (i' : Bool) (b' t' p' s' : Int), e = .returned (.tuple #[.agg #[.int .i64 n, .bool i, .int .i64 b, .int .i64 t, .int .i64 p, .int .i64 s], .agg #[.int .i64 n', .bool i', .int .i64 b', .int .i64 t', .int .i64 p', .int .i64 s']]) ∧ Below w.heap.size w w' := by
  have bz : Below w.heap.size w ((w.alloc (.cells #[.int .i64 0, .bool false, .int .i64 0, .int .i64 0, .int .i64 0, .int .i64 0] 27)).alloc (.cells #[.int .i64 0, .bool false, .int .i64 0, .int .i64 0, .int .i64 0, .int .i64 0] 27)) := ((Below.refl _ _).alloc (Nat.le_refl _) _).alloc (by simp) _
  have hs : ((w.alloc (.cells #[.int .i64 0, .bool false, .int .i64 0, .int .i64 0, .int .i64 0, .int .i64 0] 27)).alloc (.cells #[.int .i64 0, .bool false, .int .i64 0, .int .i64 0, .int .i64 0, .int .i64 0] 27)).heap.size = w.heap.size + 1 + 1 := by simp
  have C : Hid (Code8 (w.heap.size + 1 + 1) ((w.alloc (.cells #[.int .i64 0, .bool false, .int .i64 0, .int .i64 0, .int .i64 0, .int .i64 0] 27)).alloc (.cells #[.int .i64 0, .bool false, .int .i64 0, .int .i64 0, .int .i64 0, .int .i64 0] 27)) a len) := hs ▸ hc.later bz
  clear hc bz
  go_enter Tryd.func7, Tryd.ntmps7
  go_wp2_with fail
  refine (d_new (by rw [hs]; exact C.out)).mono ?_
  rw [hs]
  rintro e w1 ⟨rfl, d1, b1⟩
  have D1 : Hid _ := d1
  have F1 : Hid (Six w1 w.heap.size 0 false 0 0 0 0) := ((Six.new w 0 false 0 0 0 0 27).alloc _).below (by rw [hs]; exact b1)
  have G1 : Hid (Six w1 (w.heap.size + 1) 0 false 0 0 0 0) := (Six.second w _ 0 false 0 0 0 0 27).below (by rw [hs]; exact b1)
  have K1 : Hid (Below w.heap.size w w1) := (((Below.refl _ w).alloc (Nat.le_refl _) _).alloc (by simp) _).trans (b1.mono (by omega))
  have z1 := b1.size
  clear d1 b1 C hs
  go_wp2_with fail
  refine (d_word D1.out).mono ?_
  rintro e w2 ⟨n, i, b, t, p, s, rfl, d2, k2⟩
  have z2 := k2.size
  have l2 := d2.lt
  have M2 : Hid (MakeS w (w.heap.size + 1 + 1) (w.heap.size + 1 + 1) w2.heap.size w.heap.size (w.heap.size + 1) a len cap n i b t p s (w2.alloc (.cells #[.int .i64 n, .bool i, .int .i64 b, .int .i64 t, .int .i64 p, .int .i64 s] 27))) :=
    ⟨Six.new _ _ _ _ _ _ _ _, (F1.out.keep k2 (by omega)).alloc _, (G1.out.keep k2 (by omega)).alloc _, d2.alloc _, ((KeepBut.ofBelow K1.out).trans k2).alloc _, by omega, by omega, by omega, by omega, by omega⟩
  clear d2 k2 D1 F1 G1 K1
  obtain ⟨r, hr⟩ : ∃ r, r = w2.heap.size := ⟨_, rfl⟩
  obtain ⟨w3, hw3⟩ : ∃ w3, w3 = w2.alloc (.cells #[.int .i64 n, .bool i, .int .i64 b, .int .i64 t, .int .i64 p, .int .i64 s] 27) := ⟨_, rfl⟩
  go_upto_region 3 with fail
  rw [← hr] at M2 ⊢
  rw [← hw3] at M2 ⊢
  clear hr hw3
  have M4 : Hid _ := M2.out.drew
  go_region_held3 (fun w' => w'.cell? ⟨r, 0, none⟩ = some (.int .i64 n) ∧ w'.cell? ⟨r, 1, none⟩ = some (.bool i) ∧ w'.cell? ⟨r, 2, none⟩ = some (.int .i64 b) ∧ w'.cell? ⟨r, 3, none⟩ = some (.int .i64 t) ∧ w'.cell? ⟨r, 4, none⟩ = some (.int .i64 p) ∧ w'.cell? ⟨r, 5, none⟩ = some (.int .i64 s)) (first | (with_reducible exact M4.out.k.all) | (with_reducible exact M5.out.k.all) | (with_reducible exact (M5.out.k.over M5.out.ru _ _ _ _ _ _).all) | (with_reducible exact ((M5.out.k.over M5.out.ru _ _ _ _ _ _).over M5.out.rv _ _ _ _ _ _).all) | fail)
    (first
      | (go_at_call 29; refine (d_by M4.out.d).mono ?_; rintro e w5 ⟨n', i', b', t', p', s', rfl, d5, k5⟩; have M5 : Hid _ := M4.out.moved d5 k5; clear d5 k5; obtain ⟨_, c0, c1, c2, c3, c4, c5, f0, f1, f2, f3, f4, f5⟩ := M5.out.z; obtain ⟨_, e0, e1, e2, e3, e4, e5, g0, g1, g2, g3, g4, g5⟩ := M5.out.y))
  go_wp2
  refine bodyPost_ret (v := .tuple #[.agg #[.int .i64 n, .bool i, .int .i64 b, .int .i64 t, .int .i64 p, .int .i64 s], .agg #[.int .i64 n', .bool i', .int .i64 b', .int .i64 t', .int .i64 p', .int .i64 s']]) (by simp [results, Tryd.results7, go_sem, c0, c1, c2, c3, c4, c5, e0, e1, e2, e3, e4, e5]) rfl ⟨_, _, _, _, _, _, _, _, _, _, _, _, rfl, ?_⟩
  have K5 : Hid (Below w.heap.size w w5) := M5.out.kb.below (by omega) (Nat.le_refl _)
  repeat' (first | (with_reducible exact K5.out) | (refine Below.setCell ?_ (by show w.heap.size ≤ _; dsimp only; omega) _))

end Go.Proofs.YtehmlneaahbdoaaDoor
