/- DrawTry, DrawTaken, DrawMayPut: what they return, and that they turn nothing that was there. -/
import Derived.Test.YtehmlneaahbdoaaDoorDrawD2
namespace Go.Proofs.YtehmlneaahbdoaaDoor
open Go.ChangeShapes Go.WideShapes Go.ChangeAt Go.RowKit

set_option maxRecDepth 100000 in
set_option maxHeartbeats 4000000 in
theorem drawTaken_any {w : World} {a : Option Addr} {len cap : Nat} (hc : Code8 w.heap.size w a len) :
    Calls Tryd.prog 18 #[.slice a len cap] w fun e w' => ∃ (n : Int) (i : Bool) (b t p s : Int) (n' : Int) (i' : Bool) (b' t' p' s' : Int), e = .returned (.tuple #[.agg #[.int .i64 n, .bool i, .int .i64 b, .int .i64 t, .int .i64 p, .int .i64 s], .agg #[.int .i64 n', .bool i', .int .i64 b', .int .i64 t', .int .i64 p', .int .i64 s']]) ∧ Below w.heap.size w w' := by
  have bz : Below w.heap.size w ((w.alloc (.cells #[.int .i64 0, .bool false, .int .i64 0, .int .i64 0, .int .i64 0, .int .i64 0] 27)).alloc (.cells #[.int .i64 0, .bool false, .int .i64 0, .int .i64 0, .int .i64 0, .int .i64 0] 27)) := ((Below.refl _ _).alloc (Nat.le_refl _) _).alloc (by simp) _
  have hs : ((w.alloc (.cells #[.int .i64 0, .bool false, .int .i64 0, .int .i64 0, .int .i64 0, .int .i64 0] 27)).alloc (.cells #[.int .i64 0, .bool false, .int .i64 0, .int .i64 0, .int .i64 0, .int .i64 0] 27)).heap.size = w.heap.size + 1 + 1 := by simp
  have C : Hid (Code8 (w.heap.size + 1 + 1) ((w.alloc (.cells #[.int .i64 0, .bool false, .int .i64 0, .int .i64 0, .int .i64 0, .int .i64 0] 27)).alloc (.cells #[.int .i64 0, .bool false, .int .i64 0, .int .i64 0, .int .i64 0, .int .i64 0] 27)) a len) := hs ▸ hc.later bz
  clear hc bz
  go_enter Tryd.func18, Tryd.ntmps18
  go_wp2_with fail
  refine (d_new (by rw [hs]; exact C.out)).mono ?_
  rw [hs]
  rintro e w1 ⟨rfl, d1, b1⟩
  have D1 : Hid _ := d1
  have F1 : Hid (Six w1 w.heap.size 0 false 0 0 0 0) := ((Six.new w 0 false 0 0 0 0 27).alloc _).below (by rw [hs]; exact b1)
  have G1 : Hid (Six w1 (w.heap.size + 1) 0 false 0 0 0 0) := (Six.second w _ 0 false 0 0 0 0 27).below (by rw [hs]; exact b1)
  have K1 : Hid (Below w.heap.size w w1) := (((Below.refl _ w).alloc (Nat.le_refl _) _).alloc (by simp) _).trans (b1.mono (by omega))
  have z1 := b1.size
  clear d1 b1 C hs
  go_wp2_with fail
  refine (d_word D1.out).mono ?_
  rintro e w2 ⟨n, i, b, t, p, s, rfl, d2, k2⟩
  have z2 := k2.size
  have l2 := d2.lt
  have M2 : Hid (MakeS w (w.heap.size + 1 + 1) (w.heap.size + 1 + 1) w2.heap.size w.heap.size (w.heap.size + 1) a len cap n i b t p s (w2.alloc (.cells #[.int .i64 n, .bool i, .int .i64 b, .int .i64 t, .int .i64 p, .int .i64 s] 27))) :=
    ⟨Six.new _ _ _ _ _ _ _ _, (F1.out.keep k2 (by omega)).alloc _, (G1.out.keep k2 (by omega)).alloc _, d2.alloc _, ((KeepBut.ofBelow K1.out).trans k2).alloc _, by omega, by omega, by omega, by omega, by omega⟩
  clear d2 k2 D1 F1 G1 K1
  obtain ⟨r, hr⟩ : ∃ r, r = w2.heap.size := ⟨_, rfl⟩
  obtain ⟨w3, hw3⟩ : ∃ w3, w3 = w2.alloc (.cells #[.int .i64 n, .bool i, .int .i64 b, .int .i64 t, .int .i64 p, .int .i64 s] 27) := ⟨_, rfl⟩
  go_upto_region 3 with fail
  rw [← hr] at M2 ⊢
  rw [← hw3] at M2 ⊢
  clear hr hw3
  have M4 : Hid _ := M2.out.drew
  go_region_held3 (fun w' => w'.cell? ⟨r, 0, none⟩ = some (.int .i64 n) ∧ w'.cell? ⟨r, 1, none⟩ = some (.bool i) ∧ w'.cell? ⟨r, 2, none⟩ = some (.int .i64 b) ∧ w'.cell? ⟨r, 3, none⟩ = some (.int .i64 t) ∧ w'.cell? ⟨r, 4, none⟩ = some (.int .i64 p) ∧ w'.cell? ⟨r, 5, none⟩ = some (.int .i64 s)) (first | (with_reducible exact M4.out.k.all) | (with_reducible exact M5.out.k.all) | (with_reducible exact (M5.out.k.over M5.out.ru _ _ _ _ _ _).all) | (with_reducible exact ((M5.out.k.over M5.out.ru _ _ _ _ _ _).over M5.out.rv _ _ _ _ _ _).all) | fail)
    (first
      | (go_at_call 28; refine (d_word M4.out.d).mono ?_; rintro e w5 ⟨n', i', b', t', p', s', rfl, d5, k5⟩; have M5 : Hid _ := M4.out.moved d5 k5; clear d5 k5; obtain ⟨_, c0, c1, c2, c3, c4, c5, f0, f1, f2, f3, f4, f5⟩ := M5.out.z; obtain ⟨_, e0, e1, e2, e3, e4, e5, g0, g1, g2, g3, g4, g5⟩ := M5.out.y))
  go_wp2
  refine bodyPost_ret (v := .tuple #[.agg #[.int .i64 n, .bool i, .int .i64 b, .int .i64 t, .int .i64 p, .int .i64 s], .agg #[.int .i64 n', .bool i', .int .i64 b', .int .i64 t', .int .i64 p', .int .i64 s']]) (by simp [results, Tryd.results18, go_sem, c0, c1, c2, c3, c4, c5, e0, e1, e2, e3, e4, e5]) rfl ⟨_, _, _, _, _, _, _, _, _, _, _, _, rfl, ?_⟩
  have K5 : Hid (Below w.heap.size w w5) := M5.out.kb.below (by omega) (Nat.le_refl _)
  repeat' (first | (with_reducible exact K5.out) | (refine Below.setCell ?_ (by show w.heap.size ≤ _; dsimp only; omega) _))

set_option maxRecDepth 100000 in
set_option maxHeartbeats 4000000 in
theorem drawMayPut_any {w : World} {a : Option Addr} {len cap : Nat} (hc : Code8 w.heap.size w a len) :
    Calls Tryd.prog 19 #[.slice a len cap] w fun e w' => ∃ (n : Int) (i : Bool) (b t p s : Int) (n' : Int) (i' : Bool) (b' t' p' s' : Int), e = .returned (.tuple #[.agg #[.int .i64 n, .bool i, .int .i64 b, .int .i64 t, .int .i64 p, .int .i64 s], .agg #[.int .i64 n', .bool i', .int .i64 b', .int .i64 t', .int .i64 p', .int .i64 s']]) ∧ Below w.heap.size w w' := by
  have bz : Below w.heap.size w ((w.alloc (.cells #[.int .i64 0, .bool false, .int .i64 0, .int .i64 0, .int .i64 0, .int .i64 0] 27)).alloc (.cells #[.int .i64 0, .bool false, .int .i64 0, .int .i64 0, .int .i64 0, .int .i64 0] 27)) := ((Below.refl _ _).alloc (Nat.le_refl _) _).alloc (by simp) _
  have hs : ((w.alloc (.cells #[.int .i64 0, .bool false, .int .i64 0, .int .i64 0, .int .i64 0, .int .i64 0] 27)).alloc (.cells #[.int .i64 0, .bool false, .int .i64 0, .int .i64 0, .int .i64 0, .int .i64 0] 27)).heap.size = w.heap.size + 1 + 1 := by simp
  have C : Hid (Code8 (w.heap.size + 1 + 1) ((w.alloc (.cells #[.int .i64 0, .bool false, .int .i64 0, .int .i64 0, .int .i64 0, .int .i64 0] 27)).alloc (.cells #[.int .i64 0, .bool false, .int .i64 0, .int .i64 0, .int .i64 0, .int .i64 0] 27)) a len) := hs ▸ hc.later bz
  clear hc bz
  go_enter Tryd.func19, Tryd.ntmps19
  go_wp2_with fail
  refine (d_new (by rw [hs]; exact C.out)).mono ?_
  rw [hs]
  rintro e w1 ⟨rfl, d1, b1⟩
  have D1 : Hid _ := d1
  have F1 : Hid (Six w1 w.heap.size 0 false 0 0 0 0) := ((Six.new w 0 false 0 0 0 0 27).alloc _).below (by rw [hs]; exact b1)
  have G1 : Hid (Six w1 (w.heap.size + 1) 0 false 0 0 0 0) := (Six.second w _ 0 false 0 0 0 0 27).below (by rw [hs]; exact b1)
  have K1 : Hid (Below w.heap.size w w1) := (((Below.refl _ w).alloc (Nat.le_refl _) _).alloc (by simp) _).trans (b1.mono (by omega))
  have z1 := b1.size
  clear d1 b1 C hs
  go_wp2_with fail
  refine (d_word D1.out).mono ?_
  rintro e w2 ⟨n, i, b, t, p, s, rfl, d2, k2⟩
  have z2 := k2.size
  have l2 := d2.lt
  have M2 : Hid (MakeS w (w.heap.size + 1 + 1) (w.heap.size + 1 + 1) w2.heap.size w.heap.size (w.heap.size + 1) a len cap n i b t p s (w2.alloc (.cells #[.int .i64 n, .bool i, .int .i64 b, .int .i64 t, .int .i64 p, .int .i64 s] 27))) :=
    ⟨Six.new _ _ _ _ _ _ _ _, (F1.out.keep k2 (by omega)).alloc _, (G1.out.keep k2 (by omega)).alloc _, d2.alloc _, ((KeepBut.ofBelow K1.out).trans k2).alloc _, by omega, by omega, by omega, by omega, by omega⟩
  clear d2 k2 D1 F1 G1 K1
  obtain ⟨r, hr⟩ : ∃ r, r = w2.heap.size := ⟨_, rfl⟩
  obtain ⟨w3, hw3⟩ : ∃ w3, w3 = w2.alloc (.cells #[.int .i64 n, .bool i, .int .i64 b, .int .i64 t, .int .i64 p, .int .i64 s] 27) := ⟨_, rfl⟩
  go_upto_region 3 with fail
  rw [← hr] at M2 ⊢
  rw [← hw3] at M2 ⊢
  clear hr hw3
  have M4 : Hid _ := M2.out.drew
  go_region_held3 (fun w' => w'.cell? ⟨r, 0, none⟩ = some (.int .i64 n) ∧ w'.cell? ⟨r, 1, none⟩ = some (.bool i) ∧ w'.cell? ⟨r, 2, none⟩ = some (.int .i64 b) ∧ w'.cell? ⟨r, 3, none⟩ = some (.int .i64 t) ∧ w'.cell? ⟨r, 4, none⟩ = some (.int .i64 p) ∧ w'.cell? ⟨r, 5, none⟩ = some (.int .i64 s)) (first | (with_reducible exact M4.out.k.all) | (with_reducible exact M5.out.k.all) | (with_reducible exact (M5.out.k.over M5.out.ru _ _ _ _ _ _).all) | (with_reducible exact ((M5.out.k.over M5.out.ru _ _ _ _ _ _).over M5.out.rv _ _ _ _ _ _).all) | fail)
    (first
      | (go_at_call 28; refine (d_word M4.out.d).mono ?_; rintro e w5 ⟨n', i', b', t', p', s', rfl, d5, k5⟩; have M5 : Hid _ := M4.out.moved d5 k5; clear d5 k5; obtain ⟨_, c0, c1, c2, c3, c4, c5, f0, f1, f2, f3, f4, f5⟩ := M5.out.z; obtain ⟨_, e0, e1, e2, e3, e4, e5, g0, g1, g2, g3, g4, g5⟩ := M5.out.y))
  go_wp2
  refine bodyPost_ret (v := .tuple #[.agg #[.int .i64 n, .bool i, .int .i64 b, .int .i64 t, .int .i64 p, .int .i64 s], .agg #[.int .i64 n', .bool i', .int .i64 b', .int .i64 t', .int .i64 p', .int .i64 s']]) (by simp [results, Tryd.results19, go_sem, c0, c1, c2, c3, c4, c5, e0, e1, e2, e3, e4, e5]) rfl ⟨_, _, _, _, _, _, _, _, _, _, _, _, rfl, ?_⟩
  have K5 : Hid (Below w.heap.size w w5) := M5.out.kb.below (by omega) (Nat.le_refl _)
  repeat' (first | (with_reducible exact K5.out) | (refine Below.setCell ?_ (by show w.heap.size ≤ _; dsimp only; omega) _))

set_option maxRecDepth 100000 in
set_option maxHeartbeats 4000000 in
theorem drawTry_any {w : World} {a : Option Addr} {len cap : Nat} (hc : Code8 w.heap.size w a len) :
    Calls Tryd.prog 16 #[.slice a len cap] w fun e w' => ∃ (n : Int) (i : Bool) (b t p s : Int) (m o : Int), e = .returned (.tuple #[.agg #[.int .i64 n, .bool i, .int .i64 b, .int .i64 t, .int .i64 p, .int .i64 s], .int .i64 m, .int .i64 o]) ∧ Below w.heap.size w w' := by
  have bz : Below w.heap.size w (w.alloc (.cells #[.int .i64 0, .bool false, .int .i64 0, .int .i64 0, .int .i64 0, .int .i64 0] 27)) := (Below.refl _ _).alloc (Nat.le_refl _) _
  have hs : (w.alloc (.cells #[.int .i64 0, .bool false, .int .i64 0, .int .i64 0, .int .i64 0, .int .i64 0] 27)).heap.size = w.heap.size + 1 := by simp
  have C : Hid (Code8 (w.heap.size + 1) (w.alloc (.cells #[.int .i64 0, .bool false, .int .i64 0, .int .i64 0, .int .i64 0, .int .i64 0] 27)) a len) := hs ▸ hc.later bz
  clear hc bz
  go_enter Tryd.func16, Tryd.ntmps16
  go_wp2_with fail
  refine (d_new (by rw [hs]; exact C.out)).mono ?_
  rw [hs]
  rintro e w1 ⟨rfl, d1, b1⟩
  have D1 : Hid _ := d1
  have F1 : Hid (Six w1 w.heap.size 0 false 0 0 0 0) := (Six.new w 0 false 0 0 0 0 27).below (by rw [hs]; exact b1)
  have K1 : Hid (Below w.heap.size w w1) := ((Below.refl _ w).alloc (Nat.le_refl _) _).trans (b1.mono (by omega))
  have z1 := b1.size
  clear d1 b1 C hs
  go_wp2_with fail
  refine (d_word D1.out).mono ?_
  rintro e w2 ⟨n, i, b, t, p, s, rfl, d2, k2⟩
  have z2 := k2.size
  have l2 := d2.lt
  have M2 : Hid (MakeW w (w.heap.size + 1) (w.heap.size + 1) w2.heap.size w.heap.size a len cap n i b t p s (w2.alloc (.cells #[.int .i64 n, .bool i, .int .i64 b, .int .i64 t, .int .i64 p, .int .i64 s] 27))) :=
    ⟨Six.new _ _ _ _ _ _ _ _, (F1.out.keep k2 (by omega)).alloc _, d2.alloc _, ((KeepBut.ofBelow K1.out).trans k2).alloc _, by omega, by omega, by omega, by omega, by omega, by omega⟩
  clear d2 k2 D1 F1 K1
  obtain ⟨r, hr⟩ : ∃ r, r = w2.heap.size := ⟨_, rfl⟩
  obtain ⟨w3, hw3⟩ : ∃ w3, w3 = w2.alloc (.cells #[.int .i64 n, .bool i, .int .i64 b, .int .i64 t, .int .i64 p, .int .i64 s] 27) := ⟨_, rfl⟩
  go_upto_region 3 with fail
  rw [← hr] at M2 ⊢
  rw [← hw3] at M2 ⊢
  clear hr hw3 z1 z2 l2
  have N3 := M2
  obtain ⟨_, h0, h1, h2, h3, h4, h5, _, _, _, _, _, _⟩ := M2.out.k
  go_wp2_with fail
  refine (d_pick [b, t, wrap64 (b + 1), 3, -1, 9223372036854775807] 3 _ _ rfl (by simp) (by simp) M2.out.d).mono ?_
  rintro e w4 ⟨m, rfl, _, d4, k4⟩
  clear h0 h1 h2 h3 h4 h5 N3
  have M2 : Hid _ := M2.out.moved d4 k4
  clear d4 k4
  go_upto_region 4 with fail
  have M4 : Hid _ := M2.out.drew
  obtain ⟨_, c0, c1, c2, c3, c4, c5, f0, f1, f2, f3, f4, f5⟩ := M2.out.z
  have hru := M2.out.ru
  go_region_held3 (fun w' => w'.cell? ⟨r, 0, none⟩ = some (.int .i64 n) ∧ w'.cell? ⟨r, 1, none⟩ = some (.bool i) ∧ w'.cell? ⟨r, 2, none⟩ = some (.int .i64 b) ∧ w'.cell? ⟨r, 3, none⟩ = some (.int .i64 t) ∧ w'.cell? ⟨r, 4, none⟩ = some (.int .i64 p) ∧ w'.cell? ⟨r, 5, none⟩ = some (.int .i64 s)) (first | (with_reducible exact M4.out.k.all) | (with_reducible exact (M2.out.alloc _).drew.k.all) | (with_reducible exact M5.out.k.all) | (with_reducible exact (M5.out.k.over M5.out.ru _ _ _ _ _ _).all) | fail)
    (first
      | (go_at_call 37; refine (d_pick_drew [0, 1, 2, 4, 3, 63, 64, -1] 3 _ _ rfl (by decide) (by decide) M2.out.d).mono ?_; rintro e w5 ⟨y, rfl, _, d5, k5⟩; have M5 : Hid _ := M2.out.moved d5 k5; clear d5 k5; clear c0 c1 c2 c3 c4 c5 f0 f1 f2 f3 f4 f5; obtain ⟨_, c0, c1, c2, c3, c4, c5, f0, f1, f2, f3, f4, f5⟩ := M5.out.z))
  go_wp2
  refine bodyPost_ret (v := .tuple #[.agg #[.int .i64 n, .bool i, .int .i64 b, .int .i64 t, .int .i64 p, .int .i64 s], .int .i64 m, .int .i64 y]) (by simp [results, Tryd.results16, go_sem, c0, c1, c2, c3, c4, c5]) rfl ⟨_, _, _, _, _, _, _, _, rfl, ?_⟩
  have K5 : Hid (Below w.heap.size w w5) := M5.out.kb.below (by omega) (Nat.le_refl _)
  repeat' (first | (with_reducible exact K5.out) | (refine Below.setCell ?_ (by show w.heap.size ≤ w.heap.size; exact Nat.le_refl _) _))

end Go.Proofs.YtehmlneaahbdoaaDoor
