/- A word that is drawn, and that its number is one of 64 bits. No condition. -/
import Derived.Test.YtcokcfgagbahbaaDrawW2
namespace Go.Proofs.Ytcokcfgagbahbaa
open Go.ChangeShapes Go.WideShapes Go.ChangeAt Go.RowKit
theorem kw_someB (b t p s n : Int) (w : World) :
    Calls Try.prog 45 #[.agg #[.int .i64 b, .int .i64 t, .int .i64 p, .int .i64 s], .int .i64 n] w fun e w' => ∃ (n' : Int) (i' : Bool) (b' t' p' s' : Int), e = .returned (.agg #[.int .i64 n', .bool i', .int .i64 b', .int .i64 t', .int .i64 p', .int .i64 s']) ∧ Below w.heap.size w w' ∧ -9223372036854775808 ≤ n' ∧ n' ≤ 9223372036854775807 := by
  refine (specKeyWord_any b t p s n w).mono ?_
  rintro e w' ⟨rfl, hb⟩
  exact ⟨_, _, _, _, _, _, rfl, hb, by omega, by omega⟩

set_option maxRecDepth 100000 in
set_option maxHeartbeats 4000000 in
theorem d_wrightB {B q : Nat} {w : World} {a : Option Addr} {len cap : Nat} (d : Drawn B q w a len cap) :
    Calls Try.prog 52 #[.pointer (some ⟨q, 0, none⟩)] w fun e w' => ∃ (n : Int) (i : Bool) (b t p s : Int), e = .returned (.agg #[.int .i64 n, .bool i, .int .i64 b, .int .i64 t, .int .i64 p, .int .i64 s]) ∧ Drawn B q w' a len cap ∧ KeepBut q w w' ∧ -9223372036854775808 ≤ n ∧ n ≤ 9223372036854775807 := by
  have D : Hid _ := d
  have lq := d.lt
  have lB := d.base
  clear d
  go_enter Try.func52, Try.ntmps52
  go_wp2_with fail
  refine (d_once 3 (D.out.alloc _)).mono ?_
  rintro e w1 ⟨o, rfl, d1, k1⟩
  have Z1 : Hid (Six w1 w.heap.size 0 false 0 0 0 0) := (Six.new w 0 false 0 0 0 0 28).keep k1 (by omega)
  have D1 : Hid _ := d1
  have K1 : Hid (KeepBut q w w1) := ((KeepBut.refl _ _).alloc _).trans k1
  have z1 := k1.size
  simp only [World.size_alloc] at z1
  clear d1 k1 D
  cases o
  · go_wp2_with fail
    refine (d_right D1.out).mono ?_
    rintro e w2 ⟨b, t, p, s, rfl, d2, k2⟩
    have z2 := k2.size
    have M2 : Hid (MakeR w B q w2.heap.size w.heap.size a len cap b t p s (w2.alloc (.cells #[.int .i64 b, .int .i64 t, .int .i64 p, .int .i64 s] 26))) :=
      ⟨Four.new _ _ _ _ _ _, (Z1.out.keep k2 (by omega)).alloc _, d2.alloc _, (K1.out.trans k2).alloc _, by omega, by have := d2.lt; omega, by omega, Nat.le_refl _⟩
    clear d2 k2 D1 Z1 K1
    obtain ⟨r, hr⟩ : ∃ r, r = w2.heap.size := ⟨_, rfl⟩
    obtain ⟨w3, hw3⟩ : ∃ w3, w3 = w2.alloc (.cells #[.int .i64 b, .int .i64 t, .int .i64 p, .int .i64 s] 26) := ⟨_, rfl⟩
    go_upto_region 4 with fail
    rw [← hr] at M2 ⊢
    rw [← hw3] at M2 ⊢
    clear hr hw3
    have M4 : Hid _ := M2.out.drew
    go_region_held3 (fun w' => w'.cell? ⟨r, 0, none⟩ = some (.int .i64 b) ∧ w'.cell? ⟨r, 1, none⟩ = some (.int .i64 t) ∧ w'.cell? ⟨r, 2, none⟩ = some (.int .i64 p) ∧ w'.cell? ⟨r, 3, none⟩ = some (.int .i64 s)) (first | (with_reducible exact M4.out.all) | (with_reducible exact (M2.out.alloc _).drew.all) | (with_reducible exact M5.out.all) | (with_reducible exact M6.out.all) | (with_reducible exact M6.out.stored _ _ _ _ _ _) | fail)
      (first
        | (go_at_call 42; refine (d_pick_drew [b, b, IntKind.i64.wrap (b + 1), t, 3, 1] 3 _ _ rfl (by simp) (by simp) M2.out.d).mono ?_; rintro e w5 ⟨y, rfl, _, d5, k5⟩; have M5 : Hid _ := M2.out.moved d5 k5; clear d5 k5)
        | (go_at_call 45; refine (kw_someB b t p s y _).mono ?_; rintro e w6 ⟨n', i', b', t', p', s', rfl, hb6, hn6, hn7⟩; have M6 : Hid _ := M5.out.call hb6; obtain ⟨_, c0, c1, c2, c3, c4, c5, f0, f1, f2, f3, f4, f5⟩ := M6.out.z; clear hb6))
    go_wp2
    have uq := M6.out.uq
    refine bodyPost_ret (v := .agg #[.int .i64 n', .bool i', .int .i64 b', .int .i64 t', .int .i64 p', .int .i64 s']) (by simp [results, Try.results52, go_sem, c0, c1, c2, c3, c4, c5]) rfl ⟨_, _, _, _, _, _, rfl, ?_, ?_, hn6, hn7⟩
    · repeat' (first | (with_reducible exact M6.out.d) | (refine Drawn.setNew ?_ uq lB _ _))
    · repeat' (first | (with_reducible exact M6.out.kb) | (refine KeepBut.setNew ?_ (Nat.le_refl _) _ _))
  · go_wp2_with fail
    refine (d_pick [0, 1, 2, 5, 31, 65535] 3 _ _ rfl (by decide) (by decide) D1.out).mono ?_
    rintro e w2 ⟨y, rfl, _, d2, k2⟩
    have Z2 : Hid _ := Z1.out.keep k2 (by omega)
    have D2 : Hid _ := d2
    have K2 : Hid _ := K1.out.trans k2
    have z2 := k2.size
    clear d2 k2 D1 Z1 K1
    go_wp2_with fail
    refine (specPlain_any y _).mono ?_
    rintro e w3 ⟨rfl, hb3⟩
    have D3 : Hid _ := D2.out.below hb3
    have K3 : Hid _ := K2.out.trans (KeepBut.ofBelow hb3)
    obtain ⟨_, c0, c1, c2, c3, c4, c5, f0, f1, f2, f3, f4, f5⟩ := Z2.out.below hb3
    clear hb3 D2 K2 Z2
    go_wp2
    refine bodyPost_ret (v := .agg #[.int .i64 (y % 65536), .bool false, .int .i64 0, .int .i64 0, .int .i64 0, .int .i64 0]) (by simp [results, Try.results52, go_sem, c0, c1, c2, c3, c4, c5]) rfl ⟨_, _, _, _, _, _, rfl, ?_, ?_, by omega, by omega⟩
    · repeat' (first | (with_reducible exact D3.out) | (refine Drawn.setNew ?_ (by omega) lB _ _))
    · repeat' (first | (with_reducible exact K3.out) | (refine KeepBut.setNew ?_ (Nat.le_refl _) _ _))
set_option maxRecDepth 100000 in
set_option maxHeartbeats 4000000 in
theorem d_wordB {B q : Nat} {w : World} {a : Option Addr} {len cap : Nat} (d : Drawn B q w a len cap) :
    Calls Try.prog 44 #[.pointer (some ⟨q, 0, none⟩)] w fun e w' => ∃ (n : Int) (i : Bool) (b t p s : Int), e = .returned (.agg #[.int .i64 n, .bool i, .int .i64 b, .int .i64 t, .int .i64 p, .int .i64 s]) ∧ Drawn B q w' a len cap ∧ KeepBut q w w' ∧ -9223372036854775808 ≤ n ∧ n ≤ 9223372036854775807 := by
  have D : Hid _ := d
  have lq := d.lt
  have lB := d.base
  clear d
  go_enter Try.func44, Try.ntmps44
  go_wp2_with fail
  refine (d_wrightB (D.out.alloc _)).mono ?_
  rintro e w1 ⟨n, i, b, t, p, s, rfl, d1, k1, hn1, hn2⟩
  have z1 := k1.size
  simp only [World.size_alloc] at z1
  have M1 : Hid (MakeW w B q w1.heap.size w.heap.size a len cap n i b t p s (w1.alloc (.cells #[.int .i64 n, .bool i, .int .i64 b, .int .i64 t, .int .i64 p, .int .i64 s] 28))) :=
    ⟨Six.new _ _ _ _ _ _ _ _, ((Six.new w 0 false 0 0 0 0 28).keep k1 (by omega)).alloc _, d1.alloc _, ((KeepBut.refl _ _).alloc _).trans k1 |>.alloc _, by omega, by omega, by omega, by omega, by omega, by omega⟩
  clear k1 d1
  go_wp2_with fail
  refine (d_below 12 M1.out.d).mono ?_
  rintro e w2 ⟨o, rfl, _, _, d2, k2⟩
  have M2 : Hid _ := M1.out.moved d2 k2
  clear d2 k2 M1 D
  obtain ⟨r, hr⟩ : ∃ r, r = w1.heap.size := ⟨_, rfl⟩
  rw [← hr] at M2 ⊢
  clear hr z1 w1
  go_upto_block 0 with fail
  go_cut [] (fun wx => ∃ (n : Int) (i : Bool) (b t p s : Int), Hid (MakeW w B q r w.heap.size a len cap n i b t p s wx) ∧ -9223372036854775808 ≤ n ∧ n ≤ 9223372036854775807)
  case first =>
    obtain ⟨_, c0, c1, c2, c3, c4, c5, f0, f1, f2, f3, f4, f5⟩ := M2.out.k
    cases g0 : (o == 0)
    · cases g1 : (o == 1)
      · cases g2 : (o == 2)
        · go_wp2
          go_meet
          case rel => exact ⟨_, _, _, _, _, _, M2.out, hn1, hn2⟩
        · go_wp2_with fail
          refine (d_key M2.out.d).mono ?_
          rintro e w5 ⟨b', t', p', s', rfl, d5, k5⟩
          have M5 : Hid _ := M2.out.moved d5 k5
          clear d5 k5 c0 c1 c2 c3 c4 c5 f0 f1 f2 f3 f4 f5
          obtain ⟨_, c0, c1, c2, c3, c4, c5, f0, f1, f2, f3, f4, f5⟩ := M5.out.k
          go_wp2
          go_meet
          case rel => exact ⟨_, _, _, _, _, _, (((M5.out.set2 _).set3 _).set4 _).set5 _, hn1, hn2⟩
      · go_wp2
        go_meet
        case rel => exact ⟨_, _, _, _, _, _, M2.out.set1 _, hn1, hn2⟩
    · go_wp2_with fail
      refine (d_pick [-1, 65536, 9223372036854775807] 3 _ _ rfl (by decide) (by decide) M2.out.d).mono ?_
      rintro e w5 ⟨y, rfl, hy, d5, k5⟩
      have hy2 : -9223372036854775808 ≤ y ∧ y ≤ 9223372036854775807 := by
        simp only [List.mem_cons, List.not_mem_nil, or_false] at hy
        omega
      clear hy
      have M5 : Hid _ := M2.out.moved d5 k5
      clear d5 k5 c0 c1 c2 c3 c4 c5 f0 f1 f2 f3 f4 f5
      obtain ⟨_, c0, c1, c2, c3, c4, c5, f0, f1, f2, f3, f4, f5⟩ := M5.out.k
      go_wp2
      go_meet
      case rel => exact ⟨_, _, _, _, _, _, M5.out.set0 _, hy2.1, hy2.2⟩
  case rest =>
    obtain ⟨n, i, b, t, p, s, M7, hn8, hn9⟩ := hcut
    clear M2
    obtain ⟨_, c0, c1, c2, c3, c4, c5, _, _, _, _, _, _⟩ := M7.out.k
    obtain ⟨_, z0, z1, z2, z3, z4, z5, f0, f1, f2, f3, f4, f5⟩ := M7.out.z
    have hru := M7.out.ru
    have huq := M7.out.uq
    go_wp2
    refine bodyPost_ret (v := .agg #[.int .i64 n, .bool i, .int .i64 b, .int .i64 t, .int .i64 p, .int .i64 s]) (by simp [results, Try.results44, go_sem, z0, z1, z2, z3, z4, z5]) rfl ⟨_, _, _, _, _, _, rfl, ?_, ?_, hn8, hn9⟩
    · repeat' (first | (with_reducible exact M7.out.d) | (refine Drawn.setNew ?_ huq lB _ _))
    · repeat' (first | (with_reducible exact M7.out.kb) | (refine KeepBut.setNew ?_ (Nat.le_refl _) _ _))

end Go.Proofs.Ytcokcfgagbahbaa
