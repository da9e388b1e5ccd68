/- DrawUnders: it returns a Word and a list of Words, in new memory, and turns nothing that was there. -/
import Derived.Test.YtejpeikfibaapaaWordO
namespace Go.Proofs.Ytejpeikfibaapaa
open Go.ChangeShapes Go.WideShapes Go.ChangeAt Go.RowKit

set_option maxRecDepth 100000 in
set_option maxHeartbeats 4000000 in
theorem drawUnders_any {w : World} {a : Option Addr} {len cap : Nat} (hc : Code8 w.heap.size w a len) :
    Calls Try.prog 10 #[.slice a len cap] w fun e w' => ∃ (n : Int) (i : Bool) (b t p s : Int) (ad : Option Addr) (m c : Nat) (L : List Wd), e = .returned (.tuple #[.agg #[.int .i64 n, .bool i, .int .i64 b, .int .i64 t, .int .i64 p, .int .i64 s], .slice ad m c]) ∧ SliceW w'.heap.size w' ad m L ∧ Below w.heap.size w w' := by
  have bz : Below w.heap.size w (w.alloc (.cells #[.int .i64 0, .bool false, .int .i64 0, .int .i64 0, .int .i64 0, .int .i64 0] 27)) := (Below.refl _ _).alloc (Nat.le_refl _) _
  have hs : (w.alloc (.cells #[.int .i64 0, .bool false, .int .i64 0, .int .i64 0, .int .i64 0, .int .i64 0] 27)).heap.size = w.heap.size + 1 := by simp
  have C : Hid (Code8 (w.heap.size + 1) (w.alloc (.cells #[.int .i64 0, .bool false, .int .i64 0, .int .i64 0, .int .i64 0, .int .i64 0] 27)) a len) := hs ▸ hc.later bz
  clear hc bz
  go_enter Try.func10, Try.ntmps10
  go_wp2_with fail
  refine (d_new (by rw [hs]; exact C.out)).mono ?_
  rw [hs]
  rintro e w1 ⟨rfl, d1, b1⟩
  have z1 := b1.size
  have F1 : Six w1 w.heap.size 0 false 0 0 0 0 := (Six.new w 0 false 0 0 0 0 27).below (by rw [hs]; exact b1)
  have K1 : Below w.heap.size w w1 := ((Below.refl _ w).alloc (Nat.le_refl _) _).trans (b1.mono (by omega))
  have L1 : Hid (Lst w (w.heap.size + 1) w.heap.size a len cap (.slice (some ⟨w1.heap.size, 0, none⟩) 0 0) [] (w1.alloc (.cells #[] 27))) :=
    ⟨World.ownsRow_made w1 #[] 0 d1.lt (Nat.zero_le _) rfl, d1.alloc _, F1.alloc _, K1.alloc K1.size _, Nat.lt_succ_self _, Nat.le_refl _⟩
  clear d1 b1 C hs F1 K1
  go_wp2
  go_loopw [5, 6] (fun v c wr => ∃ (k : Nat) (L : List Wd), k ≤ 4 ∧ L.length = k ∧ c = .int .i64 k ∧ Hid (Lst w (w.heap.size + 1) w.heap.size a len cap v L wr)) (fun _ c _ => 4 - (intOf c).toNat)
  case atStart =>
    exact ⟨0, [], Nat.zero_le _, rfl, rfl, L1.out⟩
  case round =>
    clear L1
    obtain ⟨k, L, hk, hL, rfl, hl⟩ := hrel
    go_wp2_with fail
    refine (d_below 4 hl.out.d).mono ?_
    rintro e w2 ⟨x, rfl, _, hx, d2, k2⟩
    obtain ⟨x0, x3⟩ := hx (by omega)
    have l2 : Hid _ := hl.out.moved d2 k2
    clear d2 k2 hx hl
    by_cases hlt : (k : Int) < x
    · go_wp2_with fail
      refine (d_word l2.out.d).mono ?_
      rintro e w3 ⟨n, i, b, t, p, s, rfl, d3, k3⟩
      have l3 : Hid _ := l2.out.moved d3 k3
      clear d3 k3 l2
      obtain ⟨i0, hi, hz0, hz1, hz2⟩ := info_parts infoW
      have l4 : Hid _ := l3.out.alloc (.cells #[.int .i64 n, .bool i, .int .i64 b, .int .i64 t, .int .i64 p, .int .i64 s] 27)
      have z3 := l3.out.d.lt
      have HI : Hid _ := hi
      have HZ0 : Hid _ := hz0
      have HZ1 : Hid _ := hz1
      have HZ2 : Hid _ := hz2
      clear hi hz0 hz1 hz2
      go_wp2_with (first
        | (at_builtin; refine wpList_append_own _ rfl _ _ 28 rfl (w.heap.size + 1 + 1) 27 i0 _ 6 48 Try.underlying28 HI.out HZ0.out HZ1.out HZ2.out rfl (by decide) _ _ _ rfl l4.out.own ⟨w3.heap.size, 0, none⟩ 1 1 [.int .i64 n, .bool i, .int .i64 b, .int .i64 t, .int .i64 p, .int .i64 s] rfl rfl ?c1 ?c2 ?c3 ?c4 ?c5 ?_))
      case c1 =>
        intro j u hj
        have h6 := (Six.new w3 n i b t p s 27)
        rw [Go.WideShapes.add_plain, Nat.zero_add]
        exact (WordAt.vs (x := ⟨n, i, b, t, p, s⟩) (o := 0) ⟨h6.c0, h6.c1, h6.c2, h6.c3, h6.c4, h6.c5⟩ j u hj) |> fun h => by rwa [Nat.zero_add] at h
      case c2 =>
        intro u hu
        simp at hu
        rcases hu with rfl | rfl | rfl | rfl | rfl | rfl <;> rfl
      case c3 => unfold maxLen; omega
      case c4 => omega
      case c5 => rw [World.size_alloc]; omega
      · intro v' w5 own5 grow5 _
        have l5 : Hid (Lst w (w.heap.size + 1) w.heap.size a len cap v' (L ++ [⟨n, i, b, t, p, s⟩]) w5) := l4.out.appended (by rw [hL]; exact own5) grow5
        clear own5 grow5 l3 l4
        go_wp2
        go_roundw
        case rel => exact ⟨k + 1, _, by omega, by rw [List.length_append, hL]; rfl, by go_num, l5.out⟩
        case measure => simp [intOf]; omega
    · subst hL
      go_wp2_with fail
      refine (d_word l2.out.d).mono ?_
      rintro e w3 ⟨n, i, b, t, p, s, rfl, d3, k3⟩
      have l3 := l2.out.moved d3 k3
      have f3 : Hid _ := l3.word n i b t p s 27
      obtain ⟨ad, c', rfl, _⟩ := owns_slice l3.own
      clear d3 k3 l2 l3 hlt x0 x3
      obtain ⟨r, hr⟩ : ∃ r, r = w3.heap.size := ⟨_, rfl⟩
      obtain ⟨w4, hw4⟩ : ∃ w4, w4 = w3.alloc (.cells #[.int .i64 n, .bool i, .int .i64 b, .int .i64 t, .int .i64 p, .int .i64 s] 27) := ⟨_, rfl⟩
      go_upto_region 8 with fail
      rw [← hr] at f3 ⊢
      rw [← hw4] at f3 ⊢
      clear hr hw4
      by_cases h0 : 0 < L.length
      · go_wp2_with fail
        refine (d_once 2 f3.out.l.d).mono ?_
        rintro e w5 ⟨o, rfl, d5, k5⟩
        have f5 : Hid _ := f3.out.moved d5 k5
        clear d5 k5
        cases o
        · clear f3
          obtain ⟨_, c0, c1, c2, c3, c4, c5, _, _, _, _, _, _⟩ := f5.out.k
          obtain ⟨_, y0, y1, y2, y3, y4, y5, g0, g1, g2, g3, g4, g5⟩ := f5.out.l.z
          have hqr := f5.out.qr
          go_wp2
          refine bodyPost_ret (v := .tuple #[.agg #[.int .i64 n, .bool i, .int .i64 b, .int .i64 t, .int .i64 p, .int .i64 s], .slice ad L.length c']) (by simp [results, Try.results10, go_sem, y0, y1, y2, y3, y4, y5]) rfl ⟨n, i, b, t, p, s, ad, L.length, c', L, rfl, slice_of_own (base := w.heap.size + 1 + 1) (c := c') ?_, ?_⟩
          · repeat' (first | (with_reducible exact f5.out.l.own) | (refine own_set ?_ (Nat.lt_succ_self _) _ _))
          · repeat' (first | (with_reducible exact f5.out.l.bel) | (refine Below.setCell ?_ (by show w.heap.size ≤ w.heap.size; exact Nat.le_refl _) _))
        · obtain ⟨kb, ob, x, rfl, hkb, hx, hat⟩ := (slice_of_own f5.out.l.own).at h0
          have hne : kb ≠ r := fun he => f5.out.ne (by rw [he]; rfl)
          rw [Nat.zero_mul, Nat.add_zero] at hat
          obtain ⟨d0, d1, d2, d3, d4, d5⟩ := hat
          obtain ⟨_, c0, c1, c2, c3, c4, c5, g0, g1, g2, g3, g4, g5⟩ := f5.out.k
          have f6 : Hid _ := (((((f5.out.set0 x.n).set1 x.i).set2 x.b).set3 x.t).set4 x.p).set5 x.s
          have f7 : Hid _ := f6.out.drew
          go_wp2_with fail
          obtain ⟨w6, hw6⟩ : ∃ w6, w6 = (((((w5.setCell ⟨r, 0, none⟩ (.int .i64 x.n)).setCell ⟨r, 1, none⟩ (.bool x.i)).setCell ⟨r, 2, none⟩ (.int .i64 x.b)).setCell ⟨r, 3, none⟩ (.int .i64 x.t)).setCell ⟨r, 4, none⟩ (.int .i64 x.p)).setCell ⟨r, 5, none⟩ (.int .i64 x.s) := ⟨_, rfl⟩
          rw [← hw6] at f6 f7 ⊢
          clear hw6 c0 c1 c2 c3 c4 c5 g0 g1 g2 g3 g4 g5 d0 d1 d2 d3 d4 d5
          obtain ⟨_, c0, c1, c2, c3, c4, c5, g0, g1, g2, g3, g4, g5⟩ := f6.out.k
          go_region_with (first | (go_at_call 32; refine (d_below 64 f7.out.l.d).mono ?_; rintro e w8 ⟨y, rfl, _, _, d8, k8⟩; have f8 : Hid _ := f7.out.moved d8 k8; clear d8 k8 c0 c1 c2 c3 c4 c5 g0 g1 g2 g3 g4 g5; obtain ⟨_, c0, c1, c2, c3, c4, c5, g0, g1, g2, g3, g4, g5⟩ := f8.out.k))
          all_goals
            have f9 : Hid _ := f8.out.set4 (bits .and .i64 x.p y)
            clear c0 c1 c2 c3 c4 c5 g0 g1 g2 g3 g4 g5
            obtain ⟨_, c0, c1, c2, c3, c4, c5, _, _, _, _, _, _⟩ := f9.out.k
            obtain ⟨_, y0, y1, y2, y3, y4, y5, g0, g1, g2, g3, g4, g5⟩ := f9.out.l.z
            have hqr := f9.out.qr
            go_wp2
            refine bodyPost_ret (v := .tuple #[.agg #[.int .i64 x.n, .bool x.i, .int .i64 x.b, .int .i64 x.t, .int .i64 (bits .and .i64 x.p y), .int .i64 x.s], .slice (some ⟨kb, ob, none⟩) L.length c']) (by simp [results, Try.results10, go_sem, y0, y1, y2, y3, y4, y5]) rfl ⟨x.n, x.i, x.b, x.t, (bits .and .i64 x.p y), x.s, (some ⟨kb, ob, none⟩), L.length, c', L, rfl, slice_of_own (base := w.heap.size + 1 + 1) (c := c') ?_, ?_⟩
            · repeat' (first | (with_reducible exact f9.out.l.own) | (refine own_set ?_ (Nat.lt_succ_self _) _ _))
            · repeat' (first | (with_reducible exact f9.out.l.bel) | (refine Below.setCell ?_ (by show w.heap.size ≤ w.heap.size; exact Nat.le_refl _) _))
      · obtain ⟨_, c0, c1, c2, c3, c4, c5, _, _, _, _, _, _⟩ := f3.out.k
        obtain ⟨_, y0, y1, y2, y3, y4, y5, g0, g1, g2, g3, g4, g5⟩ := f3.out.l.z
        have hqr := f3.out.qr
        go_wp2
        refine bodyPost_ret (v := .tuple #[.agg #[.int .i64 n, .bool i, .int .i64 b, .int .i64 t, .int .i64 p, .int .i64 s], .slice ad L.length c']) (by simp [results, Try.results10, go_sem, y0, y1, y2, y3, y4, y5]) rfl ⟨n, i, b, t, p, s, ad, L.length, c', L, rfl, slice_of_own (base := w.heap.size + 1 + 1) (c := c') ?_, ?_⟩
        · repeat' (first | (with_reducible exact f3.out.l.own) | (refine own_set ?_ (Nat.lt_succ_self _) _ _))
        · repeat' (first | (with_reducible exact f3.out.l.bel) | (refine Below.setCell ?_ (by show w.heap.size ≤ w.heap.size; exact Nat.le_refl _) _))
end Go.Proofs.Ytejpeikfibaapaa
