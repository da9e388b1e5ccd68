/- MemoryOk and Filter of the specification at all memories: what they answer. No condition. -/
import Derived.Test.YtfeoaegkhbjaeaaDoorMem
import Derived.Lib.Hide
namespace Go.Proofs.YtfeoaegkhbjaeaaDoor
open Go.ChangeShapes Go.WideShapes Go.ChangeAt Go.RowKit
set_option maxRecDepth 100000

theorem allW_take {L : List Wd} {k : Nat} {x : Wd} (h : L[k]? = some x) (h0 : (L.take k).all okW = true) (h1 : okW x = true) : (L.take (k + 1)).all okW = true := by
  rw [List.take_add_one, h]; simp [h0, h1]
theorem allW_at {L : List Wd} {k : Nat} {x : Wd} (h : L[k]? = some x) (h1 : okW x = false) : L.all okW = false := by
  have hm := List.mem_of_getElem? h
  rw [← Bool.not_eq_true]
  intro ha
  have := List.all_eq_true.1 ha x hm
  rw [h1] at this
  cases this

set_option maxHeartbeats 4000000 in
theorem specMemoryOk_any (a : Option Addr) (n c : Nat) (a' : Option Addr) (n' c' : Nat) (L : List Wd) (G : List Bool) (w : World) (hM : MemS w a n a' n' L G) :
    Calls Tryd.prog 14 #[.agg #[.slice a n c, .slice a' n' c']] w fun e w' => e = .returned (.bool (mokB L G)) ∧ Below w.heap.size w w' := by
  have B0 : Hid (Below w.heap.size w (w.alloc (.cells #[.slice a n c, .slice a' n' c'] 27))) := (Below.refl _ _).alloc (Nat.le_refl _) _
  have D0 := hid_mk (Duo.new w (.slice a n c) (.slice a' n' c') 27)
  have S := hid_mk hM.ws
  have hn := hM.ws.2.1
  have hn' := hM.gs.2.1
  have hm := hM.ws.1
  have hm' := hM.gs.1
  unfold maxLen at hm hm'
  clear hM
  obtain ⟨z, Z⟩ : ∃ z, Hid (z = mokB L G) := ⟨_, rfl⟩
  rw [← Z.out]
  by_cases h1 : n = 24
  · by_cases h2 : n' = 24
    · subst h1 h2
      have ZA : Hid (z = L.all okW) := by
        rw [Z.out, mokB, hn, hn']; simp [Hid]
      clear Z
      go_enter Tryd.func14, Tryd.ntmps14
      go_wp2
      generalize w.alloc (.cells #[.slice a 24 c, .slice a' 24 c'] 27) = w1 at B0 D0
      go_loopw [3] (fun cc wr => ∃ k : Nat, k ≤ 24 ∧ cc = .int .i64 (k : Int) ∧ Hid ((L.take k).all okW = true) ∧ Hid (Duo wr w.heap.size (.slice a 24 c) (.slice a' 24 c')) ∧ Hid (Below w.heap.size w wr)) (fun cc _ => 24 - (intOf cc).toNat)
      case atStart => exact ⟨0, Nat.zero_le _, rfl, by simp [Hid], D0.out, B0.out⟩
      case round =>
        clear D0 B0
        obtain ⟨k, hk, rfl, A, D, B⟩ := hrel
        by_cases hlt : k < 24
        · obtain ⟨_, m0, m1, _, _⟩ := D.out
          obtain ⟨kb, o, x, rfl, hkb, hx, hat⟩ := (S.out.keep B.out).at hlt
          obtain ⟨d0, d1, d2, d3, d4, d5⟩ := hat
          have s2 := specWordOk_any x.n x.i x.b x.t x.p x.s
          have hO : Hid (okW x = wokB x.n x.i x.b x.t x.p x.s) := rfl
          generalize wokB x.n x.i x.b x.t x.p x.s = v at s2 hO
          have S2 := hid_mk s2
          have HX := hid_mk hx
          have zB := B.out.size
          clear hx s2
          go_wp2_with (go_at_call 43; refine (S2.out _).mono ?_; rintro e w2 ⟨rfl, hb⟩; refine Hid.out ?_)
          refine Lib.hid ?_
          have B2 : Hid (Below w.heap.size w w2) := B.out.trans (hb.mono zB)
          have D2 := hid_mk (D.out.below hb)
          clear hb d0 d1 d2 d3 d4 d5 m0 m1
          cases v
          · have hz : z = false := ZA.out.trans (allW_at HX.out hO.out)
            subst hz
            go_wp2
            go_ret
            exact ⟨rfl, B2.out⟩
          · go_wp2
            go_roundw
            case rel => exact ⟨k + 1, hlt, by go_num, allW_take HX.out A.out hO.out, D2.out, B2.out⟩
            case measure => simp [intOf]; omega
        · obtain rfl : k = 24 := by omega
          have hz : z = true := by
            have h := A.out
            rw [List.take_of_length_le (by omega)] at h
            exact ZA.out.trans h
          subst hz
          go_wp2
          go_ret
          exact ⟨rfl, B.out⟩
    · have hz : z = false := by rw [Z.out, mokB, hn']; simp [h2]
      subst hz h1
      have hcm : ((n' : Int) != 24) = true := by simp; omega
      go_enter Tryd.func14, Tryd.ntmps14
      go_wp2
      go_ret
      exact ⟨rfl, B0.out⟩
  · have hz : z = false := by rw [Z.out, mokB, hn]; simp [h1]
    subst hz
    have hcm : ((n : Int) != 24) = true := by simp; omega
    go_enter Tryd.func14, Tryd.ntmps14
    go_wp2
    go_ret
    exact ⟨rfl, B0.out⟩

/-- A memory's and a word's block, the answer's behind them; nothing that was there has turned. -/
structure Fl (w0 : World) (v0 v1 : Value) (x : Wd) (w : World) : Prop where
  m : Duo w w0.heap.size v0 v1
  x : Six w (w0.heap.size + 1) x.n x.i x.b x.t x.p x.s
  z : Six w (w0.heap.size + 1 + 1) 0 false 0 0 0 0
  bel : Below w0.heap.size w0 w
theorem Fl.new (w : World) (v0 v1 : Value) (x : Wd) : Fl w v0 v1 x (((w.alloc (.cells #[v0, v1] 27)).alloc (.cells #[.int .i64 x.n, .bool x.i, .int .i64 x.b, .int .i64 x.t, .int .i64 x.p, .int .i64 x.s] 36)).alloc (.cells #[.int .i64 0, .bool false, .int .i64 0, .int .i64 0, .int .i64 0, .int .i64 0] 36)) :=
  ⟨((Duo.new w v0 v1 _).alloc _).alloc _, (Six.second w _ x.n x.i x.b x.t x.p x.s _).alloc _, Six.third w _ _ 0 false 0 0 0 0 _, (((Below.refl _ w).alloc (Nat.le_refl _) _).alloc (by simp) _).alloc (by simp; omega) _⟩
theorem Fl.next {w0 w w' : World} {v0 v1 : Value} {x : Wd} (h : Fl w0 v0 v1 x w) (hb : Below w.heap.size w w') : Fl w0 v0 v1 x w' :=
  ⟨h.m.below hb, h.x.below hb, h.z.below hb, h.bel.trans (hb.mono h.bel.size)⟩
theorem six_done {w0 w : World} (hb : Below w0.heap.size w0 w) (r : Nat) (hr : w0.heap.size ≤ r) (v0 v1 v2 v3 v4 v5 : Value) :
    Below w0.heap.size w0 ((((((w.setCell ⟨r, 0, none⟩ v0).setCell ⟨r, 1, none⟩ v1).setCell ⟨r, 2, none⟩ v2).setCell ⟨r, 3, none⟩ v3).setCell ⟨r, 4, none⟩ v4).setCell ⟨r, 5, none⟩ v5) :=
  Below.setCell (Below.setCell (Below.setCell (Below.setCell (Below.setCell (Below.setCell hb hr _) hr _) hr _) hr _) hr _) hr _

set_option maxHeartbeats 4000000 in
theorem specFilter_any (v0 : Value) (a' : Option Addr) (n' c' : Nat) (G : List Bool) (x : Wd) (w : World) (hG : SliceB w.heap.size w a' n' G) :
    Calls Tryd.prog 18 #[.agg #[v0, .slice a' n' c'], .agg #[.int .i64 x.n, .bool x.i, .int .i64 x.b, .int .i64 x.t, .int .i64 x.p, .int .i64 x.s]] w fun e w' => e = .returned (wdV (filW G x)) ∧ Below w.heap.size w w' := by
  have F0 := hid_mk (Fl.new w v0 (.slice a' n' c') x)
  have S := hid_mk hG
  have hn' := hG.2.1
  have hm' := hG.1
  unfold maxLen at hm'
  clear hG
  obtain ⟨z, Z⟩ : ∃ z, Hid (z = filW G x) := ⟨_, rfl⟩
  rw [← Z.out]
  generalize hw1 : ((w.alloc (.cells #[v0, .slice a' n' c'] 27)).alloc (.cells #[.int .i64 x.n, .bool x.i, .int .i64 x.b, .int .i64 x.t, .int .i64 x.p, .int .i64 x.s] 36)).alloc (.cells #[.int .i64 0, .bool false, .int .i64 0, .int .i64 0, .int .i64 0, .int .i64 0] 36) = w1 at F0
  go_enter Tryd.func18, Tryd.ntmps18
  go_upto_region 1 with fail
  clear hw1
  obtain ⟨_, m0, m1, _, _⟩ := F0.out.m
  obtain ⟨_, x0, x1, x2, x3, x4, x5, _, _, _, _, _, _⟩ := F0.out.x
  obtain ⟨_, z0, z1, z2, z3, z4, z5, f0, f1, f2, f3, f4, f5⟩ := F0.out.z
  cases hi : x.i with
  | false =>
    have hz : z = x := by rw [Z.out, filW, hi]; rfl
    subst hz
    rw [hi] at x1
    clear Z
    go_wp2
    refine bodyPost_ret (v := .agg #[.int .i64 z.n, .bool false, .int .i64 z.b, .int .i64 z.t, .int .i64 z.p, .int .i64 z.s]) (by simp [results, Tryd.results18, go_sem, z0, z1, z2, z3, z4, z5]) rfl ⟨by rw [wdV, hi], ?_⟩
    exact six_done F0.out.bel _ (by omega) _ _ _ _ _ _
  | true =>
    rw [hi] at x1
    have s1 := in_any x.b 0 ((n' : Int) - 1)
    have ZG : Hid (z = bif goneB G x.b then bareW x else x) := by rw [Z.out, filW, hi]; exact hid_mk rfl
    clear Z
    by_cases hb : 0 ≤ x.b ∧ x.b ≤ (n' : Int) - 1
    · rw [decide_eq_true hb] at s1
      have S1 := hid_mk s1
      obtain ⟨k, hk⟩ : ∃ k : Nat, x.b = k := ⟨x.b.toNat, by omega⟩
      have hkn : k < n' := by omega
      obtain ⟨kb, o, g, rfl, hkb, hg, hc⟩ := (S.out.keep F0.out.bel).at hkn
      have hgo : goneB G x.b = g := by
        rw [goneB, hn', decide_eq_true hb, hk]
        simp [List.getD, hg]
      rw [hgo] at ZG
      have hb0 : 0 ≤ x.b := hb.1
      have hb1 : x.b < (n' : Int) := by omega
      have hbt : x.b.toNat = k := by omega
      clear s1 hgo hg hb hk
      cases g
      · have hz : z = x := ZG.out
        subst hz
        clear ZG
        go_wp2_with (go_at_call 38; refine (S1.out _).mono ?_; rintro e w' ⟨rfl, rfl⟩)
        go_wp2
        refine bodyPost_ret (v := .agg #[.int .i64 z.n, .bool true, .int .i64 z.b, .int .i64 z.t, .int .i64 z.p, .int .i64 z.s]) (by simp [results, Tryd.results18, go_sem, z0, z1, z2, z3, z4, z5]) rfl ⟨by rw [wdV, hi], ?_⟩
        exact six_done F0.out.bel _ (by omega) _ _ _ _ _ _
      · have hz : z = bareW x := ZG.out
        subst hz
        have s2 := specBare_any x.n true x.b x.t x.p x.s
        have S2 := hid_mk s2
        clear ZG s2
        go_wp2_with (go_at_call 38; refine (S1.out _).mono ?_; rintro e w' ⟨rfl, rfl⟩)
        go_wp2_with (go_at_call 46; refine (S2.out _).mono ?_; rintro e w3 ⟨rfl, hb3⟩; refine Hid.out ?_)
        refine Lib.hid ?_
        have F3 := hid_mk (F0.out.next hb3)
        clear hb3 m0 m1 x0 x1 x2 x3 x4 x5 z0 z1 z2 z3 z4 z5 f0 f1 f2 f3 f4 f5
        obtain ⟨_, z0, z1, z2, z3, z4, z5, f0, f1, f2, f3, f4, f5⟩ := F3.out.z
        go_wp2
        refine bodyPost_ret (v := wdV (bareW x)) (by simp [results, Tryd.results18, go_sem, z0, z1, z2, z3, z4, z5, wdV, bareW]) rfl ⟨rfl, ?_⟩
        exact six_done F3.out.bel _ (by omega) _ _ _ _ _ _
    · rw [decide_eq_false hb] at s1
      have S1 := hid_mk s1
      have hz : z = x := by rw [ZG.out, goneB, hn', decide_eq_false hb]; rfl
      subst hz
      clear ZG s1 hb
      go_wp2_with (go_at_call 38; refine (S1.out _).mono ?_; rintro e w' ⟨rfl, rfl⟩)
      go_wp2
      refine bodyPost_ret (v := .agg #[.int .i64 z.n, .bool true, .int .i64 z.b, .int .i64 z.t, .int .i64 z.p, .int .i64 z.s]) (by simp [results, Tryd.results18, go_sem, z0, z1, z2, z3, z4, z5]) rfl ⟨by rw [wdV, hi], ?_⟩
      exact six_done F0.out.bel _ (by omega) _ _ _ _ _ _
end Go.Proofs.YtfeoaegkhbjaeaaDoor
