/- MemoryOk, MemoryNew and Filter of the program at all memories: what they answer. No condition. -/
import Derived.Test.YtfeoaegkhbjaeaaDoorMemF
import Derived.Test.YtfeoaegkhbjaeaaDoorWokA
import Derived.Test.YtfeoaegkhbjaeaaDoorMemN
namespace Go.Proofs.YtfeoaegkhbjaeaaDoor
open Go.ChangeShapes Go.WideShapes Go.ChangeAt Go.RowKit
set_option maxRecDepth 100000

theorem isNumber_any (n c : Int) (w : World) :
    Calls Tryd.prog 33 #[.int .i64 n, .int .i64 c] w fun e w' => e = .returned (.bool (decide (0 ≤ n ∧ n ≤ c - 1))) ∧ w' = w := by
  have hn : decide (0 ≤ n ∧ n ≤ c - 1) = (decide (0 ≤ n) && decide (n < c)) := by
    by_cases h0 : 0 ≤ n <;> by_cases h1 : n < c <;> simp [h0, h1] <;> omega
  rw [hn]
  clear hn
  by_cases h0 : 0 ≤ n <;> by_cases h1 : n < c
  all_goals
    simp only [h0, h1, decide_true, decide_false, Bool.and_false, Bool.and_true]
    go_enter Tryd.func33, Tryd.ntmps33
    go_wp2
    go_ret
    exact ⟨rfl, rfl⟩

set_option maxHeartbeats 4000000 in
theorem implMemoryOk_any (a : Option Addr) (n c : Nat) (a' : Option Addr) (n' c' : Nat) (L : List Wd) (G : List Bool) (w : World) (hM : MemS w a n a' n' L G) :
    Calls Tryd.prog 13 #[.agg #[.slice a n c, .slice a' n' c']] w fun e w' => e = .returned (.bool (mokB L G)) ∧ Below w.heap.size w w' := by
  have B0 : Hid (Below w.heap.size w (w.alloc (.cells #[.slice a n c, .slice a' n' c'] 27))) := (Below.refl _ _).alloc (Nat.le_refl _) _
  have S := hid_mk hM.ws
  have hn := hM.ws.2.1
  have hn' := hM.gs.2.1
  have hm := hM.ws.1
  have hm' := hM.gs.1
  unfold maxLen at hm hm'
  clear hM
  obtain ⟨z, Z⟩ : ∃ z, Hid (z = mokB L G) := ⟨_, rfl⟩
  rw [← Z.out]
  by_cases h1 : n = 24
  · by_cases h2 : n' = 24
    · subst h1 h2
      have ZA : Hid (z = L.all okW) := by
        rw [Z.out, mokB, hn, hn']; simp [Hid]
      clear Z
      have D0 := hid_mk (Duo.new w (.slice a 24 c) (.slice a' 24 c') 27)
      generalize hw1 : w.alloc (.cells #[.slice a 24 c, .slice a' 24 c'] 27) = w1 at B0 D0
      have s2 := implWordsOk_any a 24 c L w1 ((S.out.keep B0.out).mono B0.out.size)
      rw [← ZA.out] at s2
      have S2 := hid_mk s2
      have z1 := B0.out.size
      clear s2 ZA
      go_enter Tryd.func13, Tryd.ntmps13
      go_upto_region 1 with fail
      clear hw1
      obtain ⟨_, m0, m1, _, _⟩ := D0.out
      go_wp2_with (go_at_call 42; refine S2.out.mono ?_; rintro e w2 ⟨rfl, hb⟩; refine Hid.out ?_)
      refine Lib.hid ?_
      have B2 : Hid (Below w.heap.size w w2) := B0.out.trans (hb.mono z1)
      clear hb m0 m1 D0 S2
      cases z
      all_goals
        go_wp2
        go_ret
        exact ⟨rfl, B2.out⟩
    · have hz : z = false := by rw [Z.out, mokB, hn']; simp [h2]
      subst hz h1
      have hcm : ((n' : Int) == 24) = false := by simp; omega
      go_enter Tryd.func13, Tryd.ntmps13
      go_wp2
      go_ret
      exact ⟨rfl, B0.out⟩
  · have hz : z = false := by rw [Z.out, mokB, hn]; simp [h1]
    subst hz
    have hcm : ((n : Int) == 24) = false := by simp; omega
    go_enter Tryd.func13, Tryd.ntmps13
    go_wp2
    go_ret
    exact ⟨rfl, B0.out⟩

set_option maxHeartbeats 4000000 in
theorem implFilter_any (v0 : Value) (a' : Option Addr) (n' c' : Nat) (G : List Bool) (x : Wd) (w : World) (hG : SliceB w.heap.size w a' n' G) :
    Calls Tryd.prog 17 #[.agg #[v0, .slice a' n' c'], .agg #[.int .i64 x.n, .bool x.i, .int .i64 x.b, .int .i64 x.t, .int .i64 x.p, .int .i64 x.s]] w fun e w' => e = .returned (wdV (filW G x)) ∧ Below w.heap.size w w' := by
  have F0 := hid_mk (Fl.new w v0 (.slice a' n' c') x)
  have S := hid_mk hG
  have hn' := hG.2.1
  have hm' := hG.1
  unfold maxLen at hm'
  clear hG
  obtain ⟨z, Z⟩ : ∃ z, Hid (z = filW G x) := ⟨_, rfl⟩
  rw [← Z.out]
  generalize hw1 : ((w.alloc (.cells #[v0, .slice a' n' c'] 27)).alloc (.cells #[.int .i64 x.n, .bool x.i, .int .i64 x.b, .int .i64 x.t, .int .i64 x.p, .int .i64 x.s] 36)).alloc (.cells #[.int .i64 0, .bool false, .int .i64 0, .int .i64 0, .int .i64 0, .int .i64 0] 36) = w1 at F0
  go_enter Tryd.func17, Tryd.ntmps17
  go_upto_region 1 with fail
  clear hw1
  obtain ⟨_, m0, m1, _, _⟩ := F0.out.m
  obtain ⟨_, x0, x1, x2, x3, x4, x5, _, _, _, _, _, _⟩ := F0.out.x
  obtain ⟨_, z0, z1, z2, z3, z4, z5, f0, f1, f2, f3, f4, f5⟩ := F0.out.z
  cases hi : x.i with
  | false =>
    have hz : z = x := by rw [Z.out, filW, hi]; rfl
    subst hz
    rw [hi] at x1
    clear Z
    go_wp2
    refine bodyPost_ret (v := .agg #[.int .i64 z.n, .bool false, .int .i64 z.b, .int .i64 z.t, .int .i64 z.p, .int .i64 z.s]) (by simp [results, Tryd.results17, go_sem, z0, z1, z2, z3, z4, z5]) rfl ⟨by rw [wdV, hi], ?_⟩
    exact six_done F0.out.bel _ (by omega) _ _ _ _ _ _
  | true =>
    rw [hi] at x1
    have s1 := isNumber_any x.b (n' : Int)
    have ZG : Hid (z = bif goneB G x.b then bareW x else x) := by rw [Z.out, filW, hi]; exact hid_mk rfl
    clear Z
    by_cases hb : 0 ≤ x.b ∧ x.b ≤ (n' : Int) - 1
    · rw [decide_eq_true hb] at s1
      have S1 := hid_mk s1
      obtain ⟨k, hk⟩ : ∃ k : Nat, x.b = k := ⟨x.b.toNat, by omega⟩
      have hkn : k < n' := by omega
      obtain ⟨kb, o, g, rfl, hkb, hg, hc⟩ := (S.out.keep F0.out.bel).at hkn
      have hgo : goneB G x.b = g := by
        rw [goneB, hn', decide_eq_true hb, hk]
        simp [List.getD, hg]
      rw [hgo] at ZG
      have hb0 : 0 ≤ x.b := hb.1
      have hb1 : x.b < (n' : Int) := by omega
      have hbt : x.b.toNat = k := by omega
      clear s1 hgo hg hb hk
      cases g
      · have hz : z = x := ZG.out
        subst hz
        clear ZG
        go_wp2_with (go_at_call 33; refine (S1.out _).mono ?_; rintro e w' ⟨rfl, rfl⟩)
        go_wp2
        refine bodyPost_ret (v := .agg #[.int .i64 z.n, .bool true, .int .i64 z.b, .int .i64 z.t, .int .i64 z.p, .int .i64 z.s]) (by simp [results, Tryd.results17, go_sem, z0, z1, z2, z3, z4, z5]) rfl ⟨by rw [wdV, hi], ?_⟩
        exact six_done F0.out.bel _ (by omega) _ _ _ _ _ _
      · have hz : z = bareW x := ZG.out
        subst hz
        have s2 := implBare_any x.n true x.b x.t x.p x.s
        have S2 := hid_mk s2
        clear ZG s2
        go_wp2_with (go_at_call 33; refine (S1.out _).mono ?_; rintro e w' ⟨rfl, rfl⟩)
        go_wp2_with (go_at_call 45; refine (S2.out _).mono ?_; rintro e w3 ⟨rfl, hb3⟩; refine Hid.out ?_)
        refine Lib.hid ?_
        have F3 := hid_mk (F0.out.next hb3)
        clear hb3 m0 m1 x0 x1 x2 x3 x4 x5 z0 z1 z2 z3 z4 z5 f0 f1 f2 f3 f4 f5
        obtain ⟨_, z0, z1, z2, z3, z4, z5, f0, f1, f2, f3, f4, f5⟩ := F3.out.z
        go_wp2
        refine bodyPost_ret (v := wdV (bareW x)) (by simp [results, Tryd.results17, go_sem, z0, z1, z2, z3, z4, z5, wdV, bareW]) rfl ⟨rfl, ?_⟩
        exact six_done F3.out.bel _ (by omega) _ _ _ _ _ _
    · rw [decide_eq_false hb] at s1
      have S1 := hid_mk s1
      have hz : z = x := by rw [ZG.out, goneB, hn', decide_eq_false hb]; rfl
      subst hz
      clear ZG s1 hb
      go_wp2_with (go_at_call 33; refine (S1.out _).mono ?_; rintro e w' ⟨rfl, rfl⟩)
      go_wp2
      refine bodyPost_ret (v := .agg #[.int .i64 z.n, .bool true, .int .i64 z.b, .int .i64 z.t, .int .i64 z.p, .int .i64 z.s]) (by simp [results, Tryd.results17, go_sem, z0, z1, z2, z3, z4, z5]) rfl ⟨by rw [wdV, hi], ?_⟩
      exact six_done F0.out.bel _ (by omega) _ _ _ _ _ _
end Go.Proofs.YtfeoaegkhbjaeaaDoor
