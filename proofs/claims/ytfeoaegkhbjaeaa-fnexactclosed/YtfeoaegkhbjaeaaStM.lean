/- szState, eqState, markState and heldState of the laws, and what they ask: what is marked is held. No condition but that the lists are no longer than the law lets them be. -/
import Derived.Test.YtfeoaegkhbjaeaaCel
import Derived.Test.YtfeoaegkhbjaeaaMarkA
namespace Go.Proofs.Ytfeoaegkhbjaeaa
open Go.ChangeShapes Go.WideShapes Go.ChangeAt Go.RowKit
set_option maxRecDepth 100000

set_option maxHeartbeats 400000 in
theorem szWordS_at (a : Option Addr) (len cap : Nat) (m : Int) (hm0 : 0 ≤ m) (hm1 : m ≤ 1048576) (w : World) (hl : len ≤ maxLen) :
    Calls Try.prog 26 #[.slice a len cap, .int .i64 m] w fun e w' => e = .returned (.int .i64 (if (len : Int) ≤ m then m - (len : Int) else -1)) ∧ w' = w := by
  unfold maxLen at hl
  by_cases h : (len : Int) ≤ m
  · rw [if_pos h]
    go_enter Try.func26, Try.ntmps26
    go_wp2
    go_ret
    exact ⟨rfl, rfl⟩
  · rw [if_neg h]
    go_enter Try.func26, Try.ntmps26
    go_wp2
    go_ret
    exact ⟨rfl, rfl⟩

set_option maxHeartbeats 2000000 in
theorem szMemory_at (a : Option Addr) (n c : Nat) (a' : Option Addr) (n' c' : Nat) (m : Int) (hm0 : 0 ≤ m) (hm1 : m ≤ 1048576) (hn : n ≤ maxLen) (hn' : n' ≤ maxLen) (w : World) :
    Calls Try.prog 8 #[.agg #[.slice a n c, .slice a' n' c'], .int .i64 m] w fun e w' => e = .returned (.int .i64 (if (n : Int) + (n' : Int) ≤ m then m - (n : Int) - (n' : Int) else -1)) ∧ Below w.heap.size w w' := by
  have M0 := hid_mk (Mb.new w (.slice a n c) (.slice a' n' c') 25)
  have s1 := fun w => szWordS_at a n c m hm0 hm1 w hn
  by_cases h1 : (n : Int) ≤ m
  · have s2 := fun w => szBoolS_any a' n' c' (m - (n : Int)) (by omega) (by omega) w hn'
    simp only [if_pos h1] at s1
    obtain ⟨l, hl⟩ : ∃ l : Int, l = m - (n : Int) := ⟨_, rfl⟩
    rw [← hl] at s1 s2
    have hl0 : 0 ≤ l := by omega
    have hl1 : l ≤ 1048576 := by omega
    by_cases h2 : (n : Int) + (n' : Int) ≤ m
    · have h3 : (n' : Int) ≤ l := by omega
      rw [if_pos h2, show m - (n : Int) - (n' : Int) = l - (n' : Int) by omega]
      simp only [if_pos h3] at s2
      have S1 := hid_mk s1
      have S2 := hid_mk s2
      obtain ⟨u, hu⟩ : ∃ u : Int, u = l - (n' : Int) := ⟨_, rfl⟩
      rw [← hu] at S2 ⊢
      have hu0 : 0 ≤ u := by omega
      clear s1 s2 hl hu hn hn' h1 h2 h3
      go_enter Try.func8, Try.ntmps8
      go_wp2_with (go_at_call 26; refine (S1.out _).mono ?_; rintro e w1 ⟨rfl, rfl⟩)
      go_wp2_with (go_at_call 27; refine (S2.out _).mono ?_; rintro e w1 ⟨rfl, rfl⟩)
      go_wp2
      go_ret
      exact ⟨rfl, M0.out.bel⟩
    · have h3 : ¬ (n' : Int) ≤ l := by omega
      rw [if_neg h2]
      simp only [if_neg h3] at s2
      have S1 := hid_mk s1
      have S2 := hid_mk s2
      clear s1 s2 hl hn hn' h1 h2 h3
      go_enter Try.func8, Try.ntmps8
      go_wp2_with (go_at_call 26; refine (S1.out _).mono ?_; rintro e w1 ⟨rfl, rfl⟩)
      go_wp2_with (go_at_call 27; refine (S2.out _).mono ?_; rintro e w1 ⟨rfl, rfl⟩)
      go_wp2
      go_ret
      exact ⟨rfl, M0.out.bel⟩
  · rw [if_neg (by omega)]
    simp only [if_neg h1] at s1
    have S1 := hid_mk s1
    clear s1
    go_enter Try.func8, Try.ntmps8
    go_wp2_with (go_at_call 26; refine (S1.out _).mono ?_; rintro e w1 ⟨rfl, rfl⟩)
    go_wp2
    go_ret
    exact ⟨rfl, M0.out.bel⟩

/-- A state's block beside what was there at first. -/
theorem cel_new (w : World) (vs : List Value) (T : TypeId) : Hid (Hold w (w.alloc (.cells vs.toArray T)) [celF w.heap.size vs]) := ((Hold.new w).alloc _).push (celF w.heap.size vs) (Cel.new w vs T)


set_option maxHeartbeats 4000000 in
theorem szState_at (a : Option Addr) (n c : Nat) (x : Wd) (a1 : Option Addr) (n1 c1 : Nat) (a2 : Option Addr) (n2 c2 : Nat) (t : Int) (m : Int) (hm0 : 0 ≤ m) (hm1 : m ≤ 1048576) (hn : n ≤ maxLen) (hn1 : n1 ≤ maxLen) (hn2 : n2 ≤ maxLen) (w : World) :
    Calls Try.prog 19 #[.agg #[.slice a n c, .int .i64 x.n, .bool x.i, .int .i64 x.b, .int .i64 x.t, .int .i64 x.p, .int .i64 x.s, .slice a1 n1 c1, .slice a2 n2 c2, .int .i64 t], .int .i64 m] w fun e w' => e = .returned (.int .i64 (if (n : Int) + (n1 : Int) + (n2 : Int) ≤ m then m - (n : Int) - (n1 : Int) - (n2 : Int) else -1)) ∧ Below w.heap.size w w' := by
  have H := cel_new w (stl a n c x a1 n1 c1 a2 n2 c2 t) 42
  have s1 := fun w => szWordS_at a n c m hm0 hm1 w hn
  obtain ⟨z, Z⟩ : ∃ z : Int, Hid (z = if (n : Int) + (n1 : Int) + (n2 : Int) ≤ m then m - (n : Int) - (n1 : Int) - (n2 : Int) else -1) := ⟨_, rfl⟩
  rw [← Z.out]
  generalize hw1 : w.alloc (.cells (stl a n c x a1 n1 c1 a2 n2 c2 t).toArray 42) = w1 at H
  by_cases h1 : (n : Int) ≤ m
  · simp only [if_pos h1] at s1
    obtain ⟨l, hl⟩ : ∃ l : Int, l = m - (n : Int) := ⟨_, rfl⟩
    rw [← hl] at s1
    have hl0 : 0 ≤ l := by omega
    have hl1 : l ≤ 1048576 := by omega
    have s2 := fun w => szMemory_at a1 n1 c1 a2 n2 c2 l hl0 hl1 hn1 hn2 w
    obtain ⟨y, hy⟩ : ∃ y : Int, y = if (n1 : Int) + (n2 : Int) ≤ l then l - (n1 : Int) - (n2 : Int) else -1 := ⟨_, rfl⟩
    simp only [← hy] at s2
    have hzy : z = y := by
      rw [Z.out, hy]
      by_cases h : (n : Int) + (n1 : Int) + (n2 : Int) ≤ m
      · rw [if_pos h, if_pos (by omega)]; omega
      · rw [if_neg h, if_neg (by omega)]
    subst hzy
    have hz1 : -1 ≤ z ∧ z ≤ 1048576 := by
      rw [hy]; split <;> omega
    obtain ⟨hz1, hz2⟩ := hz1
    have S1 := hid_mk s1
    have S2 := hid_mk s2
    clear s1 s2 hl hn hn1 hn2 h1 hy Z
    by_cases hz : z < 0
    · obtain rfl : z = -1 := by omega
      clear hz hz1 hz2
      go_enter Try.func19, Try.ntmps19
      go_upto_region 1 with fail
      clear hw1
      obtain ⟨m0, m1, m2, m3, m4, m5, m6, m7, m8, m9⟩ := (H.out.cel (.head _)).c10
      go_wp2_with (go_at_call 26; refine (S1.out _).mono ?_; rintro e w1 ⟨rfl, rfl⟩)
      go_wp2_with (go_at_call 8; refine (S2.out _).mono ?_; rintro e w2 ⟨rfl, hb⟩)
      have B := hid_mk (H.out.next hb).bel
      clear m0 m1 m2 m3 m4 m5 m6 m7 m8 m9 hb H
      go_wp2
      go_ret
      exact ⟨rfl, B.out⟩
    · have hz0 : 0 ≤ z := by omega
      go_enter Try.func19, Try.ntmps19
      go_upto_region 1 with fail
      clear hw1
      obtain ⟨m0, m1, m2, m3, m4, m5, m6, m7, m8, m9⟩ := (H.out.cel (.head _)).c10
      go_wp2_with (go_at_call 26; refine (S1.out _).mono ?_; rintro e w1 ⟨rfl, rfl⟩)
      go_wp2_with (go_at_call 8; refine (S2.out _).mono ?_; rintro e w2 ⟨rfl, hb⟩)
      have B := hid_mk (H.out.next hb).bel
      clear m0 m1 m2 m3 m4 m5 m6 m7 m8 m9 hb H
      go_wp2
      go_ret
      exact ⟨rfl, B.out⟩
  · have hzy : z = -1 := by rw [Z.out, if_neg (by omega)]
    subst hzy
    simp only [if_neg h1] at s1
    have S1 := hid_mk s1
    clear s1 Z
    go_enter Try.func19, Try.ntmps19
    go_upto_region 1 with fail
    clear hw1
    obtain ⟨m0, m1, m2, m3, m4, m5, m6, m7, m8, m9⟩ := (H.out.cel (.head _)).c10
    go_wp2_with (go_at_call 26; refine (S1.out _).mono ?_; rintro e w1 ⟨rfl, rfl⟩)
    have B := hid_mk H.out.bel
    clear m0 m1 m2 m3 m4 m5 m6 m7 m8 m9 H
    go_wp2
    go_ret
    exact ⟨rfl, B.out⟩


set_option maxHeartbeats 8000000 in
theorem eqState_same (a b : Option Addr) (n c d : Nat) (x : Wd) (a1 b1 : Option Addr) (n1 c1 d1 : Nat) (a2 b2 : Option Addr) (n2 c2 d2 : Nat) (t : Int) (R L : List Wd) (G : List Bool) (w : World) (hM : StS w a n a1 n1 a2 n2 R L G) (hN : StS w b n b1 n1 b2 n2 R L G) :
    Calls Try.prog 23 #[.agg #[.slice a n c, .int .i64 x.n, .bool x.i, .int .i64 x.b, .int .i64 x.t, .int .i64 x.p, .int .i64 x.s, .slice a1 n1 c1, .slice a2 n2 c2, .int .i64 t], .agg #[.slice b n d, .int .i64 x.n, .bool x.i, .int .i64 x.b, .int .i64 x.t, .int .i64 x.p, .int .i64 x.s, .slice b1 n1 d1, .slice b2 n2 d2, .int .i64 t]] w fun e w' => e = .returned (.bool true) ∧ Below w.heap.size w w' := by
  have H : Hid (Hold w ((w.alloc (.cells (stl a n c x a1 n1 c1 a2 n2 c2 t).toArray 49)).alloc (.cells (stl b n d x b1 n1 d1 b2 n2 d2 t).toArray 49)) [celF (w.heap.size + 1) (stl b n d x b1 n1 d1 b2 n2 d2 t), celF w.heap.size (stl a n c x a1 n1 c1 a2 n2 c2 t)]) := by
    have h := ((cel_new w (stl a n c x a1 n1 c1 a2 n2 c2 t) 49).out.alloc (.cells (stl b n d x b1 n1 d1 b2 n2 d2 t).toArray 49)).push (celF (w.heap.size + 1) (stl b n d x b1 n1 d1 b2 n2 d2 t)) (by
      have g := Cel.new (w.alloc (.cells (stl a n c x a1 n1 c1 a2 n2 c2 t).toArray 49)) (stl b n d x b1 n1 d1 b2 n2 d2 t) 49
      rw [World.size_alloc] at g
      exact g)
    exact h
  have SA := hid_mk hM
  have SB := hid_mk hN
  clear hM hN
  generalize hw1 : (w.alloc (.cells (stl a n c x a1 n1 c1 a2 n2 c2 t).toArray 49)).alloc (.cells (stl b n d x b1 n1 d1 b2 n2 d2 t).toArray 49) = w1 at H
  go_enter Try.func23, Try.ntmps23
  go_upto_region 1 with fail
  clear hw1
  obtain ⟨m0, m1, m2, m3, m4, m5, m6, m7, m8, m9⟩ := (H.out.cel (.tail _ (.head _))).c10
  obtain ⟨e0, e1, e2, e3, e4, e5, e6, e7, e8, e9⟩ := (H.out.cel (.head _)).c10
  go_wp2_with fail
  refine (eqWordS_same a b n c d R _ (SA.out.below H.out.bel).rs (SB.out.below H.out.bel).rs).mono ?_
  rintro e w2 ⟨rfl, hb2⟩
  replace H := hid_mk (H.out.next hb2)
  clear hb2 m0 m1 m2 m3 m4 m5 m6 m7 m8 m9 e0 e1 e2 e3 e4 e5 e6 e7 e8 e9
  obtain ⟨m0, m1, m2, m3, m4, m5, m6, m7, m8, m9⟩ := (H.out.cel (.tail _ (.head _))).c10
  obtain ⟨e0, e1, e2, e3, e4, e5, e6, e7, e8, e9⟩ := (H.out.cel (.head _)).c10
  go_wp2_with fail
  refine (eqWord_same x.n x.i x.b x.t x.p x.s _).mono ?_
  rintro e w3 ⟨rfl, hb2⟩
  replace H := hid_mk (H.out.next hb2)
  clear hb2 m0 m1 m2 m3 m4 m5 m6 m7 m8 m9 e0 e1 e2 e3 e4 e5 e6 e7 e8 e9
  obtain ⟨m0, m1, m2, m3, m4, m5, m6, m7, m8, m9⟩ := (H.out.cel (.tail _ (.head _))).c10
  obtain ⟨e0, e1, e2, e3, e4, e5, e6, e7, e8, e9⟩ := (H.out.cel (.head _)).c10
  go_wp2_with fail
  refine (eqMemory_same _ _ _ _ _ _ _ _ _ _ L G _ (SA.out.below H.out.bel).mem (SB.out.below H.out.bel).mem).mono ?_
  rintro e w4 ⟨rfl, hb2⟩
  replace H := hid_mk (H.out.next hb2)
  clear hb2 m0 m1 m2 m3 m4 m5 m6 m7 m8 m9 e0 e1 e2 e3 e4 e5 e6 e7 e8 e9
  obtain ⟨m0, m1, m2, m3, m4, m5, m6, m7, m8, m9⟩ := (H.out.cel (.tail _ (.head _))).c10
  obtain ⟨e0, e1, e2, e3, e4, e5, e6, e7, e8, e9⟩ := (H.out.cel (.head _)).c10
  have htt : (t != t) = false := by simp
  have B := hid_mk H.out.bel
  clear H
  go_wp2
  go_ret
  exact ⟨rfl, B.out⟩

set_option maxHeartbeats 4000000 in
theorem markMem_at (a : Option Addr) (n c : Nat) (a' : Option Addr) (n' c' : Nat) (L : List Wd) (G : List Bool) (k0 : Int) (h0 : 1 ≤ k0) (h1 : k0 + 6 * (n : Int) ≤ 16777216) (hn : n ≤ 1048576) (hn' : n' ≤ 1048576) (w : World) (h : AnsM a a' n n' L G w) :
    Calls Try.prog 15 #[.agg #[.slice a n c, .slice a' n' c'], .int .i64 k0] w fun e w' => e = .returned (.int .i64 (k0 + 6 * (n : Int) + (n' : Int))) ∧ AnsM a a' n n' (marksW k0 n) (marksB (k0 + 6 * (n : Int)) n') w' ∧ KeptS (fun k => On a k ∨ On a' k) w w' := by
  have H := hid_mk ((((Hold.new w).push (ansF a a' n n' L G) h).alloc (.cells #[.slice a n c, .slice a' n' c'] 30)).push (duoF w.heap.size (.slice a n c) (.slice a' n' c')) (Duo.new w _ _ _))
  have hlt := hid_mk (fun k hk => h.lt (k := k) hk)
  have hne := hid_mk h.ne
  clear h
  obtain ⟨m, hm⟩ : ∃ m : Int, m = k0 + 6 * (n : Int) := ⟨_, rfl⟩
  rw [← hm]
  have hm0 : 1 ≤ m := by omega
  have hm1 : m ≤ 16777216 := by omega
  have HM := hid_mk hm
  clear hm
  generalize hw1 : w.alloc (.cells #[.slice a n c, .slice a' n' c'] 30) = w1 at H
  go_enter Try.func15, Try.ntmps15
  go_upto_region 1 with fail
  clear hw1
  obtain ⟨_, m0, m1, _, _⟩ := H.out.duo (.head _)
  have A := hid_mk (H.out.ans (.tail _ (.head _)))
  have D := hid_mk (H.out.duo (.head _))
  have B := hid_mk H.out.bel
  have K := hid_mk (KeptS.ofBelow (T := fun k => On a k ∨ On a' k) H.out.bel)
  clear H
  go_wp2_with fail
  refine (markW_ans a n c L k0 h0 (by omega) _ hn A.out.ws).mono ?_
  rintro e w2 ⟨rfl, hW2, hK2⟩
  rw [← HM.out]
  have W2 := hid_mk hW2
  have G2 := hid_mk (A.out.gs.ofBlock hK2.size fun k hk ho => hK2.block k hk fun hk2 => hne.out k hk2 ho)
  have D2 : Hid (Duo w2 w.heap.size (.slice a n c) (.slice a' n' c')) := (duoF w.heap.size (.slice a n c) (.slice a' n' c')).keep _ _ D.out hK2.size fun k hk hr => hK2.block k hk fun ho => by
    have h1 := hlt.out k (.inl ho)
    have h2 : k = w.heap.size := hr
    omega
  have K2 := hid_mk (K.out.trans (hK2.mono fun k hk => .inl hk))
  clear hW2 hK2 m0 m1 A B K D
  obtain ⟨_, m0, m1, _, _⟩ := D2.out
  go_wp2_with fail
  refine (markB_ans a' n' c' G m hm0 hm1 _ hn' G2.out).mono ?_
  rintro e w3 ⟨rfl, hG3, hK3⟩
  have W3 := hid_mk (W2.out.ofBlock hK3.size fun k hk ho => hK3.block k hk fun hk2 => hne.out k ho hk2)
  have G3 := hid_mk hG3
  have K3 := hid_mk (K2.out.trans (hK3.mono fun k hk => .inr hk))
  clear hG3 hK3 m0 m1 D2 G2 W2 K2
  go_wp2
  go_ret
  exact ⟨rfl, ⟨W3.out, G3.out, hne.out⟩, K3.out⟩

set_option maxHeartbeats 4000000 in
theorem heldMem_at (a : Option Addr) (n c : Nat) (a' : Option Addr) (n' c' : Nat) (k0 : Int) (h0 : 1 ≤ k0) (h1 : k0 + 6 * (n : Int) ≤ 16777216) (hn : n ≤ 1048576) (hn' : n' ≤ 1048576) (w : World) (hM : MemS w a n a' n' (marksW k0 n) (marksB (k0 + 6 * (n : Int)) n')) :
    Calls Try.prog 16 #[.agg #[.slice a n c, .slice a' n' c'], .int .i64 k0] w fun e w' => e = .returned (.int .i64 (k0 + 6 * (n : Int) + (n' : Int))) ∧ Below w.heap.size w w' := by
  have M0 := hid_mk (Mb.new w (.slice a n c) (.slice a' n' c') 30)
  have S := hid_mk hM
  clear hM
  obtain ⟨m, hm⟩ : ∃ m : Int, m = k0 + 6 * (n : Int) := ⟨_, rfl⟩
  rw [← hm] at S ⊢
  have hm0 : 1 ≤ m := by omega
  have hm1 : m ≤ 16777216 := by omega
  have HM := hid_mk hm
  clear hm
  generalize hw1 : w.alloc (.cells #[.slice a n c, .slice a' n' c'] 30) = w1 at M0
  go_enter Try.func16, Try.ntmps16
  go_upto_region 1 with fail
  clear hw1
  obtain ⟨_, m0, m1, _, _⟩ := M0.out.d
  go_wp2_with fail
  refine (heldW_any a n c k0 h0 (by omega) _ hn ((S.out.ws.keep M0.out.bel).mono M0.out.bel.size)).mono ?_
  rintro e w2 ⟨rfl, hb2⟩
  rw [← HM.out]
  have M2 := hid_mk (M0.out.next hb2)
  clear hb2 m0 m1 M0
  obtain ⟨_, m0, m1, _, _⟩ := M2.out.d
  go_wp2_with fail
  refine (heldB_any a' n' c' m hm0 hm1 _ hn' ((S.out.gs.keep M2.out.bel).mono M2.out.bel.size)).mono ?_
  rintro e w3 ⟨rfl, hb3⟩
  have M3 := hid_mk (M2.out.next hb3)
  clear hb3 m0 m1 M2
  go_wp2
  go_ret
  exact ⟨rfl, M3.out.bel⟩


end Go.Proofs.Ytfeoaegkhbjaeaa
