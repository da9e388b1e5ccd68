/- toState of the laws: a state of the call's own. No condition but that the lists are no longer than the law lets them be. -/
import Derived.Test.YtfeoaegkhbjaeaaStM
namespace Go.Proofs.Ytfeoaegkhbjaeaa
open Go.ChangeShapes Go.WideShapes Go.ChangeAt Go.RowKit
set_option maxRecDepth 100000

theorem Hold.setc {w0 w : World} {fs : List Fct} {r : Nat} {vs : List Value} (h : Hold w0 w (celF r vs :: fs)) (h0 : w0.heap.size ≤ r) (hd : ∀ f ∈ fs, ∀ k, f.S k → k ≠ r) (i : Nat) (v : Value) : Hold w0 (w.setCell ⟨r, i, none⟩ v) (celF r (vs.set i v) :: fs) :=
  ((h.tail).wrote (T := fun k => k = r) (KeptS.ofBut ((KeepBut.refl r w).setCell i v) rfl) (fun k e => by omega) hd).push (celF r (vs.set i v)) ((h.cel (.head _)).set i v)
/-- The words' row of a call, as a fact. -/
def rowWF (a : Option Addr) (n : Nat) (L : List Wd) : Fct where
  S := On a
  p := fun w => RowWA w a n L
  keep := fun _ _ h hs hb => h.ofBlock hs hb
theorem rowW_mk {w : World} {q n : Nat} {L : List Wd} (h : OutW w q n n L) (hl : L.length = n) : RowWA w (some ⟨q, 0, none⟩) n L := .inr ⟨q, rfl, hl, h⟩

set_option maxHeartbeats 8000000 in
theorem toState_ans (a : Option Addr) (n c : Nat) (x : Wd) (a1 : Option Addr) (n1 c1 : Nat) (a2 : Option Addr) (n2 c2 : Nat) (t : Int) (R L : List Wd) (G : List Bool) (w : World) (hn : n ≤ 1048576) (hn1 : n1 ≤ 1048576) (hn2 : n2 ≤ 1048576) (hS : StS w a n a1 n1 a2 n2 R L G) :
    Calls Try.prog 21 #[.agg #[.slice a n c, .int .i64 x.n, .bool x.i, .int .i64 x.b, .int .i64 x.t, .int .i64 x.p, .int .i64 x.s, .slice a1 n1 c1, .slice a2 n2 c2, .int .i64 t]] w fun e w' => ∃ b b1 b2, e = .returned (.agg #[.slice b n n, .int .i64 x.n, .bool x.i, .int .i64 x.b, .int .i64 x.t, .int .i64 x.p, .int .i64 x.s, .slice b1 n1 n1, .slice b2 n2 n2, .int .i64 t]) ∧ AnsS b b1 b2 n n1 n2 R L G w' ∧ (∀ k, On b k ∨ On b1 k ∨ On b2 k → w.heap.size ≤ k) ∧ Below w.heap.size w w' := by
  have H : Hid (Hold w (((w.alloc (.cells (stl a n c x a1 n1 c1 a2 n2 c2 t).toArray 42)).alloc (.cells ([.slice none 0 0, .int .i64 0, .bool false, .int .i64 0, .int .i64 0, .int .i64 0, .int .i64 0, .slice none 0 0, .slice none 0 0, .int .i64 0]).toArray 49)).alloc (.cells ([.slice none 0 0, .int .i64 0, .bool false, .int .i64 0, .int .i64 0, .int .i64 0, .int .i64 0, .slice none 0 0, .slice none 0 0, .int .i64 0]).toArray 49)) [celF (w.heap.size + 1 + 1) ([.slice none 0 0, .int .i64 0, .bool false, .int .i64 0, .int .i64 0, .int .i64 0, .int .i64 0, .slice none 0 0, .slice none 0 0, .int .i64 0]), celF (w.heap.size + 1) ([.slice none 0 0, .int .i64 0, .bool false, .int .i64 0, .int .i64 0, .int .i64 0, .int .i64 0, .slice none 0 0, .slice none 0 0, .int .i64 0]), celF w.heap.size (stl a n c x a1 n1 c1 a2 n2 c2 t)]) := by
    have h1 := (((Hold.new w).alloc (.cells (stl a n c x a1 n1 c1 a2 n2 c2 t).toArray 42)).push (celF w.heap.size (stl a n c x a1 n1 c1 a2 n2 c2 t)) (Cel.new w _ _))
    have g2 := Cel.new (w.alloc (.cells (stl a n c x a1 n1 c1 a2 n2 c2 t).toArray 42)) ([.slice none 0 0, .int .i64 0, .bool false, .int .i64 0, .int .i64 0, .int .i64 0, .int .i64 0, .slice none 0 0, .slice none 0 0, .int .i64 0]) 49
    rw [World.size_alloc] at g2
    have h2 := (h1.alloc (.cells ([.slice none 0 0, .int .i64 0, .bool false, .int .i64 0, .int .i64 0, .int .i64 0, .int .i64 0, .slice none 0 0, .slice none 0 0, .int .i64 0]).toArray 49)).push (celF (w.heap.size + 1) ([.slice none 0 0, .int .i64 0, .bool false, .int .i64 0, .int .i64 0, .int .i64 0, .int .i64 0, .slice none 0 0, .slice none 0 0, .int .i64 0])) g2
    have g3 := Cel.new ((w.alloc (.cells (stl a n c x a1 n1 c1 a2 n2 c2 t).toArray 42)).alloc (.cells ([.slice none 0 0, .int .i64 0, .bool false, .int .i64 0, .int .i64 0, .int .i64 0, .int .i64 0, .slice none 0 0, .slice none 0 0, .int .i64 0]).toArray 49)) ([.slice none 0 0, .int .i64 0, .bool false, .int .i64 0, .int .i64 0, .int .i64 0, .int .i64 0, .slice none 0 0, .slice none 0 0, .int .i64 0]) 49
    rw [World.size_alloc, World.size_alloc] at g3
    exact (h2.alloc (.cells ([.slice none 0 0, .int .i64 0, .bool false, .int .i64 0, .int .i64 0, .int .i64 0, .int .i64 0, .slice none 0 0, .slice none 0 0, .int .i64 0]).toArray 49)).push (celF (w.heap.size + 1 + 1) ([.slice none 0 0, .int .i64 0, .bool false, .int .i64 0, .int .i64 0, .int .i64 0, .int .i64 0, .slice none 0 0, .slice none 0 0, .int .i64 0])) g3
  have S := hid_mk hS
  have hlr := hS.rs.2.1
  have hlw := hS.mem.ws.2.1
  have hlg := hS.mem.gs.2.1
  clear hS
  have hs := w.heap.size
  generalize hw1 : (((w.alloc (.cells (stl a n c x a1 n1 c1 a2 n2 c2 t).toArray 42)).alloc (.cells ([.slice none 0 0, .int .i64 0, .bool false, .int .i64 0, .int .i64 0, .int .i64 0, .int .i64 0, .slice none 0 0, .slice none 0 0, .int .i64 0]).toArray 49)).alloc (.cells ([.slice none 0 0, .int .i64 0, .bool false, .int .i64 0, .int .i64 0, .int .i64 0, .int .i64 0, .slice none 0 0, .slice none 0 0, .int .i64 0]).toArray 49)) = w1 at H
  go_enter Try.func21, Try.ntmps21
  go_upto_region 2 with fail
  clear hw1
  obtain ⟨hz1, _⟩ : w.heap.size + 1 + 1 < w1.heap.size ∧ True := ⟨(H.out.cel (.head _)).lt, trivial⟩
  obtain ⟨m0, m1, m2, m3, m4, m5, m6, m7, m8, m9⟩ := (H.out.cel (.tail _ (.tail _ (.head _)))).c10
  go_wp2_with fail
  refine (toWordS_own a n c R _ hn (S.out.below H.out.bel).rs).mono ?_
  rintro e w2 ⟨q, rfl, hq, hO, hb2⟩
  have Q0 := hid_mk (fun k (hk : On (some ⟨q, 0, none⟩) k) => show w.heap.size + 1 + 1 < k by have := (on_some q k).1 hk; omega)
  replace H : Hid (Hold w w2 [celF (w.heap.size + 1 + 1) ([.slice none 0 0, .int .i64 0, .bool false, .int .i64 0, .int .i64 0, .int .i64 0, .int .i64 0, .slice none 0 0, .slice none 0 0, .int .i64 0]), rowWF (some ⟨q, 0, none⟩) n R, celF (w.heap.size + 1) ([.slice none 0 0, .int .i64 0, .bool false, .int .i64 0, .int .i64 0, .int .i64 0, .int .i64 0, .slice none 0 0, .slice none 0 0, .int .i64 0]), celF w.heap.size (stl a n c x a1 n1 c1 a2 n2 c2 t)]) := by
    have h := (H.out.next hb2)
    exact (h.tail.push (rowWF (some ⟨q, 0, none⟩) n R) (rowW_mk hO hlr)).push (celF (w.heap.size + 1 + 1) ([.slice none 0 0, .int .i64 0, .bool false, .int .i64 0, .int .i64 0, .int .i64 0, .int .i64 0, .slice none 0 0, .slice none 0 0, .int .i64 0])) (h.cel (.head _))
  have hq2 := hO.lt
  have hs2 := hb2.size
  clear m0 m1 m2 m3 m4 m5 m6 m7 m8 m9 hb2 hO
  obtain ⟨o0, o1, o2, o3, o4, o5, o6, o7, o8, o9⟩ := (H.out.cel (.head _)).c10
  obtain ⟨g0, g1, g2, g3, g4, g5, g6, g7, g8, g9⟩ := (H.out.cel (.head _)).f10
  go_upto_region 3 with fail
  clear o0 o1 o2 o3 o4 o5 o6 o7 o8 o9 g0 g1 g2 g3 g4 g5 g6 g7 g8 g9
  replace H : Hid (Hold w (w2.setCell ⟨w.heap.size + 1 + 1, 0, none⟩ (.slice (some ⟨q, 0, none⟩) n n)) [celF (w.heap.size + 1 + 1) ([.slice (some ⟨q, 0, none⟩) n n, .int .i64 0, .bool false, .int .i64 0, .int .i64 0, .int .i64 0, .int .i64 0, .slice none 0 0, .slice none 0 0, .int .i64 0]), rowWF (some ⟨q, 0, none⟩) n R, celF (w.heap.size + 1) ([.slice none 0 0, .int .i64 0, .bool false, .int .i64 0, .int .i64 0, .int .i64 0, .int .i64 0, .slice none 0 0, .slice none 0 0, .int .i64 0]), celF w.heap.size (stl a n c x a1 n1 c1 a2 n2 c2 t)]) := by
    exact H.out.setc (by omega) (fun f hf k hk => by
    simp only [List.mem_cons, List.not_mem_nil, or_false] at hf
    rcases hf with rfl | rfl | rfl
    all_goals first | (simp only [celF] at hk; omega) | (simp only [rowWF] at hk; have := Q0.out k hk; omega)) 0 _
  have hs3 : (w2.setCell ⟨w.heap.size + 1 + 1, 0, none⟩ (.slice (some ⟨q, 0, none⟩) n n)).heap.size = w2.heap.size := by simp
  generalize w2.setCell ⟨w.heap.size + 1 + 1, 0, none⟩ (.slice (some ⟨q, 0, none⟩) n n) = w3 at H hs3 ⊢
  obtain ⟨m0, m1, m2, m3, m4, m5, m6, m7, m8, m9⟩ := (H.out.cel (.tail _ (.tail _ (.tail _ (.head _))))).c10
  go_wp2_with fail
  refine (toWord_any x.n x.i x.b x.t x.p x.s _).mono ?_
  rintro e w4 ⟨rfl, hb2⟩
  replace H := hid_mk (H.out.next hb2)
  have hs4 := hb2.size
  clear m0 m1 m2 m3 m4 m5 m6 m7 m8 m9 hb2
  obtain ⟨o0, o1, o2, o3, o4, o5, o6, o7, o8, o9⟩ := (H.out.cel (.head _)).c10
  obtain ⟨g0, g1, g2, g3, g4, g5, g6, g7, g8, g9⟩ := (H.out.cel (.head _)).f10
  go_upto_region 4 with fail
  clear o0 o1 o2 o3 o4 o5 o6 o7 o8 o9 g0 g1 g2 g3 g4 g5 g6 g7 g8 g9
  have DD : Hid (∀ f ∈ [rowWF (some ⟨q, 0, none⟩) n R, celF (w.heap.size + 1) ([.slice none 0 0, .int .i64 0, .bool false, .int .i64 0, .int .i64 0, .int .i64 0, .int .i64 0, .slice none 0 0, .slice none 0 0, .int .i64 0]), celF w.heap.size (stl a n c x a1 n1 c1 a2 n2 c2 t)], ∀ k, f.S k → k ≠ w.heap.size + 1 + 1) := (fun f hf k hk => by
    simp only [List.mem_cons, List.not_mem_nil, or_false] at hf
    rcases hf with rfl | rfl | rfl
    all_goals first | (simp only [celF] at hk; omega) | (simp only [rowWF] at hk; have := Q0.out k hk; omega))
  replace H : Hid (Hold w ((((((w4.setCell ⟨w.heap.size + 1 + 1, 1, none⟩ (.int .i64 x.n)).setCell ⟨w.heap.size + 1 + 1, 2, none⟩ (.bool x.i)).setCell ⟨w.heap.size + 1 + 1, 3, none⟩ (.int .i64 x.b)).setCell ⟨w.heap.size + 1 + 1, 4, none⟩ (.int .i64 x.t)).setCell ⟨w.heap.size + 1 + 1, 5, none⟩ (.int .i64 x.p)).setCell ⟨w.heap.size + 1 + 1, 6, none⟩ (.int .i64 x.s)) [celF (w.heap.size + 1 + 1) (stl (some ⟨q, 0, none⟩) n n x none 0 0 none 0 0 0), rowWF (some ⟨q, 0, none⟩) n R, celF (w.heap.size + 1) ([.slice none 0 0, .int .i64 0, .bool false, .int .i64 0, .int .i64 0, .int .i64 0, .int .i64 0, .slice none 0 0, .slice none 0 0, .int .i64 0]), celF w.heap.size (stl a n c x a1 n1 c1 a2 n2 c2 t)]) := by
    exact (((((H.out.setc (by omega) DD.out 1 _).setc (by omega) DD.out 2 _).setc (by omega) DD.out 3 _).setc (by omega) DD.out 4 _).setc (by omega) DD.out 5 _).setc (by omega) DD.out 6 _
  have hs5 : ((((((w4.setCell ⟨w.heap.size + 1 + 1, 1, none⟩ (.int .i64 x.n)).setCell ⟨w.heap.size + 1 + 1, 2, none⟩ (.bool x.i)).setCell ⟨w.heap.size + 1 + 1, 3, none⟩ (.int .i64 x.b)).setCell ⟨w.heap.size + 1 + 1, 4, none⟩ (.int .i64 x.t)).setCell ⟨w.heap.size + 1 + 1, 5, none⟩ (.int .i64 x.p)).setCell ⟨w.heap.size + 1 + 1, 6, none⟩ (.int .i64 x.s)).heap.size = w4.heap.size := by simp
  generalize ((((((w4.setCell ⟨w.heap.size + 1 + 1, 1, none⟩ (.int .i64 x.n)).setCell ⟨w.heap.size + 1 + 1, 2, none⟩ (.bool x.i)).setCell ⟨w.heap.size + 1 + 1, 3, none⟩ (.int .i64 x.b)).setCell ⟨w.heap.size + 1 + 1, 4, none⟩ (.int .i64 x.t)).setCell ⟨w.heap.size + 1 + 1, 5, none⟩ (.int .i64 x.p)).setCell ⟨w.heap.size + 1 + 1, 6, none⟩ (.int .i64 x.s)) = w5 at H hs5 ⊢
  obtain ⟨m0, m1, m2, m3, m4, m5, m6, m7, m8, m9⟩ := (H.out.cel (.tail _ (.tail _ (.tail _ (.head _))))).c10
  go_wp2_with fail
  refine (toMemory_ans a1 n1 c1 a2 n2 c2 L G _ hn1 hn2 (S.out.below H.out.bel).mem).mono ?_
  rintro e w6 ⟨b1, b2, rfl, A6, hg6, hb6⟩
  have Q6 := hid_mk (fun k hk => show w.heap.size + 1 + 1 < k ∧ q < k from ⟨by have := hg6 k hk; omega, by have := hg6 k hk; omega⟩)
  replace H : Hid (Hold w w6 [celF (w.heap.size + 1 + 1) (stl (some ⟨q, 0, none⟩) n n x none 0 0 none 0 0 0), rowWF (some ⟨q, 0, none⟩) n R, celF (w.heap.size + 1) ([.slice none 0 0, .int .i64 0, .bool false, .int .i64 0, .int .i64 0, .int .i64 0, .int .i64 0, .slice none 0 0, .slice none 0 0, .int .i64 0]), celF w.heap.size (stl a n c x a1 n1 c1 a2 n2 c2 t), ansF b1 b2 n1 n2 L G]) := by
    have h := (H.out.next hb6).push (ansF b1 b2 n1 n2 L G) A6
    exact h.sub (fun f hf => by
      simp only [List.mem_cons, List.not_mem_nil, or_false] at hf ⊢
      rcases hf with rfl | rfl | rfl | rfl | rfl
      · exact .inr (.inl rfl)
      · exact .inr (.inr (.inl rfl))
      · exact .inr (.inr (.inr (.inl rfl)))
      · exact .inr (.inr (.inr (.inr rfl)))
      · exact .inl rfl)
  have hs6 := hb6.size
  have DE : Hid (∀ f ∈ [rowWF (some ⟨q, 0, none⟩) n R, celF (w.heap.size + 1) ([.slice none 0 0, .int .i64 0, .bool false, .int .i64 0, .int .i64 0, .int .i64 0, .int .i64 0, .slice none 0 0, .slice none 0 0, .int .i64 0]), celF w.heap.size (stl a n c x a1 n1 c1 a2 n2 c2 t), ansF b1 b2 n1 n2 L G], ∀ k, f.S k → k ≠ w.heap.size + 1 + 1) := (fun f hf k hk => by
    simp only [List.mem_cons, List.not_mem_nil, or_false] at hf
    rcases hf with rfl | rfl | rfl | rfl
    · have := Q0.out k hk; omega
    · simp only [celF] at hk; omega
    · simp only [celF] at hk; omega
    · have := Q6.out k hk; omega)
  clear m0 m1 m2 m3 m4 m5 m6 m7 m8 m9 hb6 A6 hg6
  obtain ⟨o0, o1, o2, o3, o4, o5, o6, o7, o8, o9⟩ := (H.out.cel (.head _)).c10
  obtain ⟨g0, g1, g2, g3, g4, g5, g6, g7, g8, g9⟩ := (H.out.cel (.head _)).f10
  go_upto_region 5 with fail
  clear o0 o1 o2 o3 o4 o5 o6 o7 o8 o9 g0 g1 g2 g3 g4 g5 g6 g7 g8 g9
  replace H : Hid (Hold w ((w6.setCell ⟨w.heap.size + 1 + 1, 7, none⟩ (.slice b1 n1 n1)).setCell ⟨w.heap.size + 1 + 1, 8, none⟩ (.slice b2 n2 n2)) [celF (w.heap.size + 1 + 1) (stl (some ⟨q, 0, none⟩) n n x b1 n1 n1 b2 n2 n2 0), rowWF (some ⟨q, 0, none⟩) n R, celF (w.heap.size + 1) ([.slice none 0 0, .int .i64 0, .bool false, .int .i64 0, .int .i64 0, .int .i64 0, .int .i64 0, .slice none 0 0, .slice none 0 0, .int .i64 0]), celF w.heap.size (stl a n c x a1 n1 c1 a2 n2 c2 t), ansF b1 b2 n1 n2 L G]) := by
    exact (H.out.setc (by omega) DE.out 7 _).setc (by omega) DE.out 8 _
  generalize ((w6.setCell ⟨w.heap.size + 1 + 1, 7, none⟩ (.slice b1 n1 n1)).setCell ⟨w.heap.size + 1 + 1, 8, none⟩ (.slice b2 n2 n2)) = w7 at H ⊢
  obtain ⟨m0, m1, m2, m3, m4, m5, m6, m7, m8, m9⟩ := (H.out.cel (.tail _ (.tail _ (.tail _ (.head _))))).c10
  obtain ⟨o0, o1, o2, o3, o4, o5, o6, o7, o8, o9⟩ := (H.out.cel (.head _)).c10
  obtain ⟨g0, g1, g2, g3, g4, g5, g6, g7, g8, g9⟩ := (H.out.cel (.head _)).f10
  go_upto_region 6 with fail
  clear m0 m1 m2 m3 m4 m5 m6 m7 m8 m9 o0 o1 o2 o3 o4 o5 o6 o7 o8 o9 g0 g1 g2 g3 g4 g5 g6 g7 g8 g9
  replace H : Hid (Hold w (w7.setCell ⟨w.heap.size + 1 + 1, 9, none⟩ (.int .i64 t)) [celF (w.heap.size + 1 + 1) (stl (some ⟨q, 0, none⟩) n n x b1 n1 n1 b2 n2 n2 t), rowWF (some ⟨q, 0, none⟩) n R, celF (w.heap.size + 1) ([.slice none 0 0, .int .i64 0, .bool false, .int .i64 0, .int .i64 0, .int .i64 0, .int .i64 0, .slice none 0 0, .slice none 0 0, .int .i64 0]), celF w.heap.size (stl a n c x a1 n1 c1 a2 n2 c2 t), ansF b1 b2 n1 n2 L G]) := by
    exact H.out.setc (by omega) DE.out 9 _
  generalize w7.setCell ⟨w.heap.size + 1 + 1, 9, none⟩ (.int .i64 t) = w8 at H ⊢
  obtain ⟨o0, o1, o2, o3, o4, o5, o6, o7, o8, o9⟩ := (H.out.cel (.head _)).c10
  obtain ⟨r0, r1, r2, r3, r4, r5, r6, r7, r8, r9⟩ := (H.out.cel (.tail _ (.tail _ (.head _)))).c10
  obtain ⟨h0, h1, h2, h3, h4, h5, h6, h7, h8, h9⟩ := (H.out.cel (.tail _ (.tail _ (.head _)))).f10
  go_wp2
  refine bodyPost_ret (v := .agg #[.slice (some ⟨q, 0, none⟩) n n, .int .i64 x.n, .bool x.i, .int .i64 x.b, .int .i64 x.t, .int .i64 x.p, .int .i64 x.s, .slice b1 n1 n1, .slice b2 n2 n2, .int .i64 t]) (by simp [results, Try.results21, go_sem, r0, r1, r2, r3, r4, r5, r6, r7, r8, r9]) rfl ⟨some ⟨q, 0, none⟩, b1, b2, rfl, ?_⟩
  have k := (((((((((((KeepBut.refl (w.heap.size + 1) w8).setCell 0 (.slice (some ⟨q, 0, none⟩) n n)).setCell 1 (.int .i64 x.n)).setCell 2 (.bool x.i)).setCell 3 (.int .i64 x.b)).setCell 4 (.int .i64 x.t)).setCell 5 (.int .i64 x.p)).setCell 6 (.int .i64 x.s)).setCell 7 (.slice b1 n1 n1)).setCell 8 (.slice b2 n2 n2)).setCell 9 (.int .i64 t))
  have g : Hold w _ [rowWF (some ⟨q, 0, none⟩) n R, ansF b1 b2 n1 n2 L G] := (H.out.sub (gs := [rowWF (some ⟨q, 0, none⟩) n R, ansF b1 b2 n1 n2 L G]) (fun f hf => by
      simp only [List.mem_cons, List.not_mem_nil, or_false] at hf ⊢
      rcases hf with rfl | rfl
      · exact .inr (.inl rfl)
      · exact .inr (.inr (.inr (.inr rfl))))).wrote (T := fun k => k = w.heap.size + 1) (KeptS.ofBut k rfl) (fun k e => by omega) (fun f hf k hk e => by
      simp only [List.mem_cons, List.not_mem_nil, or_false] at hf
      rcases hf with rfl | rfl
      · have := Q0.out k hk; omega
      · have := Q6.out k hk; omega)
  have hR : RowWA _ (some ⟨q, 0, none⟩) n R := g.at (.head _)
  have hA : AnsM b1 b2 n1 n2 L G _ := g.at (.tail _ (.head _))
  exact ⟨⟨hR, hA.ws, hA.gs, fun k h1 h2 => by have := (Q6.out k (.inl h2)).2; have := (on_some q k).1 h1; omega, fun k h1 h2 => by have := (Q6.out k (.inr h2)).2; have := (on_some q k).1 h1; omega, hA.ne⟩, fun k hk => by
    rcases hk with hk | hk
    · have := Q0.out k hk; omega
    · have := Q6.out k hk; omega, g.bel⟩
end Go.Proofs.Ytfeoaegkhbjaeaa
