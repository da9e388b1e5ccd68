/- DrawGuessOk, DrawGuess and DrawLearn of the specification. No condition. -/
import Derived.Test.YtcokcfgagbahbaaDrawG
import Derived.Test.YtcokcfgagbahbaaHoldX
namespace Go.Proofs.Ytcokcfgagbahbaa
open Go.ChangeShapes Go.WideShapes Go.ChangeAt Go.RowKit Go.Maps Go.Sort Go.Shelf
set_option maxRecDepth 100000

theorem Hold.moved {w0 w w' : World} {fs : List Fct} {q : Nat} (h : Hold w0 w fs) (k : KeepBut q w w') (h0 : w0.heap.size ≤ q) (hd : ∀ f ∈ fs, ¬ f.S q) : Hold w0 w' fs :=
  h.wrote (T := fun k => k = q) (KeptS.ofBut k rfl) (fun j hj => by subst hj; exact h0) (fun f hf j hj e => by subst e; exact hd f hf hj)
theorem on_some' {q o k : Nat} (h : On (some ⟨q, o, none⟩) k) : q = k := by
  obtain ⟨x, hx, e⟩ := h
  cases hx
  exact e
/-- A list that was drawn. -/
structure GotG (w0 w : World) (g o n : Nat) (L : List Int) : Prop where
  row : (sloF (some ⟨g, o, none⟩) n L).p w
  ge : w0.heap.size ≤ g
  lt : g < w.heap.size
  n48 : n ≤ 48
  bd : ∀ x ∈ L, -2 ≤ x ∧ x ≤ 65536
theorem GotG.wf {w0 w : World} {g o n : Nat} {L : List Int} (h : GotG w0 w g o n L) : ∀ x ∈ L, (Lit.int .i64 x).wf = true := fun x hx => WalkArith.wf_i64 (by have := h.bd x hx; omega)

set_option maxHeartbeats 1000000 in
theorem drawGuessOk_any {w : World} {a : Option Addr} {len cap : Nat} (hc : Code8 w.heap.size w a len) :
    Calls Try.prog 16 #[.slice a len cap] w fun e w' => ∃ (g o n c : Nat) (L : List Int), e = .returned (.slice (some ⟨g, o, none⟩) n c) ∧ GotG w w' g o n L ∧ Below w.heap.size w w' := by
  have C := hid_mk hc
  clear hc
  go_enter Try.func16, Try.ntmps16
  go_wp2_with fail
  refine (d_new C.out).mono ?_
  rintro e w1 ⟨rfl, d1, b1⟩
  have hz := b1.size
  have D1 := hid_mk d1
  have B1 := hid_mk b1
  clear d1 b1 C
  go_wp2_with fail
  refine (d_guesses D1.out).mono ?_
  rintro e w2 ⟨g, o, n, c, L, rfl, hg, hlt, hn, hS, hbd, d2, k2⟩
  have B2 := hid_mk (B1.out.trans (k2.below (Nat.le_refl _) hz))
  have G : Hid (GotG w w2 g o n L) := ⟨hS, by omega, hlt, hn, hbd⟩
  clear hS hbd d2 k2 D1 B1 hg hlt hn
  go_wp2
  go_ret
  exact ⟨g, o, n, c, L, rfl, G.out, B2.out⟩

set_option maxHeartbeats 1000000 in
theorem drawGuess_any {w : World} {a : Option Addr} {len cap : Nat} (hc : Code8 w.heap.size w a len) :
    Calls Try.prog 15 #[.slice a len cap] w fun e w' => ∃ (g o n c : Nat) (L : List Int) (m : Int) (i : Bool) (b t p s : Int), e = .returned (.tuple #[.slice (some ⟨g, o, none⟩) n c, .agg #[.int .i64 m, .bool i, .int .i64 b, .int .i64 t, .int .i64 p, .int .i64 s]]) ∧ GotG w w' g o n L ∧ (-9223372036854775808 ≤ m ∧ m ≤ 9223372036854775807) ∧ Below w.heap.size w w' := by
  have bz : Below w.heap.size w (w.alloc (.cells #[.int .i64 0, .bool false, .int .i64 0, .int .i64 0, .int .i64 0, .int .i64 0] 28)) := (Below.refl _ _).alloc (Nat.le_refl _) _
  have hs : (w.alloc (.cells #[.int .i64 0, .bool false, .int .i64 0, .int .i64 0, .int .i64 0, .int .i64 0] 28)).heap.size = w.heap.size + 1 := by simp
  have C : Hid (Code8 (w.heap.size + 1) (w.alloc (.cells #[.int .i64 0, .bool false, .int .i64 0, .int .i64 0, .int .i64 0, .int .i64 0] 28)) a len) := hs ▸ hc.later bz
  have H := hid_mk (((Hold.new w).boxG [.int .i64 0, .bool false, .int .i64 0, .int .i64 0, .int .i64 0, .int .i64 0] 28 w.heap.size rfl))
  clear hc bz
  go_enter Try.func15, Try.ntmps15
  go_wp2_with fail
  refine (d_new (by rw [hs]; exact C.out)).mono ?_
  rw [hs]
  rintro e w1 ⟨rfl, d1, b1⟩
  have D1 := hid_mk d1
  replace H := hid_mk (H.out.next (by rw [hs]; exact b1))
  clear d1 b1 C hs
  go_wp2_with fail
  refine (d_guesses D1.out).mono ?_
  rintro e w2 ⟨g, o, n, c, L, rfl, hg, hlt, hn, hS, hbd, d2, k2⟩
  have D2 := hid_mk d2
  have hz1 := D1.out.lt
  replace H := hid_mk ((H.out.moved k2 (by omega) (fun f hf hs => by
    simp only [List.mem_cons, List.not_mem_nil, or_false] at hf
    subst hf
    simp only [celF] at hs
    omega)).push (sloF (some ⟨g, o, none⟩) n L) hS)
  have HB := hid_mk hbd
  have hg0 : w.heap.size + 1 < g := by omega
  clear hS hbd d2 k2 D1 hg
  go_wp2_with fail
  refine (d_place D2.out).mono ?_
  rintro e w3 ⟨m, i, b, t, p, s, rfl, d3, k3, hm1, hm2⟩
  have hz3 := k3.size
  have H3 := hid_mk (H.out.moved k3 (by omega) (fun f hf hs => by
    simp only [List.mem_cons, List.not_mem_nil, or_false] at hf
    rcases hf with rfl | rfl
    · simp only [sloF] at hs; have := (on_some' hs); omega
    · simp only [celF] at hs; omega))
  clear d3 k3 D2 H
  have H4 := hid_mk (H3.out.sub (gs := [celF w.heap.size [.int .i64 0, .bool false, .int .i64 0, .int .i64 0, .int .i64 0, .int .i64 0], sloF (some ⟨g, o, none⟩) n L]) (fun f hf => by
    simp only [List.mem_cons, List.not_mem_nil, or_false] at hf ⊢
    exact hf.symm))
  have HZ := hid_mk (H4.out.set6 (Nat.le_refl _) (fun f hf hs => by
    simp only [List.mem_cons, List.not_mem_nil, or_false] at hf
    subst hf
    simp only [sloF] at hs
    have := on_some' hs
    omega) (.int .i64 m) (.bool i) (.int .i64 b) (.int .i64 t) (.int .i64 p) (.int .i64 s))
  obtain ⟨z0, z1, z2, z3, z4, z5⟩ := (H4.out.cel (.head _)).c6
  obtain ⟨f0, f1, f2, f3, f4, f5⟩ := (H4.out.cel (.head _)).f6
  clear H3 H4
  go_wp2
  obtain ⟨y0, y1, y2, y3, y4, y5⟩ := (HZ.out.cel (.head _)).c6
  refine bodyPost_ret (v := .tuple #[.slice (some ⟨g, o, none⟩) n c, .agg #[.int .i64 m, .bool i, .int .i64 b, .int .i64 t, .int .i64 p, .int .i64 s]]) (by simp [results, Try.results15, go_sem, z0, z1, z2, z3, z4, z5]) rfl ⟨g, o, n, c, L, m, i, b, t, p, s, rfl, ⟨HZ.out.at (.tail _ (.head _)), by omega, by simp only [World.size_setCell]; omega, hn, HB.out⟩, ⟨hm1, hm2⟩, HZ.out.bel⟩
set_option maxHeartbeats 2000000 in
theorem drawLearn_any {w : World} {a : Option Addr} {len cap : Nat} (hc : Code8 w.heap.size w a len) :
    Calls Try.prog 9 #[.slice a len cap] w fun e w' => ∃ (g o n c : Nat) (L : List Int) (m : Int) (i : Bool) (b t p s : Int) (m2 : Int) (i2 : Bool) (b2 t2 p2 s2 : Int), e = .returned (.tuple #[.slice (some ⟨g, o, none⟩) n c, .agg #[.int .i64 m, .bool i, .int .i64 b, .int .i64 t, .int .i64 p, .int .i64 s], .agg #[.int .i64 m2, .bool i2, .int .i64 b2, .int .i64 t2, .int .i64 p2, .int .i64 s2]]) ∧ GotG w w' g o n L ∧ (-9223372036854775808 ≤ m ∧ m ≤ 9223372036854775807) ∧ (-9223372036854775808 ≤ m2 ∧ m2 ≤ 9223372036854775807) ∧ Below w.heap.size w w' := by
  have H := hid_mk ((((Hold.new w).boxG [.int .i64 0, .bool false, .int .i64 0, .int .i64 0, .int .i64 0, .int .i64 0] 28 w.heap.size rfl)).boxG [.int .i64 0, .bool false, .int .i64 0, .int .i64 0, .int .i64 0, .int .i64 0] 28 (w.heap.size + 1) (by simp))
  have C := hid_mk (hc.later H.out.bel)
  clear hc
  generalize hw0 : (w.alloc (.cells ([.int .i64 0, .bool false, .int .i64 0, .int .i64 0, .int .i64 0, .int .i64 0] : List Value).toArray 28)).alloc (.cells ([.int .i64 0, .bool false, .int .i64 0, .int .i64 0, .int .i64 0, .int .i64 0] : List Value).toArray 28) = w0 at H C
  have hs : w0.heap.size = w.heap.size + 2 := by rw [← hw0]; simp
  go_enter Try.func9, Try.ntmps9
  go_upto_region 1 with fail
  clear hw0
  go_wp2_with fail
  refine (d_new C.out).mono ?_
  rintro e w1 ⟨rfl, d1, b1⟩
  obtain ⟨q, hq⟩ : ∃ q, q = w0.heap.size := ⟨_, rfl⟩
  rw [← hq] at d1 ⊢
  have D1 := hid_mk d1
  replace H := hid_mk (H.out.next b1)
  have hqq : q = w.heap.size + 2 := by omega
  have HQ : Hid (q = w.heap.size + 2) := hqq
  have hq1 : w.heap.size + 2 ≤ q ∧ q ≤ w.heap.size + 2 := by omega
  clear d1 b1 C hs hq hqq
  go_wp2_with fail
  refine (d_guesses D1.out).mono ?_
  rintro e w2 ⟨g, o, n, c, L, rfl, hg, hlt, hn, hS, hbd, d2, k2⟩
  have D2 := hid_mk d2
  have hz1 := D1.out.lt
  replace H := hid_mk ((H.out.moved k2 (by omega) (fun f hf hs => by
    simp only [List.mem_cons, List.not_mem_nil, or_false] at hf
    rcases hf with rfl | rfl
    · simp only [celF] at hs; omega
    · simp only [celF] at hs; omega)).push (sloF (some ⟨g, o, none⟩) n L) hS)
  have HB := hid_mk hbd
  have hg0 : q < g := by omega
  clear hS hbd d2 k2 D1 hg
  go_wp2_with fail
  refine (d_place D2.out).mono ?_
  rintro e w3 ⟨m, i, b, t, p, s, rfl, d3, k3, hm1, hm2⟩
  have hz3 := k3.size
  have D3 := hid_mk (d3.alloc (.cells #[.int .i64 m, .bool i, .int .i64 b, .int .i64 t, .int .i64 p, .int .i64 s] 28))
  have H3 := hid_mk ((H.out.moved k3 (by omega) (fun f hf hs => by
    simp only [List.mem_cons, List.not_mem_nil, or_false] at hf
    rcases hf with rfl | rfl | rfl
    · simp only [sloF] at hs; have := (on_some' hs); omega
    · simp only [celF] at hs; omega
    · simp only [celF] at hs; omega)).boxG [.int .i64 m, .bool i, .int .i64 b, .int .i64 t, .int .i64 p, .int .i64 s] 28 w3.heap.size rfl)
  clear d3 k3 D2 H
  go_upto_region 4 with fail
  obtain ⟨r7, hr7⟩ : ∃ r, r = w3.heap.size := ⟨_, rfl⟩
  have hr8 : g < r7 := by omega
  rw [← hr7] at H3 ⊢
  clear hr7
  generalize w3.alloc (.cells #[.int .i64 m, .bool i, .int .i64 b, .int .i64 t, .int .i64 p, .int .i64 s] 28) = w4 at H3 D3 ⊢
  have hr9 := (H3.out.cel (.head _)).lt
  have D0 := hid_mk H3.out.drew
  have DD := hid_mk D3.out.drew
  refine wp_region_held_drew (S := fun w' => Hold w w' [celF r7 [.int .i64 m, .bool i, .int .i64 b, .int .i64 t, .int .i64 p, .int .i64 s]]) (by kernel_rfl) (D0.out.sub (fun f hf => by simp only [List.mem_cons, List.not_mem_nil, or_false] at hf ⊢; exact .inl hf)) (fun hHeld => ?_)
  have hr10 : r7 < w4.drew.heap.size := by simpa using hr9
  generalize w4.drew = wd at D0 DD hr10 hHeld ⊢
  clear H3 D3 hr9
  refine take_on (i := 0) (d := 14) (v := .slice (some ⟨g, o, none⟩) n c) rfl rfl (by kernel_rfl) (by kernel_rfl) (by kernel_rfl) (fun _ _ _ h => h) (by rfl) ?_ hHeld ?_
  · (intro w' hSw; go_simp)
  (try simp only [Act.put]); (try simp only [List.setIfInBounds_toArray]); (try simp only [List.set_cons_succ]); (try simp only [List.set_cons_zero]); (try simp only [List.set_cons_succ]); (try simp only [List.set_cons_zero]); (try simp only [Nat.zero_add])
  refine take_on (i := 1) (d := 15) (v := .agg #[.int .i64 m, .bool i, .int .i64 b, .int .i64 t, .int .i64 p, .int .i64 s]) rfl rfl (by kernel_rfl) (by kernel_rfl) (by kernel_rfl) (fun _ _ _ h => h) (by rfl) ?_ hHeld ?_
  · (intro w' hSw; have hSx : Hold w w' [celF r7 [.int .i64 m, .bool i, .int .i64 b, .int .i64 t, .int .i64 p, .int .i64 s]] := hSw; obtain ⟨c0, c1, c2, c3, c4, c5⟩ := (hSx.cel (.head _)).c6; go_simp)
  (try simp only [Act.put]); (try simp only [List.setIfInBounds_toArray]); (try simp only [List.set_cons_succ]); (try simp only [List.set_cons_zero]); (try simp only [List.set_cons_succ]); (try simp only [List.set_cons_zero]); (try simp only [Nat.zero_add])
  refine take_on (i := 2) (d := 16) (v := .pointer (some ⟨q, 0, none⟩)) rfl rfl (by kernel_rfl) (by kernel_rfl) (by kernel_rfl) (fun _ _ _ h => h) (by rfl) ?_ hHeld ?_
  · (intro w' hSw; go_simp)
  (try simp only [Act.put]); (try simp only [List.setIfInBounds_toArray]); (try simp only [List.set_cons_succ]); (try simp only [List.set_cons_zero]); (try simp only [List.set_cons_succ]); (try simp only [List.set_cons_zero]); (try simp only [Nat.zero_add])
  refine wpAnyH_ready (rs := [3]) (by kernel_rfl) (by simp) ?_
  refine AllReadyH.cons rfl (fun K1 hK => ?_) AllReadyH.nil
  go_simp
  refine (d_place DD.out).mono ?_
  rintro e w5 ⟨m2, i2, b2, t2, p2, s2, rfl, d5, k5, hn1, hn2⟩
  have hz5 := k5.size
  have J := hid_mk (D0.out.moved k5 (by omega) (fun f hf hs => by
    simp only [List.mem_cons, List.not_mem_nil, or_false] at hf
    rcases hf with rfl | rfl | rfl | rfl
    · simp only [celF] at hs; omega
    · simp only [sloF] at hs; have := (on_some' hs); omega
    · simp only [celF] at hs; omega
    · simp only [celF] at hs; omega))
  clear d5 k5 DD D0
  refine hK.out _ _ (J.out.sub (fun f hf => by simp only [List.mem_cons, List.not_mem_nil, or_false] at hf ⊢; exact .inl hf)) (fun hHeld => ?_)
  clear hK K1
  (try simp only [Act.put]); (try simp only [List.setIfInBounds_toArray]); (try simp only [List.set_cons_succ]); (try simp only [List.set_cons_zero]); (try simp only [List.set_cons_succ]); (try simp only [List.set_cons_zero]); (try simp only [Nat.zero_add])
  refine take_on (i := 4) (d := 2) (v := .slice (some ⟨g, o, none⟩) n c) rfl rfl (by kernel_rfl) (by kernel_rfl) (by kernel_rfl) (fun _ _ _ h => h) (by rfl) ?_ hHeld ?_
  · (intro w' hSw; go_simp)
  (try simp only [Act.put]); (try simp only [List.setIfInBounds_toArray]); (try simp only [List.set_cons_succ]); (try simp only [List.set_cons_zero]); (try simp only [List.set_cons_succ]); (try simp only [List.set_cons_zero]); (try simp only [Nat.zero_add])
  refine wpAnyH_ready (rs := [5]) (by kernel_rfl) (by simp) ?_
  refine AllReadyH.cons rfl (fun K1 hK => ?_) AllReadyH.nil
  have J1 := hid_mk (J.out.sub (gs := [celF w.heap.size [.int .i64 0, .bool false, .int .i64 0, .int .i64 0, .int .i64 0, .int .i64 0], celF (w.heap.size + 1) [.int .i64 0, .bool false, .int .i64 0, .int .i64 0, .int .i64 0, .int .i64 0], sloF (some ⟨g, o, none⟩) n L, celF r7 [.int .i64 m, .bool i, .int .i64 b, .int .i64 t, .int .i64 p, .int .i64 s]]) (fun f hf => by simp only [List.mem_cons, List.not_mem_nil, or_false] at hf ⊢; rcases hf with rfl | rfl | rfl | rfl; exact .inr (.inr (.inr (rfl))); exact .inr (.inr (.inl rfl)); exact .inr (.inl rfl); exact .inl rfl))
  have J2 := hid_mk (J1.out.set6 (Nat.le_refl _) (fun f hf hs => by
    simp only [List.mem_cons, List.not_mem_nil, or_false] at hf
    rcases hf with rfl | rfl | rfl
    · simp only [celF] at hs; omega
    · simp only [sloF] at hs; have := (on_some' hs); omega
    · simp only [celF] at hs; omega) (.int .i64 m) (.bool i) (.int .i64 b) (.int .i64 t) (.int .i64 p) (.int .i64 s))
  obtain ⟨z0, z1, z2, z3, z4, z5⟩ := (J1.out.cel (.head _)).c6
  obtain ⟨f0, f1, f2, f3, f4, f5⟩ := (J1.out.cel (.head _)).f6
  go_simp
  clear z0 z1 z2 z3 z4 z5 f0 f1 f2 f3 f4 f5 J J1
  refine hK.out _ _ (J2.out.sub (fun f hf => by simp only [List.mem_cons, List.not_mem_nil, or_false] at hf ⊢; rcases hf with rfl; exact .inr (.inr (.inr (rfl))))) (fun hHeld => ?_)
  clear hK K1
  (try simp only [Act.put]); (try simp only [List.setIfInBounds_toArray]); (try simp only [List.set_cons_succ]); (try simp only [List.set_cons_zero]); (try simp only [List.set_cons_succ]); (try simp only [List.set_cons_zero]); (try simp only [Nat.zero_add])
  have J3 := hid_mk (J2.out.sub (gs := [celF (w.heap.size + 1) [.int .i64 0, .bool false, .int .i64 0, .int .i64 0, .int .i64 0, .int .i64 0], celF w.heap.size [.int .i64 m, .bool i, .int .i64 b, .int .i64 t, .int .i64 p, .int .i64 s], sloF (some ⟨g, o, none⟩) n L, celF r7 [.int .i64 m, .bool i, .int .i64 b, .int .i64 t, .int .i64 p, .int .i64 s]]) (fun f hf => by simp only [List.mem_cons, List.not_mem_nil, or_false] at hf ⊢; rcases hf with rfl | rfl | rfl | rfl; exact .inr (.inl rfl); exact .inl rfl; exact .inr (.inr (.inl rfl)); exact .inr (.inr (.inr (rfl)))))
  generalize hwx : (((((w5.setCell ⟨w.heap.size, 0, none⟩ (.int .i64 m)).setCell ⟨w.heap.size, 1, none⟩ (.bool i)).setCell ⟨w.heap.size, 2, none⟩ (.int .i64 b)).setCell ⟨w.heap.size, 3, none⟩ (.int .i64 t)).setCell ⟨w.heap.size, 4, none⟩ (.int .i64 p)).setCell ⟨w.heap.size, 5, none⟩ (.int .i64 s) = w6 at J3 hHeld ⊢
  have hz6 : w5.heap.size ≤ w6.heap.size := by rw [← hwx]; simp only [World.size_setCell]; exact Nat.le_refl _
  clear hwx J2
  refine wpAnyH_ready (rs := [6]) (by kernel_rfl) (by simp) ?_
  refine AllReadyH.cons rfl (fun K1 hK => ?_) AllReadyH.nil
  have J4 := hid_mk (J3.out.set6 (by omega) (fun f hf hs => by
    simp only [List.mem_cons, List.not_mem_nil, or_false] at hf
    rcases hf with rfl | rfl | rfl
    · simp only [celF] at hs; omega
    · simp only [sloF] at hs; have := (on_some' hs); omega
    · simp only [celF] at hs; omega) (.int .i64 m2) (.bool i2) (.int .i64 b2) (.int .i64 t2) (.int .i64 p2) (.int .i64 s2))
  obtain ⟨z0, z1, z2, z3, z4, z5⟩ := (J3.out.cel (.head _)).c6
  obtain ⟨f0, f1, f2, f3, f4, f5⟩ := (J3.out.cel (.head _)).f6
  go_simp
  clear z0 z1 z2 z3 z4 z5 f0 f1 f2 f3 f4 f5 J3
  refine hK.out _ _ (J4.out.sub (fun f hf => by simp only [List.mem_cons, List.not_mem_nil, or_false] at hf ⊢; rcases hf with rfl; exact .inr (.inr (.inr (rfl))))) (fun hHeld => ?_)
  clear hK K1
  (try simp only [Act.put]); (try simp only [List.setIfInBounds_toArray]); (try simp only [List.set_cons_succ]); (try simp only [List.set_cons_zero]); (try simp only [List.set_cons_succ]); (try simp only [List.set_cons_zero]); (try simp only [Nat.zero_add])
  refine wpAnyH_done (by kernel_rfl) ?_ _
  clear hHeld
  try dsimp only
  generalize hwx : (((((w6.setCell ⟨w.heap.size + 1, 0, none⟩ (.int .i64 m2)).setCell ⟨w.heap.size + 1, 1, none⟩ (.bool i2)).setCell ⟨w.heap.size + 1, 2, none⟩ (.int .i64 b2)).setCell ⟨w.heap.size + 1, 3, none⟩ (.int .i64 t2)).setCell ⟨w.heap.size + 1, 4, none⟩ (.int .i64 p2)).setCell ⟨w.heap.size + 1, 5, none⟩ (.int .i64 s2) = w7 at J4 ⊢
  have hz7 : w6.heap.size ≤ w7.heap.size := by rw [← hwx]; simp only [World.size_setCell]; exact Nat.le_refl _
  clear hwx
  go_wp2
  obtain ⟨y0, y1, y2, y3, y4, y5⟩ := (J4.out.cel (.head _)).c6
  obtain ⟨x0, x1, x2, x3, x4, x5⟩ := (J4.out.cel (.tail _ (.head _))).c6
  refine bodyPost_ret (v := .tuple #[.slice (some ⟨g, o, none⟩) n c, .agg #[.int .i64 m, .bool i, .int .i64 b, .int .i64 t, .int .i64 p, .int .i64 s], .agg #[.int .i64 m2, .bool i2, .int .i64 b2, .int .i64 t2, .int .i64 p2, .int .i64 s2]]) (by simp [results, Try.results9, go_sem, x0, x1, x2, x3, x4, x5, y0, y1, y2, y3, y4, y5]) rfl ⟨g, o, n, c, L, m, i, b, t, p, s, m2, i2, b2, t2, p2, s2, rfl, ⟨J4.out.at (.tail _ (.tail _ (.head _))), by omega, by omega, hn, HB.out⟩, ⟨hm1, hm2⟩, ⟨hn1, hn2⟩, J4.out.bel⟩
end Go.Proofs.Ytcokcfgagbahbaa
