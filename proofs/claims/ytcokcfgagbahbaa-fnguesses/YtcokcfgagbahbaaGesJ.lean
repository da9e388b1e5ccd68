/- Guess and Learn of the specification. No condition but that there are no more places than a list of the laws may have. -/
import Derived.Test.YtcokcfgagbahbaaGesH
namespace Go.Proofs.Ytcokcfgagbahbaa
open Go.ChangeShapes Go.WideShapes Go.ChangeAt Go.RowKit Go.Maps Go.Sort Go.Shelf
set_option maxRecDepth 100000

theorem Hold.put {w0 w : World} {fs : List Fct} (h : Hold w0 w fs) (r o : Nat) (v : Value) (h0 : w0.heap.size ≤ r) (hd : ∀ f ∈ fs, ¬ f.S r) : Hold w0 (w.setCell ⟨r, o, none⟩ v) fs :=
  h.wrote (T := fun k => k = r) (KeptS.ofBut ((KeepBut.refl r w).setCell o v) rfl) (fun k hk => by subst hk; exact h0) (fun f hf k hk e => by subst e; exact hd f hf hk)

set_option maxHeartbeats 1000000 in
theorem specGuess_any (a : Option Addr) (len cap : Nat) (L : List Int) (n : Int) (i : Bool) (b t p s : Int) (w : World) (hl : len ≤ 1048576) (hS : SliceN w.heap.size w a len L) :
    Calls Try.prog 18 #[.slice a len cap, .agg #[.int .i64 n, .bool i, .int .i64 b, .int .i64 t, .int .i64 p, .int .i64 s]] w fun e w' => e = .returned (madeV (gueN L n % 65536) (openB n i b t p s) b t p s) ∧ Below w.heap.size w w' := by
  have hlL := hS.2.1
  have H := hid_mk (((((Hold.new w).push (sinF w.heap.size a len L) ⟨hS, Nat.le_refl _⟩).alloc (.cells #[.int .i64 n, .bool i, .int .i64 b, .int .i64 t, .int .i64 p, .int .i64 s] 28)).push (celF w.heap.size [.int .i64 n, .bool i, .int .i64 b, .int .i64 t, .int .i64 p, .int .i64 s]) (Cel.new w _ _)).alloc (.cells #[.int .i64 0, .bool false, .int .i64 0, .int .i64 0, .int .i64 0, .int .i64 0] 28))
  have HC := Cel.new (w.alloc (.cells #[.int .i64 n, .bool i, .int .i64 b, .int .i64 t, .int .i64 p, .int .i64 s] 28)) [.int .i64 0, .bool false, .int .i64 0, .int .i64 0, .int .i64 0, .int .i64 0] 28
  rw [World.size_alloc] at HC
  replace H := hid_mk (H.out.push (celF (w.heap.size + 1) [.int .i64 0, .bool false, .int .i64 0, .int .i64 0, .int .i64 0, .int .i64 0]) HC)
  have s2 := fun w => specPoint_any n i b t p s (gueN L n) w
  obtain ⟨u0, u1, u2, u3, u4, u5, hV⟩ : ∃ (u0 : Int) (u1 : Bool) (u2 u3 u4 u5 : Int), madeV (gueN L n % 65536) (openB n i b t p s) b t p s = .agg #[.int .i64 u0, .bool u1, .int .i64 u2, .int .i64 u3, .int .i64 u4, .int .i64 u5] := ⟨_, _, _, _, _, _, rfl⟩
  rw [hV] at s2 ⊢
  have hgo := gE_out (L := L) (x := n)
  have hat := fun j (hj : j < len) => hS.at hj
  clear hS HC hV
  have I := hid_mk (l1In_at n 0 ((len : Int) - 1))
  by_cases hin : 0 ≤ n ∧ n ≤ (len : Int) - 1
  · obtain ⟨k, rfl⟩ : ∃ k : Nat, n = (k : Int) := ⟨n.toNat, by omega⟩
    have hk : k < len := by omega
    obtain ⟨kb, o, v, rfl, hkb, hx, d0⟩ := hat k hk
    have DAT : Hid (∀ w', Hold w w' [celF w.heap.size [.int .i64 (k : Int), .bool i, .int .i64 b, .int .i64 t, .int .i64 p, .int .i64 s], sinF w.heap.size (some ⟨kb, o, none⟩) len L] → w'.cell? ⟨kb, o + k, none⟩ = some (.int .i64 v)) := fun w' h => by
      obtain ⟨kb', o', v', e, _, hx', d0'⟩ := (h.sin (.tail _ (.head _))).at hk
      cases e
      rw [hx] at hx'
      cases hx'
      exact d0'
    have hd : decide (0 ≤ (k : Int) ∧ (k : Int) ≤ (len : Int) - 1) = true := by simp; omega
    rw [hd] at I
    have hgv := gE_at hx
    clear hd d0 hat hgo
    generalize hw1 : (w.alloc (.cells #[.int .i64 (k : Int), .bool i, .int .i64 b, .int .i64 t, .int .i64 p, .int .i64 s] 28)).alloc (.cells #[.int .i64 0, .bool false, .int .i64 0, .int .i64 0, .int .i64 0, .int .i64 0] 28) = w1 at H
    by_cases hv : v = -1
    · subst hv
      have hgu : gueN L (k : Int) = (k : Int) + 1 := by
        have e : gE L (k : Int) = none := by rw [hgv]; simp
        unfold gueN
        rw [e]
        show wrap64 ((k : Int) + 1) = _
        unfold wrap64; omega
      rw [hgu] at s2
      have S2 := hid_mk s2
      clear s2 hgu hgv
      go_enter Try.func18, Try.ntmps18
      go_upto_region 1 with fail
      clear hw1
      have d0 := DAT.out w1 H.out.tail
      obtain ⟨c0, c1, c2, c3, c4, c5⟩ := (H.out.cel (.tail _ (.head _))).c6
      have Y := hid_mk H.out
      clear H
      go_wp2_with (go_at_call 35; refine (I.out _).mono ?_; rintro e w' ⟨rfl, rfl⟩)
      refine (S2.out _).mono ?_
      rintro e w5 ⟨rfl, hb⟩
      have Y2 := hid_mk (Y.out.next hb)
      clear hb c0 c1 c2 c3 c4 c5
      obtain ⟨y0, y1, y2, y3, y4, y5⟩ := (Y2.out.cel (.head _)).c6
      obtain ⟨f0, f1, f2, f3, f4, f5⟩ := (Y2.out.cel (.head _)).f6
      go_wp2
      refine bodyPost_ret (v := .agg #[.int .i64 u0, .bool u1, .int .i64 u2, .int .i64 u3, .int .i64 u4, .int .i64 u5]) (by simp [results, Try.results18, go_sem, y0, y1, y2, y3, y4, y5]) rfl ⟨rfl, ?_⟩
      have hz := Y2.out.bel
      repeat' (first | (with_reducible exact hz) | (with_reducible apply Below.drew) | (with_reducible apply below_drewN) | (refine Below.setCell ?_ (by show w.heap.size ≤ _; dsimp only; omega) _))
    · have hgu : gueN L (k : Int) = v := by unfold gueN; rw [hgv, if_neg hv]
      rw [hgu] at s2
      have S2 := hid_mk s2
      have hvn : (v != -1) = true := by simpa using hv
      clear s2 hgu hgv
      go_enter Try.func18, Try.ntmps18
      go_upto_region 1 with fail
      clear hw1
      have d0 := DAT.out w1 H.out.tail
      obtain ⟨c0, c1, c2, c3, c4, c5⟩ := (H.out.cel (.tail _ (.head _))).c6
      go_upto_region 2 with (go_at_call 35; refine (I.out _).mono ?_; rintro e w9 ⟨rfl, rfl⟩)
      have Y := hid_mk H.out
      clear H c0 c1 c2 c3 c4 c5 d0
      have D0 := hid_mk Y.out.drew
      refine wp_region_held_drew (S := fun w' => Hold w w' [celF w.heap.size [.int .i64 (k : Int), .bool i, .int .i64 b, .int .i64 t, .int .i64 p, .int .i64 s], sinF w.heap.size (some ⟨kb, o, none⟩) len L]) (by kernel_rfl) D0.out.tail (fun hHeld => ?_)
      generalize w9.drew = wd at D0 hHeld ⊢
      clear Y
      refine take_on (i := 0) (d := 19) (v := .agg #[.int .i64 (k : Int), .bool i, .int .i64 b, .int .i64 t, .int .i64 p, .int .i64 s]) rfl rfl (by kernel_rfl) (by kernel_rfl) (by kernel_rfl) (fun _ _ _ h => h) (by rfl) ?_ hHeld ?_
      · (intro w' hSw; have hSx : Hold w w' [celF w.heap.size [.int .i64 (k : Int), .bool i, .int .i64 b, .int .i64 t, .int .i64 p, .int .i64 s], sinF w.heap.size (some ⟨kb, o, none⟩) len L] := hSw; obtain ⟨c0, c1, c2, c3, c4, c5⟩ := (hSx.cel (.head _)).c6; go_simp)
      (try simp only [Act.put]); (try simp only [List.setIfInBounds_toArray]); (try simp only [List.set_cons_succ]); (try simp only [List.set_cons_zero]); (try simp only [List.set_cons_succ]); (try simp only [List.set_cons_zero]); (try simp only [Nat.zero_add])
      refine take_on (i := 1) (d := 20) (v := .slice (some ⟨kb, o, none⟩) len cap) rfl rfl (by kernel_rfl) (by kernel_rfl) (by kernel_rfl) (fun _ _ _ h => h) (by rfl) ?_ hHeld ?_
      · (intro w' hSw; go_simp)
      (try simp only [Act.put]); (try simp only [List.setIfInBounds_toArray]); (try simp only [List.set_cons_succ]); (try simp only [List.set_cons_zero]); (try simp only [List.set_cons_succ]); (try simp only [List.set_cons_zero]); (try simp only [Nat.zero_add])
      refine take_on (i := 2) (d := 21) (v := .pointer (some ⟨w.heap.size, 0, none⟩)) rfl rfl (by kernel_rfl) (by kernel_rfl) (by kernel_rfl) (fun _ _ _ h => h) (by rfl) ?_ hHeld ?_
      · (intro w' hSw; go_simp)
      (try simp only [Act.put]); (try simp only [List.setIfInBounds_toArray]); (try simp only [List.set_cons_succ]); (try simp only [List.set_cons_zero]); (try simp only [List.set_cons_succ]); (try simp only [List.set_cons_zero]); (try simp only [Nat.zero_add])
      refine take_on (i := 3) (d := 22) (v := .int .i64 (k : Int)) rfl rfl (by kernel_rfl) (by kernel_rfl) (by kernel_rfl) (fun _ _ _ h => h) (by rfl) ?_ hHeld ?_
      · (intro w' hSw; have hSx : Hold w w' [celF w.heap.size [.int .i64 (k : Int), .bool i, .int .i64 b, .int .i64 t, .int .i64 p, .int .i64 s], sinF w.heap.size (some ⟨kb, o, none⟩) len L] := hSw; obtain ⟨c0, c1, c2, c3, c4, c5⟩ := (hSx.cel (.head _)).c6; go_simp)
      (try simp only [Act.put]); (try simp only [List.setIfInBounds_toArray]); (try simp only [List.set_cons_succ]); (try simp only [List.set_cons_zero]); (try simp only [List.set_cons_succ]); (try simp only [List.set_cons_zero]); (try simp only [Nat.zero_add])
      refine take_on (i := 4) (d := 23) (v := .pointer (some ⟨kb, o + k, none⟩)) rfl rfl (by kernel_rfl) (by kernel_rfl) (by kernel_rfl) (fun _ _ _ h => h) (by rfl) ?_ hHeld ?_
      · (intro w' hSw; go_simp)
      (try simp only [Act.put]); (try simp only [List.setIfInBounds_toArray]); (try simp only [List.set_cons_succ]); (try simp only [List.set_cons_zero]); (try simp only [List.set_cons_succ]); (try simp only [List.set_cons_zero]); (try simp only [Nat.zero_add])
      refine take_on (i := 5) (d := 24) (v := .int .i64 v) rfl rfl (by kernel_rfl) (by kernel_rfl) (by kernel_rfl) (fun _ _ _ h => h) (by rfl) ?_ hHeld ?_
      · (intro w' hSw; have d0 := DAT.out w' hSw; go_simp)
      (try simp only [Act.put]); (try simp only [List.setIfInBounds_toArray]); (try simp only [List.set_cons_succ]); (try simp only [List.set_cons_zero]); (try simp only [List.set_cons_succ]); (try simp only [List.set_cons_zero]); (try simp only [Nat.zero_add])
      refine wpAnyH_ready (rs := [6]) (by kernel_rfl) (by simp) ?_
      refine AllReadyH.cons rfl (fun K1 hK => ?_) AllReadyH.nil
      go_simp
      refine (S2.out _).mono ?_
      rintro e w5 ⟨rfl, hb⟩
      have Y2 := hid_mk (D0.out.next hb)
      clear hb D0
      refine hK.out _ _ Y2.out.tail (fun hHeld => ?_)
      clear hK K1
      (try simp only [Act.put]); (try simp only [List.setIfInBounds_toArray]); (try simp only [List.set_cons_succ]); (try simp only [List.set_cons_zero]); (try simp only [List.set_cons_succ]); (try simp only [List.set_cons_zero]); (try simp only [Nat.zero_add])
      refine wpAnyH_ready (rs := [7]) (by kernel_rfl) (by simp) ?_
      refine AllReadyH.cons rfl (fun K1 hK => ?_) AllReadyH.nil
      obtain ⟨d0, d1, d2, d3, d4, d5⟩ := (Y2.out.cel (.head _)).c6
      obtain ⟨f0, f1, f2, f3, f4, f5⟩ := (Y2.out.cel (.head _)).f6
      go_simp
      have hd : ∀ f ∈ [celF w.heap.size [.int .i64 (k : Int), .bool i, .int .i64 b, .int .i64 t, .int .i64 p, .int .i64 s], sinF w.heap.size (some ⟨kb, o, none⟩) len L], ¬ f.S (w.heap.size + 1) := fun f hf hs => by
        simp only [List.mem_cons, List.not_mem_nil, or_false] at hf
        rcases hf with rfl | rfl
        · simp only [celF] at hs; omega
        · simp only [sinF] at hs; omega
      have h1 : w.heap.size ≤ w.heap.size + 1 := by omega
      refine hK.out _ _ ((((((Y2.out.tail.put _ _ _ h1 hd).put _ _ _ h1 hd).put _ _ _ h1 hd).put _ _ _ h1 hd).put _ _ _ h1 hd).put _ _ _ h1 hd) (fun hHeld => ?_)
      clear hK K1 hd
      (try simp only [Act.put]); (try simp only [List.setIfInBounds_toArray]); (try simp only [List.set_cons_succ]); (try simp only [List.set_cons_zero]); (try simp only [List.set_cons_succ]); (try simp only [List.set_cons_zero]); (try simp only [Nat.zero_add])
      refine wpAnyH_done (by kernel_rfl) ?_ _
      clear hHeld
      try dsimp only
      go_wp2
      refine bodyPost_ret (v := .agg #[.int .i64 u0, .bool u1, .int .i64 u2, .int .i64 u3, .int .i64 u4, .int .i64 u5]) (by simp [results, Try.results18, go_sem, d0, d1, d2, d3, d4, d5]) rfl ⟨rfl, ?_⟩
      have hz := Y2.out.bel
      repeat' (first | (with_reducible exact hz) | (with_reducible apply Below.drew) | (with_reducible apply below_drewN) | (refine Below.setCell ?_ (by show w.heap.size ≤ _; dsimp only; omega) _))
  · have hd : decide (0 ≤ n ∧ n ≤ (len : Int) - 1) = false := by simp; omega
    rw [hd] at I
    have hgv := hgo (by omega)
    clear hd hat hgo
    generalize hw1 : (w.alloc (.cells #[.int .i64 n, .bool i, .int .i64 b, .int .i64 t, .int .i64 p, .int .i64 s] 28)).alloc (.cells #[.int .i64 0, .bool false, .int .i64 0, .int .i64 0, .int .i64 0, .int .i64 0] 28) = w1 at H
    have hgu : gueN L n = wrap64 (n + 1) := by unfold gueN; rw [hgv]
    rw [hgu] at s2
    have S2 := hid_mk s2
    clear s2 hgu hgv
    go_enter Try.func18, Try.ntmps18
    go_upto_region 1 with fail
    clear hw1
    obtain ⟨c0, c1, c2, c3, c4, c5⟩ := (H.out.cel (.tail _ (.head _))).c6
    have Y := hid_mk H.out
    clear H
    go_wp2_with (go_at_call 35; refine (I.out _).mono ?_; rintro e w' ⟨rfl, rfl⟩)
    refine (S2.out _).mono ?_
    rintro e w5 ⟨rfl, hb⟩
    have Y2 := hid_mk (Y.out.next hb)
    clear hb c0 c1 c2 c3 c4 c5
    obtain ⟨y0, y1, y2, y3, y4, y5⟩ := (Y2.out.cel (.head _)).c6
    obtain ⟨f0, f1, f2, f3, f4, f5⟩ := (Y2.out.cel (.head _)).f6
    go_wp2
    refine bodyPost_ret (v := .agg #[.int .i64 u0, .bool u1, .int .i64 u2, .int .i64 u3, .int .i64 u4, .int .i64 u5]) (by simp [results, Try.results18, go_sem, y0, y1, y2, y3, y4, y5]) rfl ⟨rfl, ?_⟩
    have hz := Y2.out.bel
    repeat' (first | (with_reducible exact hz) | (with_reducible apply Below.drew) | (with_reducible apply below_drewN) | (refine Below.setCell ?_ (by show w.heap.size ≤ _; dsimp only; omega) _))
end Go.Proofs.Ytcokcfgagbahbaa
