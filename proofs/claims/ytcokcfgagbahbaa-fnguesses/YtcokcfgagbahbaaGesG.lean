/- Guess of the program. No condition but that there are no more places than a list of the laws may have, and that the numbers are ints. -/
import Derived.Test.YtcokcfgagbahbaaGesF
namespace Go.Proofs.Ytcokcfgagbahbaa
open Go.ChangeShapes Go.WideShapes Go.ChangeAt Go.RowKit Go.Maps Go.Sort Go.Shelf
set_option maxRecDepth 100000

/-- What Guess has for a place: what was learnt, else one more. -/
def gueN (L : List Int) (n : Int) : Int := match gE L n with
  | some v => v
  | none => wrap64 (n + 1)

theorem look_ok {W : World} {b n : Nat} {D : DataW Unit} {g : Int → Option Int} {x v : Int} (hown : W.ownsMap Try.prog 3 (plainElem Try.prog 3) b n D) (hg : MapG D g) (hx : (Lit.int .i64 x).wf = true) (hv : g x = some v) :
    (Instr.lookup 54 (.map (some b)) (.int .i64 x) true).run Try.prog W = .ok (.tuple #[.int .i64 v, .bool true]) W := by
  obtain ⟨c, ps, hrun, hat⟩ := hown.look_ok lawI Try.underlying54 (z := .int .i64 0) (by kernel_rfl) (plainElem_int Try.underlying3 (by decide)) (keyOf_int_mk Try.underlying3 hx)
  rw [hg.at_ x v hv] at hat
  obtain ⟨c', rfl, hc, _⟩ := plainElem_int_inv Try.underlying3 hat
  simp only [Prod.mk.injEq] at hc
  have h1 : kI v = kI c' := by have := hc.1; injection this
  have h2 : v = c' := by injection h1
  rw [hrun, hg.has x, hv, h2]
  rfl
theorem look_no {W : World} {b n : Nat} {D : DataW Unit} {g : Int → Option Int} {x : Int} (hown : W.ownsMap Try.prog 3 (plainElem Try.prog 3) b n D) (hg : MapG D g) (hx : (Lit.int .i64 x).wf = true) (hv : g x = none) :
    (Instr.lookup 54 (.map (some b)) (.int .i64 x) true).run Try.prog W = .ok (.tuple #[.int .i64 0, .bool false]) W := by
  obtain ⟨c, ps, hrun, hat⟩ := hown.look_ok lawI Try.underlying54 (z := .int .i64 0) (by kernel_rfl) (plainElem_int Try.underlying3 (by decide)) (keyOf_int_mk Try.underlying3 hx)
  have hh : Maps.has D (kI x) = false := by rw [hg.has x, hv]; rfl
  rw [atKey_of_not_has hh] at hat
  obtain ⟨c', rfl, hc, _⟩ := plainElem_int_inv Try.underlying3 hat
  simp only [Prod.mk.injEq] at hc
  have h1 : kI 0 = kI c' := by have := hc.1; injection this
  have h2 : 0 = c' := by injection h1
  rw [hrun, hh, h2]

set_option maxHeartbeats 8000000 in
theorem implGuess_any (a : Option Addr) (len cap : Nat) (L : List Int) (x : Wd) (w : World) (hl : len ≤ 1048576) (hS : SliceN w.heap.size w a len L) (hW : ∀ x ∈ L, (Lit.int .i64 x).wf = true) (hwx : (Lit.int .i64 x.n).wf = true) :
    Calls Try.prog 17 #[.slice a len cap, .agg #[.int .i64 x.n, .bool x.i, .int .i64 x.b, .int .i64 x.t, .int .i64 x.p, .int .i64 x.s]] w fun e w' => e = .returned (madeV (gueN L x.n % 65536) (openB x.n x.i x.b x.t x.p x.s) x.b x.t x.p x.s) ∧ Below w.heap.size w w' := by
  have HW := hid_mk hW
  have H := hid_mk (((((Hold.new w).push (sinF w.heap.size a len L) ⟨hS, Nat.le_refl _⟩).alloc (.cells #[.int .i64 x.n, .bool x.i, .int .i64 x.b, .int .i64 x.t, .int .i64 x.p, .int .i64 x.s] 28)).push (celF w.heap.size [.int .i64 x.n, .bool x.i, .int .i64 x.b, .int .i64 x.t, .int .i64 x.p, .int .i64 x.s]) (Cel.new w _ _)).alloc (.cells #[.int .i64 0, .bool false, .int .i64 0, .int .i64 0, .int .i64 0, .int .i64 0] 28))
  have HC := Cel.new (w.alloc (.cells #[.int .i64 x.n, .bool x.i, .int .i64 x.b, .int .i64 x.t, .int .i64 x.p, .int .i64 x.s] 28)) [.int .i64 0, .bool false, .int .i64 0, .int .i64 0, .int .i64 0, .int .i64 0] 28
  rw [World.size_alloc] at HC
  replace H := hid_mk (H.out.push (celF (w.heap.size + 1) [.int .i64 0, .bool false, .int .i64 0, .int .i64 0, .int .i64 0, .int .i64 0]) HC)
  have s2 := fun w => implPoint_any x.n x.i x.b x.t x.p x.s (gueN L x.n) w
  obtain ⟨u0, u1, u2, u3, u4, u5, hV⟩ : ∃ (u0 : Int) (u1 : Bool) (u2 u3 u4 u5 : Int), madeV (gueN L x.n % 65536) (openB x.n x.i x.b x.t x.p x.s) x.b x.t x.p x.s = .agg #[.int .i64 u0, .bool u1, .int .i64 u2, .int .i64 u3, .int .i64 u4, .int .i64 u5] := ⟨_, _, _, _, _, _, rfl⟩
  rw [hV] at s2 ⊢
  clear hS hW HC hV
  generalize hw1 : (w.alloc (.cells #[.int .i64 x.n, .bool x.i, .int .i64 x.b, .int .i64 x.t, .int .i64 x.p, .int .i64 x.s] 28)).alloc (.cells #[.int .i64 0, .bool false, .int .i64 0, .int .i64 0, .int .i64 0, .int .i64 0] 28) = w1 at H
  cases hv : gE L x.n with
  | some v =>
    have HV := hid_mk hv
    have hgu : gueN L x.n = v := by unfold gueN; rw [hv]
    rw [hgu] at s2
    have S2 := hid_mk s2
    clear s2 hgu hv
    go_enter Try.func17, Try.ntmps17
    go_upto_region 1 with fail
    clear hw1
    have D0 := hid_mk H.out.drew
    refine wp_region_held_drew (S := fun w' => Hold w w' [celF (w.heap.size + 1) [.int .i64 0, .bool false, .int .i64 0, .int .i64 0, .int .i64 0, .int .i64 0], celF w.heap.size [.int .i64 x.n, .bool x.i, .int .i64 x.b, .int .i64 x.t, .int .i64 x.p, .int .i64 x.s]]) (by kernel_rfl) (D0.out.sub (fun f hf => by simp only [List.mem_cons, List.not_mem_nil, or_false] at hf ⊢; rcases hf with rfl | rfl; exact .inl rfl; exact .inr (.inl rfl))) (fun hHeld => ?_)
    generalize w1.drew = wd at D0 hHeld ⊢
    clear H
    refine take_on (i := 0) (d := 8) (v := .slice a len cap) rfl rfl (by kernel_rfl) (by kernel_rfl) (by kernel_rfl) (fun _ _ _ h => h) (by rfl) ?_ hHeld ?_
    · (intro w' hSw; go_simp)
    (try simp only [Act.put]); (try simp only [List.setIfInBounds_toArray]); (try simp only [List.set_cons_succ]); (try simp only [List.set_cons_zero]); (try simp only [List.set_cons_succ]); (try simp only [List.set_cons_zero]); (try simp only [Nat.zero_add])
    refine take_on (i := 2) (d := 10) (v := .pointer (some ⟨w.heap.size, 0, none⟩)) rfl rfl (by kernel_rfl) (by kernel_rfl) (by kernel_rfl) (fun _ _ _ h => h) (by rfl) ?_ hHeld ?_
    · (intro w' hSw; go_simp)
    (try simp only [Act.put]); (try simp only [List.setIfInBounds_toArray]); (try simp only [List.set_cons_succ]); (try simp only [List.set_cons_zero]); (try simp only [List.set_cons_succ]); (try simp only [List.set_cons_zero]); (try simp only [Nat.zero_add])
    refine take_on (i := 3) (d := 11) (v := .int .i64 x.n) rfl rfl (by kernel_rfl) (by kernel_rfl) (by kernel_rfl) (fun _ _ _ h => h) (by rfl) ?_ hHeld ?_
    · (intro w' hSw; have hSx : Hold w w' [celF (w.heap.size + 1) [.int .i64 0, .bool false, .int .i64 0, .int .i64 0, .int .i64 0, .int .i64 0], celF w.heap.size [.int .i64 x.n, .bool x.i, .int .i64 x.b, .int .i64 x.t, .int .i64 x.p, .int .i64 x.s]] := hSw; have c0 := (hSx.cel (.tail _ (.head _))).c 0 _ rfl; go_simp)
    (try simp only [Act.put]); (try simp only [List.setIfInBounds_toArray]); (try simp only [List.set_cons_succ]); (try simp only [List.set_cons_zero]); (try simp only [List.set_cons_succ]); (try simp only [List.set_cons_zero]); (try simp only [Nat.zero_add])
    refine wpAnyH_ready (rs := [1]) (by kernel_rfl) (by simp) ?_
    refine AllReadyH.cons rfl (fun K1 hK => ?_) AllReadyH.nil
    go_simp
    refine (learntIn_any a len cap L _ hl (D0.out.sin (.tail _ (.tail _ (.head _)))) HW.out).mono ?_
    rintro e w2 ⟨b, D, rfl, hb0, hO, hG, hb⟩
    have J := hid_mk ((D0.out.next hb).push (ownF b len D) hO)
    clear hO hb
    refine hK.out _ _ J.out.mid2 (fun hHeld => ?_)
    clear hK K1
    (try simp only [Act.put]); (try simp only [List.setIfInBounds_toArray]); (try simp only [List.set_cons_succ]); (try simp only [List.set_cons_zero]); (try simp only [List.set_cons_succ]); (try simp only [List.set_cons_zero]); (try simp only [Nat.zero_add])
    refine wpAnyH_ready (rs := [4]) (by kernel_rfl) (by simp) ?_
    refine AllReadyH.cons rfl (fun K1 hK => ?_) AllReadyH.nil
    have e0 := look_ok (J.out.own (.head _)) hG hwx HV.out
    go_simp
    clear e0 hG
    refine hK.out _ _ J.out.mid2 (fun hHeld => ?_)
    clear hK K1
    (try simp only [Act.put]); (try simp only [List.setIfInBounds_toArray]); (try simp only [List.set_cons_succ]); (try simp only [List.set_cons_zero]); (try simp only [List.set_cons_succ]); (try simp only [List.set_cons_zero]); (try simp only [Nat.zero_add])
    refine take_on (i := 5) (d := 7) (v := .tuple #[.int .i64 v, .bool true]) rfl rfl (by kernel_rfl) (by kernel_rfl) (by kernel_rfl) (fun _ _ _ h => h) (by rfl) ?_ hHeld ?_
    · (intro w' hSw; go_simp)
    (try simp only [Act.put]); (try simp only [List.setIfInBounds_toArray]); (try simp only [List.set_cons_succ]); (try simp only [List.set_cons_zero]); (try simp only [List.set_cons_succ]); (try simp only [List.set_cons_zero]); (try simp only [Nat.zero_add])
    refine take_on (i := 6) (d := 13) (v := .int .i64 v) rfl rfl (by kernel_rfl) (by kernel_rfl) (by kernel_rfl) (fun _ _ _ h => h) (by rfl) ?_ hHeld ?_
    · (intro w' hSw; go_simp)
    (try simp only [Act.put]); (try simp only [List.setIfInBounds_toArray]); (try simp only [List.set_cons_succ]); (try simp only [List.set_cons_zero]); (try simp only [List.set_cons_succ]); (try simp only [List.set_cons_zero]); (try simp only [Nat.zero_add])
    refine take_on (i := 7) (d := 14) (v := .bool true) rfl rfl (by kernel_rfl) (by kernel_rfl) (by kernel_rfl) (fun _ _ _ h => h) (by rfl) ?_ hHeld ?_
    · (intro w' hSw; go_simp)
    (try simp only [Act.put]); (try simp only [List.setIfInBounds_toArray]); (try simp only [List.set_cons_succ]); (try simp only [List.set_cons_zero]); (try simp only [List.set_cons_succ]); (try simp only [List.set_cons_zero]); (try simp only [Nat.zero_add])
    refine take_on (i := 8) (d := 5) (v := .int .i64 v) rfl rfl (by kernel_rfl) (by kernel_rfl) (by kernel_rfl) (fun _ _ _ h => h) (by rfl) ?_ hHeld ?_
    · (intro w' hSw; go_simp)
    (try simp only [Act.put]); (try simp only [List.setIfInBounds_toArray]); (try simp only [List.set_cons_succ]); (try simp only [List.set_cons_zero]); (try simp only [List.set_cons_succ]); (try simp only [List.set_cons_zero]); (try simp only [Nat.zero_add])
    refine take_on (i := 9) (d := 6) (v := .bool true) rfl rfl (by kernel_rfl) (by kernel_rfl) (by kernel_rfl) (fun _ _ _ h => h) (by rfl) ?_ hHeld ?_
    · (intro w' hSw; go_simp)
    (try simp only [Act.put]); (try simp only [List.setIfInBounds_toArray]); (try simp only [List.set_cons_succ]); (try simp only [List.set_cons_zero]); (try simp only [List.set_cons_succ]); (try simp only [List.set_cons_zero]); (try simp only [Nat.zero_add])
    refine wpAnyH_done (by kernel_rfl) ?_ _
    clear hHeld
    try dsimp only
    have Y := hid_mk J.out.mid2
    clear J D0
    obtain ⟨c0, c1, c2, c3, c4, c5⟩ := (Y.out.cel (.tail _ (.head _))).c6
    go_wp2_with fail
    refine (S2.out _).mono ?_
    rintro e w5 ⟨rfl, hb⟩
    have Y2 := hid_mk (Y.out.next hb)
    clear hb c0 c1 c2 c3 c4 c5
    obtain ⟨d0, d1, d2, d3, d4, d5⟩ := (Y2.out.cel (.head _)).c6
    obtain ⟨f0, f1, f2, f3, f4, f5⟩ := (Y2.out.cel (.head _)).f6
    go_wp2
    refine bodyPost_ret (v := .agg #[.int .i64 u0, .bool u1, .int .i64 u2, .int .i64 u3, .int .i64 u4, .int .i64 u5]) (by simp [results, Try.results17, go_sem, d0, d1, d2, d3, d4, d5]) rfl ⟨rfl, ?_⟩
    have hz := Y2.out.bel
    repeat' (first | (with_reducible exact hz) | (with_reducible apply Below.drew) | (with_reducible apply below_drewN) | (refine Below.setCell ?_ (by show w.heap.size ≤ _; dsimp only; omega) _))
  | none =>
    have HV := hid_mk hv
    have hgu : gueN L x.n = wrap64 (x.n + 1) := by unfold gueN; rw [hv]
    rw [hgu] at s2
    have S2 := hid_mk s2
    clear s2 hgu hv
    go_enter Try.func17, Try.ntmps17
    go_upto_region 1 with fail
    clear hw1
    have D0 := hid_mk H.out.drew
    refine wp_region_held_drew (S := fun w' => Hold w w' [celF (w.heap.size + 1) [.int .i64 0, .bool false, .int .i64 0, .int .i64 0, .int .i64 0, .int .i64 0], celF w.heap.size [.int .i64 x.n, .bool x.i, .int .i64 x.b, .int .i64 x.t, .int .i64 x.p, .int .i64 x.s]]) (by kernel_rfl) (D0.out.sub (fun f hf => by simp only [List.mem_cons, List.not_mem_nil, or_false] at hf ⊢; rcases hf with rfl | rfl; exact .inl rfl; exact .inr (.inl rfl))) (fun hHeld => ?_)
    generalize w1.drew = wd at D0 hHeld ⊢
    clear H
    refine take_on (i := 0) (d := 8) (v := .slice a len cap) rfl rfl (by kernel_rfl) (by kernel_rfl) (by kernel_rfl) (fun _ _ _ h => h) (by rfl) ?_ hHeld ?_
    · (intro w' hSw; go_simp)
    (try simp only [Act.put]); (try simp only [List.setIfInBounds_toArray]); (try simp only [List.set_cons_succ]); (try simp only [List.set_cons_zero]); (try simp only [List.set_cons_succ]); (try simp only [List.set_cons_zero]); (try simp only [Nat.zero_add])
    refine take_on (i := 2) (d := 10) (v := .pointer (some ⟨w.heap.size, 0, none⟩)) rfl rfl (by kernel_rfl) (by kernel_rfl) (by kernel_rfl) (fun _ _ _ h => h) (by rfl) ?_ hHeld ?_
    · (intro w' hSw; go_simp)
    (try simp only [Act.put]); (try simp only [List.setIfInBounds_toArray]); (try simp only [List.set_cons_succ]); (try simp only [List.set_cons_zero]); (try simp only [List.set_cons_succ]); (try simp only [List.set_cons_zero]); (try simp only [Nat.zero_add])
    refine take_on (i := 3) (d := 11) (v := .int .i64 x.n) rfl rfl (by kernel_rfl) (by kernel_rfl) (by kernel_rfl) (fun _ _ _ h => h) (by rfl) ?_ hHeld ?_
    · (intro w' hSw; have hSx : Hold w w' [celF (w.heap.size + 1) [.int .i64 0, .bool false, .int .i64 0, .int .i64 0, .int .i64 0, .int .i64 0], celF w.heap.size [.int .i64 x.n, .bool x.i, .int .i64 x.b, .int .i64 x.t, .int .i64 x.p, .int .i64 x.s]] := hSw; have c0 := (hSx.cel (.tail _ (.head _))).c 0 _ rfl; go_simp)
    (try simp only [Act.put]); (try simp only [List.setIfInBounds_toArray]); (try simp only [List.set_cons_succ]); (try simp only [List.set_cons_zero]); (try simp only [List.set_cons_succ]); (try simp only [List.set_cons_zero]); (try simp only [Nat.zero_add])
    refine wpAnyH_ready (rs := [1]) (by kernel_rfl) (by simp) ?_
    refine AllReadyH.cons rfl (fun K1 hK => ?_) AllReadyH.nil
    go_simp
    refine (learntIn_any a len cap L _ hl (D0.out.sin (.tail _ (.tail _ (.head _)))) HW.out).mono ?_
    rintro e w2 ⟨b, D, rfl, hb0, hO, hG, hb⟩
    have J := hid_mk ((D0.out.next hb).push (ownF b len D) hO)
    clear hO hb
    refine hK.out _ _ J.out.mid2 (fun hHeld => ?_)
    clear hK K1
    (try simp only [Act.put]); (try simp only [List.setIfInBounds_toArray]); (try simp only [List.set_cons_succ]); (try simp only [List.set_cons_zero]); (try simp only [List.set_cons_succ]); (try simp only [List.set_cons_zero]); (try simp only [Nat.zero_add])
    refine wpAnyH_ready (rs := [4]) (by kernel_rfl) (by simp) ?_
    refine AllReadyH.cons rfl (fun K1 hK => ?_) AllReadyH.nil
    have e0 := look_no (J.out.own (.head _)) hG hwx HV.out
    go_simp
    clear e0 hG
    refine hK.out _ _ J.out.mid2 (fun hHeld => ?_)
    clear hK K1
    (try simp only [Act.put]); (try simp only [List.setIfInBounds_toArray]); (try simp only [List.set_cons_succ]); (try simp only [List.set_cons_zero]); (try simp only [List.set_cons_succ]); (try simp only [List.set_cons_zero]); (try simp only [Nat.zero_add])
    refine take_on (i := 5) (d := 7) (v := .tuple #[.int .i64 0, .bool false]) rfl rfl (by kernel_rfl) (by kernel_rfl) (by kernel_rfl) (fun _ _ _ h => h) (by rfl) ?_ hHeld ?_
    · (intro w' hSw; go_simp)
    (try simp only [Act.put]); (try simp only [List.setIfInBounds_toArray]); (try simp only [List.set_cons_succ]); (try simp only [List.set_cons_zero]); (try simp only [List.set_cons_succ]); (try simp only [List.set_cons_zero]); (try simp only [Nat.zero_add])
    refine take_on (i := 6) (d := 13) (v := .int .i64 0) rfl rfl (by kernel_rfl) (by kernel_rfl) (by kernel_rfl) (fun _ _ _ h => h) (by rfl) ?_ hHeld ?_
    · (intro w' hSw; go_simp)
    (try simp only [Act.put]); (try simp only [List.setIfInBounds_toArray]); (try simp only [List.set_cons_succ]); (try simp only [List.set_cons_zero]); (try simp only [List.set_cons_succ]); (try simp only [List.set_cons_zero]); (try simp only [Nat.zero_add])
    refine take_on (i := 7) (d := 14) (v := .bool false) rfl rfl (by kernel_rfl) (by kernel_rfl) (by kernel_rfl) (fun _ _ _ h => h) (by rfl) ?_ hHeld ?_
    · (intro w' hSw; go_simp)
    (try simp only [Act.put]); (try simp only [List.setIfInBounds_toArray]); (try simp only [List.set_cons_succ]); (try simp only [List.set_cons_zero]); (try simp only [List.set_cons_succ]); (try simp only [List.set_cons_zero]); (try simp only [Nat.zero_add])
    refine take_on (i := 8) (d := 5) (v := .int .i64 0) rfl rfl (by kernel_rfl) (by kernel_rfl) (by kernel_rfl) (fun _ _ _ h => h) (by rfl) ?_ hHeld ?_
    · (intro w' hSw; go_simp)
    (try simp only [Act.put]); (try simp only [List.setIfInBounds_toArray]); (try simp only [List.set_cons_succ]); (try simp only [List.set_cons_zero]); (try simp only [List.set_cons_succ]); (try simp only [List.set_cons_zero]); (try simp only [Nat.zero_add])
    refine take_on (i := 9) (d := 6) (v := .bool false) rfl rfl (by kernel_rfl) (by kernel_rfl) (by kernel_rfl) (fun _ _ _ h => h) (by rfl) ?_ hHeld ?_
    · (intro w' hSw; go_simp)
    (try simp only [Act.put]); (try simp only [List.setIfInBounds_toArray]); (try simp only [List.set_cons_succ]); (try simp only [List.set_cons_zero]); (try simp only [List.set_cons_succ]); (try simp only [List.set_cons_zero]); (try simp only [Nat.zero_add])
    refine wpAnyH_done (by kernel_rfl) ?_ _
    clear hHeld
    try dsimp only
    have Y := hid_mk J.out.mid2
    clear J D0
    obtain ⟨c0, c1, c2, c3, c4, c5⟩ := (Y.out.cel (.tail _ (.head _))).c6
    go_wp2_with fail
    refine (S2.out _).mono ?_
    rintro e w5 ⟨rfl, hb⟩
    have Y2 := hid_mk (Y.out.next hb)
    clear hb c0 c1 c2 c3 c4 c5
    obtain ⟨d0, d1, d2, d3, d4, d5⟩ := (Y2.out.cel (.head _)).c6
    obtain ⟨f0, f1, f2, f3, f4, f5⟩ := (Y2.out.cel (.head _)).f6
    go_wp2
    refine bodyPost_ret (v := .agg #[.int .i64 u0, .bool u1, .int .i64 u2, .int .i64 u3, .int .i64 u4, .int .i64 u5]) (by simp [results, Try.results17, go_sem, d0, d1, d2, d3, d4, d5]) rfl ⟨rfl, ?_⟩
    have hz := Y2.out.bel
    repeat' (first | (with_reducible exact hz) | (with_reducible apply Below.drew) | (with_reducible apply below_drewN) | (refine Below.setCell ?_ (by show w.heap.size ≤ _; dsimp only; omega) _))
end Go.Proofs.Ytcokcfgagbahbaa
