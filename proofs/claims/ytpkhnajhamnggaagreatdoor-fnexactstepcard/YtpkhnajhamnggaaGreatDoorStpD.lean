/- Drop of the program with the room of what it answers; turned of the program: a state of its own, as the effect says. The memory is right behind the effect, and its words have room for their number. -/
import Derived.Test.YtpkhnajhamnggaaGreatDoorStpC
namespace Go.Proofs.YtpkhnajhamnggaaGreatDoor
open Go.ChangeShapes Go.WideShapes Go.ChangeAt Go.RowKit
set_option maxRecDepth 100000

set_option maxHeartbeats 8000000 in
theorem implDropC_any (a : Option Addr) (c : Nat) (a' : Option Addr) (c' : Nat) (L : List Wd) (G : List Bool) (m : Int) (hk : mokB L G = true) (w : World) (hM : MemS w a 24 a' 24 L G) :
    Calls Tryz.prog 92 #[.agg #[.slice a 24 c, .slice a' 24 c'], .int .i64 m] w fun e w' => ∃ b d b' d', e = .returned (.agg #[.slice b 24 d, .slice b' 24 d']) ∧ 24 ≤ d ∧ AnsM b b' 24 24 L (dropG L G m) w' ∧ (∀ k, On b k ∨ On b' k → w.heap.size ≤ k) ∧ Below w.heap.size w w' := by
  have H := hid_mk ((((((Hold.new w).push (argF w.heap.size a 24 a' 24 L G) hM.arg).alloc (.cells #[.slice a 24 c, .slice a' 24 c'] 40)).push (duoF w.heap.size (.slice a 24 c) (.slice a' 24 c')) (Duo.new w _ _ _)).alloc (.cells #[.slice none 0 0, .slice none 0 0] 40)).push (duoF (w.heap.size + 1) (.slice none 0 0) (.slice none 0 0)) (by
    have h := Duo.new (w.alloc (.cells #[.slice a 24 c, .slice a' 24 c'] 40)) (.slice none 0 0) (.slice none 0 0) 40
    rw [World.size_alloc] at h
    exact h))
  have s1 := implMemoryOk_any a 24 c a' 24 c' L G
  have hlw := hM.ws.2.1
  have hlg := hM.gs.2.1
  clear hM
  generalize hw1 : (w.alloc (.cells #[.slice a 24 c, .slice a' 24 c'] 40)).alloc (.cells #[.slice none 0 0, .slice none 0 0] 40) = w1 at H
  obtain ⟨h24, h24', _⟩ := mok_parts hk
  obtain ⟨D, hD⟩ : ∃ D, Hid (D = dropG L G m) := ⟨_, rfl⟩
  rw [← hD.out]
  have hDl : D.length = 24 := by
    rw [hD.out]
    by_cases hi : 0 ≤ m ∧ m ≤ 23
    · rw [drop_in hk hi, List.length_set]; exact h24'
    · rw [drop_out hk hi]; exact h24'
  rw [hk] at s1
  have S1 := hid_mk s1
  have s2 := isNumber_any m 24
  simp only [show (24 : Int) - 1 = 23 from rfl] at s2
  have HK := hid_mk hk
  clear s1 hk
  go_enter Tryz.func92, Tryz.ntmps92
  go_upto_region 1 with fail
  clear hw1
  obtain ⟨_, m0, m1, _, _⟩ := H.out.duo (.tail _ (.head _))
  go_wp2_with fail
  refine (S1.out _ (H.out.arg (.tail _ (.tail _ (.head _))))).mono ?_
  rintro e w2 ⟨rfl, hb2⟩
  replace H := hid_mk (H.out.next hb2)
  clear hb2 m0 m1 S1
  obtain ⟨_, m0, m1, _, _⟩ := H.out.duo (.tail _ (.head _))
  go_wp2_with fail
  refine (asItWas_c _ c _ c' L G _ (H.out.arg (.tail _ (.tail _ (.head _))))).mono ?_
  rintro e w3 ⟨b, d, b', d', rfl, hd, A3, hf3, hb3⟩
  have hlo : ∀ k, On b k ∨ On b' k → w.heap.size + 1 < k := fun k hk => by
    have h1 := hf3 k hk
    have h2 := (H.out.duo (.head _)).lt
    omega
  have hup : ∀ k, On b k ∨ On b' k → k < w3.heap.size := fun k hk => A3.lt hk
  have hlt : w.heap.size + 1 < w3.heap.size := Nat.lt_of_lt_of_le (H.out.duo (.head _)).lt hb3.size
  replace H := hid_mk ((((H.out.next hb3).push (ansF b b' 24 24 L G) A3).alloc (.cells #[.slice b 24 d, .slice b' 24 d'] 40)).push (duoF w3.heap.size (.slice b 24 d) (.slice b' 24 d')) (Duo.new _ _ _ _))
  clear hb3 m0 m1 hf3 A3
  go_upto_region 4 with fail
  generalize w3.alloc (.cells #[.slice b 24 d, .slice b' 24 d'] 40) = w4 at H ⊢
  generalize w3.heap.size = ro at H hup hlt ⊢
  have HLO := hid_mk hlo
  have HUP := hid_mk hup
  clear hlo hup
  by_cases hi : 0 ≤ m ∧ m ≤ 23
  · have hDD := hD.out.trans (drop_in HK.out hi)
    rw [decide_eq_true hi] at s2
    have S2 := hid_mk s2
    obtain ⟨hi0, hi1⟩ := hi
    obtain ⟨k, hkm⟩ : ∃ k : Nat, m.toNat = k := ⟨_, rfl⟩
    have hk24 : k < 24 := by omega
    have hmk : m = (k : Int) := by omega
    have A4 := hid_mk (H.out.ans (.tail _ (.head _)))
    obtain ⟨q, rfl, _, hOw⟩ : ∃ q, b = some ⟨q, 0, none⟩ ∧ L.length = 24 ∧ OutW w4 q 24 24 L := by
      rcases A4.out.ws with ⟨_, h0, _⟩ | h
      · omega
      · exact h
    obtain ⟨q', rfl, _, hO⟩ : ∃ q, b' = some ⟨q, 0, none⟩ ∧ G.length = 24 ∧ OutB w4 q 24 24 G := by
      rcases A4.out.gs with ⟨_, h0, _⟩ | h
      · omega
      · exact h
    obtain ⟨_, o0, o1, _, _⟩ := H.out.duo (.head _)
    obtain ⟨g0, hg0⟩ := Option.isSome_iff_exists.1 (hO.has k hk24)
    have hgf := hO.fr k hk24
    have hql := HLO.out q' (.inr ((on_some q' q').2 rfl))
    have hqu := HUP.out q' (.inr ((on_some q' q').2 rfl))
    have O5 := hid_mk (hO.put h24' hk24 true)
    have K5 := hid_mk ((KeepBut.refl q' w4).setCell k (.bool true))
    have A5 : Hid (AnsM (some ⟨q, 0, none⟩) (some ⟨q', 0, none⟩) 24 24 L (G.set k true) (w4.setCell ⟨q', k, none⟩ (.bool true))) := by
      have hne : q ≠ q' := fun e => A4.out.ne q ((on_some q q).2 rfl) ((on_some q' q).2 e.symm)
      exact ⟨.inr ⟨q, rfl, h24, hOw.keepB K5.out hne⟩, .inr ⟨q', rfl, by rw [List.length_set]; exact h24', O5.out⟩, A4.out.ne⟩
    have D5 := hid_mk ((H.out.duo (.head _)).keep K5.out (by omega))
    have R5 := hid_mk ((H.out.duo (.tail _ (.tail _ (.head _)))).keep K5.out (by omega))
    have B5 := hid_mk (H.out.bel.trans (K5.out.below (by omega) H.out.bel.size))
    clear hO hOw A4 H
    subst hmk
    go_wp2_with fail
    refine (S2.out _).mono ?_
    rintro e w' ⟨rfl, hw'⟩
    subst w'
    go_upto_region 6 with fail
    clear o0 o1 hg0 hgf
    rw [hkm] at hDD
    subst hDD
    generalize w4.setCell ⟨q', k, none⟩ (.bool true) = w5 at A5 D5 R5 B5 ⊢
    obtain ⟨_, o0, o1, _, _⟩ := D5.out
    obtain ⟨_, r0, r1, f0, f1⟩ := R5.out
    go_wp2
    refine bodyPost_ret (v := .agg #[.slice (some ⟨q, 0, none⟩) 24 d, .slice (some ⟨q', 0, none⟩) 24 d']) (by simp [results, Tryz.results92, go_sem, r0, r1]) rfl ⟨_, d, _, d', rfl, hd, ?_, fun k hk => ?_, below_two B5.out (by omega) _ _⟩
    · exact A5.out.two (fun k hk => by have := HLO.out k hk; omega) _ _
    · have := HLO.out k hk; omega
  · have hDD := hD.out.trans (drop_out HK.out hi)
    subst hDD
    rw [decide_eq_false hi] at s2
    have S2 := hid_mk s2
    obtain ⟨_, o0, o1, _, _⟩ := H.out.duo (.head _)
    obtain ⟨_, r0, r1, f0, f1⟩ := H.out.duo (.tail _ (.tail _ (.head _)))
    clear s2
    go_wp2_with fail
    refine (S2.out _).mono ?_
    rintro e w' ⟨rfl, hw'⟩
    subst w'
    go_wp2
    refine bodyPost_ret (v := .agg #[.slice b 24 d, .slice b' 24 d']) (by simp [results, Tryz.results92, go_sem, r0, r1]) rfl ⟨b, d, b', d', rfl, hd, ?_, fun k hk => ?_, below_two H.out.bel (by omega) _ _⟩
    · exact (H.out.ans (.tail _ (.head _))).two (fun k hk => by have := HLO.out k hk; omega) _ _
    · have := HLO.out k hk; omega

theorem drop_gon {L : List Wd} {G : List Bool} (h : mokB L G = true) (m : Int) : dropG L G m = gonA G m := by
  unfold gonA
  by_cases hm : 0 ≤ m ∧ m ≤ 23
  · rw [drop_in h hm, if_pos hm]
  · rw [drop_out h hm, if_neg hm]

set_option maxHeartbeats 4000000 in
theorem turned_any (a : Option Addr) (c : Nat) (x : Wd) (a1 : Option Addr) (c1 : Nat) (a2 : Option Addr) (c2 : Nat) (t : Int) (E : Eff) (R L : List Wd) (G : List Bool) (hcap : 24 ≤ c1) (hm : mokB (memA L E.at_ E.p) G = true) (w : World) (hS : StS w a 8 a1 24 a2 24 R L G) :
    Calls Tryz.prog 42 #[.agg #[.slice a 8 c, .int .i64 x.n, .bool x.i, .int .i64 x.b, .int .i64 x.t, .int .i64 x.p, .int .i64 x.s, .slice a1 24 c1, .slice a2 24 c2, .int .i64 t], .agg (effl E).toArray] w fun e w' => ∃ b d b1 d1 b2 d2, e = .returned (.agg #[.slice b 8 d, .int .i64 E.x.n, .bool E.x.i, .int .i64 E.x.b, .int .i64 E.x.t, .int .i64 E.x.p, .int .i64 E.x.s, .slice b1 24 d1, .slice b2 24 d2, .int .i64 E.t]) ∧ 24 ≤ d1 ∧ AnsS b b1 b2 8 24 24 (regA R E.r E.v) (memA L E.at_ E.p) (gonA G E.d) w' ∧ (∀ k, On b k ∨ On b1 k ∨ On b2 k → w.heap.size ≤ k) ∧ Below w.heap.size w w' := by
  have hlr := hS.rs.2.1
  obtain ⟨kb, o, _, rfl, _, _, _⟩ := hS.rs.at (j := 0) (by omega)
  obtain ⟨et, er, ev, ex, ea, ep, ed⟩ := E
  have H : Hid (Hold w (((w.alloc (.cells (stl (some ⟨kb, o, none⟩) 8 c x a1 24 c1 a2 24 c2 t).toArray 42)).alloc (.cells (effl ⟨et, er, ev, ex, ea, ep, ed⟩).toArray 82)).alloc (.cells ([.slice none 0 0, .int .i64 0, .bool false, .int .i64 0, .int .i64 0, .int .i64 0, .int .i64 0, .slice none 0 0, .slice none 0 0, .int .i64 0] : List Value).toArray 42)) [lenF (w.heap.size + 1 + 1) 10, celF (w.heap.size + 1) (effl ⟨et, er, ev, ex, ea, ep, ed⟩), celF w.heap.size (stl (some ⟨kb, o, none⟩) 8 c x a1 24 c1 a2 24 c2 t), argSF w.heap.size (some ⟨kb, o, none⟩) 8 a1 24 a2 24 R L G]) := by
    have h1 := (((Hold.new w).push (argSF w.heap.size (some ⟨kb, o, none⟩) 8 a1 24 a2 24 R L G) hS.arg).alloc (.cells (stl (some ⟨kb, o, none⟩) 8 c x a1 24 c1 a2 24 c2 t).toArray 42)).push (celF w.heap.size (stl (some ⟨kb, o, none⟩) 8 c x a1 24 c1 a2 24 c2 t)) (Cel.new w _ _)
    have h2 := h1.box (effl ⟨et, er, ev, ex, ea, ep, ed⟩) 82 (w.heap.size + 1) (by simp)
    have h3 := h2.box ([.slice none 0 0, .int .i64 0, .bool false, .int .i64 0, .int .i64 0, .int .i64 0, .int .i64 0, .slice none 0 0, .slice none 0 0, .int .i64 0] : List Value) 42 (w.heap.size + 1 + 1) (by simp)
    exact h3.tail.push (lenF (w.heap.size + 1 + 1) 10) ⟨_, rfl, h3.cel (.head _)⟩
  obtain ⟨R2, hR2⟩ : ∃ R2, Hid (R2 = regA R er ev) := ⟨_, rfl⟩
  obtain ⟨L2, hL2⟩ : ∃ L2, Hid (L2 = memA L ea ep) := ⟨_, rfl⟩
  obtain ⟨G2, hG2⟩ : ∃ G2, Hid (G2 = gonA G ed) := ⟨_, rfl⟩
  simp only at hm ⊢
  rw [← hL2.out] at hm
  rw [← hR2.out, ← hL2.out, ← hG2.out]
  have HDG : Hid (dropG L2 G ed = G2) := by rw [hG2.out]; exact drop_gon hm ed
  have HM := hid_mk hm
  have s1 := isReg_any er
  have s2 := isNumber_any ea 24
  simp only [show (24 : Int) - 1 = 23 from rfl] at s2
  obtain ⟨z1, Z1⟩ : ∃ z, Hid (z = decide (0 ≤ er ∧ er ≤ 7)) := ⟨_, rfl⟩
  obtain ⟨z2, Z2⟩ : ∃ z, Hid (z = decide (0 ≤ ea ∧ ea ≤ 23)) := ⟨_, rfl⟩
  rw [← Z1.out] at s1
  rw [← Z2.out] at s2
  have S1 := hid_mk s1
  have S2 := hid_mk s2
  have hlw : L.length = 24 := hS.mem.ws.2.1
  clear hS hm s1 s2 hG2
  obtain ⟨Q, HQ, HQ2⟩ : ∃ Q : Ending → World → Prop, Hid (∀ b d b1 d1 b2 d2 w', 24 ≤ d1 → AnsS b b1 b2 8 24 24 R2 L2 G2 w' → (∀ k, On b k ∨ On b1 k ∨ On b2 k → w.heap.size ≤ k) → Below w.heap.size w w' → Q (.returned (.agg #[.slice b 8 d, .int .i64 ex.n, .bool ex.i, .int .i64 ex.b, .int .i64 ex.t, .int .i64 ex.p, .int .i64 ex.s, .slice b1 24 d1, .slice b2 24 d2, .int .i64 et])) w') ∧ (∀ e w', Q e w' → ∃ b d b1 d1 b2 d2, e = .returned (.agg #[.slice b 8 d, .int .i64 ex.n, .bool ex.i, .int .i64 ex.b, .int .i64 ex.t, .int .i64 ex.p, .int .i64 ex.s, .slice b1 24 d1, .slice b2 24 d2, .int .i64 et]) ∧ 24 ≤ d1 ∧ AnsS b b1 b2 8 24 24 R2 L2 G2 w' ∧ (∀ k, On b k ∨ On b1 k ∨ On b2 k → w.heap.size ≤ k) ∧ Below w.heap.size w w') :=
    ⟨fun e w' => ∃ b d b1 d1 b2 d2, e = .returned (.agg #[.slice b 8 d, .int .i64 ex.n, .bool ex.i, .int .i64 ex.b, .int .i64 ex.t, .int .i64 ex.p, .int .i64 ex.s, .slice b1 24 d1, .slice b2 24 d2, .int .i64 et]) ∧ 24 ≤ d1 ∧ AnsS b b1 b2 8 24 24 R2 L2 G2 w' ∧ (∀ k, On b k ∨ On b1 k ∨ On b2 k → w.heap.size ≤ k) ∧ Below w.heap.size w w', fun b d b1 d1 b2 d2 w' h1 h2 h3 h4 => ⟨b, d, b1, d1, b2, d2, rfl, h1, h2, h3, h4⟩, fun _ _ h => h⟩
  refine Calls.mono (R := Q) ?_ HQ2
  clear HQ2
  generalize hw1 : ((w.alloc (.cells (stl (some ⟨kb, o, none⟩) 8 c x a1 24 c1 a2 24 c2 t).toArray 42)).alloc (.cells (effl ⟨et, er, ev, ex, ea, ep, ed⟩).toArray 82)).alloc (.cells ([.slice none 0 0, .int .i64 0, .bool false, .int .i64 0, .int .i64 0, .int .i64 0, .int .i64 0, .slice none 0 0, .slice none 0 0, .int .i64 0] : List Value).toArray 42) = w1 at H
  have hz1 : w.heap.size + 1 + 1 < w1.heap.size := by rw [← hw1]; simp
  go_enter Tryz.func42, Tryz.ntmps42
  go_upto_region 1 with fail
  clear hw1
  have D0 := hid_mk H.out.drew
  refine wp_region_held_drew (S := fun w' => Hold w w' [lenF (w.heap.size + 1 + 1) 10, celF (w.heap.size + 1) (effl ⟨et, er, ev, ex, ea, ep, ed⟩), celF w.heap.size (stl (some ⟨kb, o, none⟩) 8 c x a1 24 c1 a2 24 c2 t), argSF w.heap.size (some ⟨kb, o, none⟩) 8 a1 24 a2 24 R L G]) (by kernel_rfl) D0.out (fun hHeld => ?_)
  have hzd : w1.drew.heap.size = w1.heap.size := by simp
  generalize w1.drew = wd at D0 hHeld hzd ⊢
  have hzw : w.heap.size + 1 + 1 < wd.heap.size := by omega
  clear hzd H
  refine take_on (i := 0) (d := 7) (v := .pointer (some ⟨w.heap.size, 0, none⟩)) rfl rfl (by kernel_rfl) (by kernel_rfl) (by kernel_rfl) (fun _ _ _ h => h) (by rfl) ?_ hHeld ?_
  · (intro w' hSw; go_simp)
  simp only [Act.put, List.setIfInBounds_toArray, List.set_cons_zero, List.set_cons_succ]
  refine take_on (i := 1) (d := 8) (v := .slice (some ⟨kb, o, none⟩) 8 c) rfl rfl (by kernel_rfl) (by kernel_rfl) (by kernel_rfl) (fun _ _ _ h => h) (by rfl) ?_ hHeld ?_
  · (intro w' hSw; have hSx : Hold w w' [lenF (w.heap.size + 1 + 1) 10, celF (w.heap.size + 1) (effl ⟨et, er, ev, ex, ea, ep, ed⟩), celF w.heap.size (stl (some ⟨kb, o, none⟩) 8 c x a1 24 c1 a2 24 c2 t), argSF w.heap.size (some ⟨kb, o, none⟩) 8 a1 24 a2 24 R L G] := hSw; have c0 := (hSx.cel (.tail _ (.tail _ (.head _)))).c 0 _ rfl; go_simp)
  simp only [Act.put, List.setIfInBounds_toArray, List.set_cons_zero, List.set_cons_succ]
  refine take_on (i := 2) (d := 9) (v := .slice (some ⟨kb, o, none⟩) 0 0) rfl rfl (by kernel_rfl) (by kernel_rfl) (by kernel_rfl) (fun _ _ _ h => h) (by rfl) ?_ hHeld ?_
  · (intro w' hSw; go_simp)
  simp only [Act.put, List.setIfInBounds_toArray, List.set_cons_zero, List.set_cons_succ]
  refine take_on (i := 3) (d := 10) (v := .pointer (some ⟨w.heap.size, 0, none⟩)) rfl rfl (by kernel_rfl) (by kernel_rfl) (by kernel_rfl) (fun _ _ _ h => h) (by rfl) ?_ hHeld ?_
  · (intro w' hSw; go_simp)
  simp only [Act.put, List.setIfInBounds_toArray, List.set_cons_zero, List.set_cons_succ]
  refine take_on (i := 4) (d := 11) (v := .slice (some ⟨kb, o, none⟩) 8 c) rfl rfl (by kernel_rfl) (by kernel_rfl) (by kernel_rfl) (fun _ _ _ h => h) (by rfl) ?_ hHeld ?_
  · (intro w' hSw; have hSx : Hold w w' [lenF (w.heap.size + 1 + 1) 10, celF (w.heap.size + 1) (effl ⟨et, er, ev, ex, ea, ep, ed⟩), celF w.heap.size (stl (some ⟨kb, o, none⟩) 8 c x a1 24 c1 a2 24 c2 t), argSF w.heap.size (some ⟨kb, o, none⟩) 8 a1 24 a2 24 R L G] := hSw; have c0 := (hSx.cel (.tail _ (.tail _ (.head _)))).c 0 _ rfl; go_simp)
  simp only [Act.put, List.setIfInBounds_toArray, List.set_cons_zero, List.set_cons_succ]
  refine wpAnyH_ready (rs := [5]) (by kernel_rfl) (by simp) ?_
  refine AllReadyH.cons rfl (fun K hK => ?_) AllReadyH.nil
  refine step_appWd (by rfl) _ _ (by rfl) 12 (by rfl) ⟨kb, o, none⟩ 0 0 [] (by rfl) rfl (fun j u hj => by cases hj) ⟨kb, o, none⟩ 8 c R (by rfl) hlr (D0.out.argS (.tail _ (.tail _ (.tail _ (.head _))))).rs.flat (by omega) (by omega) ?_
  intro g cp wA _ hOA hgA hcA hbA
  have uA := hOA.lt
  have H := hid_mk ((D0.out.next hbA).push (rowWF (some ⟨g, 0, none⟩) 8 R) (rowW_mk hOA.app_nil hlr))
  have hgw : w.heap.size + 1 + 1 < g := by omega
  clear hbA hOA hgA D0
  refine hK.out _ _ H.out.tail (fun hHeld => ?_)
  clear hK K
  (try simp only [Act.put]); (try simp only [List.setIfInBounds_toArray]); (try simp only [List.set_cons_succ]); (try simp only [List.set_cons_zero]); (try simp only [List.set_cons_succ]); (try simp only [List.set_cons_zero]); (try simp only [Nat.zero_add])
  refine take_on (i := 6) (d := 5) (v := .slice (some ⟨g, 0, none⟩) 8 cp) rfl rfl (by kernel_rfl) (by kernel_rfl) (by kernel_rfl) (fun _ _ _ h => h) (by rfl) ?_ hHeld ?_
  · (intro w' hSw; go_simp)
  simp only [Act.put, List.setIfInBounds_toArray, List.set_cons_zero, List.set_cons_succ]
  refine wpAnyH_done (by kernel_rfl) ?_ _
  clear hHeld
  go_upto_region 2 with fail
  have c1' := (H.out.cel (.tail _ (.tail _ (.head _)))).c 1 _ rfl
  go_wp2_with fail
  refine (S1.out _).mono ?_
  rintro e w' ⟨rfl, hw'⟩
  subst w'
  clear c1'
  go_upto_if 15 with fail
  go_cut [] (fun wx => Hid (Hold w wx [rowWF (some ⟨g, 0, none⟩) 8 R2, lenF (w.heap.size + 1 + 1) 10, celF (w.heap.size + 1) (effl ⟨et, er, ev, ex, ea, ep, ed⟩), celF w.heap.size (stl (some ⟨kb, o, none⟩) 8 c x a1 24 c1 a2 24 c2 t), argSF w.heap.size (some ⟨kb, o, none⟩) 8 a1 24 a2 24 R L G]))
  case first =>
    by_cases hi : 0 ≤ er ∧ er ≤ 7
    · have hz : z1 = true := by rw [Z1.out]; exact decide_eq_true hi
      subst hz
      obtain ⟨k, hkm⟩ : ∃ k : Nat, er.toNat = k := ⟨_, rfl⟩
      have hR : Hid (R2 = R.set k ev) := by
        have h := hR2.out
        rw [regA, if_pos hi, hkm] at h
        exact h
      obtain ⟨hi0, hi1⟩ := hi
      have hk8 : k < 8 := by omega
      have hmk : er = (k : Int) := by omega
      subst hmk
      obtain ⟨_, hq, _, hO⟩ := RowWA.block (H.out.at (f := rowWF (some ⟨g, 0, none⟩) 8 R) (.head _)) (by omega)
      cases hq
      have P2 : Hid (Hold w (wA.setCells g (k * 6) ev.vs) [rowWF (some ⟨g, 0, none⟩) 8 R2, lenF (w.heap.size + 1 + 1) 10, celF (w.heap.size + 1) (effl ⟨et, (k : Int), ev, ex, ea, ep, ed⟩), celF w.heap.size (stl (some ⟨kb, o, none⟩) 8 c x a1 24 c1 a2 24 c2 t), argSF w.heap.size (some ⟨kb, o, none⟩) 8 a1 24 a2 24 R L G]) := by
        have h := H.out.tail.wrote (T := fun k => k = g) (KeptS.ofBut (KeepBut.setCells (b := g) ev.vs (k * 6) wA) rfl) (fun k e => by omega) (fun f hf k hk => by
        simp only [List.mem_cons, List.not_mem_nil, or_false] at hf
        rcases hf with rfl | rfl | rfl | rfl
        · simp only [lenF] at hk; omega
        · simp only [celF] at hk; omega
        · simp only [celF] at hk; omega
        · simp only [argSF] at hk; omega)
        exact h.push (rowWF (some ⟨g, 0, none⟩) 8 R2) (.inr ⟨g, rfl, by rw [hR.out, List.length_set]; exact hlr, by rw [hR.out]; exact hO.put hlr hk8 ev⟩)
      rw [sixCells] at P2
      have c1 := (H.out.cel (.tail _ (.tail _ (.head _)))).c 1 _ rfl
      have c2 := (H.out.cel (.tail _ (.tail _ (.head _)))).c 2 _ rfl
      have c3 := (H.out.cel (.tail _ (.tail _ (.head _)))).c 3 _ rfl
      have c4 := (H.out.cel (.tail _ (.tail _ (.head _)))).c 4 _ rfl
      have c5 := (H.out.cel (.tail _ (.tail _ (.head _)))).c 5 _ rfl
      have c6 := (H.out.cel (.tail _ (.tail _ (.head _)))).c 6 _ rfl
      have c7 := (H.out.cel (.tail _ (.tail _ (.head _)))).c 7 _ rfl
      obtain ⟨u0, e0⟩ := Option.isSome_iff_exists.1 (hO.has (k * 6) (by omega))
      obtain ⟨u1, e1⟩ := Option.isSome_iff_exists.1 (hO.has (k * 6 + 1) (by omega))
      obtain ⟨u2, e2⟩ := Option.isSome_iff_exists.1 (hO.has (k * 6 + 2) (by omega))
      obtain ⟨u3, e3⟩ := Option.isSome_iff_exists.1 (hO.has (k * 6 + 3) (by omega))
      obtain ⟨u4, e4⟩ := Option.isSome_iff_exists.1 (hO.has (k * 6 + 4) (by omega))
      obtain ⟨u5, e5⟩ := Option.isSome_iff_exists.1 (hO.has (k * 6 + 5) (by omega))
      have g0 := hO.fr (k * 6) (by omega)
      have g1 := hO.fr (k * 6 + 1) (by omega)
      have g2 := hO.fr (k * 6 + 2) (by omega)
      have g3 := hO.fr (k * 6 + 3) (by omega)
      have g4 := hO.fr (k * 6 + 4) (by omega)
      have g5 := hO.fr (k * 6 + 5) (by omega)
      clear hR2 H hO hkm
      go_wp2
      go_meet
      case rel => exact P2
    · have hz : z1 = false := by rw [Z1.out]; exact decide_eq_false hi
      subst hz
      have hR : R2 = R := by
        have h := hR2.out
        rw [regA, if_neg hi] at h
        exact h
      subst hR
      go_wp2
      go_meet
      case rel => exact H
  case' rest =>
    clear H
    have H := hcut
    clear hcut
  obtain ⟨m0, m1, m2, m3, m4, m5, m6, m7, m8, m9⟩ := (H.out.cel (.tail _ (.tail _ (.tail _ (.head _))))).c10
  have gl0 : g < wc.heap.size := RowWA.lt (H.out.at (f := rowWF (some ⟨g, 0, none⟩) 8 R2) (.head _)) ((on_some g g).2 rfl)
  replace H := hid_mk (H.out.box [.slice a1 24 c1, .slice a2 24 c2] 40 wc.heap.size rfl)
  go_upto_region 5 with fail
  clear m0 m1 m2 m3 m4 m5 m6 m7 m8 m9
  generalize wc.alloc (.cells ([.slice a1 24 c1, .slice a2 24 c2] : List Value).toArray 40) = wm at H ⊢
  obtain ⟨r6, hr6⟩ : ∃ r, r = wc.heap.size := ⟨_, rfl⟩
  rw [← hr6] at H gl0 ⊢
  clear hr6
  have hr6 : w.heap.size + 1 + 1 < r6 := by omega
  have hr6m : r6 < wm.heap.size := (H.out.cel (.head _)).lt
  have DD6 : Hid (∀ f ∈ [rowWF (some ⟨g, 0, none⟩) 8 R2, lenF (w.heap.size + 1 + 1) 10, celF (w.heap.size + 1) (effl ⟨et, er, ev, ex, ea, ep, ed⟩), celF w.heap.size (stl (some ⟨kb, o, none⟩) 8 c x a1 24 c1 a2 24 c2 t), argSF w.heap.size (some ⟨kb, o, none⟩) 8 a1 24 a2 24 R L G], ∀ k, f.S k → k ≠ r6) := fun f hf k hk => by
    simp only [List.mem_cons, List.not_mem_nil, or_false] at hf
    rcases hf with rfl | rfl | rfl | rfl | rfl
    · have := (on_some g k).1 hk; omega
    · simp only [lenF] at hk; omega
    · simp only [celF] at hk; omega
    · simp only [celF] at hk; omega
    · simp only [argSF] at hk; omega
  have c1' := (H.out.cel (.tail _ (.tail _ (.tail _ (.head _))))).c 14 _ rfl
  go_wp2_with fail
  refine (S2.out _).mono ?_
  rintro e w' ⟨rfl, hw'⟩
  subst w'
  clear c1'
  go_upto_if 26 with fail
  go_cut [] (fun wx => ∃ b1 d1 b2 d2, 24 ≤ d1 ∧ Hid (Hold w wx [celF r6 [.slice b1 24 d1, .slice b2 24 d2], rowWF (some ⟨g, 0, none⟩) 8 R2, lenF (w.heap.size + 1 + 1) 10, celF (w.heap.size + 1) (effl ⟨et, er, ev, ex, ea, ep, ed⟩), celF w.heap.size (stl (some ⟨kb, o, none⟩) 8 c x a1 24 c1 a2 24 c2 t), argSF w.heap.size (some ⟨kb, o, none⟩) 8 a1 24 a2 24 R L G]) ∧ Hid (MemS wx b1 24 b2 24 L2 G))
  case first =>
    by_cases hi : 0 ≤ ea ∧ ea ≤ 23
    · have hz : z2 = true := by rw [Z2.out]; exact decide_eq_true hi
      subst hz
      obtain ⟨k, hkm⟩ : ∃ k : Nat, ea.toNat = k := ⟨_, rfl⟩
      have hR : Hid (L2 = L.set k ep) := by
        have h := hL2.out
        rw [memA, if_pos hi, hkm] at h
        exact h
      obtain ⟨hi0, hi1⟩ := hi
      have hk8 : k < 24 := by omega
      have hmk : ea = (k : Int) := by omega
      subst hmk
      obtain ⟨m0, m1⟩ := (H.out.cel (.head _)).c2
      have c14 := (H.out.cel (.tail _ (.tail _ (.tail _ (.head _))))).c 14 _ rfl
      have c15 := (H.out.cel (.tail _ (.tail _ (.tail _ (.head _))))).c 15 _ rfl
      have c16 := (H.out.cel (.tail _ (.tail _ (.tail _ (.head _))))).c 16 _ rfl
      have c17 := (H.out.cel (.tail _ (.tail _ (.tail _ (.head _))))).c 17 _ rfl
      have c18 := (H.out.cel (.tail _ (.tail _ (.tail _ (.head _))))).c 18 _ rfl
      have c19 := (H.out.cel (.tail _ (.tail _ (.tail _ (.head _))))).c 19 _ rfl
      have c20 := (H.out.cel (.tail _ (.tail _ (.tail _ (.head _))))).c 20 _ rfl
      have W6 := hid_mk (fun w h => withWord_any a1 c1 a2 c2 L G k hk8 hcap ep w h)
      clear hkm hk8 hi0 hi1 hL2 Z2
      go_wp2_with (go_at_call 91; refine (W6.out _ (H.out.argS (.tail _ (.tail _ (.tail _ (.tail _ (.tail _ (.head _))))))).mem).mono ?_; rintro e w2 ⟨b1, d1, b2, rfl, hd1, hA, hf, hb⟩; refine Hid.out ?_)
      refine Lib.hid ?_
      have HA := hid_mk hA
      have HF := hid_mk hf
      have HD1 := hid_mk hd1
      have H2 := hid_mk (H.out.next hb)
      clear hA hf hd1 hb m0 m1 H
      clear c14 c15 c16 c17 c18 c19 c20
      obtain ⟨m0, m1⟩ := (H2.out.cel (.head _)).c2
      have f0 := (H2.out.cel (.head _)).f 0 (by simp)
      have f1 := (H2.out.cel (.head _)).f 1 (by simp)
      have P2 : Hid (Hold w ((w2.setCell ⟨r6, 0, none⟩ (.slice b1 24 d1)).setCell ⟨r6, 1, none⟩ (.slice b2 24 24)) [celF r6 [.slice b1 24 d1, .slice b2 24 24], rowWF (some ⟨g, 0, none⟩) 8 R2, lenF (w.heap.size + 1 + 1) 10, celF (w.heap.size + 1) (effl ⟨et, er, ev, ex, (k : Int), ep, ed⟩), celF w.heap.size (stl (some ⟨kb, o, none⟩) 8 c x a1 24 c1 a2 24 c2 t), argSF w.heap.size (some ⟨kb, o, none⟩) 8 a1 24 a2 24 R L G]) := (H2.out.setd (by omega) DD6.out 0 _).setd (by omega) DD6.out 1 _
      have PM : Hid (MemS ((w2.setCell ⟨r6, 0, none⟩ (.slice b1 24 d1)).setCell ⟨r6, 1, none⟩ (.slice b2 24 24)) b1 24 b2 24 L2 G) := by
        rw [hR.out]
        exact (HA.out.two (fun k hk => by have := HF.out k hk; omega) _ _).mem (by decide) (by decide)
      clear H2 HA HF
      go_wp2
      go_meet
      case rel => exact ⟨b1, d1, b2, 24, HD1.out, P2, PM⟩
    · have hz : z2 = false := by rw [Z2.out]; exact decide_eq_false hi
      subst hz
      have hR : L2 = L := by
        have h := hL2.out
        rw [memA, if_neg hi] at h
        exact h
      subst hR
      have PM := hid_mk (H.out.argS (.tail _ (.tail _ (.tail _ (.tail _ (.tail _ (.head _))))))).mem
      go_wp2
      go_meet
      case rel => exact ⟨a1, c1, a2, c2, hcap, H, PM⟩
  case' rest =>
    clear H
    obtain ⟨b1, d1, b2, d2, hd1, H, MM⟩ := hcut
  clear hd1 S1 S2 Z1 Z2 hR2 hL2
  go_upto_region 7 with fail
  generalize wc = w7 at H MM ⊢
  have H7 := hid_mk (H.out.sub (gs := [lenF (w.heap.size + 1 + 1) 10, celF r6 [.slice b1 24 d1, .slice b2 24 d2], rowWF (some ⟨g, 0, none⟩) 8 R2, celF (w.heap.size + 1) (effl ⟨et, er, ev, ex, ea, ep, ed⟩), celF w.heap.size (stl (some ⟨kb, o, none⟩) 8 c x a1 24 c1 a2 24 c2 t), argSF w.heap.size (some ⟨kb, o, none⟩) 8 a1 24 a2 24 R L G]) (fun f hf => by simp only [List.mem_cons, List.not_mem_nil, or_false] at hf ⊢; rcases hf with rfl | rfl | rfl | rfl | rfl | rfl; exact .inr (.inr (.inl rfl)); exact .inl rfl; exact .inr (.inl rfl); exact .inr (.inr (.inr (.inl rfl))); exact .inr (.inr (.inr (.inr (.inl rfl)))); exact .inr (.inr (.inr (.inr (.inr rfl))))))
  have D0 := hid_mk H7.out.drew
  refine wp_region_held_drew (S := fun w' => Hold w w' [lenF (w.heap.size + 1 + 1) 10, celF r6 [.slice b1 24 d1, .slice b2 24 d2], rowWF (some ⟨g, 0, none⟩) 8 R2, celF (w.heap.size + 1) (effl ⟨et, er, ev, ex, ea, ep, ed⟩), celF w.heap.size (stl (some ⟨kb, o, none⟩) 8 c x a1 24 c1 a2 24 c2 t), argSF w.heap.size (some ⟨kb, o, none⟩) 8 a1 24 a2 24 R L G]) (by kernel_rfl) D0.out (fun hHeld => ?_)
  have M0 := hid_mk (MM.out.below (Below.refl _ _).drew)
  generalize w7.drew = wd at D0 hHeld M0 ⊢
  clear H H7 MM
  refine take_on (i := 0) (d := 33) (v := .slice (some ⟨g, 0, none⟩) 8 cp) rfl rfl (by kernel_rfl) (by kernel_rfl) (by kernel_rfl) (fun _ _ _ h => h) (by rfl) ?_ hHeld ?_
  · (intro w' hSw; go_simp)
  simp only [Act.put, List.setIfInBounds_toArray, List.set_cons_zero, List.set_cons_succ]
  refine take_on (i := 1) (d := 34) (v := .pointer (some ⟨w.heap.size + 1, 8, none⟩)) rfl rfl (by kernel_rfl) (by kernel_rfl) (by kernel_rfl) (fun _ _ _ h => h) (by rfl) ?_ hHeld ?_
  · (intro w' hSw; go_simp)
  simp only [Act.put, List.setIfInBounds_toArray, List.set_cons_zero, List.set_cons_succ]
  refine take_on (i := 2) (d := 35) (v := .agg #[.int .i64 ex.n, .bool ex.i, .int .i64 ex.b, .int .i64 ex.t, .int .i64 ex.p, .int .i64 ex.s]) rfl rfl (by kernel_rfl) (by kernel_rfl) (by kernel_rfl) (fun _ _ _ h => h) (by rfl) ?_ hHeld ?_
  · (intro w' hSw; have hSx : Hold w w' [lenF (w.heap.size + 1 + 1) 10, celF r6 [.slice b1 24 d1, .slice b2 24 d2], rowWF (some ⟨g, 0, none⟩) 8 R2, celF (w.heap.size + 1) (effl ⟨et, er, ev, ex, ea, ep, ed⟩), celF w.heap.size (stl (some ⟨kb, o, none⟩) 8 c x a1 24 c1 a2 24 c2 t), argSF w.heap.size (some ⟨kb, o, none⟩) 8 a1 24 a2 24 R L G] := hSw; have c0 := (hSx.cel (.tail _ (.tail _ (.tail _ (.head _))))).c 8 _ rfl; have c1 := (hSx.cel (.tail _ (.tail _ (.tail _ (.head _))))).c 9 _ rfl; have c2 := (hSx.cel (.tail _ (.tail _ (.tail _ (.head _))))).c 10 _ rfl; have c3 := (hSx.cel (.tail _ (.tail _ (.tail _ (.head _))))).c 11 _ rfl; have c4 := (hSx.cel (.tail _ (.tail _ (.tail _ (.head _))))).c 12 _ rfl; have c5 := (hSx.cel (.tail _ (.tail _ (.tail _ (.head _))))).c 13 _ rfl; go_simp)
  simp only [Act.put, List.setIfInBounds_toArray, List.set_cons_zero, List.set_cons_succ]
  refine take_on (i := 3) (d := 36) (v := .agg #[.slice b1 24 d1, .slice b2 24 d2]) rfl rfl (by kernel_rfl) (by kernel_rfl) (by kernel_rfl) (fun _ _ _ h => h) (by rfl) ?_ hHeld ?_
  · (intro w' hSw; have hSx : Hold w w' [lenF (w.heap.size + 1 + 1) 10, celF r6 [.slice b1 24 d1, .slice b2 24 d2], rowWF (some ⟨g, 0, none⟩) 8 R2, celF (w.heap.size + 1) (effl ⟨et, er, ev, ex, ea, ep, ed⟩), celF w.heap.size (stl (some ⟨kb, o, none⟩) 8 c x a1 24 c1 a2 24 c2 t), argSF w.heap.size (some ⟨kb, o, none⟩) 8 a1 24 a2 24 R L G] := hSw; have c0 := (hSx.cel (.tail _ (.head _))).c 0 _ rfl; have c1 := (hSx.cel (.tail _ (.head _))).c 1 _ rfl; go_simp)
  simp only [Act.put, List.setIfInBounds_toArray, List.set_cons_zero, List.set_cons_succ]
  refine take_on (i := 4) (d := 37) (v := .pointer (some ⟨w.heap.size + 1, 21, none⟩)) rfl rfl (by kernel_rfl) (by kernel_rfl) (by kernel_rfl) (fun _ _ _ h => h) (by rfl) ?_ hHeld ?_
  · (intro w' hSw; go_simp)
  simp only [Act.put, List.setIfInBounds_toArray, List.set_cons_zero, List.set_cons_succ]
  refine take_on (i := 5) (d := 38) (v := .int .i64 ed) rfl rfl (by kernel_rfl) (by kernel_rfl) (by kernel_rfl) (fun _ _ _ h => h) (by rfl) ?_ hHeld ?_
  · (intro w' hSw; have hSx : Hold w w' [lenF (w.heap.size + 1 + 1) 10, celF r6 [.slice b1 24 d1, .slice b2 24 d2], rowWF (some ⟨g, 0, none⟩) 8 R2, celF (w.heap.size + 1) (effl ⟨et, er, ev, ex, ea, ep, ed⟩), celF w.heap.size (stl (some ⟨kb, o, none⟩) 8 c x a1 24 c1 a2 24 c2 t), argSF w.heap.size (some ⟨kb, o, none⟩) 8 a1 24 a2 24 R L G] := hSw; have c0 := (hSx.cel (.tail _ (.tail _ (.tail _ (.head _))))).c 21 _ rfl; go_simp)
  simp only [Act.put, List.setIfInBounds_toArray, List.set_cons_zero, List.set_cons_succ]
  refine take_on (i := 7) (d := 40) (v := .pointer (some ⟨w.heap.size + 1, 0, none⟩)) rfl rfl (by kernel_rfl) (by kernel_rfl) (by kernel_rfl) (fun _ _ _ h => h) (by rfl) ?_ hHeld ?_
  · (intro w' hSw; go_simp)
  simp only [Act.put, List.setIfInBounds_toArray, List.set_cons_zero, List.set_cons_succ]
  refine take_on (i := 8) (d := 41) (v := .int .i64 et) rfl rfl (by kernel_rfl) (by kernel_rfl) (by kernel_rfl) (fun _ _ _ h => h) (by rfl) ?_ hHeld ?_
  · (intro w' hSw; have hSx : Hold w w' [lenF (w.heap.size + 1 + 1) 10, celF r6 [.slice b1 24 d1, .slice b2 24 d2], rowWF (some ⟨g, 0, none⟩) 8 R2, celF (w.heap.size + 1) (effl ⟨et, er, ev, ex, ea, ep, ed⟩), celF w.heap.size (stl (some ⟨kb, o, none⟩) 8 c x a1 24 c1 a2 24 c2 t), argSF w.heap.size (some ⟨kb, o, none⟩) 8 a1 24 a2 24 R L G] := hSw; have c0 := (hSx.cel (.tail _ (.tail _ (.tail _ (.head _))))).c 0 _ rfl; go_simp)
  simp only [Act.put, List.setIfInBounds_toArray, List.set_cons_zero, List.set_cons_succ]
  refine wpAnyH_ready (rs := [6]) (by kernel_rfl) (by simp) ?_
  refine AllReadyH.cons rfl (fun K hK => ?_) AllReadyH.nil
  go_simp
  refine (implDropC_any b1 d1 b2 d2 L2 G ed HM.out _ M0.out).mono ?_
  rintro e wC ⟨m1, e1, m2, e2, rfl, he1, hM, hfC, hbC⟩
  have HE1 := hid_mk he1
  have gl : g < wd.heap.size := RowWA.lt (D0.out.at (f := rowWF (some ⟨g, 0, none⟩) 8 R2) (.tail _ (.tail _ (.head _)))) ((on_some g g).2 rfl)
  have lC := hid_mk hfC
  have hb0 : w.heap.size + 1 + 1 < wd.heap.size := by omega
  have H8 := hid_mk ((D0.out.next hbC).push (ansF m1 m2 24 24 L2 (dropG L2 G ed)) hM)
  clear hbC hM hfC he1
  refine hK.out _ _ H8.out.tail (fun hHeld => ?_)
  clear hK K
  (try simp only [Act.put]); (try simp only [List.setIfInBounds_toArray]); (try simp only [List.set_cons_succ]); (try simp only [List.set_cons_zero]); (try simp only [List.set_cons_succ]); (try simp only [List.set_cons_zero]); (try simp only [Nat.zero_add])
  refine take_on (i := 9) (d := 42) (v := .agg #[.slice (some ⟨g, 0, none⟩) 8 cp, .int .i64 ex.n, .bool ex.i, .int .i64 ex.b, .int .i64 ex.t, .int .i64 ex.p, .int .i64 ex.s, .slice m1 24 e1, .slice m2 24 e2, .int .i64 et]) rfl rfl (by kernel_rfl) (by kernel_rfl) (by kernel_rfl) (fun _ _ _ h => h) (by rfl) ?_ hHeld ?_
  · (intro w' hSw; go_simp)
  simp only [Act.put, List.setIfInBounds_toArray, List.set_cons_zero, List.set_cons_succ]
  obtain ⟨vs, hvl, CZ⟩ := H8.out.len (.tail _ (.head _))
  have TH := hid_mk (by have h := CZ.there; rw [hvl] at h; exact h)
  have CE := hid_mk (CZ.sets (us := stl (some ⟨g, 0, none⟩) 8 cp ex m1 24 e1 m2 24 e2 et) (by rw [hvl]; rfl))
  have HR : Hid (RowWA wC (some ⟨g, 0, none⟩) 8 R2) := H8.out.at (f := rowWF (some ⟨g, 0, none⟩) 8 R2) (.tail _ (.tail _ (.tail _ (.head _))))
  have HA := hid_mk (H8.out.ans (a := m1) (a' := m2) (.head _))
  have HB := hid_mk H8.out.bel
  clear CZ
  have RZ : Hid (Hold w (wC.setCells (w.heap.size + 1 + 1) 0 (stl (some ⟨g, 0, none⟩) 8 cp ex m1 24 e1 m2 24 e2 et)) [lenF (w.heap.size + 1 + 1) 10, celF r6 [.slice b1 24 d1, .slice b2 24 d2], rowWF (some ⟨g, 0, none⟩) 8 R2, celF (w.heap.size + 1) (effl ⟨et, er, ev, ex, ea, ep, ed⟩), celF w.heap.size (stl (some ⟨kb, o, none⟩) 8 c x a1 24 c1 a2 24 c2 t), argSF w.heap.size (some ⟨kb, o, none⟩) 8 a1 24 a2 24 R L G]) := H8.out.tail.sets_len (stl (some ⟨g, 0, none⟩) 8 cp ex m1 24 e1 m2 24 e2 et) (by omega) (fun f hf k hk => by
    simp only [List.mem_cons, List.not_mem_nil, or_false] at hf
    rcases hf with rfl | rfl | rfl | rfl | rfl
    · simp only [celF] at hk; omega
    · have := (on_some g k).1 hk; omega
    · simp only [celF] at hk; omega
    · simp only [celF] at hk; omega
    · simp only [argSF] at hk; omega) rfl
  refine wpAnyH_ready (rs := [10]) (by kernel_rfl) (by simp) ?_
  refine AllReadyH.cons rfl (fun K hK => ?_) AllReadyH.nil
  refine step_stm (by rfl) 42 _ _ (by rfl) (w.heap.size + 1 + 1) 0 (stl (some ⟨g, 0, none⟩) 8 cp ex m1 24 e1 m2 24 e2 et).toArray (by rfl) (by rfl) TH.out sizeSt (stl_one _ _ _ _ _ _ _ _ _ _ _) ?_
  refine hK.out _ _ RZ.out (fun hHeld => ?_)
  clear hK K
  refine wpAnyH_done (by kernel_rfl) ?_ _
  have K9 := hid_mk (KeepBut.setCells (b := w.heap.size + 1 + 1) (stl (some ⟨g, 0, none⟩) 8 cp ex m1 24 e1 m2 24 e2 et) 0 wC)
  have hlv := hid_mk (lv_st CE.out rfl)
  have q1 : Hid (∀ k, On m1 k ∨ On m2 k → g < k ∧ w.heap.size + 1 + 1 < k) := fun k hk => by have := lC.out k hk; omega
  clear H8 hHeld RZ TH CE D0 M0
  dsimp only
  generalize wC.setCells (w.heap.size + 1 + 1) 0 (stl (some ⟨g, 0, none⟩) 8 cp ex m1 24 e1 m2 24 e2 et) = w9 at K9 hlv ⊢
  go_wp2
  refine bodyPost_ret (v := .agg (stl (some ⟨g, 0, none⟩) 8 cp ex m1 24 e1 m2 24 e2 et).toArray) (results_cell1 Tryz.results42 (by first | rfl | (simp; done)) hlv.out) rfl (HQ.out _ _ _ _ _ _ _ HE1.out ⟨?_, ?_, ?_, ?_, ?_, ?_⟩ ?_ (HB.out.trans (K9.out.below (B := w.heap.size) (by omega) HB.out.size)))
  · exact HR.out.ofBlock K9.out.size fun k hk ho => K9.out.block k hk (by have := (on_some g k).1 ho; omega)
  · exact HA.out.ws.ofBlock K9.out.size fun k hk ho => K9.out.block k hk (by have := q1.out k (.inl ho); omega)
  · rw [← HDG.out]
    exact HA.out.gs.ofBlock K9.out.size fun k hk ho => K9.out.block k hk (by have := q1.out k (.inr ho); omega)
  · exact fun k h1 h2 => by have := (on_some g k).1 h1; have := q1.out k (.inl h2); omega
  · exact fun k h1 h2 => by have := (on_some g k).1 h1; have := q1.out k (.inr h2); omega
  · exact HA.out.ne
  · rintro k (hk | hk | hk)
    · have := (on_some g k).1 hk; omega
    · have := q1.out k (.inl hk); omega
    · have := q1.out k (.inr hk); omega
end Go.Proofs.YtpkhnajhamnggaaGreatDoor
