/- Write of the specification and of the program at all memories: what they answer; the program's in a world that holds its four errors, the words' room no less than their number. -/
import Derived.Test.YticnnpalhedgiaaDoorIRead
import Derived.Test.YticnnpalhedgiaaDoorISweep
namespace Go.Proofs.YticnnpalhedgiaaDoor
open Go.ChangeShapes Go.WideShapes Go.ChangeAt Go.RowKit
set_option maxRecDepth 100000

theorem wr_trp (L : List Wd) (y : Wd) (m : Int) (x : Wd) : wrZ L y m x = bif trpZ L.length y m 2 == 0 then (bif putB y.p x.i then 0 else 3) else trpZ L.length y m 2 := by
  unfold wrZ trpZ
  cases ht : (tryZ y.n y.i y.b y.t y.p y.s m 2 == 0) with
  | false => rw [cond_false, cond_false, ht]; rfl
  | true =>
    cases inB m L.length with
    | false => rfl
    | true => rfl
theorem wr_in {L : List Wd} {y : Wd} {m : Int} {x : Wd} (h : wrZ L y m x = 0) : 0 ≤ m ∧ m ≤ (L.length : Int) - 1 := by
  rw [wr_trp] at h
  cases ht : (trpZ L.length y m 2 == 0) with
  | true => exact trp_in (by simpa using ht)
  | false =>
    rw [ht] at h
    have h2 : trpZ L.length y m 2 = 0 := h
    rw [h2] at ht
    simp at ht
theorem wrl_none {L : List Wd} {G : List Bool} (h : mokB L G = false) (y : Wd) (m : Int) (x : Wd) : wrL L G y m x = [] := by simp [wrL, h]
theorem wrl_out {L : List Wd} {G : List Bool} (h : mokB L G = true) {y : Wd} {m : Int} {x : Wd} (hz : ¬ wrZ L y m x = 0) : wrL L G y m x = L := by
  unfold wrL
  rw [h, show (wrZ L y m x == 0) = false by simpa using hz]; rfl
theorem wrl_in {L : List Wd} {G : List Bool} (h : mokB L G = true) {y : Wd} {m : Int} {x : Wd} (hz : wrZ L y m x = 0) : wrL L G y m x = L.set m.toNat x := by
  unfold wrL
  rw [h, hz]; rfl
theorem wrl_len (L : List Wd) (G : List Bool) (y : Wd) (m : Int) (x : Wd) : (wrL L G y m x).length ≤ 24 ∧ (keepG L G).length ≤ 24 := by
  cases h : mokB L G with
  | false => rw [keepG_none h, wrl_none h]; exact ⟨by simp, by simp⟩
  | true =>
    obtain ⟨h0, h1, _⟩ := mok_parts h
    rw [keepG_some h]
    by_cases hz : wrZ L y m x = 0
    · rw [wrl_in h hz, List.length_set]; omega
    · rw [wrl_out h hz]; omega

set_option maxHeartbeats 4000000 in
theorem l8Write_any (a : Option Addr) (n c : Nat) (v1 : Value) (y : Wd) (m : Int) (x : Wd) (L : List Wd) (hn : L.length = n) (hm : n ≤ maxLen) (w : World) :
    Calls Tryd.prog 55 #[.agg #[.slice a n c, v1], .agg #[.int .i64 y.n, .bool y.i, .int .i64 y.b, .int .i64 y.t, .int .i64 y.p, .int .i64 y.s], .int .i64 m, .agg #[.int .i64 x.n, .bool x.i, .int .i64 x.b, .int .i64 x.t, .int .i64 x.p, .int .i64 x.s]] w fun e w' => e = .returned (.int .i64 (wrZ L y m x)) ∧ Below w.heap.size w w' := by
  have H := hid_mk (((((Hold.new w).alloc (.cells #[.slice a n c, v1] 27)).push (duoF w.heap.size (.slice a n c) v1) (Duo.new w _ _ _)).alloc (.cells #[.int .i64 y.n, .bool y.i, .int .i64 y.b, .int .i64 y.t, .int .i64 y.p, .int .i64 y.s] 36) |>.push (sixF (w.heap.size + 1) y) (Six.second w _ _ _ _ _ _ _ _)).alloc (.cells #[.int .i64 x.n, .bool x.i, .int .i64 x.b, .int .i64 x.t, .int .i64 x.p, .int .i64 x.s] 36) |>.push (sixF (w.heap.size + 1 + 1) x) (Six.third w _ _ _ _ _ _ _ _ _))
  have s1 := specTry_any y.n y.i y.b y.t y.p y.s m 2
  unfold wrZ
  rw [hn]
  generalize tryZ y.n y.i y.b y.t y.p y.s m 2 = t at s1 ⊢
  have S1 := hid_mk s1
  unfold maxLen at hm
  clear s1
  generalize hw1 : ((w.alloc (.cells #[.slice a n c, v1] 27)).alloc (.cells #[.int .i64 y.n, .bool y.i, .int .i64 y.b, .int .i64 y.t, .int .i64 y.p, .int .i64 y.s] 36)).alloc (.cells #[.int .i64 x.n, .bool x.i, .int .i64 x.b, .int .i64 x.t, .int .i64 x.p, .int .i64 x.s] 36) = w1 at H
  by_cases ht : t = 0
  · subst ht
    have s2 := in_any m 0 ((n : Int) - 1)
    have s3 := specMayPut_any y.n y.i y.b y.t y.p y.s x.n x.i x.b x.t x.p x.s
    unfold inB
    generalize decide (0 ≤ m ∧ m ≤ (n : Int) - 1) = z at s2 ⊢
    generalize putB y.p x.i = u at s3 ⊢
    have S2 := hid_mk s2
    have S3 := hid_mk s3
    clear s2 s3
    go_enter Tryd.func55, Tryd.ntmps55
    go_upto_region 1 with fail
    clear hw1
    obtain ⟨_, x0, x1, x2, x3, x4, x5, _, _, _, _, _, _⟩ := H.out.six (.tail _ (.head _))
    go_wp2_with fail
    refine (S1.out _).mono ?_
    rintro e w2 ⟨rfl, hb2⟩
    replace H := hid_mk (H.out.next hb2)
    clear hb2 x0 x1 x2 x3 x4 x5
    obtain ⟨_, m0, m1, _, _⟩ := H.out.duo (.tail _ (.tail _ (.head _)))
    go_wp2_with fail
    refine (S2.out _).mono ?_
    rintro e w' ⟨rfl, hw'⟩
    subst w'
    cases z
    · go_wp2
      go_ret
      exact ⟨rfl, H.out.bel⟩
    · obtain ⟨_, x0, x1, x2, x3, x4, x5, _, _, _, _, _, _⟩ := H.out.six (.tail _ (.head _))
      obtain ⟨_, y0, y1, y2, y3, y4, y5, _, _, _, _, _, _⟩ := H.out.six (.head _)
      go_wp2_with fail
      refine (S3.out _).mono ?_
      rintro e w3 ⟨rfl, hb3⟩
      replace H := hid_mk (H.out.next hb3)
      clear hb3 x0 x1 x2 x3 x4 x5 y0 y1 y2 y3 y4 y5
      cases u
      · go_wp2
        go_ret
        exact ⟨rfl, H.out.bel⟩
      · go_wp2
        go_ret
        exact ⟨rfl, H.out.bel⟩
  · have htb : (t == 0) = false := by simpa using ht
    have htn : (t != 0) = true := by simpa using ht
    rw [htb]
    go_enter Tryd.func55, Tryd.ntmps55
    go_upto_region 1 with fail
    clear hw1
    obtain ⟨_, x0, x1, x2, x3, x4, x5, _, _, _, _, _, _⟩ := H.out.six (.tail _ (.head _))
    go_wp2_with fail
    refine (S1.out _).mono ?_
    rintro e w2 ⟨rfl, hb2⟩
    replace H := hid_mk (H.out.next hb2)
    clear hb2 x0 x1 x2 x3 x4 x5
    go_wp2
    go_ret
    exact ⟨rfl, H.out.bel⟩

set_option maxHeartbeats 8000000 in
theorem specWrite_any (a : Option Addr) (n c : Nat) (a' : Option Addr) (n' c' : Nat) (L : List Wd) (G : List Bool) (y : Wd) (m : Int) (x : Wd) (w : World) (hM : MemS w a n a' n' L G) :
    Calls Tryd.prog 25 #[.agg #[.slice a n c, .slice a' n' c'], .agg #[.int .i64 y.n, .bool y.i, .int .i64 y.b, .int .i64 y.t, .int .i64 y.p, .int .i64 y.s], .int .i64 m, .agg #[.int .i64 x.n, .bool x.i, .int .i64 x.b, .int .i64 x.t, .int .i64 x.p, .int .i64 x.s]] w fun e w' => ∃ b d b' d', e = .returned (.tuple #[.agg #[.slice b (wrL L G y m x).length d, .slice b' (keepG L G).length d'], .int .i64 (wrZ L y m x)]) ∧ AnsM b b' (wrL L G y m x).length (keepG L G).length (wrL L G y m x) (keepG L G) w' ∧ (∀ k, On b k ∨ On b' k → w.heap.size ≤ k) ∧ Below w.heap.size w w' := by
  have H := hid_mk (((((Hold.new w).push (argF w.heap.size a n a' n' L G) hM.arg).alloc (.cells #[.slice a n c, .slice a' n' c'] 27)).push (duoF w.heap.size (.slice a n c) (.slice a' n' c')) (Duo.new w _ _ _)).alloc (.cells #[.int .i64 y.n, .bool y.i, .int .i64 y.b, .int .i64 y.t, .int .i64 y.p, .int .i64 y.s] 36) |>.push (sixF (w.heap.size + 1) y) (Six.second w _ _ _ _ _ _ _ _) |>.alloc (.cells #[.int .i64 x.n, .bool x.i, .int .i64 x.b, .int .i64 x.t, .int .i64 x.p, .int .i64 x.s] 36) |>.push (sixF (w.heap.size + 1 + 1) x) (Six.third w _ _ _ _ _ _ _ _ _) |>.alloc (.cells #[.slice none 0 0, .slice none 0 0] 27) |>.push (duoF (w.heap.size + 1 + 1 + 1) (.slice none 0 0) (.slice none 0 0)) (by
    have h := Duo.new (((w.alloc (.cells #[.slice a n c, .slice a' n' c'] 27)).alloc (.cells #[.int .i64 y.n, .bool y.i, .int .i64 y.b, .int .i64 y.t, .int .i64 y.p, .int .i64 y.s] 36)).alloc (.cells #[.int .i64 x.n, .bool x.i, .int .i64 x.b, .int .i64 x.t, .int .i64 x.p, .int .i64 x.s] 36)) (.slice none 0 0) (.slice none 0 0) 27
    rw [World.size_alloc, World.size_alloc, World.size_alloc] at h
    exact h))
  have hlw := hM.ws.2.1
  have hlg := hM.gs.2.1
  have hm := hM.ws.1
  obtain ⟨z, Z⟩ : ∃ z, Hid (z = wrZ L y m x) := ⟨_, rfl⟩
  obtain ⟨D, hD⟩ : ∃ D, Hid (D = wrL L G y m x) := ⟨_, rfl⟩
  obtain ⟨GG, hG⟩ : ∃ GG, Hid (GG = keepG L G) := ⟨_, rfl⟩
  have s1 := l8Write_any a n c (.slice a' n' c') y m x L hlw hm
  have s3 := specMemoryOk_any a n c a' n' c' L G
  rw [← Z.out, ← hD.out, ← hG.out]
  rw [← Z.out] at s1
  have S1 := hid_mk s1
  unfold maxLen at hm
  clear s1 hM
  generalize hw1 : (((w.alloc (.cells #[.slice a n c, .slice a' n' c'] 27)).alloc (.cells #[.int .i64 y.n, .bool y.i, .int .i64 y.b, .int .i64 y.t, .int .i64 y.p, .int .i64 y.s] 36)).alloc (.cells #[.int .i64 x.n, .bool x.i, .int .i64 x.b, .int .i64 x.t, .int .i64 x.p, .int .i64 x.s] 36)).alloc (.cells #[.slice none 0 0, .slice none 0 0] 27) = w1 at H
  go_enter Tryd.func25, Tryd.ntmps25
  go_upto_region 1 with fail
  clear hw1
  obtain ⟨_, m0, m1, _, _⟩ := H.out.duo (.tail _ (.tail _ (.tail _ (.head _))))
  obtain ⟨_, x0, x1, x2, x3, x4, x5, _, _, _, _, _, _⟩ := H.out.six (.tail _ (.tail _ (.head _)))
  obtain ⟨_, y0, y1, y2, y3, y4, y5, _, _, _, _, _, _⟩ := H.out.six (.tail _ (.head _))
  go_wp2_with fail
  refine (S1.out _).mono ?_
  rintro e w2 ⟨rfl, hb2⟩
  replace H := hid_mk (H.out.next hb2)
  clear hb2 m0 m1 x0 x1 x2 x3 x4 x5 y0 y1 y2 y3 y4 y5 S1
  obtain ⟨_, m0, m1, _, _⟩ := H.out.duo (.tail _ (.tail _ (.tail _ (.head _))))
  cases hk : mokB L G with
  | false =>
    obtain rfl : D = [] := hD.out.trans (wrl_none hk y m x)
    obtain rfl : GG = [] := hG.out.trans (keepG_none hk)
    rw [hk] at s3
    have S3 := hid_mk s3
    clear s3 hD hG Z hk
    go_wp2_with fail
    refine (S3.out _ (H.out.arg (.tail _ (.tail _ (.tail _ (.tail _ (.head _))))))).mono ?_
    rintro e w3 ⟨rfl, hb3⟩
    replace H := hid_mk (H.out.next hb3)
    clear hb3 m0 m1 S3
    obtain ⟨_, r0, r1, f0, f1⟩ := H.out.duo (.head _)
    go_wp2
    refine bodyPost_ret (v := .tuple #[.agg #[.slice none 0 0, .slice none 0 0], .int .i64 z]) (by simp [results, Tryd.results25, go_sem, r0, r1]) rfl ⟨none, 0, none, 0, rfl, AnsM.nil _, fun k hk => ?_, below_two H.out.bel (by omega) _ _⟩
    rcases hk with hk | hk
    · exact absurd hk (on_none k)
    · exact absurd hk (on_none k)
  | true =>
    obtain ⟨h24, h24', _⟩ := mok_parts hk
    have e1 : n = 24 := by omega
    have e2 : n' = 24 := by omega
    subst e1 e2
    obtain rfl : GG = G := hG.out.trans (keepG_some hk)
    have hDl : D.length = 24 := by
      rw [hD.out]
      by_cases hz : wrZ L y m x = 0
      · rw [wrl_in hk hz, List.length_set]; exact h24
      · rw [wrl_out hk hz]; exact h24
    rw [hk] at s3
    have S3 := hid_mk s3
    have HK := hid_mk hk
    clear s3 hG hk
    go_wp2_with fail
    refine (S3.out _ (H.out.arg (.tail _ (.tail _ (.tail _ (.tail _ (.head _))))))).mono ?_
    rintro e w3 ⟨rfl, hb3⟩
    replace H := hid_mk (H.out.next hb3)
    clear hb3 m0 m1 S3
    obtain ⟨_, m0, m1, _, _⟩ := H.out.duo (.tail _ (.tail _ (.tail _ (.head _))))
    go_wp2_with fail
    refine (l8Copy_any _ c _ c' L GG _ (H.out.arg (.tail _ (.tail _ (.tail _ (.tail _ (.head _))))))).mono ?_
    rintro e w4 ⟨b, d, b', d', rfl, hd, A4, hf4, hb4⟩
    have hr3 : w.heap.size + 1 + 1 + 1 < w3.heap.size := (H.out.duo (.head _)).lt
    have hlo : ∀ k, On b k ∨ On b' k → w.heap.size + 1 + 1 + 1 < k := fun k hk => by
      have h1 := hf4 k hk
      omega
    have hup : ∀ k, On b k ∨ On b' k → k < w4.heap.size := fun k hk => A4.lt hk
    have hlt : w.heap.size + 1 + 1 + 1 < w4.heap.size := Nat.lt_of_lt_of_le hr3 hb4.size
    replace H := hid_mk ((((H.out.next hb4).push (ansF b b' 24 24 L GG) A4).alloc (.cells #[.slice b 24 d, .slice b' 24 d'] 27)).push (duoF w4.heap.size (.slice b 24 d) (.slice b' 24 d')) (Duo.new _ _ _ _))
    clear hb4 m0 m1 hf4 A4 hr3
    go_upto_region 5 with fail
    generalize w4.alloc (.cells #[.slice b 24 d, .slice b' 24 d'] 27) = w5 at H ⊢
    generalize w4.heap.size = ro at H hup hlt ⊢
    have HLO := hid_mk hlo
    have HUP := hid_mk hup
    clear hlo hup
    by_cases hz : z = 0
    · subst hz
      have hDD := hD.out.trans (wrl_in HK.out Z.out.symm)
      obtain ⟨hi0, hi1⟩ := wr_in Z.out.symm
      rw [h24] at hi1
      obtain ⟨k, hkm⟩ : ∃ k : Nat, m.toNat = k := ⟨_, rfl⟩
      have hk24 : k < 24 := by omega
      have hmk : m = (k : Int) := by omega
      subst hmk
      rw [hkm] at hDD
      have hk24i : (k : Int) < 24 := by omega
      have HD := hid_mk hDD
      have A5 := hid_mk (H.out.ans (.tail _ (.head _)))
      obtain ⟨q, rfl, _, hO⟩ : ∃ q, b = some ⟨q, 0, none⟩ ∧ L.length = 24 ∧ OutW w5 q 24 24 L := by
        rcases A5.out.ws with ⟨_, h0, _⟩ | h
        · omega
        · exact h
      obtain ⟨q', rfl, _, _⟩ : ∃ q, b' = some ⟨q, 0, none⟩ ∧ GG.length = 24 ∧ OutB w5 q 24 24 GG := by
        rcases A5.out.gs with ⟨_, h0, _⟩ | h
        · omega
        · exact h
      have hql := HLO.out q (.inl ((on_some q q).2 rfl))
      have hqu := HUP.out q (.inl ((on_some q q).2 rfl))
      obtain ⟨_, o0, o1, _, _⟩ := H.out.duo (.head _)
      obtain ⟨_, y0, y1, y2, y3, y4, y5, _, _, _, _, _, _⟩ := H.out.six (.tail _ (.tail _ (.tail _ (.head _))))
      obtain ⟨u0, e0⟩ := Option.isSome_iff_exists.1 (hO.has (k * 6) (by omega))
      obtain ⟨u1, e1⟩ := Option.isSome_iff_exists.1 (hO.has (k * 6 + 1) (by omega))
      obtain ⟨u2, e2⟩ := Option.isSome_iff_exists.1 (hO.has (k * 6 + 2) (by omega))
      obtain ⟨u3, e3⟩ := Option.isSome_iff_exists.1 (hO.has (k * 6 + 3) (by omega))
      obtain ⟨u4, e4⟩ := Option.isSome_iff_exists.1 (hO.has (k * 6 + 4) (by omega))
      obtain ⟨u5, e5⟩ := Option.isSome_iff_exists.1 (hO.has (k * 6 + 5) (by omega))
      have g0 := hO.fr (k * 6) (by omega)
      have g1 := hO.fr (k * 6 + 1) (by omega)
      have g2 := hO.fr (k * 6 + 2) (by omega)
      have g3 := hO.fr (k * 6 + 3) (by omega)
      have g4 := hO.fr (k * 6 + 4) (by omega)
      have g5 := hO.fr (k * 6 + 5) (by omega)
      have A7 : Hid (AnsM (some ⟨q, 0, none⟩) (some ⟨q', 0, none⟩) 24 24 D GG (w5.setCells q (k * 6) x.vs)) := by
        have hne : q ≠ q' := fun e => A5.out.ne q ((on_some q q).2 rfl) ((on_some q' q).2 e.symm)
        refine ⟨.inr ⟨q, rfl, hDl, ?_⟩, ?_, A5.out.ne⟩
        · rw [HD.out]; exact hO.put h24 hk24 x
        · exact A5.out.gs.ofBlock (by rw [size_setCells]; exact Nat.le_refl _) fun i hi ho => (KeepBut.setCells x.vs (k * 6) w5).block i hi fun e => hne (e.symm.trans ((on_some q' i).1 ho).symm)
      have K7 := hid_mk (KeepBut.setCells (b := q) x.vs (k * 6) w5)
      have D7 := hid_mk ((H.out.duo (.head _)).keep K7.out (by omega))
      have R7 := hid_mk ((H.out.duo (.tail _ (.tail _ (.head _)))).keep K7.out (by omega))
      have B7 := hid_mk (H.out.bel.trans (K7.out.below (by omega) H.out.bel.size))
      rw [sixCells] at A7 D7 R7 B7
      clear A5 H hO K7 hDD
      go_upto_region 7 with fail
      clear o0 o1 y0 y1 y2 y3 y4 y5 e0 e1 e2 e3 e4 e5 g0 g1 g2 g3 g4 g5
      generalize (((((w5.setCell ⟨q, k * 6, none⟩ (.int .i64 x.n)).setCell ⟨q, k * 6 + 1, none⟩ (.bool x.i)).setCell ⟨q, k * 6 + 2, none⟩ (.int .i64 x.b)).setCell ⟨q, k * 6 + 3, none⟩ (.int .i64 x.t)).setCell ⟨q, k * 6 + 4, none⟩ (.int .i64 x.p)).setCell ⟨q, k * 6 + 5, none⟩ (.int .i64 x.s) = w7 at A7 D7 R7 B7 ⊢
      obtain ⟨_, o0, o1, _, _⟩ := D7.out
      obtain ⟨_, r0, r1, f0, f1⟩ := R7.out
      go_wp2
      refine bodyPost_ret (v := .tuple #[.agg #[.slice (some ⟨q, 0, none⟩) 24 d, .slice (some ⟨q', 0, none⟩) 24 d'], .int .i64 0]) (by simp [results, Tryd.results25, go_sem, r0, r1]) rfl ⟨_, d, _, d', by rw [hDl, h24'], ?_, fun k hk => ?_, below_two B7.out (by omega) _ _⟩
      · rw [hDl, h24']
        exact A7.out.two (fun k hk => by have := HLO.out k hk; omega) _ _
      · have := HLO.out k hk; omega
    · have hDD := hD.out.trans (wrl_out HK.out (fun e => hz (Z.out.trans e)))
      subst hDD
      have hzb : (z == 0) = false := by simpa using hz
      obtain ⟨_, o0, o1, _, _⟩ := H.out.duo (.head _)
      obtain ⟨_, r0, r1, f0, f1⟩ := H.out.duo (.tail _ (.tail _ (.head _)))
      clear Z hD
      go_wp2
      refine bodyPost_ret (v := .tuple #[.agg #[.slice b 24 d, .slice b' 24 d'], .int .i64 z]) (by simp [results, Tryd.results25, go_sem, r0, r1]) rfl ⟨b, d, b', d', by rw [hDl, h24'], ?_, fun k hk => ?_, below_two H.out.bel (by omega) _ _⟩
      · rw [hDl, h24']
        exact (H.out.ans (.tail _ (.head _))).two (fun k hk => by have := HLO.out k hk; omega) _ _
      · have := HLO.out k hk; omega

set_option maxHeartbeats 8000000 in
theorem implWrite_any (a0 a1 a2 a3 : Addr) (a : Option Addr) (n c : Nat) (a' : Option Addr) (n' c' : Nat) (L : List Wd) (G : List Bool) (y : Wd) (m : Int) (x : Wd) (hcap : n ≤ c) (w : World) (hM : MemS w a n a' n' L G) (hE : Errs a0 a1 a2 a3 w) :
    Calls Tryd.prog 24 #[.agg #[.slice a n c, .slice a' n' c'], .agg #[.int .i64 y.n, .bool y.i, .int .i64 y.b, .int .i64 y.t, .int .i64 y.p, .int .i64 y.s], .int .i64 m, .agg #[.int .i64 x.n, .bool x.i, .int .i64 x.b, .int .i64 x.t, .int .i64 x.p, .int .i64 x.s]] w fun e w' => ∃ b d b' d', e = .returned (.tuple #[.agg #[.slice b (wrL L G y m x).length d, .slice b' (keepG L G).length d'], .int .i64 (wrZ L y m x)]) ∧ AnsM b b' (wrL L G y m x).length (keepG L G).length (wrL L G y m x) (keepG L G) w' ∧ (∀ k, On b k ∨ On b' k → w.heap.size ≤ k) ∧ Below w.heap.size w w' := by
  have H := hid_mk (((((Hold.new w).push (argF w.heap.size a n a' n' L G) hM.arg).alloc (.cells #[.slice a n c, .slice a' n' c'] 27)).push (duoF w.heap.size (.slice a n c) (.slice a' n' c')) (Duo.new w _ _ _)).alloc (.cells #[.int .i64 y.n, .bool y.i, .int .i64 y.b, .int .i64 y.t, .int .i64 y.p, .int .i64 y.s] 36) |>.push (sixF (w.heap.size + 1) y) (Six.second w _ _ _ _ _ _ _ _) |>.alloc (.cells #[.int .i64 x.n, .bool x.i, .int .i64 x.b, .int .i64 x.t, .int .i64 x.p, .int .i64 x.s] 36) |>.push (sixF (w.heap.size + 1 + 1) x) (Six.third w _ _ _ _ _ _ _ _ _) |>.alloc (.cells #[.slice none 0 0, .slice none 0 0] 27) |>.push (duoF (w.heap.size + 1 + 1 + 1) (.slice none 0 0) (.slice none 0 0)) (by
    have h := Duo.new (((w.alloc (.cells #[.slice a n c, .slice a' n' c'] 27)).alloc (.cells #[.int .i64 y.n, .bool y.i, .int .i64 y.b, .int .i64 y.t, .int .i64 y.p, .int .i64 y.s] 36)).alloc (.cells #[.int .i64 x.n, .bool x.i, .int .i64 x.b, .int .i64 x.t, .int .i64 x.p, .int .i64 x.s] 36)) (.slice none 0 0) (.slice none 0 0) 27
    rw [World.size_alloc, World.size_alloc, World.size_alloc] at h
    exact h))
  have hlw := hM.ws.2.1
  have hlg := hM.gs.2.1
  have hm := hM.ws.1
  obtain ⟨z, Z⟩ : ∃ z, Hid (z = wrZ L y m x) := ⟨_, rfl⟩
  obtain ⟨D, hD⟩ : ∃ D, Hid (D = wrL L G y m x) := ⟨_, rfl⟩
  obtain ⟨GG, hG⟩ : ∃ GG, Hid (GG = keepG L G) := ⟨_, rfl⟩
  have E0 := hid_mk hE
  have s1 := fun w hE => trapAt_any a0 a1 a2 a3 a n c (.slice a' n' c') y m 2 w hE
  have s3 := implMemoryOk_any a n c a' n' c' L G
  have s4 := implMayPut_any y.n y.i y.b y.t y.p y.s x.n x.i x.b x.t x.p x.s
  have hzt := Z.out.trans (wr_trp L y m x)
  rw [← Z.out, ← hD.out, ← hG.out]
  rw [hlw] at hzt
  generalize trpZ n y m 2 = t at s1 hzt
  generalize putB y.p x.i = u at s4 hzt
  have S1 := hid_mk s1
  have S4 := hid_mk s4
  unfold maxLen at hm
  clear s1 s4 hM hE
  generalize hw1 : (((w.alloc (.cells #[.slice a n c, .slice a' n' c'] 27)).alloc (.cells #[.int .i64 y.n, .bool y.i, .int .i64 y.b, .int .i64 y.t, .int .i64 y.p, .int .i64 y.s] 36)).alloc (.cells #[.int .i64 x.n, .bool x.i, .int .i64 x.b, .int .i64 x.t, .int .i64 x.p, .int .i64 x.s] 36)).alloc (.cells #[.slice none 0 0, .slice none 0 0] 27) = w1 at H
  go_enter Tryd.func24, Tryd.ntmps24
  go_upto_region 1 with fail
  clear hw1
  obtain ⟨_, m0, m1, _, _⟩ := H.out.duo (.tail _ (.tail _ (.tail _ (.head _))))
  obtain ⟨_, x0, x1, x2, x3, x4, x5, _, _, _, _, _, _⟩ := H.out.six (.tail _ (.tail _ (.head _)))
  go_wp2_with fail
  refine (S1.out _ (E0.out.below H.out.bel)).mono ?_
  rintro e w2 ⟨rfl, hb2⟩
  replace H := hid_mk (H.out.next hb2)
  clear hb2 m0 m1 x0 x1 x2 x3 x4 x5 S1
  go_upto_region 2 with fail
  go_cut [22] (fun pv wx => pv = .bool (t == 0 && !u) ∧ Hid (Hold w wx [duoF (w.heap.size + 1 + 1 + 1) (.slice none 0 0) (.slice none 0 0), sixF (w.heap.size + 1 + 1) x, sixF (w.heap.size + 1) y, duoF w.heap.size (.slice a n c) (.slice a' n' c'), argF w.heap.size a n a' n' L G]))
  case first =>
    by_cases ht : t = 0
    · subst ht
      obtain ⟨_, x0, x1, x2, x3, x4, x5, _, _, _, _, _, _⟩ := H.out.six (.tail _ (.tail _ (.head _)))
      obtain ⟨_, y0, y1, y2, y3, y4, y5, _, _, _, _, _, _⟩ := H.out.six (.tail _ (.head _))
      go_wp2_with fail
      refine (S4.out _).mono ?_
      rintro e w3 ⟨rfl, hb3⟩
      replace H := hid_mk (H.out.next hb3)
      clear hb3 x0 x1 x2 x3 x4 x5 y0 y1 y2 y3 y4 y5
      cases u
      · go_wp2
        go_meet
        case rel => exact ⟨rfl, H.out⟩
      · go_wp2
        go_meet
        case rel => exact ⟨rfl, H.out⟩
    · have htb : (t == 0) = false := by simpa using ht
      go_wp2
      go_meet
      case rel => exact ⟨by rw [htb]; rfl, H.out⟩
  case' rest =>
    obtain ⟨rfl, H⟩ := hcut
  have hzv : z = bif (t == 0 && !u) then 3 else t := by
    rw [hzt]
    cases ht : (t == 0) with
    | false => rfl
    | true =>
      have h0 : t = 0 := by simpa using ht
      subst h0
      cases u <;> rfl
  generalize (t == 0 && !u) = v at hzv ⊢
  go_upto_if 22 with fail
  go_cut [10] (fun pv wx => pv = .int .i64 z ∧ Hid (Hold w wx [duoF (w.heap.size + 1 + 1 + 1) (.slice none 0 0) (.slice none 0 0), sixF (w.heap.size + 1 + 1) x, sixF (w.heap.size + 1) y, duoF w.heap.size (.slice a n c) (.slice a' n' c'), argF w.heap.size a n a' n' L G]))
  case first =>
    cases v
    · obtain rfl : z = t := hzv
      go_wp2
      go_meet
      case rel => exact ⟨rfl, H.out⟩
    · obtain rfl : z = 3 := hzv
      go_wp2
      go_meet
      case rel => exact ⟨rfl, H.out⟩
  case' rest =>
    obtain ⟨rfl, H⟩ := hcut
  clear S4 hzt hzv
  generalize wc = w3 at H ⊢
  obtain ⟨_, m0, m1, _, _⟩ := H.out.duo (.tail _ (.tail _ (.tail _ (.head _))))
  cases hk : mokB L G with
  | false =>
    obtain rfl : D = [] := hD.out.trans (wrl_none hk y m x)
    obtain rfl : GG = [] := hG.out.trans (keepG_none hk)
    rw [hk] at s3
    have S3 := hid_mk s3
    clear s3 hD hG Z hk
    go_wp2_with fail
    refine (S3.out _ (H.out.arg (.tail _ (.tail _ (.tail _ (.tail _ (.head _))))))).mono ?_
    rintro e w4 ⟨rfl, hb4⟩
    replace H := hid_mk (H.out.next hb4)
    clear hb4 m0 m1 S3
    obtain ⟨_, r0, r1, f0, f1⟩ := H.out.duo (.head _)
    go_wp2
    refine bodyPost_ret (v := .tuple #[.agg #[.slice none 0 0, .slice none 0 0], .int .i64 z]) (by simp [results, Tryd.results24, go_sem, r0, r1]) rfl ⟨none, 0, none, 0, rfl, AnsM.nil _, fun k hk => ?_, below_two H.out.bel (by omega) _ _⟩
    rcases hk with hk | hk
    · exact absurd hk (on_none k)
    · exact absurd hk (on_none k)
  | true =>
    obtain ⟨h24, h24', _⟩ := mok_parts hk
    have e1 : n = 24 := by omega
    have e2 : n' = 24 := by omega
    subst e1 e2
    obtain rfl : GG = G := hG.out.trans (keepG_some hk)
    have hDl : D.length = 24 := by
      rw [hD.out]
      by_cases hz : wrZ L y m x = 0
      · rw [wrl_in hk hz, List.length_set]; exact h24
      · rw [wrl_out hk hz]; exact h24
    rw [hk] at s3
    have S3 := hid_mk s3
    have HK := hid_mk hk
    clear s3 hG hk
    go_wp2_with fail
    refine (S3.out _ (H.out.arg (.tail _ (.tail _ (.tail _ (.tail _ (.head _))))))).mono ?_
    rintro e w4 ⟨rfl, hb4⟩
    replace H := hid_mk (H.out.next hb4)
    clear hb4 m0 m1 S3
    have hr3 : w.heap.size + 1 + 1 + 1 < w4.heap.size := (H.out.duo (.head _)).lt
    obtain ⟨_, m0, m1, _, _⟩ := H.out.duo (.tail _ (.tail _ (.tail _ (.head _))))
    by_cases hz : z = 0
    · subst hz
      have hDD := hD.out.trans (wrl_in HK.out Z.out.symm)
      obtain ⟨hi0, hi1⟩ := wr_in Z.out.symm
      rw [h24] at hi1
      obtain ⟨k, hkm⟩ : ∃ k : Nat, m.toNat = k := ⟨_, rfl⟩
      have hk24 : k < 24 := by omega
      have hmk : m = (k : Int) := by omega
      subst hmk
      rw [hkm] at hDD
      have HD := hid_mk hDD
      clear hDD Z hD
      obtain ⟨_, y0, y1, y2, y3, y4, y5, _, _, _, _, _, _⟩ := H.out.six (.tail _ (.head _))
      go_wp2_with fail
      refine (withWord_any a c a' c' L GG k hk24 hcap x _ (H.out.arg (.tail _ (.tail _ (.tail _ (.tail _ (.head _))))))).mono ?_
      rintro e w5 ⟨b, d, b', rfl, hd, A5, hf5, hb5⟩
      replace H := hid_mk (H.out.next hb5)
      have HF := hid_mk hf5
      have A5 := hid_mk A5
      clear hb5 m0 m1 hf5 y0 y1 y2 y3 y4 y5
      obtain ⟨_, r0, r1, f0, f1⟩ := H.out.duo (.head _)
      go_wp2
      refine bodyPost_ret (v := .tuple #[.agg #[.slice b 24 d, .slice b' 24 24], .int .i64 0]) (by simp [results, Tryd.results24, go_sem, r0, r1]) rfl ⟨b, d, b', 24, by rw [hDl, h24'], ?_, fun k hk => ?_, below_two H.out.bel (by omega) _ _⟩
      · rw [hDl, h24', HD.out]
        exact A5.out.two (fun k hk => by have := HF.out k hk; omega) _ _
      · have := HF.out k hk; omega
    · have hDD := hD.out.trans (wrl_out HK.out (fun e => hz (Z.out.trans e)))
      subst hDD
      have hzn : (z != 0) = true := by simpa using hz
      clear Z hD
      go_wp2_with fail
      refine (asItWas_c a c a' c' D GG _ (H.out.arg (.tail _ (.tail _ (.tail _ (.tail _ (.head _))))))).mono ?_
      rintro e w5 ⟨b, d, b', d', rfl, hd, A5, hf5, hb5⟩
      replace H := hid_mk (H.out.next hb5)
      have HF := hid_mk hf5
      have A5 := hid_mk A5
      clear hb5 m0 m1 hf5
      obtain ⟨_, r0, r1, f0, f1⟩ := H.out.duo (.head _)
      go_wp2
      refine bodyPost_ret (v := .tuple #[.agg #[.slice b 24 d, .slice b' 24 d'], .int .i64 z]) (by simp [results, Tryd.results24, go_sem, r0, r1]) rfl ⟨b, d, b', d', by rw [hDl, h24'], ?_, fun k hk => ?_, below_two H.out.bel (by omega) _ _⟩
      · rw [hDl, h24']
        exact A5.out.two (fun k hk => by have := HF.out k hk; omega) _ _
      · have := HF.out k hk; omega
end Go.Proofs.YticnnpalhedgiaaDoor
