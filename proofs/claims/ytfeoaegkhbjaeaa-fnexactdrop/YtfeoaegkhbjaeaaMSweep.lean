/- Sweep of the specification and of the program at all memories: what they answer. No condition. -/
import Derived.Test.YtfeoaegkhbjaeaaMDrop
import Derived.Test.YtfeoaegkhbjaeaaCpy3
import Derived.ChangeKeysEq
namespace Go.Proofs.Ytfeoaegkhbjaeaa
open Go.ChangeShapes Go.WideShapes Go.ChangeAt Go.RowKit
set_option maxRecDepth 100000

theorem swp_none {L : List Wd} {G : List Bool} (h : mokB L G = false) (m : Int) : swpL L G m = [] := by simp [swpL, h]
theorem swp_out {L : List Wd} {G : List Bool} (h : mokB L G = true) {m : Int} (hm : ¬ (0 ≤ m ∧ m ≤ 23)) : swpL L G m = L := by unfold swpL inB; rw [h, decide_eq_false (by omega)]; rfl
theorem swp_in {L : List Wd} {G : List Bool} (h : mokB L G = true) {m : Int} (hm : 0 ≤ m ∧ m ≤ 23) : swpL L G m = L.set m.toNat (filW G (L.getD m.toNat wd0)) := by unfold swpL inB; rw [h, decide_eq_true (by omega)]; rfl
theorem drop_len (L : List Wd) (G : List Bool) (m : Int) : (keepL L G).length ≤ 24 ∧ (dropG L G m).length ≤ 24 := by
  cases h : mokB L G with
  | false => rw [keep_none h, drop_none h]; exact ⟨by simp, by simp⟩
  | true =>
    obtain ⟨h0, h1, _⟩ := mok_parts h
    rw [keep_some h]
    by_cases hm : 0 ≤ m ∧ m ≤ 23
    · rw [drop_in h hm, List.length_set]; omega
    · rw [drop_out h hm]; omega
theorem keepG_none {L : List Wd} {G : List Bool} (h : mokB L G = false) : keepG L G = [] := by simp [keepG, h]
theorem keepG_some {L : List Wd} {G : List Bool} (h : mokB L G = true) : keepG L G = G := by simp [keepG, h]
theorem swp_len24 (L : List Wd) (G : List Bool) (m : Int) : (swpL L G m).length ≤ 24 ∧ (keepG L G).length ≤ 24 := by
  cases h : mokB L G with
  | false => rw [keepG_none h, swp_none h]; exact ⟨by simp, by simp⟩
  | true =>
    obtain ⟨h0, h1, _⟩ := mok_parts h
    rw [keepG_some h]
    by_cases hm : 0 ≤ m ∧ m ≤ 23
    · rw [swp_in h hm, List.length_set]; omega
    · rw [swp_out h hm]; omega
theorem OutW.put {w : World} {q len : Nat} {L : List Wd} (h : OutW w q len len L) (hl : L.length = len) {i : Nat} (hi : i < len) (x : Wd) : OutW (w.setCells q (i * 6) x.vs) q len len (L.set i x) := by
  have := (h.row.put hl hi x).out
  rwa [Nat.zero_add] at this
theorem ans_row {w : World} {q : Nat} {a' : Option Addr} {n' : Nat} {L : List Wd} {G : List Bool} (h : AnsM (some ⟨q, 0, none⟩) a' 24 n' L G w) : OutW w q 24 24 L := by
  rcases h.ws with ⟨h0, _, _⟩ | ⟨q2, h1, _, hO⟩
  · cases h0
  · cases h1; exact hO
theorem sixCells (q o : Nat) (x : Wd) (w : World) : w.setCells q o x.vs = (((((w.setCell ⟨q, o, none⟩ (.int .i64 x.n)).setCell ⟨q, o + 1, none⟩ (.bool x.i)).setCell ⟨q, o + 2, none⟩ (.int .i64 x.b)).setCell ⟨q, o + 3, none⟩ (.int .i64 x.t)).setCell ⟨q, o + 4, none⟩ (.int .i64 x.p)).setCell ⟨q, o + 5, none⟩ (.int .i64 x.s) := rfl
set_option maxHeartbeats 8000000 in
theorem specSweep_any (a : Option Addr) (n0 c : Nat) (a' : Option Addr) (n0' c' : Nat) (L : List Wd) (G : List Bool) (m : Int) (w : World) (hM : MemS w a n0 a' n0' L G) :
    Calls Try.prog 17 #[.agg #[.slice a n0 c, .slice a' n0' c'], .int .i64 m] w fun e w' => ∃ b d b' d', e = .returned (.agg #[.slice b (swpL L G m).length d, .slice b' (keepG L G).length d']) ∧ AnsM b b' (swpL L G m).length (keepG L G).length (swpL L G m) (keepG L G) w' ∧ (∀ k, On b k ∨ On b' k → w.heap.size ≤ k) ∧ Below w.heap.size w w' := by
  have H := hid_mk ((((((Hold.new w).push (argF w.heap.size a n0 a' n0' L G) hM.arg).alloc (.cells #[.slice a n0 c, .slice a' n0' c'] 30)).push (duoF w.heap.size (.slice a n0 c) (.slice a' n0' c')) (Duo.new w _ _ _)).alloc (.cells #[.slice none 0 0, .slice none 0 0] 30)).push (duoF (w.heap.size + 1) (.slice none 0 0) (.slice none 0 0)) (by
    have h := Duo.new (w.alloc (.cells #[.slice a n0 c, .slice a' n0' c'] 30)) (.slice none 0 0) (.slice none 0 0) 30
    rw [World.size_alloc] at h
    exact h))
  have s1 := specMemoryOk_any a n0 c a' n0' c' L G
  have hlw := hM.ws.2.1
  have hlg := hM.gs.2.1
  clear hM
  generalize hw1 : (w.alloc (.cells #[.slice a n0 c, .slice a' n0' c'] 30)).alloc (.cells #[.slice none 0 0, .slice none 0 0] 30) = w1 at H
  cases hk : mokB L G with
  | false =>
    rw [keepG_none hk, swp_none hk, List.length_nil, List.length_nil]
    rw [hk] at s1
    have S1 := hid_mk s1
    clear s1 hk
    go_enter Try.func17, Try.ntmps17
    go_upto_region 1 with fail
    clear hw1
    obtain ⟨_, m0, m1, _, _⟩ := H.out.duo (.tail _ (.head _))
    go_wp2_with fail
    refine (S1.out _ (H.out.arg (.tail _ (.tail _ (.head _))))).mono ?_
    rintro e w2 ⟨rfl, hb2⟩
    replace H := hid_mk (H.out.next hb2)
    clear hb2 m0 m1 S1
    obtain ⟨_, r0, r1, f0, f1⟩ := H.out.duo (.head _)
    go_wp2
    refine bodyPost_ret (v := .agg #[.slice none 0 0, .slice none 0 0]) (by simp [results, Try.results17, go_sem, r0, r1]) rfl ⟨none, 0, none, 0, rfl, AnsM.nil _, fun k hk => ?_, below_two H.out.bel (by omega) _ _⟩
    rcases hk with hk | hk
    · exact absurd hk (on_none k)
    · exact absurd hk (on_none k)
  | true =>
    obtain ⟨h24, h24', _⟩ := mok_parts hk
    have e1 : n0 = 24 := by omega
    have e2 : n0' = 24 := by omega
    subst e1 e2
    rw [keepG_some hk]
    obtain ⟨D, hD⟩ : ∃ D, Hid (D = swpL L G m) := ⟨_, rfl⟩
    rw [← hD.out]
    have hDl : D.length = 24 := by
      rw [hD.out]
      by_cases hi : 0 ≤ m ∧ m ≤ 23
      · rw [swp_in hk hi, List.length_set]; exact h24
      · rw [swp_out hk hi]; exact h24
    rw [h24', hDl]
    rw [hk] at s1
    have S1 := hid_mk s1
    have s2 := in_any m 0 23
    have HK := hid_mk hk
    clear s1 hk
    go_enter Try.func17, Try.ntmps17
    go_upto_region 1 with fail
    clear hw1
    obtain ⟨_, m0, m1, _, _⟩ := H.out.duo (.tail _ (.head _))
    go_wp2_with fail
    refine (S1.out _ (H.out.arg (.tail _ (.tail _ (.head _))))).mono ?_
    rintro e w2 ⟨rfl, hb2⟩
    replace H := hid_mk (H.out.next hb2)
    clear hb2 m0 m1 S1
    obtain ⟨_, m0, m1, _, _⟩ := H.out.duo (.tail _ (.head _))
    go_wp2_with fail
    refine (l8Copy_any _ c _ c' L G _ (H.out.arg (.tail _ (.tail _ (.head _))))).mono ?_
    rintro e w3 ⟨b, d, b', d', rfl, hd, A3, hf3, hb3⟩
    have hlo : ∀ k, On b k ∨ On b' k → w.heap.size + 1 < k := fun k hk => by
      have h1 := hf3 k hk
      have h2 := (H.out.duo (.head _)).lt
      omega
    have hup : ∀ k, On b k ∨ On b' k → k < w3.heap.size := fun k hk => A3.lt hk
    have hlt : w.heap.size + 1 < w3.heap.size := Nat.lt_of_lt_of_le (H.out.duo (.head _)).lt hb3.size
    replace H := hid_mk ((((H.out.next hb3).push (ansF b b' 24 24 L G) A3).alloc (.cells #[.slice b 24 d, .slice b' 24 d'] 30)).push (duoF w3.heap.size (.slice b 24 d) (.slice b' 24 d')) (Duo.new _ _ _ _))
    clear hb3 m0 m1 hf3 A3
    go_upto_region 4 with fail
    generalize w3.alloc (.cells #[.slice b 24 d, .slice b' 24 d'] 30) = w4 at H ⊢
    generalize w3.heap.size = ro at H hup hlt ⊢
    have HLO := hid_mk hlo
    have HUP := hid_mk hup
    clear hlo hup
    by_cases hi : 0 ≤ m ∧ m ≤ 23
    · have hDD := hD.out.trans (swp_in HK.out hi)
      rw [decide_eq_true hi] at s2
      have S2 := hid_mk s2
      obtain ⟨hi0, hi1⟩ := hi
      obtain ⟨k, hkm⟩ : ∃ k : Nat, m.toNat = k := ⟨_, rfl⟩
      have hk24 : k < 24 := by omega
      have hmk : m = (k : Int) := by omega
      have A4 := hid_mk (H.out.ans (.tail _ (.head _)))
      obtain ⟨q, rfl, _, _⟩ : ∃ q, b = some ⟨q, 0, none⟩ ∧ L.length = 24 ∧ OutW w4 q 24 24 L := by
        rcases A4.out.ws with ⟨_, h0, _⟩ | h
        · omega
        · exact h
      obtain ⟨q', rfl, _, _⟩ : ∃ q, b' = some ⟨q, 0, none⟩ ∧ G.length = 24 ∧ OutB w4 q 24 24 G := by
        rcases A4.out.gs with ⟨_, h0, _⟩ | h
        · omega
        · exact h
      clear A4
      have hql := HLO.out q (.inl ((on_some q q).2 rfl))
      have hqu := HUP.out q (.inl ((on_some q q).2 rfl))
      obtain ⟨kb, o, u, rfl, hkb, hu, _⟩ := (H.out.arg (.tail _ (.tail _ (.tail _ (.tail _ (.head _)))))).ws.at hk24
      have UAT : Hid (∀ w', Hold w w' [duoF ro (.slice (some ⟨q, 0, none⟩) 24 d) (.slice (some ⟨q', 0, none⟩) 24 d'), duoF (w.heap.size + 1) (.slice none 0 0) (.slice none 0 0), duoF w.heap.size (.slice (some ⟨kb, o, none⟩) 24 c) (.slice a' 24 c'), argF w.heap.size (some ⟨kb, o, none⟩) 24 a' 24 L G] → WordAt w' kb (o + k * 6) u) := fun w' h => by
        obtain ⟨kb2, o2, u2, e2, _, hu2, hat2⟩ := (h.arg (.tail _ (.tail _ (.tail _ (.head _))))).ws.at hk24
        rw [hu] at hu2
        obtain rfl := Option.some.inj hu2
        simp only [Option.some.injEq, Addr.mk.injEq, and_true] at e2
        obtain ⟨rfl, rfl⟩ := e2
        exact hat2
      have hgd : L.getD k wd0 = u := by simp [List.getD, hu]
      subst hmk
      rw [hkm, hgd] at hDD
      have s3 := fun w hG => specFilter_any (.slice (some ⟨kb, o, none⟩) 24 c) a' 24 c' G u w hG
      generalize filW G u = v at hDD s3
      simp only [wdV] at s3
      have hk24i : (k : Int) < 24 := by omega
      have S3 := hid_mk s3
      have HD := hid_mk hDD
      obtain ⟨_, o0, o1, _, _⟩ := H.out.duo (.head _)
      have ALL : Hid (∀ w', Hold w w' [duoF ro (.slice (some ⟨q, 0, none⟩) 24 d) (.slice (some ⟨q', 0, none⟩) 24 d'), duoF (w.heap.size + 1) (.slice none 0 0) (.slice none 0 0), duoF w.heap.size (.slice (some ⟨kb, o, none⟩) 24 c) (.slice a' 24 c'), argF w.heap.size (some ⟨kb, o, none⟩) 24 a' 24 L G] → (w'.cell? ⟨ro, 0, none⟩ = some (.slice (some ⟨q, 0, none⟩) 24 d) ∧ w'.cell? ⟨ro, 1, none⟩ = some (.slice (some ⟨q', 0, none⟩) 24 d') ∧ w'.cell? ⟨w.heap.size, 0, none⟩ = some (.slice (some ⟨kb, o, none⟩) 24 c) ∧ w'.cell? ⟨w.heap.size, 1, none⟩ = some (.slice a' 24 c') ∧ w'.cell? ⟨kb, o + k * 6, none⟩ = some (.int .i64 u.n) ∧ w'.cell? ⟨kb, o + k * 6 + 1, none⟩ = some (.bool u.i) ∧ w'.cell? ⟨kb, o + k * 6 + 2, none⟩ = some (.int .i64 u.b) ∧ w'.cell? ⟨kb, o + k * 6 + 3, none⟩ = some (.int .i64 u.t) ∧ w'.cell? ⟨kb, o + k * 6 + 4, none⟩ = some (.int .i64 u.p) ∧ w'.cell? ⟨kb, o + k * 6 + 5, none⟩ = some (.int .i64 u.s) ∧ Hid (Hold w w' [duoF ro (.slice (some ⟨q, 0, none⟩) 24 d) (.slice (some ⟨q', 0, none⟩) 24 d'), duoF (w.heap.size + 1) (.slice none 0 0) (.slice none 0 0), duoF w.heap.size (.slice (some ⟨kb, o, none⟩) 24 c) (.slice a' 24 c'), argF w.heap.size (some ⟨kb, o, none⟩) 24 a' 24 L G]))) := fun w' h => by
        have h1 := h.duo (.head _)
        have h2 := h.duo (.tail _ (.tail _ (.head _)))
        obtain ⟨d0, d1, d2, d3, d4, d5⟩ := UAT.out w' h
        exact ⟨h1.c0, h1.c1, h2.c0, h2.c1, d0, d1, d2, d3, d4, d5, h⟩
      have GET : Hid (∀ w', (w'.cell? ⟨ro, 0, none⟩ = some (.slice (some ⟨q, 0, none⟩) 24 d) ∧ w'.cell? ⟨ro, 1, none⟩ = some (.slice (some ⟨q', 0, none⟩) 24 d') ∧ w'.cell? ⟨w.heap.size, 0, none⟩ = some (.slice (some ⟨kb, o, none⟩) 24 c) ∧ w'.cell? ⟨w.heap.size, 1, none⟩ = some (.slice a' 24 c') ∧ w'.cell? ⟨kb, o + k * 6, none⟩ = some (.int .i64 u.n) ∧ w'.cell? ⟨kb, o + k * 6 + 1, none⟩ = some (.bool u.i) ∧ w'.cell? ⟨kb, o + k * 6 + 2, none⟩ = some (.int .i64 u.b) ∧ w'.cell? ⟨kb, o + k * 6 + 3, none⟩ = some (.int .i64 u.t) ∧ w'.cell? ⟨kb, o + k * 6 + 4, none⟩ = some (.int .i64 u.p) ∧ w'.cell? ⟨kb, o + k * 6 + 5, none⟩ = some (.int .i64 u.s) ∧ Hid (Hold w w' [duoF ro (.slice (some ⟨q, 0, none⟩) 24 d) (.slice (some ⟨q', 0, none⟩) 24 d'), duoF (w.heap.size + 1) (.slice none 0 0) (.slice none 0 0), duoF w.heap.size (.slice (some ⟨kb, o, none⟩) 24 c) (.slice a' 24 c'), argF w.heap.size (some ⟨kb, o, none⟩) 24 a' 24 L G])) → Hold w w' [duoF ro (.slice (some ⟨q, 0, none⟩) 24 d) (.slice (some ⟨q', 0, none⟩) 24 d'), duoF (w.heap.size + 1) (.slice none 0 0) (.slice none 0 0), duoF w.heap.size (.slice (some ⟨kb, o, none⟩) 24 c) (.slice a' 24 c'), argF w.heap.size (some ⟨kb, o, none⟩) 24 a' 24 L G]) := fun w' h => h.2.2.2.2.2.2.2.2.2.2
      clear s2 s3 hDD hu hgd
      go_wp2_with fail
      refine (S2.out _).mono ?_
      rintro e w' ⟨rfl, hw'⟩
      subst w'
      go_upto_region 5 with fail
      clear o0 o1
      have F0 : Hid (Hold w w4.drew [duoF ro (.slice (some ⟨q, 0, none⟩) 24 d) (.slice (some ⟨q', 0, none⟩) 24 d'), duoF (w.heap.size + 1) (.slice none 0 0) (.slice none 0 0), duoF w.heap.size (.slice (some ⟨kb, o, none⟩) 24 c) (.slice a' 24 c'), argF w.heap.size (some ⟨kb, o, none⟩) 24 a' 24 L G]) := hid_mk (H.out.drew.sub fun f hf => by
        simp only [List.mem_cons, List.not_mem_nil, or_false] at hf ⊢
        rcases hf with rfl | rfl | rfl | rfl
        · exact .inl rfl
        · exact .inr (.inr (.inl rfl))
        · exact .inr (.inr (.inr (.inl rfl)))
        · exact .inr (.inr (.inr (.inr rfl))))
      have FA := hid_mk (H.out.drew.ans (.tail _ (.head _)))
      have WS : Hid (∀ w1 v0 v1 v2 v3 v4 v5, Hold w w1 [duoF ro (.slice (some ⟨q, 0, none⟩) 24 d) (.slice (some ⟨q', 0, none⟩) 24 d'), duoF (w.heap.size + 1) (.slice none 0 0) (.slice none 0 0), duoF w.heap.size (.slice (some ⟨kb, o, none⟩) 24 c) (.slice a' 24 c'), argF w.heap.size (some ⟨kb, o, none⟩) 24 a' 24 L G] → Hold w ((((((w1.setCell ⟨q, k * 6, none⟩ v0).setCell ⟨q, k * 6 + 1, none⟩ v1).setCell ⟨q, k * 6 + 2, none⟩ v2).setCell ⟨q, k * 6 + 3, none⟩ v3).setCell ⟨q, k * 6 + 4, none⟩ v4).setCell ⟨q, k * 6 + 5, none⟩ v5) [duoF ro (.slice (some ⟨q, 0, none⟩) 24 d) (.slice (some ⟨q', 0, none⟩) 24 d'), duoF (w.heap.size + 1) (.slice none 0 0) (.slice none 0 0), duoF w.heap.size (.slice (some ⟨kb, o, none⟩) 24 c) (.slice a' 24 c'), argF w.heap.size (some ⟨kb, o, none⟩) 24 a' 24 L G]) := fun w1 v0 v1 v2 v3 v4 v5 h =>
        h.wrote (T := fun k => k = q) (KeptS.ofBut (((((((KeepBut.refl q w1).setCell _ v0).setCell _ v1).setCell _ v2).setCell _ v3).setCell _ v4).setCell _ v5) rfl) (fun i e => by omega) (fun f hf i hi e => by
          simp only [List.mem_cons, List.not_mem_nil, or_false] at hf
          rcases hf with rfl | rfl | rfl | rfl
          · simp only [duoF] at hi; omega
          · simp only [duoF] at hi; omega
          · simp only [duoF] at hi; omega
          · simp only [argF] at hi; omega)
      clear H
      go_region_held3 (fun w' => w'.cell? ⟨ro, 0, none⟩ = some (.slice (some ⟨q, 0, none⟩) 24 d) ∧ w'.cell? ⟨ro, 1, none⟩ = some (.slice (some ⟨q', 0, none⟩) 24 d') ∧ w'.cell? ⟨w.heap.size, 0, none⟩ = some (.slice (some ⟨kb, o, none⟩) 24 c) ∧ w'.cell? ⟨w.heap.size, 1, none⟩ = some (.slice a' 24 c') ∧ w'.cell? ⟨kb, o + k * 6, none⟩ = some (.int .i64 u.n) ∧ w'.cell? ⟨kb, o + k * 6 + 1, none⟩ = some (.bool u.i) ∧ w'.cell? ⟨kb, o + k * 6 + 2, none⟩ = some (.int .i64 u.b) ∧ w'.cell? ⟨kb, o + k * 6 + 3, none⟩ = some (.int .i64 u.t) ∧ w'.cell? ⟨kb, o + k * 6 + 4, none⟩ = some (.int .i64 u.p) ∧ w'.cell? ⟨kb, o + k * 6 + 5, none⟩ = some (.int .i64 u.s) ∧ Hid (Hold w w' [duoF ro (.slice (some ⟨q, 0, none⟩) 24 d) (.slice (some ⟨q', 0, none⟩) 24 d'), duoF (w.heap.size + 1) (.slice none 0 0) (.slice none 0 0), duoF w.heap.size (.slice (some ⟨kb, o, none⟩) 24 c) (.slice a' 24 c'), argF w.heap.size (some ⟨kb, o, none⟩) 24 a' 24 L G]))
        (first | (with_reducible assumption) | (((with_reducible refine ALL.out _ ?_); (first | (with_reducible exact F0.out) | ((with_reducible apply Hold.next ?_ KF.out); (with_reducible exact GET.out _ (by with_reducible assumption))) | (with_reducible exact WS.out _ _ _ _ _ _ _ (GET.out _ (by with_reducible assumption))) | fail))))
        (first
          | (go_at_call 42; refine (S3.out _ ((GET.out _ (by with_reducible assumption)).arg (.tail _ (.tail _ (.tail _ (.head _))))).gs).mono ?_; rintro e wF ⟨rfl, hbF⟩; have KF := hid_mk hbF; have A6 := hid_mk (FA.out.below hbF); have O6 := hid_mk (ans_row A6.out); (obtain ⟨x0, e0⟩ := Option.isSome_iff_exists.1 (O6.out.has (k * 6) (by omega))); (obtain ⟨x1, e1⟩ := Option.isSome_iff_exists.1 (O6.out.has (k * 6 + 1) (by omega))); (obtain ⟨x2, e2⟩ := Option.isSome_iff_exists.1 (O6.out.has (k * 6 + 2) (by omega))); (obtain ⟨x3, e3⟩ := Option.isSome_iff_exists.1 (O6.out.has (k * 6 + 3) (by omega))); (obtain ⟨x4, e4⟩ := Option.isSome_iff_exists.1 (O6.out.has (k * 6 + 4) (by omega))); (obtain ⟨x5, e5⟩ := Option.isSome_iff_exists.1 (O6.out.has (k * 6 + 5) (by omega))); have y0 := O6.out.fr (k * 6) (by omega); have y1 := O6.out.fr (k * 6 + 1) (by omega); have y2 := O6.out.fr (k * 6 + 2) (by omega); have y3 := O6.out.fr (k * 6 + 3) (by omega); have y4 := O6.out.fr (k * 6 + 4) (by omega); have y5 := O6.out.fr (k * 6 + 5) (by omega); clear hbF))
      have HE := hid_mk (GET.out _ (by with_reducible assumption))
      have A7 : Hid (AnsM (some ⟨q, 0, none⟩) (some ⟨q', 0, none⟩) 24 24 D G (wF.setCells q (k * 6) v.vs)) := by
        have hne : q ≠ q' := fun e => A6.out.ne q ((on_some q q).2 rfl) ((on_some q' q).2 e.symm)
        refine ⟨.inr ⟨q, rfl, hDl, ?_⟩, ?_, A6.out.ne⟩
        · rw [HD.out]; exact O6.out.put h24 hk24 v
        · exact A6.out.gs.ofBlock (by rw [size_setCells]; exact Nat.le_refl _) fun i hi ho => (KeepBut.setCells v.vs (k * 6) wF).block i hi fun e => hne (e.symm.trans ((on_some q' i).1 ho).symm)
      rw [sixCells] at A7
      clear ALL GET WS F0 FA e0 e1 e2 e3 e4 e5 y0 y1 y2 y3 y4 y5
      go_upto_region 6 with fail
      generalize (((((wF.setCell ⟨q, k * 6, none⟩ (.int .i64 v.n)).setCell ⟨q, k * 6 + 1, none⟩ (.bool v.i)).setCell ⟨q, k * 6 + 2, none⟩ (.int .i64 v.b)).setCell ⟨q, k * 6 + 3, none⟩ (.int .i64 v.t)).setCell ⟨q, k * 6 + 4, none⟩ (.int .i64 v.p)).setCell ⟨q, k * 6 + 5, none⟩ (.int .i64 v.s) = w5 at A7 HE ⊢
      obtain ⟨_, o0, o1, _, _⟩ := HE.out.duo (.head _)
      obtain ⟨_, r0, r1, f0, f1⟩ := HE.out.duo (.tail _ (.head _))
      go_wp2
      refine bodyPost_ret (v := .agg #[.slice (some ⟨q, 0, none⟩) 24 d, .slice (some ⟨q', 0, none⟩) 24 d']) (by simp [results, Try.results17, go_sem, r0, r1]) rfl ⟨_, d, _, d', rfl, ?_, fun k hk => ?_, below_two HE.out.bel (by omega) _ _⟩
      · exact A7.out.two (fun k hk => by have := HLO.out k hk; omega) _ _
      · have := HLO.out k hk; omega
    · have hDD := hD.out.trans (swp_out HK.out hi)
      subst hDD
      rw [decide_eq_false hi] at s2
      have S2 := hid_mk s2
      obtain ⟨_, o0, o1, _, _⟩ := H.out.duo (.head _)
      obtain ⟨_, r0, r1, f0, f1⟩ := H.out.duo (.tail _ (.tail _ (.head _)))
      clear s2
      go_wp2_with fail
      refine (S2.out _).mono ?_
      rintro e w' ⟨rfl, hw'⟩
      subst w'
      go_wp2
      refine bodyPost_ret (v := .agg #[.slice b 24 d, .slice b' 24 d']) (by simp [results, Try.results17, go_sem, r0, r1]) rfl ⟨b, d, b', d', rfl, ?_, fun k hk => ?_, below_two H.out.bel (by omega) _ _⟩
      · exact (H.out.ans (.tail _ (.head _))).two (fun k hk => by have := HLO.out k hk; omega) _ _
      · have := HLO.out k hk; omega

end Go.Proofs.Ytfeoaegkhbjaeaa
