/- Drop of the specification and of the program at all memories: what they answer. No condition. -/
import Derived.Test.YtfeoaegkhbjaeaaCpy4
import Derived.Test.YtfeoaegkhbjaeaaIMem
namespace Go.Proofs.Ytfeoaegkhbjaeaa
open Go.ChangeShapes Go.WideShapes Go.ChangeAt Go.RowKit
set_option maxRecDepth 100000

theorem asItWas_c (a : Option Addr) (c : Nat) (a' : Option Addr) (c' : Nat) (L : List Wd) (G : List Bool) (w : World) (hM : MemS w a 24 a' 24 L G) :
    Calls Try.prog 36 #[.agg #[.slice a 24 c, .slice a' 24 c']] w fun e w' => ∃ b d b' d', e = .returned (.agg #[.slice b 24 d, .slice b' 24 d']) ∧ 24 ≤ d ∧ AnsM b b' 24 24 L G w' ∧ (∀ k, On b k ∨ On b' k → w.heap.size ≤ k) ∧ Below w.heap.size w w' := by
  refine (asItWas_any a c a' c' L G w hM).mono ?_
  rintro e w' ⟨b, d, b', rfl, hd, hA, hf, hb⟩
  exact ⟨b, d, b', 24, rfl, hd, hA, hf, hb⟩
theorem keep_none {L : List Wd} {G : List Bool} (h : mokB L G = false) : keepL L G = [] := by simp [keepL, h]
theorem keep_some {L : List Wd} {G : List Bool} (h : mokB L G = true) : keepL L G = L := by simp [keepL, h]
theorem drop_none {L : List Wd} {G : List Bool} (h : mokB L G = false) (m : Int) : dropG L G m = [] := by simp [dropG, h]
theorem drop_out {L : List Wd} {G : List Bool} (h : mokB L G = true) {m : Int} (hm : ¬ (0 ≤ m ∧ m ≤ 23)) : dropG L G m = G := by unfold dropG inB; rw [h, decide_eq_false (by omega)]; rfl
theorem drop_in {L : List Wd} {G : List Bool} (h : mokB L G = true) {m : Int} (hm : 0 ≤ m ∧ m ≤ 23) : dropG L G m = G.set m.toNat true := by unfold dropG inB; rw [h, decide_eq_true (by omega)]; rfl
theorem below_two {w0 w : World} (hb : Below w0.heap.size w0 w) {r : Nat} (hr : w0.heap.size ≤ r) (u0 u1 : Value) : Below w0.heap.size w0 ((w.setCell ⟨r, 0, none⟩ u0).setCell ⟨r, 1, none⟩ u1) := Below.setCell (Below.setCell hb hr _) hr _
theorem AnsM.two {w : World} {a a' : Option Addr} {n n' : Nat} {L : List Wd} {G : List Bool} (h : AnsM a a' n n' L G w) {r : Nat} (hr : ∀ k, On a k ∨ On a' k → k ≠ r) (u0 u1 : Value) : AnsM a a' n n' L G ((w.setCell ⟨r, 0, none⟩ u0).setCell ⟨r, 1, none⟩ u1) :=
  (ansF a a' n n' L G).keep _ _ h (by rw [World.size_setCell, World.size_setCell]; exact Nat.le_refl _) fun k hk ho => (((KeepBut.refl r w).setCell 0 u0).setCell 1 u1).block k hk (hr k ho)

set_option maxHeartbeats 8000000 in
theorem specDrop_any (a : Option Addr) (n0 c : Nat) (a' : Option Addr) (n0' c' : Nat) (L : List Wd) (G : List Bool) (m : Int) (w : World) (hM : MemS w a n0 a' n0' L G) :
    Calls Try.prog 13 #[.agg #[.slice a n0 c, .slice a' n0' c'], .int .i64 m] w fun e w' => ∃ b d b' d', e = .returned (.agg #[.slice b (keepL L G).length d, .slice b' (dropG L G m).length d']) ∧ AnsM b b' (keepL L G).length (dropG L G m).length (keepL L G) (dropG L G m) w' ∧ (∀ k, On b k ∨ On b' k → w.heap.size ≤ k) ∧ Below w.heap.size w w' := by
  have H := hid_mk ((((((Hold.new w).push (argF w.heap.size a n0 a' n0' L G) hM.arg).alloc (.cells #[.slice a n0 c, .slice a' n0' c'] 30)).push (duoF w.heap.size (.slice a n0 c) (.slice a' n0' c')) (Duo.new w _ _ _)).alloc (.cells #[.slice none 0 0, .slice none 0 0] 30)).push (duoF (w.heap.size + 1) (.slice none 0 0) (.slice none 0 0)) (by
    have h := Duo.new (w.alloc (.cells #[.slice a n0 c, .slice a' n0' c'] 30)) (.slice none 0 0) (.slice none 0 0) 30
    rw [World.size_alloc] at h
    exact h))
  have s1 := specMemoryOk_any a n0 c a' n0' c' L G
  have hlw := hM.ws.2.1
  have hlg := hM.gs.2.1
  clear hM
  generalize hw1 : (w.alloc (.cells #[.slice a n0 c, .slice a' n0' c'] 30)).alloc (.cells #[.slice none 0 0, .slice none 0 0] 30) = w1 at H
  cases hk : mokB L G with
  | false =>
    rw [keep_none hk, drop_none hk, List.length_nil, List.length_nil]
    rw [hk] at s1
    have S1 := hid_mk s1
    clear s1 hk
    go_enter Try.func13, Try.ntmps13
    go_upto_region 1 with fail
    clear hw1
    obtain ⟨_, m0, m1, _, _⟩ := H.out.duo (.tail _ (.head _))
    go_wp2_with fail
    refine (S1.out _ (H.out.arg (.tail _ (.tail _ (.head _))))).mono ?_
    rintro e w2 ⟨rfl, hb2⟩
    replace H := hid_mk (H.out.next hb2)
    clear hb2 m0 m1 S1
    obtain ⟨_, r0, r1, f0, f1⟩ := H.out.duo (.head _)
    go_wp2
    refine bodyPost_ret (v := .agg #[.slice none 0 0, .slice none 0 0]) (by simp [results, Try.results13, go_sem, r0, r1]) rfl ⟨none, 0, none, 0, rfl, AnsM.nil _, fun k hk => ?_, below_two H.out.bel (by omega) _ _⟩
    rcases hk with hk | hk
    · exact absurd hk (on_none k)
    · exact absurd hk (on_none k)
  | true =>
    obtain ⟨h24, h24', _⟩ := mok_parts hk
    have e1 : n0 = 24 := by omega
    have e2 : n0' = 24 := by omega
    subst e1 e2
    rw [keep_some hk]
    obtain ⟨D, hD⟩ : ∃ D, Hid (D = dropG L G m) := ⟨_, rfl⟩
    rw [← hD.out]
    have hDl : D.length = 24 := by
      rw [hD.out]
      by_cases hi : 0 ≤ m ∧ m ≤ 23
      · rw [drop_in hk hi, List.length_set]; exact h24'
      · rw [drop_out hk hi]; exact h24'
    rw [h24, hDl]
    rw [hk] at s1
    have S1 := hid_mk s1
    have s2 := in_any m 0 23
    have HK := hid_mk hk
    clear s1 hk
    go_enter Try.func13, Try.ntmps13
    go_upto_region 1 with fail
    clear hw1
    obtain ⟨_, m0, m1, _, _⟩ := H.out.duo (.tail _ (.head _))
    go_wp2_with fail
    refine (S1.out _ (H.out.arg (.tail _ (.tail _ (.head _))))).mono ?_
    rintro e w2 ⟨rfl, hb2⟩
    replace H := hid_mk (H.out.next hb2)
    clear hb2 m0 m1 S1
    obtain ⟨_, m0, m1, _, _⟩ := H.out.duo (.tail _ (.head _))
    go_wp2_with fail
    refine (l8Copy_any _ c _ c' L G _ (H.out.arg (.tail _ (.tail _ (.head _))))).mono ?_
    rintro e w3 ⟨b, d, b', d', rfl, hd, A3, hf3, hb3⟩
    have hlo : ∀ k, On b k ∨ On b' k → w.heap.size + 1 < k := fun k hk => by
      have h1 := hf3 k hk
      have h2 := (H.out.duo (.head _)).lt
      omega
    have hup : ∀ k, On b k ∨ On b' k → k < w3.heap.size := fun k hk => A3.lt hk
    have hlt : w.heap.size + 1 < w3.heap.size := Nat.lt_of_lt_of_le (H.out.duo (.head _)).lt hb3.size
    replace H := hid_mk ((((H.out.next hb3).push (ansF b b' 24 24 L G) A3).alloc (.cells #[.slice b 24 d, .slice b' 24 d'] 30)).push (duoF w3.heap.size (.slice b 24 d) (.slice b' 24 d')) (Duo.new _ _ _ _))
    clear hb3 m0 m1 hf3 A3
    go_upto_region 4 with fail
    generalize w3.alloc (.cells #[.slice b 24 d, .slice b' 24 d'] 30) = w4 at H ⊢
    generalize w3.heap.size = ro at H hup hlt ⊢
    have HLO := hid_mk hlo
    have HUP := hid_mk hup
    clear hlo hup
    by_cases hi : 0 ≤ m ∧ m ≤ 23
    · have hDD := hD.out.trans (drop_in HK.out hi)
      rw [decide_eq_true hi] at s2
      have S2 := hid_mk s2
      obtain ⟨hi0, hi1⟩ := hi
      obtain ⟨k, hkm⟩ : ∃ k : Nat, m.toNat = k := ⟨_, rfl⟩
      have hk24 : k < 24 := by omega
      have hmk : m = (k : Int) := by omega
      have A4 := hid_mk (H.out.ans (.tail _ (.head _)))
      obtain ⟨q, rfl, _, hOw⟩ : ∃ q, b = some ⟨q, 0, none⟩ ∧ L.length = 24 ∧ OutW w4 q 24 24 L := by
        rcases A4.out.ws with ⟨_, h0, _⟩ | h
        · omega
        · exact h
      obtain ⟨q', rfl, _, hO⟩ : ∃ q, b' = some ⟨q, 0, none⟩ ∧ G.length = 24 ∧ OutB w4 q 24 24 G := by
        rcases A4.out.gs with ⟨_, h0, _⟩ | h
        · omega
        · exact h
      obtain ⟨_, o0, o1, _, _⟩ := H.out.duo (.head _)
      obtain ⟨g0, hg0⟩ := Option.isSome_iff_exists.1 (hO.has k hk24)
      have hgf := hO.fr k hk24
      have hql := HLO.out q' (.inr ((on_some q' q').2 rfl))
      have hqu := HUP.out q' (.inr ((on_some q' q').2 rfl))
      have O5 := hid_mk (hO.put h24' hk24 true)
      have K5 := hid_mk ((KeepBut.refl q' w4).setCell k (.bool true))
      have A5 : Hid (AnsM (some ⟨q, 0, none⟩) (some ⟨q', 0, none⟩) 24 24 L (G.set k true) (w4.setCell ⟨q', k, none⟩ (.bool true))) := by
        have hne : q ≠ q' := fun e => A4.out.ne q ((on_some q q).2 rfl) ((on_some q' q).2 e.symm)
        exact ⟨.inr ⟨q, rfl, h24, hOw.keepB K5.out hne⟩, .inr ⟨q', rfl, by rw [List.length_set]; exact h24', O5.out⟩, A4.out.ne⟩
      have D5 := hid_mk ((H.out.duo (.head _)).keep K5.out (by omega))
      have R5 := hid_mk ((H.out.duo (.tail _ (.tail _ (.head _)))).keep K5.out (by omega))
      have B5 := hid_mk (H.out.bel.trans (K5.out.below (by omega) H.out.bel.size))
      clear hO hOw A4 H
      subst hmk
      go_wp2_with fail
      refine (S2.out _).mono ?_
      rintro e w' ⟨rfl, hw'⟩
      subst w'
      go_upto_region 6 with fail
      clear o0 o1 hg0 hgf
      rw [hkm] at hDD
      subst hDD
      generalize w4.setCell ⟨q', k, none⟩ (.bool true) = w5 at A5 D5 R5 B5 ⊢
      obtain ⟨_, o0, o1, _, _⟩ := D5.out
      obtain ⟨_, r0, r1, f0, f1⟩ := R5.out
      go_wp2
      refine bodyPost_ret (v := .agg #[.slice (some ⟨q, 0, none⟩) 24 d, .slice (some ⟨q', 0, none⟩) 24 d']) (by simp [results, Try.results13, go_sem, r0, r1]) rfl ⟨_, d, _, d', rfl, ?_, fun k hk => ?_, below_two B5.out (by omega) _ _⟩
      · exact A5.out.two (fun k hk => by have := HLO.out k hk; omega) _ _
      · have := HLO.out k hk; omega
    · have hDD := hD.out.trans (drop_out HK.out hi)
      subst hDD
      rw [decide_eq_false hi] at s2
      have S2 := hid_mk s2
      obtain ⟨_, o0, o1, _, _⟩ := H.out.duo (.head _)
      obtain ⟨_, r0, r1, f0, f1⟩ := H.out.duo (.tail _ (.tail _ (.head _)))
      clear s2
      go_wp2_with fail
      refine (S2.out _).mono ?_
      rintro e w' ⟨rfl, hw'⟩
      subst w'
      go_wp2
      refine bodyPost_ret (v := .agg #[.slice b 24 d, .slice b' 24 d']) (by simp [results, Try.results13, go_sem, r0, r1]) rfl ⟨b, d, b', d', rfl, ?_, fun k hk => ?_, below_two H.out.bel (by omega) _ _⟩
      · exact (H.out.ans (.tail _ (.head _))).two (fun k hk => by have := HLO.out k hk; omega) _ _
      · have := HLO.out k hk; omega

set_option maxHeartbeats 8000000 in
theorem implDrop_any (a : Option Addr) (n0 c : Nat) (a' : Option Addr) (n0' c' : Nat) (L : List Wd) (G : List Bool) (m : Int) (w : World) (hM : MemS w a n0 a' n0' L G) :
    Calls Try.prog 14 #[.agg #[.slice a n0 c, .slice a' n0' c'], .int .i64 m] w fun e w' => ∃ b d b' d', e = .returned (.agg #[.slice b (keepL L G).length d, .slice b' (dropG L G m).length d']) ∧ AnsM b b' (keepL L G).length (dropG L G m).length (keepL L G) (dropG L G m) w' ∧ (∀ k, On b k ∨ On b' k → w.heap.size ≤ k) ∧ Below w.heap.size w w' := by
  have H := hid_mk ((((((Hold.new w).push (argF w.heap.size a n0 a' n0' L G) hM.arg).alloc (.cells #[.slice a n0 c, .slice a' n0' c'] 30)).push (duoF w.heap.size (.slice a n0 c) (.slice a' n0' c')) (Duo.new w _ _ _)).alloc (.cells #[.slice none 0 0, .slice none 0 0] 30)).push (duoF (w.heap.size + 1) (.slice none 0 0) (.slice none 0 0)) (by
    have h := Duo.new (w.alloc (.cells #[.slice a n0 c, .slice a' n0' c'] 30)) (.slice none 0 0) (.slice none 0 0) 30
    rw [World.size_alloc] at h
    exact h))
  have s1 := implMemoryOk_any a n0 c a' n0' c' L G
  have hlw := hM.ws.2.1
  have hlg := hM.gs.2.1
  clear hM
  generalize hw1 : (w.alloc (.cells #[.slice a n0 c, .slice a' n0' c'] 30)).alloc (.cells #[.slice none 0 0, .slice none 0 0] 30) = w1 at H
  cases hk : mokB L G with
  | false =>
    rw [keep_none hk, drop_none hk, List.length_nil, List.length_nil]
    rw [hk] at s1
    have S1 := hid_mk s1
    clear s1 hk
    go_enter Try.func14, Try.ntmps14
    go_upto_region 1 with fail
    clear hw1
    obtain ⟨_, m0, m1, _, _⟩ := H.out.duo (.tail _ (.head _))
    go_wp2_with fail
    refine (S1.out _ (H.out.arg (.tail _ (.tail _ (.head _))))).mono ?_
    rintro e w2 ⟨rfl, hb2⟩
    replace H := hid_mk (H.out.next hb2)
    clear hb2 m0 m1 S1
    obtain ⟨_, r0, r1, f0, f1⟩ := H.out.duo (.head _)
    go_wp2
    refine bodyPost_ret (v := .agg #[.slice none 0 0, .slice none 0 0]) (by simp [results, Try.results14, go_sem, r0, r1]) rfl ⟨none, 0, none, 0, rfl, AnsM.nil _, fun k hk => ?_, below_two H.out.bel (by omega) _ _⟩
    rcases hk with hk | hk
    · exact absurd hk (on_none k)
    · exact absurd hk (on_none k)
  | true =>
    obtain ⟨h24, h24', _⟩ := mok_parts hk
    have e1 : n0 = 24 := by omega
    have e2 : n0' = 24 := by omega
    subst e1 e2
    rw [keep_some hk]
    obtain ⟨D, hD⟩ : ∃ D, Hid (D = dropG L G m) := ⟨_, rfl⟩
    rw [← hD.out]
    have hDl : D.length = 24 := by
      rw [hD.out]
      by_cases hi : 0 ≤ m ∧ m ≤ 23
      · rw [drop_in hk hi, List.length_set]; exact h24'
      · rw [drop_out hk hi]; exact h24'
    rw [h24, hDl]
    rw [hk] at s1
    have S1 := hid_mk s1
    have s2 := isNumber_any m 24
    simp only [show (24 : Int) - 1 = 23 from rfl] at s2
    have HK := hid_mk hk
    clear s1 hk
    go_enter Try.func14, Try.ntmps14
    go_upto_region 1 with fail
    clear hw1
    obtain ⟨_, m0, m1, _, _⟩ := H.out.duo (.tail _ (.head _))
    go_wp2_with fail
    refine (S1.out _ (H.out.arg (.tail _ (.tail _ (.head _))))).mono ?_
    rintro e w2 ⟨rfl, hb2⟩
    replace H := hid_mk (H.out.next hb2)
    clear hb2 m0 m1 S1
    obtain ⟨_, m0, m1, _, _⟩ := H.out.duo (.tail _ (.head _))
    go_wp2_with fail
    refine (asItWas_c _ c _ c' L G _ (H.out.arg (.tail _ (.tail _ (.head _))))).mono ?_
    rintro e w3 ⟨b, d, b', d', rfl, hd, A3, hf3, hb3⟩
    have hlo : ∀ k, On b k ∨ On b' k → w.heap.size + 1 < k := fun k hk => by
      have h1 := hf3 k hk
      have h2 := (H.out.duo (.head _)).lt
      omega
    have hup : ∀ k, On b k ∨ On b' k → k < w3.heap.size := fun k hk => A3.lt hk
    have hlt : w.heap.size + 1 < w3.heap.size := Nat.lt_of_lt_of_le (H.out.duo (.head _)).lt hb3.size
    replace H := hid_mk ((((H.out.next hb3).push (ansF b b' 24 24 L G) A3).alloc (.cells #[.slice b 24 d, .slice b' 24 d'] 30)).push (duoF w3.heap.size (.slice b 24 d) (.slice b' 24 d')) (Duo.new _ _ _ _))
    clear hb3 m0 m1 hf3 A3
    go_upto_region 4 with fail
    generalize w3.alloc (.cells #[.slice b 24 d, .slice b' 24 d'] 30) = w4 at H ⊢
    generalize w3.heap.size = ro at H hup hlt ⊢
    have HLO := hid_mk hlo
    have HUP := hid_mk hup
    clear hlo hup
    by_cases hi : 0 ≤ m ∧ m ≤ 23
    · have hDD := hD.out.trans (drop_in HK.out hi)
      rw [decide_eq_true hi] at s2
      have S2 := hid_mk s2
      obtain ⟨hi0, hi1⟩ := hi
      obtain ⟨k, hkm⟩ : ∃ k : Nat, m.toNat = k := ⟨_, rfl⟩
      have hk24 : k < 24 := by omega
      have hmk : m = (k : Int) := by omega
      have A4 := hid_mk (H.out.ans (.tail _ (.head _)))
      obtain ⟨q, rfl, _, hOw⟩ : ∃ q, b = some ⟨q, 0, none⟩ ∧ L.length = 24 ∧ OutW w4 q 24 24 L := by
        rcases A4.out.ws with ⟨_, h0, _⟩ | h
        · omega
        · exact h
      obtain ⟨q', rfl, _, hO⟩ : ∃ q, b' = some ⟨q, 0, none⟩ ∧ G.length = 24 ∧ OutB w4 q 24 24 G := by
        rcases A4.out.gs with ⟨_, h0, _⟩ | h
        · omega
        · exact h
      obtain ⟨_, o0, o1, _, _⟩ := H.out.duo (.head _)
      obtain ⟨g0, hg0⟩ := Option.isSome_iff_exists.1 (hO.has k hk24)
      have hgf := hO.fr k hk24
      have hql := HLO.out q' (.inr ((on_some q' q').2 rfl))
      have hqu := HUP.out q' (.inr ((on_some q' q').2 rfl))
      have O5 := hid_mk (hO.put h24' hk24 true)
      have K5 := hid_mk ((KeepBut.refl q' w4).setCell k (.bool true))
      have A5 : Hid (AnsM (some ⟨q, 0, none⟩) (some ⟨q', 0, none⟩) 24 24 L (G.set k true) (w4.setCell ⟨q', k, none⟩ (.bool true))) := by
        have hne : q ≠ q' := fun e => A4.out.ne q ((on_some q q).2 rfl) ((on_some q' q).2 e.symm)
        exact ⟨.inr ⟨q, rfl, h24, hOw.keepB K5.out hne⟩, .inr ⟨q', rfl, by rw [List.length_set]; exact h24', O5.out⟩, A4.out.ne⟩
      have D5 := hid_mk ((H.out.duo (.head _)).keep K5.out (by omega))
      have R5 := hid_mk ((H.out.duo (.tail _ (.tail _ (.head _)))).keep K5.out (by omega))
      have B5 := hid_mk (H.out.bel.trans (K5.out.below (by omega) H.out.bel.size))
      clear hO hOw A4 H
      subst hmk
      go_wp2_with fail
      refine (S2.out _).mono ?_
      rintro e w' ⟨rfl, hw'⟩
      subst w'
      go_upto_region 6 with fail
      clear o0 o1 hg0 hgf
      rw [hkm] at hDD
      subst hDD
      generalize w4.setCell ⟨q', k, none⟩ (.bool true) = w5 at A5 D5 R5 B5 ⊢
      obtain ⟨_, o0, o1, _, _⟩ := D5.out
      obtain ⟨_, r0, r1, f0, f1⟩ := R5.out
      go_wp2
      refine bodyPost_ret (v := .agg #[.slice (some ⟨q, 0, none⟩) 24 d, .slice (some ⟨q', 0, none⟩) 24 d']) (by simp [results, Try.results14, go_sem, r0, r1]) rfl ⟨_, d, _, d', rfl, ?_, fun k hk => ?_, below_two B5.out (by omega) _ _⟩
      · exact A5.out.two (fun k hk => by have := HLO.out k hk; omega) _ _
      · have := HLO.out k hk; omega
    · have hDD := hD.out.trans (drop_out HK.out hi)
      subst hDD
      rw [decide_eq_false hi] at s2
      have S2 := hid_mk s2
      obtain ⟨_, o0, o1, _, _⟩ := H.out.duo (.head _)
      obtain ⟨_, r0, r1, f0, f1⟩ := H.out.duo (.tail _ (.tail _ (.head _)))
      clear s2
      go_wp2_with fail
      refine (S2.out _).mono ?_
      rintro e w' ⟨rfl, hw'⟩
      subst w'
      go_wp2
      refine bodyPost_ret (v := .agg #[.slice b 24 d, .slice b' 24 d']) (by simp [results, Try.results14, go_sem, r0, r1]) rfl ⟨b, d, b', d', rfl, ?_, fun k hk => ?_, below_two H.out.bel (by omega) _ _⟩
      · exact (H.out.ans (.tail _ (.head _))).two (fun k hk => by have := HLO.out k hk; omega) _ _
      · have := HLO.out k hk; omega
end Go.Proofs.Ytfeoaegkhbjaeaa
