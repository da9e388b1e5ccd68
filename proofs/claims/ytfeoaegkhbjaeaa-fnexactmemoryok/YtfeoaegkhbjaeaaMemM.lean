/- szMemory, toMemory, eqMemory, markMemory, heldMemory and sameWords of the laws. No condition but that the lists are no longer than the law lets them be. -/
import Derived.Test.YtfeoaegkhbjaeaaMemN
import Derived.Test.YtfeoaegkhbjaeaaMarkB
import Derived.Test.YtfeoaegkhbjaeaaWMath
import Derived.Lib.Hide
namespace Go.Proofs.Ytfeoaegkhbjaeaa
open Go.ChangeShapes Go.WideShapes Go.ChangeAt Go.RowKit
set_option maxRecDepth 100000

/-- A memory's block beside what was there at first. -/
structure Mb (w0 : World) (r : Nat) (v0 v1 : Value) (w : World) : Prop where
  d : Duo w r v0 v1
  bel : Below w0.heap.size w0 w
theorem Mb.new (w : World) (v0 v1 : Value) (T : TypeId) : Mb w w.heap.size v0 v1 (w.alloc (.cells #[v0, v1] T)) := ⟨Duo.new w v0 v1 T, (Below.refl _ _).alloc (Nat.le_refl _) _⟩
theorem Mb.next {w0 w w' : World} {r : Nat} {v0 v1 : Value} (h : Mb w0 r v0 v1 w) (hb : Below w.heap.size w w') : Mb w0 r v0 v1 w' := ⟨h.d.below hb, h.bel.trans (hb.mono h.bel.size)⟩

set_option maxHeartbeats 2000000 in
theorem szMemory_any (a : Option Addr) (n c : Nat) (a' : Option Addr) (n' c' : Nat) (hn : n ≤ maxLen) (hn' : n' ≤ maxLen) (w : World) :
    Calls Try.prog 8 #[.agg #[.slice a n c, .slice a' n' c'], .int .i64 1048576] w fun e w' => e = .returned (.int .i64 (if n + n' ≤ 1048576 then 1048576 - (n : Int) - (n' : Int) else -1)) ∧ Below w.heap.size w w' := by
  have M0 := hid_mk (Mb.new w (.slice a n c) (.slice a' n' c') 25)
  have s1 := fun w => szWordS_any a n c w hn
  by_cases h1 : n ≤ 1048576
  · have s2 := fun w => szBoolS_any a' n' c' (1048576 - (n : Int)) (by omega) (by omega) w hn'
    simp only [if_pos h1] at s1
    obtain ⟨m, hm⟩ : ∃ m : Int, m = 1048576 - (n : Int) := ⟨_, rfl⟩
    rw [← hm] at s1 s2
    have hm0 : 0 ≤ m := by omega
    have hm1 : m ≤ 1048576 := by omega
    by_cases h2 : n + n' ≤ 1048576
    · have h3 : (n' : Int) ≤ m := by omega
      rw [if_pos h2, show 1048576 - (n : Int) - (n' : Int) = m - (n' : Int) by omega]
      simp only [if_pos h3] at s2
      have S1 := hid_mk s1
      have S2 := hid_mk s2
      obtain ⟨u, hu⟩ : ∃ u : Int, u = m - (n' : Int) := ⟨_, rfl⟩
      rw [← hu] at S2 ⊢
      have hu0 : 0 ≤ u := by omega
      clear s1 s2 hm hu hn hn' h1 h2 h3
      go_enter Try.func8, Try.ntmps8
      go_wp2_with (go_at_call 26; refine (S1.out _).mono ?_; rintro e w1 ⟨rfl, rfl⟩)
      go_wp2_with (go_at_call 27; refine (S2.out _).mono ?_; rintro e w1 ⟨rfl, rfl⟩)
      go_wp2
      go_ret
      exact ⟨rfl, M0.out.bel⟩
    · have h3 : ¬ (n' : Int) ≤ m := by omega
      rw [if_neg h2]
      simp only [if_neg h3] at s2
      have S1 := hid_mk s1
      have S2 := hid_mk s2
      clear s1 s2 hm hn hn' h1 h2 h3
      go_enter Try.func8, Try.ntmps8
      go_wp2_with (go_at_call 26; refine (S1.out _).mono ?_; rintro e w1 ⟨rfl, rfl⟩)
      go_wp2_with (go_at_call 27; refine (S2.out _).mono ?_; rintro e w1 ⟨rfl, rfl⟩)
      go_wp2
      go_ret
      exact ⟨rfl, M0.out.bel⟩
  · rw [if_neg (by omega)]
    simp only [if_neg h1] at s1
    have S1 := hid_mk s1
    clear s1
    go_enter Try.func8, Try.ntmps8
    go_wp2_with (go_at_call 26; refine (S1.out _).mono ?_; rintro e w1 ⟨rfl, rfl⟩)
    go_wp2
    go_ret
    exact ⟨rfl, M0.out.bel⟩

set_option maxHeartbeats 4000000 in
theorem eqMemory_same (a b : Option Addr) (n c d : Nat) (a' b' : Option Addr) (n' c' d' : Nat) (L : List Wd) (G : List Bool) (w : World) (hM : MemS w a n a' n' L G) (hN : MemS w b n b' n' L G) :
    Calls Try.prog 12 #[.agg #[.slice a n c, .slice a' n' c'], .agg #[.slice b n d, .slice b' n' d']] w fun e w' => e = .returned (.bool true) ∧ Below w.heap.size w w' := by
  have B0 : Hid (Below w.heap.size w ((w.alloc (.cells #[.slice a n c, .slice a' n' c'] 30)).alloc (.cells #[.slice b n d, .slice b' n' d'] 30))) := ((Below.refl _ _).alloc (Nat.le_refl _) _).alloc (by simp) _
  have D0 := hid_mk ((Duo.new w (.slice a n c) (.slice a' n' c') 30).alloc (.cells #[.slice b n d, .slice b' n' d'] 30))
  have E0 : Hid (Duo ((w.alloc (.cells #[.slice a n c, .slice a' n' c'] 30)).alloc (.cells #[.slice b n d, .slice b' n' d'] 30)) (w.heap.size + 1) (.slice b n d) (.slice b' n' d')) := by
    have h := Duo.new (w.alloc (.cells #[.slice a n c, .slice a' n' c'] 30)) (.slice b n d) (.slice b' n' d') 30
    rw [World.size_alloc] at h
    exact h
  have SA := hid_mk hM
  have SB := hid_mk hN
  clear hM hN
  generalize hw1 : (w.alloc (.cells #[.slice a n c, .slice a' n' c'] 30)).alloc (.cells #[.slice b n d, .slice b' n' d'] 30) = w1 at B0 D0 E0
  go_enter Try.func12, Try.ntmps12
  go_upto_region 1 with fail
  clear hw1
  obtain ⟨_, m0, m1, _, _⟩ := D0.out
  obtain ⟨_, e0, e1, _, _⟩ := E0.out
  go_wp2_with fail
  refine (eqWordS_same a b n c d L _ ((SA.out.ws.keep B0.out).mono B0.out.size) ((SB.out.ws.keep B0.out).mono B0.out.size)).mono ?_
  rintro e w2 ⟨rfl, hb2⟩
  have B2 := hid_mk (B0.out.trans (hb2.mono B0.out.size))
  have D2 := hid_mk (D0.out.below hb2)
  have E2 := hid_mk (E0.out.below hb2)
  clear hb2 m0 m1 e0 e1 B0 D0 E0
  obtain ⟨_, m0, m1, _, _⟩ := D2.out
  obtain ⟨_, e0, e1, _, _⟩ := E2.out
  go_wp2_with fail
  refine (eqBoolS_same a' b' n' c' d' G _ ((SA.out.gs.keep B2.out).mono B2.out.size) ((SB.out.gs.keep B2.out).mono B2.out.size)).mono ?_
  rintro e w3 ⟨rfl, hb3⟩
  have B3 := hid_mk (B2.out.trans (hb3.mono B2.out.size))
  clear hb3 B2 D2 E2 m0 m1 e0 e1
  go_wp2
  go_ret
  exact ⟨rfl, B3.out⟩

end Go.Proofs.Ytfeoaegkhbjaeaa
