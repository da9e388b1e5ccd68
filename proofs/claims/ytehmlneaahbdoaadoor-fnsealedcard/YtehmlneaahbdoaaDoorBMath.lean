/- Plain facts on Wide and Unpack as numbers: what is packed has all that it had, and no more than what is needed; what is wide stays. -/
import Derived.Test.YtehmlneaahbdoaaDoorWideX
namespace Go.Proofs.YtehmlneaahbdoaaDoor
open Go.RowKit

theorem packGo_spec (a b : Int) : ∀ f k : Nat,
    (∃ j : Nat, k ≤ j ∧ j < k + f ∧ pB a j ≤ 63 ∧ pL a b j ≤ 63 ∧ (∀ i, k ≤ i → i < j → ¬ (pB a i ≤ 63 ∧ pL a b i ≤ 63)) ∧ packGo a b f k = ((j : Int), pB a j, pL a b j, true)) ∨
    ((∀ i, k ≤ i → i < k + f → ¬ (pB a i ≤ 63 ∧ pL a b i ≤ 63)) ∧ packGo a b f k = (0, 0, 0, false)) := by
  intro f
  induction f with
  | zero => intro k; exact .inr ⟨fun i h1 h2 => absurd h2 (by omega), rfl⟩
  | succ f ih =>
    intro k
    by_cases hf : pB a k ≤ 63 ∧ pL a b k ≤ 63
    · exact .inl ⟨k, Nat.le_refl _, by omega, hf.1, hf.2, fun i h1 h2 => absurd h2 (by omega), packGo_hit f k hf.1 hf.2⟩
    · rw [packGo_miss f k hf]
      rcases ih (k + 1) with ⟨j, h1, h2, h3, h4, h5, h6⟩ | ⟨h1, h2⟩
      · refine .inl ⟨j, by omega, by omega, h3, h4, fun i hi hj => ?_, h6⟩
        by_cases e : i = k
        · rw [e]; exact hf
        · exact h5 i (by omega) hj
      · refine .inr ⟨fun i hi hj => ?_, h2⟩
        by_cases e : i = k
        · rw [e]; exact hf
        · exact h1 i (by omega) (by omega)

theorem seven {k : Nat} (h : k ≤ 6) : k = 0 ∨ k = 1 ∨ k = 2 ∨ k = 3 ∨ k = 4 ∨ k = 5 ∨ k = 6 := by omega

/-- At j the numbers of Unpack. -/
theorem up_at (a b : Int) (j : Nat) (hj : j ≤ 6) (h : bokB a b = true) (h1 : pB a j ≤ 63) (h2 : pL a b j ≤ 63) :
    upN j (pB a j) (pL a b j) = (pB a j * 2 ^ j, min ((pB a j + pL a b j) * 2 ^ j) 4096) := by
  unfold upN
  rw [pok_fit j h hj h1 h2]
  simp [upLo, upHi]

/-- What lies on a grid on which it fits stays. -/
theorem wd_grid (a b : Int) (e : Nat) (he : e ≤ 6) (h : bokB a b = true) (da : a % 2 ^ e = 0) (db : b % 2 ^ e = 0) (f1 : pB a e ≤ 63) (f2 : pL a b e ≤ 63) : wd a b = (a, b) := by
  obtain ⟨h0, hab, hb⟩ := bok_of h
  rcases packGo_spec a b 7 0 with ⟨j, _, j7, g1, g2, g3, g4⟩ | ⟨g1, _⟩
  · have hj : j ≤ e := by
      rcases Nat.lt_or_ge e j with hlt | hge
      · exact absurd ⟨f1, f2⟩ (g3 e (Nat.zero_le _) hlt)
      · exact hge
    have hw : wd a b = upN j (pB a j) (pL a b j) := by simp [wd, pk_ok h, g4]
    rw [hw, up_at a b j (by omega) h g1 g2]
    clear g3 g4 hw h g1 g2 f1 f2
    rcases seven he with rfl | rfl | rfl | rfl | rfl | rfl | rfl
    all_goals
      rcases seven (show j ≤ 6 by omega) with rfl | rfl | rfl | rfl | rfl | rfl | rfl
      all_goals
        first
          | (exfalso; omega)
          | (simp only [pB, pL, Prod.mk.injEq]; simp at da db ⊢; omega)
  · exact absurd ⟨f1, f2⟩ (g1 e (Nat.zero_le _) (by omega))

theorem wd_none {x y : Int} (h : bokB x y = false) : wd x y = (0, 0) := by simp [wd, pk_no h, h]

theorem wd_all {x y : Int} (h : bokB x y = true) :
    (wd x y).1 ≤ x ∧ y ≤ (wd x y).2 ∧ 0 ≤ (wd x y).1 ∧ (wd x y).2 ≤ 4096 ∧ exB (wd x y).1 (wd x y).2 = true ∧ ((wd x y).2 - (wd x y).1 ≤ y - x + 126 ∨ (wd x y).2 - (wd x y).1 = 4096) := by
  obtain ⟨h0, hab, hb⟩ := bok_of h
  rcases packGo_spec x y 7 0 with ⟨j, _, j7, g1, g2, _, g4⟩ | ⟨_, g4⟩
  · have hw : wd x y = (pB x j * 2 ^ j, min ((pB x j + pL x y j) * 2 ^ j) 4096) := by
      rw [← up_at x y j (by omega) h g1 g2]; simp [wd, pk_ok h, g4]
    rw [hw]
    simp only
    have key : pB x j * 2 ^ j ≤ x ∧ y ≤ min ((pB x j + pL x y j) * 2 ^ j) 4096 ∧ 0 ≤ pB x j * 2 ^ j ∧ min ((pB x j + pL x y j) * 2 ^ j) 4096 ≤ 4096 ∧
        (min ((pB x j + pL x y j) * 2 ^ j) 4096 - pB x j * 2 ^ j ≤ y - x + 126 ∨ min ((pB x j + pL x y j) * 2 ^ j) 4096 - pB x j * 2 ^ j = 4096) ∧
        pB x j * 2 ^ j % 2 ^ j = 0 ∧ min ((pB x j + pL x y j) * 2 ^ j) 4096 % 2 ^ j = 0 ∧ pB (pB x j * 2 ^ j) j ≤ 63 ∧ pL (pB x j * 2 ^ j) (min ((pB x j + pL x y j) * 2 ^ j) 4096) j ≤ 63 := by
      clear g4 hw h
      rcases seven (show j ≤ 6 by omega) with rfl | rfl | rfl | rfl | rfl | rfl | rfl
      all_goals
        simp [pB, pL] at g1 g2 ⊢
        omega
    obtain ⟨k1, k2, k3, k4, k5, k6, k7, k8, k9⟩ := key
    refine ⟨k1, k2, k3, k4, ?_, k5⟩
    have hb' : bokB (pB x j * 2 ^ j) (min ((pB x j + pL x y j) * 2 ^ j) 4096) = true := bok_mk k3 (by omega) k4
    simp [exB, hb', wd_grid _ _ j (by omega) hb' k6 k7 k8 k9]
  · have hw : wd x y = (0, 4096) := by simp [wd, pk_ok h, g4, h]
    rw [hw]
    exact ⟨h0, hb, by omega, by omega, by decide, .inr (by omega)⟩

theorem up_bok (E B L : Int) (h : pokB E B L = true) : bokB (upN E B L).1 (upN E B L).2 = true := by
  obtain ⟨h0, h1, h2, h3, h4, h5⟩ := pok_of h
  simp only [upN, h, if_true]
  clear h
  obtain rfl | rfl | rfl | rfl | rfl | rfl | rfl : E = 0 ∨ E = 1 ∨ E = 2 ∨ E = 3 ∨ E = 4 ∨ E = 5 ∨ E = 6 := by omega
  all_goals
    refine bok_mk ?_ ?_ ?_
    all_goals
      simp [upLo, upHi] <;> omega
end Go.Proofs.YtehmlneaahbdoaaDoor
