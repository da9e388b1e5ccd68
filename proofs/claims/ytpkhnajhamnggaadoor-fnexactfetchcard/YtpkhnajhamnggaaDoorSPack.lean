/- The model's Pack and BoundsOk (package spec), and impl's BoundsOk, at every two numbers. No condition. -/
import Derived.Test.YtpkhnajhamnggaaDoorRows
import Derived.Test.YtpkhnajhamnggaaDoorMath
import Derived.WalkKit
import Derived.ProofKit
import Derived.OpenShut
import Derived.WalkSpells
import Derived.WalkLawsBesides
import Derived.Deep.QuietTactic
import Derived.BigQuiet
namespace Go.Proofs.YtpkhnajhamnggaaDoor
open Go.ChangeShapes Go.WideShapes Go.ChangeAt Go.RowKit

theorem bok_mk {a b : Int} (h0 : 0 ≤ a) (h1 : a ≤ b) (h2 : b ≤ 4096) : bokB a b = true := by simp [bokB]; omega
theorem bok_not {a b : Int} (h : ¬ (0 ≤ a ∧ a ≤ b ∧ b ≤ 4096)) : bokB a b = false := by simp only [bokB, decide_eq_false_iff_not]; exact h
theorem bok_of {a b : Int} (h : bokB a b = true) : 0 ≤ a ∧ a ≤ b ∧ b ≤ 4096 := by simpa [bokB] using h
theorem bok_nof {a b : Int} (h : bokB a b = false) : ¬ (0 ≤ a ∧ a ≤ b ∧ b ≤ 4096) := by simpa only [bokB, decide_eq_false_iff_not] using h

theorem specBounds_any (a b : Int) (w : World) :
    Calls Tryd.prog 36 #[.int .i64 a, .int .i64 b] w fun e w' => e = .returned (.bool (bokB a b)) ∧ w' = w := by
  by_cases h0 : 0 ≤ a <;> by_cases h1 : a ≤ b <;> by_cases h2 : b ≤ 4096 <;> by_cases h3 : a ≤ 4096 <;> by_cases h4 : 0 ≤ b <;> try omega
  all_goals
    first | rw [bok_mk h0 h1 h2] | rw [bok_not (by omega)]
    go_enter Tryd.func36, Tryd.ntmps36
    go_wp2
    go_ret
    exact ⟨rfl, rfl⟩

theorem implBounds_any (a b : Int) (w : World) :
    Calls Tryd.prog 46 #[.int .i64 a, .int .i64 b] w fun e w' => e = .returned (.bool (bokB a b)) ∧ w' = w := by
  by_cases h0 : 0 ≤ a <;> by_cases h1 : a ≤ b <;> by_cases h2 : b ≤ 4096
  all_goals
    first | rw [bok_mk h0 h1 h2] | rw [bok_not (by omega)]
    go_enter Tryd.func46, Tryd.ntmps46
    go_wp2
    go_ret
    exact ⟨rfl, rfl⟩

set_option maxHeartbeats 1000000 in
theorem specPack_no (a b : Int) (w : World) (h : bokB a b = false) :
    Calls Tryd.prog 40 #[.int .i64 a, .int .i64 b] w fun e w' => e = .returned (.tuple #[pkV (pk a b), .bool (pk a b).2.2.2]) ∧ Below w.heap.size w w' := by
  rw [pk_no h]
  go_enter Tryd.func40, Tryd.ntmps40
  go_wp2_with (go_at_call 36; refine (specBounds_any _ _ _).mono ?_; rintro e w' ⟨rfl, rfl⟩)
  exact bodyPost_ret (v := .tuple #[.agg #[.int .i64 0, .int .i64 0, .int .i64 0], .bool false]) (by simp [results, Tryd.results40, go_sem]) rfl ⟨rfl, (Below.refl _ _).alloc (Nat.le_refl _) _⟩

set_option maxHeartbeats 2000000 in
theorem specPack_yes (a b : Int) (w : World) (h : bokB a b = true) :
    Calls Tryd.prog 40 #[.int .i64 a, .int .i64 b] w fun e w' => e = .returned (.tuple #[pkV (pk a b), .bool (pk a b).2.2.2]) ∧ Below w.heap.size w w' := by
  obtain ⟨h0, h1, h2⟩ := bok_of h
  have HP : Hid (pk a b = packGo a b 7 0) := pk_ok h
  go_enter Tryd.func40, Tryd.ntmps40
  go_wp2_with (go_at_call 36; refine (specBounds_any _ _ _).mono ?_; rintro e w' ⟨rfl, rfl⟩)
  go_loopw [6] (fun e w' => ∃ k : Nat, k ≤ 7 ∧ e = .int .i64 k ∧ Hid (pk a b = packGo a b (7 - k) k) ∧ ∃ n, w' = (w.alloc (.cells #[.int .i64 0, .int .i64 0, .int .i64 0] 93)).drewN n) (fun e _ => 7 - (intOf e).toNat)
  case atStart => exact ⟨0, by omega, rfl, HP, 0, rfl⟩
  case round =>
    obtain ⟨k, hk, rfl, HK, n, rfl⟩ := hrel
    clear HP
    by_cases hlt : k < 7
    · obtain rfl | rfl | rfl | rfl | rfl | rfl | rfl : k = 0 ∨ k = 1 ∨ k = 2 ∨ k = 3 ∨ k = 4 ∨ k = 5 ∨ k = 6 := by omega
      · go_wp2
        go_quiet (fail)
        go_wp2
        · refine bodyPost_ret (v := .tuple #[.agg #[.int .i64 0, .int .i64 (a), .int .i64 (b - a)], .bool true]) (by simp [results, Tryd.results40, go_sem]) rfl ⟨?_, ?_⟩
          · rw [HK.out, packGo_hit (a := a) (b := b) 6 0 (by simp [pB]; omega) (by simp [pL]; omega)]
            simp [pkV, pB, pL]
          · repeat (first | exact Below.refl _ _ | apply below_drewN | refine Below.alloc ?_ (by simp) _ | refine Below.setCell ?_ (by simp) _)
        all_goals
          go_roundw
          case rel => exact ⟨1, by omega, by go_num, HK.out.trans (packGo_miss 6 0 (by simp [pB, pL]; omega)), _, rfl⟩
          case measure => simp [intOf]
      · go_wp2
        go_quiet (fail)
        go_wp2
        · refine bodyPost_ret (v := .tuple #[.agg #[.int .i64 1, .int .i64 (a / 2), .int .i64 ((b - a / 2 * 2 + 2 - 1) / 2)], .bool true]) (by simp [results, Tryd.results40, go_sem]) rfl ⟨?_, ?_⟩
          · rw [HK.out, packGo_hit (a := a) (b := b) 5 1 (by simp [pB]; omega) (by simp [pL]; omega)]
            simp [pkV, pB, pL]
          · repeat (first | exact Below.refl _ _ | apply below_drewN | refine Below.alloc ?_ (by simp) _ | refine Below.setCell ?_ (by simp) _)
        all_goals
          go_roundw
          case rel => exact ⟨2, by omega, by go_num, HK.out.trans (packGo_miss 5 1 (by simp [pB, pL]; omega)), _, rfl⟩
          case measure => simp [intOf]
      · go_wp2
        go_quiet (fail)
        go_wp2
        · refine bodyPost_ret (v := .tuple #[.agg #[.int .i64 2, .int .i64 (a / 4), .int .i64 ((b - a / 4 * 4 + 4 - 1) / 4)], .bool true]) (by simp [results, Tryd.results40, go_sem]) rfl ⟨?_, ?_⟩
          · rw [HK.out, packGo_hit (a := a) (b := b) 4 2 (by simp [pB]; omega) (by simp [pL]; omega)]
            simp [pkV, pB, pL]
          · repeat (first | exact Below.refl _ _ | apply below_drewN | refine Below.alloc ?_ (by simp) _ | refine Below.setCell ?_ (by simp) _)
        all_goals
          go_roundw
          case rel => exact ⟨3, by omega, by go_num, HK.out.trans (packGo_miss 4 2 (by simp [pB, pL]; omega)), _, rfl⟩
          case measure => simp [intOf]
      · go_wp2
        go_quiet (fail)
        go_wp2
        · refine bodyPost_ret (v := .tuple #[.agg #[.int .i64 3, .int .i64 (a / 8), .int .i64 ((b - a / 8 * 8 + 8 - 1) / 8)], .bool true]) (by simp [results, Tryd.results40, go_sem]) rfl ⟨?_, ?_⟩
          · rw [HK.out, packGo_hit (a := a) (b := b) 3 3 (by simp [pB]; omega) (by simp [pL]; omega)]
            simp [pkV, pB, pL]
          · repeat (first | exact Below.refl _ _ | apply below_drewN | refine Below.alloc ?_ (by simp) _ | refine Below.setCell ?_ (by simp) _)
        all_goals
          go_roundw
          case rel => exact ⟨4, by omega, by go_num, HK.out.trans (packGo_miss 3 3 (by simp [pB, pL]; omega)), _, rfl⟩
          case measure => simp [intOf]
      · go_wp2
        go_quiet (fail)
        go_wp2
        · refine bodyPost_ret (v := .tuple #[.agg #[.int .i64 4, .int .i64 (a / 16), .int .i64 ((b - a / 16 * 16 + 16 - 1) / 16)], .bool true]) (by simp [results, Tryd.results40, go_sem]) rfl ⟨?_, ?_⟩
          · rw [HK.out, packGo_hit (a := a) (b := b) 2 4 (by simp [pB]; omega) (by simp [pL]; omega)]
            simp [pkV, pB, pL]
          · repeat (first | exact Below.refl _ _ | apply below_drewN | refine Below.alloc ?_ (by simp) _ | refine Below.setCell ?_ (by simp) _)
        all_goals
          go_roundw
          case rel => exact ⟨5, by omega, by go_num, HK.out.trans (packGo_miss 2 4 (by simp [pB, pL]; omega)), _, rfl⟩
          case measure => simp [intOf]
      · go_wp2
        go_quiet (fail)
        go_wp2
        · refine bodyPost_ret (v := .tuple #[.agg #[.int .i64 5, .int .i64 (a / 32), .int .i64 ((b - a / 32 * 32 + 32 - 1) / 32)], .bool true]) (by simp [results, Tryd.results40, go_sem]) rfl ⟨?_, ?_⟩
          · rw [HK.out, packGo_hit (a := a) (b := b) 1 5 (by simp [pB]; omega) (by simp [pL]; omega)]
            simp [pkV, pB, pL]
          · repeat (first | exact Below.refl _ _ | apply below_drewN | refine Below.alloc ?_ (by simp) _ | refine Below.setCell ?_ (by simp) _)
        all_goals
          go_roundw
          case rel => exact ⟨6, by omega, by go_num, HK.out.trans (packGo_miss 1 5 (by simp [pB, pL]; omega)), _, rfl⟩
          case measure => simp [intOf]
      · go_wp2
        go_quiet (fail)
        go_wp2
        · refine bodyPost_ret (v := .tuple #[.agg #[.int .i64 6, .int .i64 (a / 64), .int .i64 ((b - a / 64 * 64 + 64 - 1) / 64)], .bool true]) (by simp [results, Tryd.results40, go_sem]) rfl ⟨?_, ?_⟩
          · rw [HK.out, packGo_hit (a := a) (b := b) 0 6 (by simp [pB]; omega) (by simp [pL]; omega)]
            simp [pkV, pB, pL]
          · repeat (first | exact Below.refl _ _ | apply below_drewN | refine Below.alloc ?_ (by simp) _ | refine Below.setCell ?_ (by simp) _)
        all_goals
          go_roundw
          case rel => exact ⟨7, by omega, by go_num, HK.out.trans (packGo_miss 0 6 (by simp [pB, pL]; omega)), _, rfl⟩
          case measure => simp [intOf]
    · obtain rfl : k = 7 := by omega
      go_wp2
      refine bodyPost_ret (v := .tuple #[.agg #[.int .i64 0, .int .i64 0, .int .i64 0], .bool false]) (by simp [results, Tryd.results40, go_sem]) rfl ⟨?_, ?_⟩
      · rw [HK.out]; rfl
      · repeat (first | exact Below.refl _ _ | apply below_drewN | refine Below.alloc ?_ (by simp) _ | refine Below.setCell ?_ (by simp) _)

theorem specPack_any (a b : Int) (w : World) :
    Calls Tryd.prog 40 #[.int .i64 a, .int .i64 b] w fun e w' => e = .returned (.tuple #[pkV (pk a b), .bool (pk a b).2.2.2]) ∧ Below w.heap.size w w' := by
  cases h : bokB a b
  · exact specPack_no a b w h
  · exact specPack_yes a b w h
end Go.Proofs.YtpkhnajhamnggaaDoor
