/- impl's packedAt and Pack, at every two numbers: Pack answers as the search for the least E says. No condition. -/
import Derived.Test.YtpkhnajhamnggaaDoorSPack
import Derived.Test.YtpkhnajhamnggaaDoorPok
namespace Go.Proofs.YtpkhnajhamnggaaDoor
open Go.ChangeShapes Go.WideShapes Go.ChangeAt Go.RowKit

theorem pok_fit {a b : Int} (k : Nat) (h : bokB a b = true) (hk : k ≤ 6) (h1 : pB a k ≤ 63) (h2 : pL a b k ≤ 63) : pokB k (pB a k) (pL a b k) = true := by
  obtain ⟨g0, g1, g2⟩ := bok_of h
  clear h
  simp only [pokB, decide_eq_true_eq]
  obtain rfl | rfl | rfl | rfl | rfl | rfl | rfl : k = 0 ∨ k = 1 ∨ k = 2 ∨ k = 3 ∨ k = 4 ∨ k = 5 ∨ k = 6 := by omega
  all_goals
    simp [pB, pL] at h1 h2 ⊢
    omega
theorem pok_unfit {a b : Int} (k : Nat) (h : ¬ (pB a k ≤ 63 ∧ pL a b k ≤ 63)) : pokB k (pB a k) (pL a b k) = false := by
  simp only [pokB, decide_eq_false_iff_not]; intro g; exact h ⟨g.2.2.2.1, g.2.2.2.2.2⟩

set_option maxHeartbeats 1000000 in
theorem packedAt_k (a b : Int) (k : Nat) (w : World) (h : bokB a b = true) (hk : k ≤ 6) :
    Calls Tryd.prog 49 #[.int .i64 a, .int .i64 b, .int .i64 k] w fun e w' => e = .returned (.agg #[.int .i64 k, .int .i64 (pB a k), .int .i64 (pL a b k)]) ∧ Below w.heap.size w w' := by
  obtain ⟨h0, h1, h2⟩ := bok_of h
  clear h
  obtain rfl | rfl | rfl | rfl | rfl | rfl | rfl : k = 0 ∨ k = 1 ∨ k = 2 ∨ k = 3 ∨ k = 4 ∨ k = 5 ∨ k = 6 := by omega
  · go_enter Tryd.func49, Tryd.ntmps49
    go_wp2
    exact bodyPost_ret (v := .agg #[.int .i64 0, .int .i64 (a), .int .i64 (b - a)]) (by simp [results, Tryd.results49, go_sem]) rfl ⟨by simp [pB, pL], (Below.refl _ _).alloc (Nat.le_refl _) _⟩
  · go_enter Tryd.func49, Tryd.ntmps49
    go_wp2
    exact bodyPost_ret (v := .agg #[.int .i64 1, .int .i64 (a / 2), .int .i64 ((b - a / 2 * 2 + 2 - 1) / 2)]) (by simp [results, Tryd.results49, go_sem]) rfl ⟨by simp [pB, pL], (Below.refl _ _).alloc (Nat.le_refl _) _⟩
  · go_enter Tryd.func49, Tryd.ntmps49
    go_wp2
    exact bodyPost_ret (v := .agg #[.int .i64 2, .int .i64 (a / 4), .int .i64 ((b - a / 4 * 4 + 4 - 1) / 4)]) (by simp [results, Tryd.results49, go_sem]) rfl ⟨by simp [pB, pL], (Below.refl _ _).alloc (Nat.le_refl _) _⟩
  · go_enter Tryd.func49, Tryd.ntmps49
    go_wp2
    exact bodyPost_ret (v := .agg #[.int .i64 3, .int .i64 (a / 8), .int .i64 ((b - a / 8 * 8 + 8 - 1) / 8)]) (by simp [results, Tryd.results49, go_sem]) rfl ⟨by simp [pB, pL], (Below.refl _ _).alloc (Nat.le_refl _) _⟩
  · go_enter Tryd.func49, Tryd.ntmps49
    go_wp2
    exact bodyPost_ret (v := .agg #[.int .i64 4, .int .i64 (a / 16), .int .i64 ((b - a / 16 * 16 + 16 - 1) / 16)]) (by simp [results, Tryd.results49, go_sem]) rfl ⟨by simp [pB, pL], (Below.refl _ _).alloc (Nat.le_refl _) _⟩
  · go_enter Tryd.func49, Tryd.ntmps49
    go_wp2
    exact bodyPost_ret (v := .agg #[.int .i64 5, .int .i64 (a / 32), .int .i64 ((b - a / 32 * 32 + 32 - 1) / 32)]) (by simp [results, Tryd.results49, go_sem]) rfl ⟨by simp [pB, pL], (Below.refl _ _).alloc (Nat.le_refl _) _⟩
  · go_enter Tryd.func49, Tryd.ntmps49
    go_wp2
    exact bodyPost_ret (v := .agg #[.int .i64 6, .int .i64 (a / 64), .int .i64 ((b - a / 64 * 64 + 64 - 1) / 64)]) (by simp [results, Tryd.results49, go_sem]) rfl ⟨by simp [pB, pL], (Below.refl _ _).alloc (Nat.le_refl _) _⟩

set_option maxHeartbeats 1000000 in
theorem implPack_no (a b : Int) (w : World) (h : bokB a b = false) :
    Calls Tryd.prog 47 #[.int .i64 a, .int .i64 b] w fun e w' => e = .returned (.tuple #[pkV (pk a b), .bool (pk a b).2.2.2]) ∧ Below w.heap.size w w' := by
  rw [pk_no h]
  go_enter Tryd.func47, Tryd.ntmps47
  go_wp2_with (go_at_call 46; refine (implBounds_any _ _ _).mono ?_; rintro e w' ⟨rfl, rfl⟩)
  exact bodyPost_ret (v := .tuple #[.agg #[.int .i64 0, .int .i64 0, .int .i64 0], .bool false]) (by simp [results, Tryd.results47, go_sem]) rfl ⟨rfl, (Below.refl _ _).alloc (Nat.le_refl _) _⟩

set_option maxRecDepth 100000 in
set_option maxHeartbeats 2000000 in
theorem implPack_yes (a b : Int) (w : World) (h : bokB a b = true) :
    Calls Tryd.prog 47 #[.int .i64 a, .int .i64 b] w fun e w' => e = .returned (.tuple #[pkV (pk a b), .bool (pk a b).2.2.2]) ∧ Below w.heap.size w w' := by
  have HP : Hid (pk a b = packGo a b 7 0) := pk_ok h
  go_enter Tryd.func47, Tryd.ntmps47
  go_wp2_with (go_at_call 46; refine (implBounds_any _ _ _).mono ?_; rintro e w' ⟨rfl, rfl⟩)
  go_loopw [6] (fun e w' => ∃ k : Nat, k ≤ 7 ∧ e = .int .i64 k ∧ Hid (pk a b = packGo a b (7 - k) k) ∧ Below w.heap.size w w' ∧ w.heap.size < w'.heap.size ∧
    w'.cell? ⟨w.heap.size, 0, none⟩ = some (.int .i64 0) ∧ w'.cell? ⟨w.heap.size, 1, none⟩ = some (.int .i64 0) ∧ w'.cell? ⟨w.heap.size, 2, none⟩ = some (.int .i64 0) ∧
    w'.frozen? ⟨w.heap.size, 0, none⟩ = false ∧ w'.frozen? ⟨w.heap.size, 1, none⟩ = false ∧ w'.frozen? ⟨w.heap.size, 2, none⟩ = false) (fun e _ => 7 - (intOf e).toNat)
  case atStart => exact ⟨0, by omega, rfl, HP, (Below.refl _ _).alloc (Nat.le_refl _) _, by simp, by simp, by simp, by simp, by simp, by simp, by simp⟩
  case round =>
    obtain ⟨k, hk, rfl, HK, hB, hsz, c0, c1, c2, f0, f1, f2⟩ := hrel
    clear HP
    by_cases hlt : k < 7
    · by_cases hfit : pB a k ≤ 63 ∧ pL a b k ≤ 63
      all_goals
        first
          | (have hpok : pokB k (pB a k) (pL a b k) = true := pok_fit k h (by omega) hfit.1 hfit.2)
          | (have hpok : pokB k (pB a k) (pL a b k) = false := pok_unfit k hfit)
        have HF : Hid _ := hfit
        clear hfit
        go_wp2_with fail
        refine (packedAt_k a b k _ h (by omega)).mono ?_
        rintro e w1 ⟨rfl, hb1⟩
        have hz1 := hb1.size
        go_wp2_with fail
        refine (packedOk_any _ _ _ _).mono ?_
        rintro e w2 ⟨rfl, hb2⟩
        rw [hpok]
        have hbB : Below wr.heap.size wr w2 := (hb1.alloc hz1 _).trans (hb2.mono (by simp; omega))
        have hB2 : Below w.heap.size w w2 := hB.trans (hbB.mono (by omega))
        have hz2 : w.heap.size < w2.heap.size := by have := hbB.size; omega
        have d0 := (hbB.cell (p := ⟨w.heap.size, 0, none⟩) hsz).trans c0
        have d1 := (hbB.cell (p := ⟨w.heap.size, 1, none⟩) hsz).trans c1
        have d2 := (hbB.cell (p := ⟨w.heap.size, 2, none⟩) hsz).trans c2
        have g0 := (hbB.frozen (p := ⟨w.heap.size, 0, none⟩) hsz).trans f0
        have g1 := (hbB.frozen (p := ⟨w.heap.size, 1, none⟩) hsz).trans f1
        have g2 := (hbB.frozen (p := ⟨w.heap.size, 2, none⟩) hsz).trans f2
        have p0 : w2.cell? ⟨w1.heap.size, 0, none⟩ = some (.int .i64 k) := (hb2.cell (p := ⟨w1.heap.size, 0, none⟩) (by simp)).trans (by simp)
        have p1 : w2.cell? ⟨w1.heap.size, 1, none⟩ = some (.int .i64 (pB a k)) := (hb2.cell (p := ⟨w1.heap.size, 1, none⟩) (by simp)).trans (by simp)
        have p2 : w2.cell? ⟨w1.heap.size, 2, none⟩ = some (.int .i64 (pL a b k)) := (hb2.cell (p := ⟨w1.heap.size, 2, none⟩) (by simp)).trans (by simp)
        clear c0 c1 c2 f0 f1 f2 hbB hb1 hb2 hB hz1 hpok
        go_wp2
      · refine bodyPost_ret (v := .tuple #[.agg #[.int .i64 k, .int .i64 (pB a k), .int .i64 (pL a b k)], .bool true]) (by simp [results, Tryd.results47, go_sem, d0, d1, d2]) rfl ⟨?_, ?_⟩
        · have e7 : 7 - k = (6 - k) + 1 := by omega
          rw [HK.out, e7, packGo_hit (a := a) (b := b) (6 - k) k HF.out.1 HF.out.2]; rfl
        · exact ((hB2.setCell (by simp) _).setCell (by simp) _).setCell (by simp) _
      · go_roundw
        case rel =>
          refine ⟨k + 1, by omega, by go_num, ?_, hB2, hz2, d0, d1, d2, g0, g1, g2⟩
          have e7 : 7 - k = (7 - (k + 1)) + 1 := by omega
          have := HK.out
          rw [e7, packGo_miss (a := a) (b := b) _ _ HF.out] at this
          exact this
        case measure => simp [intOf]; omega
    · obtain rfl : k = 7 := by omega
      go_wp2
      refine bodyPost_ret (v := .tuple #[.agg #[.int .i64 0, .int .i64 0, .int .i64 0], .bool false]) (by simp [results, Tryd.results47, go_sem, c0, c1, c2]) rfl ⟨?_, ?_⟩
      · rw [HK.out]; rfl
      · repeat (first | exact hB | refine Below.setCell ?_ (by simp) _)

theorem implPack_any (a b : Int) (w : World) :
    Calls Tryd.prog 47 #[.int .i64 a, .int .i64 b] w fun e w' => e = .returned (.tuple #[pkV (pk a b), .bool (pk a b).2.2.2]) ∧ Below w.heap.size w w' := by
  cases h : bokB a b
  · exact implPack_no a b w h
  · exact implPack_yes a b w h
end Go.Proofs.YtpkhnajhamnggaaDoor
