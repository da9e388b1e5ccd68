/- markWordS and heldWordS of the laws at lists of up to 2^21 words. No condition but that. -/
import Derived.Test.YtfeoaegkhbjaeaaMarkA
namespace Go.Proofs.Ytfeoaegkhbjaeaa
open Go.ChangeShapes Go.WideShapes Go.ChangeAt Go.RowKit
set_option maxRecDepth 100000

set_option maxHeartbeats 4000000 in
theorem markX_any (q o len cap : Nat) (k0 : Int) (h0 : 1 ≤ k0) (h1 : k0 ≤ 16777216) (w : World) (hl : len ≤ 2097154) (h : RowW w q o len 0 (marksW k0 len)) :
    Calls Try.prog 38 #[.slice (some ⟨q, o, none⟩) len cap, .int .i64 k0] w fun e w' => e = .returned (.int .i64 (k0 + 6 * (len : Int))) ∧ RowW w' q o len len (marksW k0 len) ∧ KeepBut q w w' := by
  have O0 := hid_mk h
  clear h
  go_enter Try.func38, Try.ntmps38
  go_wp2
  go_loopw [1, 5] (fun kk c wr => ∃ k : Nat, k ≤ len ∧ kk = .int .i64 (k0 + 6 * (k : Int)) ∧ c = .int .i64 (k : Int) ∧ Hid (RowW wr q o len k (marksW k0 len)) ∧ Hid (KeepBut q w wr)) (fun _ c _ => len - (intOf c).toNat)
  case atStart => exact ⟨0, Nat.zero_le _, by simp, rfl, O0.out, KeepBut.refl _ _⟩
  case round =>
    clear O0
    obtain ⟨k, hk, rfl, rfl, O, K⟩ := hrel
    by_cases hlt : k < len
    · obtain ⟨m, hm⟩ : ∃ m : Int, m = k0 + 6 * (k : Int) := ⟨_, rfl⟩
      have MX := hid_mk (marksW_at (k0 := k0) hlt)
      rw [← hm] at MX ⊢
      have hm0 : 0 ≤ m := by omega
      have hm1 : m ≤ 33554432 := by omega
      have HM := hid_mk hm
      clear hm
      obtain ⟨v0, e0⟩ := Option.isSome_iff_exists.1 (O.out.has (k * 6) (by omega))
      obtain ⟨v1, e1⟩ := Option.isSome_iff_exists.1 (O.out.has (k * 6 + 1) (by omega))
      obtain ⟨v2, e2⟩ := Option.isSome_iff_exists.1 (O.out.has (k * 6 + 2) (by omega))
      obtain ⟨v3, e3⟩ := Option.isSome_iff_exists.1 (O.out.has (k * 6 + 3) (by omega))
      obtain ⟨v4, e4⟩ := Option.isSome_iff_exists.1 (O.out.has (k * 6 + 4) (by omega))
      obtain ⟨v5, e5⟩ := Option.isSome_iff_exists.1 (O.out.has (k * 6 + 5) (by omega))
      have f0 := O.out.fr (k * 6) (by omega)
      have f1 := O.out.fr (k * 6 + 1) (by omega)
      have f2 := O.out.fr (k * 6 + 2) (by omega)
      have f3 := O.out.fr (k * 6 + 3) (by omega)
      have f4 := O.out.fr (k * 6 + 4) (by omega)
      have f5 := O.out.fr (k * 6 + 5) (by omega)
      simp only [← Nat.add_assoc] at e1 e2 e3 e4 e5 f1 f2 f3 f4 f5
      have O2 := hid_mk (O.out.set hlt MX.out)
      have K2 : Hid (KeepBut q w (wr.setCells q (o + k * 6) (markWd m).vs)) := K.out.trans (((((((KeepBut.refl q wr).setCell (o + k * 6) _).setCell (o + k * 6 + 1) _).setCell (o + k * 6 + 2) _).setCell (o + k * 6 + 3) _).setCell (o + k * 6 + 4) _).setCell (o + k * 6 + 5) _)
      go_wp2
      go_roundw
      case rel => exact ⟨k + 1, hlt, by have := HM.out; go_num, by go_num, O2.out, K2.out⟩
      case measure => simp [intOf]; omega
    · obtain rfl : k = len := by omega
      go_wp2
      go_ret
      exact ⟨rfl, O.out, K.out⟩

set_option maxHeartbeats 4000000 in
theorem heldX_any (a : Option Addr) (len cap : Nat) (k0 : Int) (h0 : 1 ≤ k0) (h1 : k0 ≤ 16777216) (w : World) (hl : len ≤ 2097154) (hS : SliceW w.heap.size w a len (marksW k0 len)) :
    Calls Try.prog 40 #[.slice a len cap, .int .i64 k0] w fun e w' => e = .returned (.int .i64 (k0 + 6 * (len : Int))) ∧ Below w.heap.size w w' := by
  have S := hid_mk hS
  clear hS
  go_enter Try.func40, Try.ntmps40
  go_wp2
  go_loopw [1, 5] (fun kk c wr => ∃ k : Nat, k ≤ len ∧ kk = .int .i64 (k0 + 6 * (k : Int)) ∧ c = .int .i64 (k : Int) ∧ Hid (Below w.heap.size w wr)) (fun _ c _ => len - (intOf c).toNat)
  case atStart => exact ⟨0, Nat.zero_le _, by simp, rfl, Below.refl _ _⟩
  case round =>
    obtain ⟨k, hk, rfl, rfl, B⟩ := hrel
    by_cases hlt : k < len
    · obtain ⟨kb, o, x, rfl, hkb, hx, hat⟩ := (S.out.keep B.out).at hlt
      rw [marksW_at hlt] at hx
      obtain rfl := Option.some.inj hx
      obtain ⟨d0, d1, d2, d3, d4, d5⟩ := hat
      obtain ⟨m, hm⟩ : ∃ m : Int, m = k0 + 6 * (k : Int) := ⟨_, rfl⟩
      rw [← hm] at d0 d1 d2 d3 d4 d5 ⊢
      simp only [markWd] at d0 d1 d2 d3 d4 d5
      have hm0 : 0 ≤ m := by omega
      have hm1 : m ≤ 33554432 := by omega
      have HM := hid_mk hm
      clear hm hx
      go_wp2
      go_roundw
      case rel => exact ⟨k + 1, hlt, by have := HM.out; go_num, by go_num, B.out⟩
      case measure => simp [intOf]; omega
    · obtain rfl : k = len := by omega
      go_wp2
      go_ret
      exact ⟨rfl, B.out⟩
theorem markX_ans (a : Option Addr) (n c : Nat) (L : List Wd) (k0 : Int) (h0 : 1 ≤ k0) (h1 : k0 ≤ 16777216) (w : World) (hn : n ≤ 2097154) (h : RowWA w a n L) :
    Calls Try.prog 38 #[.slice a n c, .int .i64 k0] w fun e w' => e = .returned (.int .i64 (k0 + 6 * (n : Int))) ∧ RowWA w' a n (marksW k0 n) ∧ KeptS (On a) w w' := by
  rcases h with ⟨rfl, rfl, rfl⟩ | ⟨q, rfl, hl, hO⟩
  · refine (markW_nil c k0 w).mono ?_
    rintro e w' ⟨rfl, rfl⟩
    exact ⟨by simp, .inl ⟨rfl, rfl, rfl⟩, KeptS.ofBelow (Below.refl _ _)⟩
  · refine (markX_any q 0 n c k0 h0 h1 w hn (hO.row.first _)).mono ?_
    rintro e w' ⟨rfl, hW, hK⟩
    exact ⟨rfl, .inr ⟨q, rfl, marksW_len _ _, hW.out⟩, KeptS.ofBut hK ((on_some q q).2 rfl)⟩
theorem RowWA.nil0 {w : World} {a : Option Addr} {n : Nat} {L : List Wd} (h : RowWA w a n L) (ha : a = none) : n = 0 := by
  rcases h with ⟨_, h0, _⟩ | ⟨q, hq, _, _⟩
  · exact h0
  · rw [ha] at hq
    cases hq
end Go.Proofs.Ytfeoaegkhbjaeaa
