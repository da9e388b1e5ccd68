/- markInsS and heldInsS of the laws at a list in new memory: what is marked is held. No condition. -/
import Derived.Test.YtdcghcbliajcpaaDoorTxtH
namespace Go.Proofs.YtdcghcbliajcpaaDoor
open Go.ChangeShapes Go.WideShapes Go.ChangeAt Go.RowKit
set_option maxRecDepth 100000

/-- The place that is marked from m on. -/
def markI (m : Int) : In := ⟨m, m + 1, m + 1 + 1, m + 1 + 1 + 1, m + 1 + 1 + 1 + 1⟩
/-- The marks of a list. -/
def marks (len : Nat) : List In := (List.range len).map fun j : Nat => markI (1 + 5 * (j : Int))
theorem marks_at {len k : Nat} (h : k < len) : (marks len)[k]? = some (markI (1 + 5 * (k : Int))) := by simp [marks, h]
theorem marks_len (len : Nat) : (marks len).length = len := by simp [marks]

set_option maxHeartbeats 4000000 in
theorem mark_any (q len cap : Nat) (L : List In) (w : World) (hl : len ≤ 1048576) (h : OutI w q len 0 L) :
    Calls Tryd.prog 29 #[.slice (some ⟨q, 0, none⟩) len cap, .int .i64 1] w fun e w' => e = .returned (.int .i64 (1 + 5 * (len : Int))) ∧ OutI w' q len len (marks len) ∧ KeepBut q w w' := by
  have O0 : Hid (OutI w q len 0 (marks len)) := ⟨h.lt, h.has, h.fr, fun j _ hj => absurd hj (Nat.not_lt_zero _)⟩
  clear h
  go_enter Tryd.func29, Tryd.ntmps29
  go_wp2
  go_loopw [1, 5] (fun kk c wr => ∃ k : Nat, k ≤ len ∧ kk = .int .i64 (1 + 5 * (k : Int)) ∧ c = .int .i64 (k : Int) ∧ Hid (OutI wr q len k (marks len)) ∧ Hid (KeepBut q w wr)) (fun _ c _ => len - (intOf c).toNat)
  case atStart => exact ⟨0, Nat.zero_le _, rfl, rfl, O0.out, KeepBut.refl _ _⟩
  case round =>
    clear O0
    obtain ⟨k, hk, rfl, rfl, O, K⟩ := hrel
    by_cases hlt : k < len
    · obtain ⟨m, hm⟩ : ∃ m : Int, m = 1 + 5 * (k : Int) := ⟨_, rfl⟩
      have MX := hid_mk (marks_at hlt)
      rw [← hm] at MX ⊢
      have hm0 : 0 ≤ m := by omega
      have hm1 : m ≤ 5242881 := by omega
      have HM := hid_mk hm
      clear hm
      obtain ⟨v0, e0⟩ := Option.isSome_iff_exists.1 (O.out.has (k * 5) (by omega))
      obtain ⟨v1, e1⟩ := Option.isSome_iff_exists.1 (O.out.has (k * 5 + 1) (by omega))
      obtain ⟨v2, e2⟩ := Option.isSome_iff_exists.1 (O.out.has (k * 5 + 2) (by omega))
      obtain ⟨v3, e3⟩ := Option.isSome_iff_exists.1 (O.out.has (k * 5 + 3) (by omega))
      obtain ⟨v4, e4⟩ := Option.isSome_iff_exists.1 (O.out.has (k * 5 + 4) (by omega))
      have f0 := O.out.fr (k * 5) (by omega)
      have f1 := O.out.fr (k * 5 + 1) (by omega)
      have f2 := O.out.fr (k * 5 + 2) (by omega)
      have f3 := O.out.fr (k * 5 + 3) (by omega)
      have f4 := O.out.fr (k * 5 + 4) (by omega)
      have O2 := hid_mk (O.out.set hlt MX.out)
      have K2 : Hid (KeepBut q w (wr.setCells q (k * 5) (markI m).vs)) := K.out.trans ((((((KeepBut.refl q wr).setCell (k * 5) _).setCell (k * 5 + 1) _).setCell (k * 5 + 2) _).setCell (k * 5 + 3) _).setCell (k * 5 + 4) _)
      go_wp2
      go_roundw
      case rel => exact ⟨k + 1, hlt, by have := HM.out; go_num, by go_num, O2.out, K2.out⟩
      case measure => simp [intOf]; omega
    · obtain rfl : k = len := by omega
      go_wp2
      go_ret
      exact ⟨rfl, O.out, K.out⟩

theorem OutI.first {w : World} {q len k : Nat} {L : List In} (h : OutI w q len k L) : OutI w q len 0 L := ⟨h.lt, h.has, h.fr, fun _ _ hj => absurd hj (Nat.not_lt_zero _)⟩
set_option maxHeartbeats 1000000 in
theorem mark_nil (w : World) : Calls Tryd.prog 29 #[.slice none 0 0, .int .i64 1] w fun e w' => e = .returned (.int .i64 1) ∧ w' = w := by
  go_enter Tryd.func29, Tryd.ntmps29
  go_wp2
  go_loopw [1, 5] (fun kk c wr => kk = .int .i64 1 ∧ c = .int .i64 0 ∧ wr = w) (fun _ _ _ => 0)
  case atStart => exact ⟨rfl, rfl, rfl⟩
  case round =>
    obtain ⟨rfl, rfl, rfl⟩ := hrel
    go_wp2
    go_ret
    exact ⟨rfl, rfl⟩

set_option maxHeartbeats 4000000 in
theorem held_any (a : Option Addr) (len cap : Nat) (w : World) (hl : len ≤ 1048576) (hS : SliceI w.heap.size w a len (marks len)) :
    Calls Tryd.prog 30 #[.slice a len cap, .int .i64 1] w fun e w' => e = .returned (.int .i64 (1 + 5 * (len : Int))) ∧ w' = w := by
  have S := hid_mk hS
  clear hS
  go_enter Tryd.func30, Tryd.ntmps30
  go_wp2
  go_loopw [1, 5] (fun kk c wr => ∃ k : Nat, k ≤ len ∧ kk = .int .i64 (1 + 5 * (k : Int)) ∧ c = .int .i64 (k : Int) ∧ wr = w) (fun _ c _ => len - (intOf c).toNat)
  case atStart => exact ⟨0, Nat.zero_le _, rfl, rfl, rfl⟩
  case round =>
    obtain ⟨k, hk, rfl, rfl, rfl⟩ := hrel
    by_cases hlt : k < len
    · obtain ⟨kb, o, x, rfl, hkb, hx, hat⟩ := S.out.at hlt
      rw [marks_at hlt] at hx
      obtain rfl := Option.some.inj hx
      obtain ⟨d0, d1, d2, d3, d4⟩ := hat
      obtain ⟨m, hm⟩ : ∃ m : Int, m = 1 + 5 * (k : Int) := ⟨_, rfl⟩
      rw [← hm] at d0 d1 d2 d3 d4 ⊢
      simp only [markI] at d0 d1 d2 d3 d4
      have hm0 : 0 ≤ m := by omega
      have hm1 : m ≤ 5242881 := by omega
      have HM := hid_mk hm
      clear hm hx
      go_wp2
      go_roundw
      case rel => exact ⟨k + 1, hlt, by have := HM.out; go_num, by go_num, trivial⟩
      case measure => simp [intOf]; omega
    · obtain rfl : k = len := by omega
      go_wp2
      go_ret
      exact ⟨rfl, rfl⟩
end Go.Proofs.YtdcghcbliajcpaaDoor
