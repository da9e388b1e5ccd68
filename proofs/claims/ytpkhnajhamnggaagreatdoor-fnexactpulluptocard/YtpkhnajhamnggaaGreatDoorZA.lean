/- Plain facts on numbers for chapter 1's bounds: masks by bits, and the search for the least E. No condition. · The model's Pack and BoundsOk (package spec), and impl's BoundsOk, at every two numbers. No condition. · The contracts of lowBits and of the closure that it makes. · packedOk: at every Packed it tells whether E is in 0 .. 6, B and L in 0 .. 63. No condition. · impl's packedAt and Pack, at every two numbers: Pack answers as the search for the least E says. No condition. · Unpack of the specification and of the program, at every Packed. No condition. · Wide and Exact of the specification and of the program, at every two numbers: both answer the same. No condition. · A drawn region by hand: an operation that is wanted is taken first with what it yields; one that its guard leaves out is taken first as nothing. -/
import Derived.WalkKit
import Derived.Laws.Bits128
import Derived.Test.YtpkhnajhamnggaaGreatDoorRows
import Derived.ProofKit
import Derived.OpenShut
import Derived.WalkSpells
import Derived.WalkLawsBesides
import Derived.Deep.QuietTactic
import Derived.BigQuiet
import Derived.Deep.RegionHeld3
import Derived.Deep.DeepCutAuto
namespace Go.Proofs.YtpkhnajhamnggaaGreatDoor
open Go.RowKit

theorem i64_and7 (n : Int) : bits .and .i64 n 7 = n % 8 := by
  have h7 : (BitVec.ofInt 64 7).toNat = 2 ^ 3 - 1 := by decide
  have key : (BitVec.ofInt 64 n &&& BitVec.ofInt 64 7).toNat = (n % ((2 ^ 64 : Nat) : Int)).toNat % 2 ^ 3 := by
    rw [BitVec.toNat_and, BitVec.toNat_ofInt, h7, Nat.and_two_pow_sub_one_eq_mod]
  show IntKind.i64.wrap ((BitVec.ofInt 64 n &&& BitVec.ofInt 64 7).toNat : Nat) = n % 8
  rw [key, IntKind.wrap_i64]
  omega

theorem i64_and63 (n : Int) : bits .and .i64 n 63 = n % 64 := by
  have h7 : (BitVec.ofInt 64 63).toNat = 2 ^ 6 - 1 := by decide
  have key : (BitVec.ofInt 64 n &&& BitVec.ofInt 64 63).toNat = (n % ((2 ^ 64 : Nat) : Int)).toNat % 2 ^ 6 := by
    rw [BitVec.toNat_and, BitVec.toNat_ofInt, h7, Nat.and_two_pow_sub_one_eq_mod]
  show IntKind.i64.wrap ((BitVec.ofInt 64 n &&& BitVec.ofInt 64 63).toNat : Nat) = n % 64
  rw [key, IntKind.wrap_i64]
  omega

/-- Is it a Packed? -/
def pokB (E B L : Int) : Bool := decide (0 ≤ E ∧ E ≤ 6 ∧ 0 ≤ B ∧ B ≤ 63 ∧ 0 ≤ L ∧ L ≤ 63)

/-- Are they bounds? -/
def bokB (a b : Int) : Bool := decide (0 ≤ a ∧ a ≤ b ∧ b ≤ 4096)

def pB (a : Int) (k : Nat) : Int := a / 2 ^ k
def pL (a b : Int) (k : Nat) : Int := (b - a / 2 ^ k * 2 ^ k + 2 ^ k - 1) / 2 ^ k

/-- The search from k on, over f numbers. -/
def packGo (a b : Int) : Nat → Nat → Int × Int × Int × Bool
  | 0, _ => (0, 0, 0, false)
  | f + 1, k => if pB a k ≤ 63 ∧ pL a b k ≤ 63 then ((k : Int), pB a k, pL a b k, true) else packGo a b f (k + 1)

/-- What Pack answers of any two numbers. -/
def pk (a b : Int) : Int × Int × Int × Bool := if bokB a b then packGo a b 7 0 else (0, 0, 0, false)

theorem pk_ok {a b : Int} (h : bokB a b = true) : pk a b = packGo a b 7 0 := by simp [pk, h]
theorem pk_no {a b : Int} (h : bokB a b = false) : pk a b = (0, 0, 0, false) := by simp [pk, h]

theorem packGo_hit {a b : Int} (f k : Nat) (h1 : pB a k ≤ 63) (h2 : pL a b k ≤ 63) : packGo a b (f + 1) k = ((k : Int), pB a k, pL a b k, true) := by
  simp [packGo, h1, h2]
theorem packGo_miss {a b : Int} (f k : Nat) (h : ¬ (pB a k ≤ 63 ∧ pL a b k ≤ 63)) : packGo a b (f + 1) k = packGo a b f (k + 1) := by
  simp only [packGo, if_neg h]

theorem pB_nn {a : Int} (k : Nat) (h : 0 ≤ a) : 0 ≤ pB a k := Int.ediv_nonneg h (Int.pow_nonneg (by omega))

/-- A struct's value. -/
def pkV (p : Int × Int × Int × Bool) : Value := .agg #[.int .i64 p.1, .int .i64 p.2.1, .int .i64 p.2.2.1]

end Go.Proofs.YtpkhnajhamnggaaGreatDoor

namespace Go.Proofs.YtpkhnajhamnggaaGreatDoor
open Go.ChangeShapes Go.WideShapes Go.ChangeAt Go.RowKit

theorem bok_mk {a b : Int} (h0 : 0 ≤ a) (h1 : a ≤ b) (h2 : b ≤ 4096) : bokB a b = true := by simp [bokB]; omega
theorem bok_not {a b : Int} (h : ¬ (0 ≤ a ∧ a ≤ b ∧ b ≤ 4096)) : bokB a b = false := by simp only [bokB, decide_eq_false_iff_not]; exact h
theorem bok_of {a b : Int} (h : bokB a b = true) : 0 ≤ a ∧ a ≤ b ∧ b ≤ 4096 := by simpa [bokB] using h
theorem bok_nof {a b : Int} (h : bokB a b = false) : ¬ (0 ≤ a ∧ a ≤ b ∧ b ≤ 4096) := by simpa only [bokB, decide_eq_false_iff_not] using h

theorem specBounds_any (a b : Int) (w : World) :
    Calls Tryz.prog 145 #[.int .i64 a, .int .i64 b] w fun e w' => e = .returned (.bool (bokB a b)) ∧ w' = w := by
  by_cases h0 : 0 ≤ a <;> by_cases h1 : a ≤ b <;> by_cases h2 : b ≤ 4096 <;> by_cases h3 : a ≤ 4096 <;> by_cases h4 : 0 ≤ b <;> try omega
  all_goals
    first | rw [bok_mk h0 h1 h2] | rw [bok_not (by omega)]
    go_enter Tryz.func145, Tryz.ntmps145
    go_wp2
    go_ret
    exact ⟨rfl, rfl⟩

theorem implBounds_any (a b : Int) (w : World) :
    Calls Tryz.prog 179 #[.int .i64 a, .int .i64 b] w fun e w' => e = .returned (.bool (bokB a b)) ∧ w' = w := by
  by_cases h0 : 0 ≤ a <;> by_cases h1 : a ≤ b <;> by_cases h2 : b ≤ 4096
  all_goals
    first | rw [bok_mk h0 h1 h2] | rw [bok_not (by omega)]
    go_enter Tryz.func179, Tryz.ntmps179
    go_wp2
    go_ret
    exact ⟨rfl, rfl⟩

set_option maxHeartbeats 1000000 in
theorem specPack_no (a b : Int) (w : World) (h : bokB a b = false) :
    Calls Tryz.prog 176 #[.int .i64 a, .int .i64 b] w fun e w' => e = .returned (.tuple #[pkV (pk a b), .bool (pk a b).2.2.2]) ∧ Below w.heap.size w w' := by
  rw [pk_no h]
  go_enter Tryz.func176, Tryz.ntmps176
  go_wp2_with (go_at_call 145; refine (specBounds_any _ _ _).mono ?_; rintro e w' ⟨rfl, rfl⟩)
  exact bodyPost_ret (v := .tuple #[.agg #[.int .i64 0, .int .i64 0, .int .i64 0], .bool false]) (by simp [results, Tryz.results176, go_sem]) rfl ⟨rfl, (Below.refl _ _).alloc (Nat.le_refl _) _⟩

set_option maxHeartbeats 2000000 in
theorem specPack_yes (a b : Int) (w : World) (h : bokB a b = true) :
    Calls Tryz.prog 176 #[.int .i64 a, .int .i64 b] w fun e w' => e = .returned (.tuple #[pkV (pk a b), .bool (pk a b).2.2.2]) ∧ Below w.heap.size w w' := by
  obtain ⟨h0, h1, h2⟩ := bok_of h
  have HP : Hid (pk a b = packGo a b 7 0) := pk_ok h
  go_enter Tryz.func176, Tryz.ntmps176
  go_wp2_with (go_at_call 145; refine (specBounds_any _ _ _).mono ?_; rintro e w' ⟨rfl, rfl⟩)
  go_loopw [6] (fun e w' => ∃ k : Nat, k ≤ 7 ∧ e = .int .i64 k ∧ Hid (pk a b = packGo a b (7 - k) k) ∧ ∃ n, w' = (w.alloc (.cells #[.int .i64 0, .int .i64 0, .int .i64 0] 208)).drewN n) (fun e _ => 7 - (intOf e).toNat)
  case atStart => exact ⟨0, by omega, rfl, HP, 0, rfl⟩
  case round =>
    obtain ⟨k, hk, rfl, HK, n, rfl⟩ := hrel
    clear HP
    by_cases hlt : k < 7
    · obtain rfl | rfl | rfl | rfl | rfl | rfl | rfl : k = 0 ∨ k = 1 ∨ k = 2 ∨ k = 3 ∨ k = 4 ∨ k = 5 ∨ k = 6 := by omega
      · go_wp2
        go_quiet (fail)
        go_wp2
        · refine bodyPost_ret (v := .tuple #[.agg #[.int .i64 0, .int .i64 (a), .int .i64 (b - a)], .bool true]) (by simp [results, Tryz.results176, go_sem]) rfl ⟨?_, ?_⟩
          · rw [HK.out, packGo_hit (a := a) (b := b) 6 0 (by simp [pB]; omega) (by simp [pL]; omega)]
            simp [pkV, pB, pL]
          · repeat (first | exact Below.refl _ _ | apply below_drewN | refine Below.alloc ?_ (by simp) _ | refine Below.setCell ?_ (by simp) _)
        all_goals
          go_roundw
          case rel => exact ⟨1, by omega, by go_num, HK.out.trans (packGo_miss 6 0 (by simp [pB, pL]; omega)), _, rfl⟩
          case measure => simp [intOf]
      · go_wp2
        go_quiet (fail)
        go_wp2
        · refine bodyPost_ret (v := .tuple #[.agg #[.int .i64 1, .int .i64 (a / 2), .int .i64 ((b - a / 2 * 2 + 2 - 1) / 2)], .bool true]) (by simp [results, Tryz.results176, go_sem]) rfl ⟨?_, ?_⟩
          · rw [HK.out, packGo_hit (a := a) (b := b) 5 1 (by simp [pB]; omega) (by simp [pL]; omega)]
            simp [pkV, pB, pL]
          · repeat (first | exact Below.refl _ _ | apply below_drewN | refine Below.alloc ?_ (by simp) _ | refine Below.setCell ?_ (by simp) _)
        all_goals
          go_roundw
          case rel => exact ⟨2, by omega, by go_num, HK.out.trans (packGo_miss 5 1 (by simp [pB, pL]; omega)), _, rfl⟩
          case measure => simp [intOf]
      · go_wp2
        go_quiet (fail)
        go_wp2
        · refine bodyPost_ret (v := .tuple #[.agg #[.int .i64 2, .int .i64 (a / 4), .int .i64 ((b - a / 4 * 4 + 4 - 1) / 4)], .bool true]) (by simp [results, Tryz.results176, go_sem]) rfl ⟨?_, ?_⟩
          · rw [HK.out, packGo_hit (a := a) (b := b) 4 2 (by simp [pB]; omega) (by simp [pL]; omega)]
            simp [pkV, pB, pL]
          · repeat (first | exact Below.refl _ _ | apply below_drewN | refine Below.alloc ?_ (by simp) _ | refine Below.setCell ?_ (by simp) _)
        all_goals
          go_roundw
          case rel => exact ⟨3, by omega, by go_num, HK.out.trans (packGo_miss 4 2 (by simp [pB, pL]; omega)), _, rfl⟩
          case measure => simp [intOf]
      · go_wp2
        go_quiet (fail)
        go_wp2
        · refine bodyPost_ret (v := .tuple #[.agg #[.int .i64 3, .int .i64 (a / 8), .int .i64 ((b - a / 8 * 8 + 8 - 1) / 8)], .bool true]) (by simp [results, Tryz.results176, go_sem]) rfl ⟨?_, ?_⟩
          · rw [HK.out, packGo_hit (a := a) (b := b) 3 3 (by simp [pB]; omega) (by simp [pL]; omega)]
            simp [pkV, pB, pL]
          · repeat (first | exact Below.refl _ _ | apply below_drewN | refine Below.alloc ?_ (by simp) _ | refine Below.setCell ?_ (by simp) _)
        all_goals
          go_roundw
          case rel => exact ⟨4, by omega, by go_num, HK.out.trans (packGo_miss 3 3 (by simp [pB, pL]; omega)), _, rfl⟩
          case measure => simp [intOf]
      · go_wp2
        go_quiet (fail)
        go_wp2
        · refine bodyPost_ret (v := .tuple #[.agg #[.int .i64 4, .int .i64 (a / 16), .int .i64 ((b - a / 16 * 16 + 16 - 1) / 16)], .bool true]) (by simp [results, Tryz.results176, go_sem]) rfl ⟨?_, ?_⟩
          · rw [HK.out, packGo_hit (a := a) (b := b) 2 4 (by simp [pB]; omega) (by simp [pL]; omega)]
            simp [pkV, pB, pL]
          · repeat (first | exact Below.refl _ _ | apply below_drewN | refine Below.alloc ?_ (by simp) _ | refine Below.setCell ?_ (by simp) _)
        all_goals
          go_roundw
          case rel => exact ⟨5, by omega, by go_num, HK.out.trans (packGo_miss 2 4 (by simp [pB, pL]; omega)), _, rfl⟩
          case measure => simp [intOf]
      · go_wp2
        go_quiet (fail)
        go_wp2
        · refine bodyPost_ret (v := .tuple #[.agg #[.int .i64 5, .int .i64 (a / 32), .int .i64 ((b - a / 32 * 32 + 32 - 1) / 32)], .bool true]) (by simp [results, Tryz.results176, go_sem]) rfl ⟨?_, ?_⟩
          · rw [HK.out, packGo_hit (a := a) (b := b) 1 5 (by simp [pB]; omega) (by simp [pL]; omega)]
            simp [pkV, pB, pL]
          · repeat (first | exact Below.refl _ _ | apply below_drewN | refine Below.alloc ?_ (by simp) _ | refine Below.setCell ?_ (by simp) _)
        all_goals
          go_roundw
          case rel => exact ⟨6, by omega, by go_num, HK.out.trans (packGo_miss 1 5 (by simp [pB, pL]; omega)), _, rfl⟩
          case measure => simp [intOf]
      · go_wp2
        go_quiet (fail)
        go_wp2
        · refine bodyPost_ret (v := .tuple #[.agg #[.int .i64 6, .int .i64 (a / 64), .int .i64 ((b - a / 64 * 64 + 64 - 1) / 64)], .bool true]) (by simp [results, Tryz.results176, go_sem]) rfl ⟨?_, ?_⟩
          · rw [HK.out, packGo_hit (a := a) (b := b) 0 6 (by simp [pB]; omega) (by simp [pL]; omega)]
            simp [pkV, pB, pL]
          · repeat (first | exact Below.refl _ _ | apply below_drewN | refine Below.alloc ?_ (by simp) _ | refine Below.setCell ?_ (by simp) _)
        all_goals
          go_roundw
          case rel => exact ⟨7, by omega, by go_num, HK.out.trans (packGo_miss 0 6 (by simp [pB, pL]; omega)), _, rfl⟩
          case measure => simp [intOf]
    · obtain rfl : k = 7 := by omega
      go_wp2
      refine bodyPost_ret (v := .tuple #[.agg #[.int .i64 0, .int .i64 0, .int .i64 0], .bool false]) (by simp [results, Tryz.results176, go_sem]) rfl ⟨?_, ?_⟩
      · rw [HK.out]; rfl
      · repeat (first | exact Below.refl _ _ | apply below_drewN | refine Below.alloc ?_ (by simp) _ | refine Below.setCell ?_ (by simp) _)

theorem specPack_any (a b : Int) (w : World) :
    Calls Tryz.prog 176 #[.int .i64 a, .int .i64 b] w fun e w' => e = .returned (.tuple #[pkV (pk a b), .bool (pk a b).2.2.2]) ∧ Below w.heap.size w w' := by
  cases h : bokB a b
  · exact specPack_no a b w h
  · exact specPack_yes a b w h
end Go.Proofs.YtpkhnajhamnggaaGreatDoor

namespace Go.Proofs.YtpkhnajhamnggaaGreatDoor
open Go.ChangeShapes Go.WideShapes Go.ChangeAt Go.RowKit

set_option maxHeartbeats 400000 in
theorem lowBits_any (n : Int) (w : World) :
    Calls Tryz.prog 200 #[.int .i64 n] w fun e w' => e = .returned (.func (.func 201) #[] #[.pointer (some ⟨w.heap.size, 0, none⟩)]) ∧ w' = w.alloc (.cells #[.int .i64 n] 3) := by
  go_enter Tryz.func200, Tryz.ntmps200
  go_wp2
  go_ret
  exact ⟨rfl, rfl⟩

set_option maxHeartbeats 400000 in
theorem lowBits1_3 (n : Int) (b : Nat) (w : World) (h : w.cell? ⟨b, 0, none⟩ = some (.int .i64 n)) :
    Calls Tryz.prog 201 #[.int .i64 3, .pointer (some ⟨b, 0, none⟩)] w fun e w' => e = .returned (.int .i64 (n % 8)) ∧ ∃ m, w' = w.drewN m := by
  rw [← i64_and7]
  go_enter Tryz.func201, Tryz.ntmps201
  go_wp2
  go_quiet (fail)
  go_wp2
  go_ret
  exact ⟨rfl, _, rfl⟩

set_option maxHeartbeats 400000 in
theorem lowBits1_6 (n : Int) (b : Nat) (w : World) (h : w.cell? ⟨b, 0, none⟩ = some (.int .i64 n)) :
    Calls Tryz.prog 201 #[.int .i64 6, .pointer (some ⟨b, 0, none⟩)] w fun e w' => e = .returned (.int .i64 (n % 64)) ∧ ∃ m, w' = w.drewN m := by
  rw [← i64_and63]
  go_enter Tryz.func201, Tryz.ntmps201
  go_wp2
  go_quiet (fail)
  go_wp2
  go_ret
  exact ⟨rfl, _, rfl⟩
end Go.Proofs.YtpkhnajhamnggaaGreatDoor

namespace Go.Proofs.YtpkhnajhamnggaaGreatDoor
open Go.ChangeShapes Go.WideShapes Go.ChangeAt Go.RowKit

theorem pok_all {E B L : Int} (h1 : E % 8 = E) (h2 : B % 64 = B) (h3 : L % 64 = L) (h4 : E ≤ 6) : pokB E B L = true := by
  simp only [pokB, decide_eq_true_eq]; omega
theorem pok_no {E B L : Int} (h : ¬ (E % 8 = E ∧ B % 64 = B ∧ L % 64 = L ∧ E ≤ 6)) : pokB E B L = false := by
  simp only [pokB, decide_eq_false_iff_not]; omega

theorem st_packed : Tryz.prog.stoodInHeld 208 = false := by kernel_rfl
theorem eg_packed : Tryz.prog.eqGuardType Tryz.prog.depth 208 = false := by kernel_rfl
theorem equalIn_packed (a b c a' b' c' : Int) (w : World) : (Op.equalIn 10000 208 (.agg #[.int .i64 a, .int .i64 b, .int .i64 c]) (.agg #[.int .i64 a', .int .i64 b', .int .i64 c'])).run Tryz.prog w = .ok (a == a' && (b == b' && c == c')) w := by
  rw [run_equalIn_agg w 9999 208 _ _ (by kernel_rfl) st_packed]
  simp only [Program.fieldsOf, Tryz.underlying208]
  have e3 : ∀ (x y : Int) (w : World), (Op.equalIn 9999 3 (.int .i64 x) (.int .i64 y)).run Tryz.prog w = .ok (x == y) w := fun x y w => run_equalIn_int w 9998 3 _ _ x y Tryz.underlying3
  cases h1 : (a == a') <;> cases h2 : (b == b') <;> cases h3 : (c == c') <;> simp [Op.eqFields, go_sem, e3, h1, h2, h3]
theorem eql_packed (a b c a' b' c' : Int) (w : World) : (binOp .eql 208 (.agg #[.int .i64 a, .int .i64 b, .int .i64 c]) (.agg #[.int .i64 a', .int .i64 b', .int .i64 c'])).run Tryz.prog w = .ok (.bool (a == a' && (b == b' && c == c'))) w := by
  rw [run_eql_struct, equalIn_packed]; rfl

set_option maxRecDepth 100000 in
set_option maxHeartbeats 2000000 in
theorem packedOk_any (E B L : Int) (w : World) :
    Calls Tryz.prog 199 #[.agg #[.int .i64 E, .int .i64 B, .int .i64 L]] w fun e w' => e = .returned (.bool (pokB E B L)) ∧ Below w.heap.size w w' := by
  have eg := eg_packed
  have q1 := equalIn_packed
  have q2 := eql_packed
  go_enter Tryz.func199, Tryz.ntmps199
  go_upto_region 1 with fail
  go_cut [3] (fun p wx => ∃ q : Nat, p = .pointer (some ⟨q, 0, none⟩) ∧ wx.cell? ⟨w.heap.size, 0, none⟩ = some (.int .i64 E) ∧ wx.cell? ⟨w.heap.size, 1, none⟩ = some (.int .i64 B) ∧ wx.cell? ⟨w.heap.size, 2, none⟩ = some (.int .i64 L) ∧
    wx.cell? ⟨q, 0, none⟩ = some (.int .i64 (E % 8)) ∧ wx.cell? ⟨q, 1, none⟩ = some (.int .i64 (B % 64)) ∧ wx.cell? ⟨q, 2, none⟩ = some (.int .i64 (L % 64)) ∧ Below w.heap.size w wx)
  case first =>
    go_region_held3 (fun w' => w'.cell? ⟨w.heap.size, 0, none⟩ = some (.int .i64 E) ∧ w'.cell? ⟨w.heap.size, 1, none⟩ = some (.int .i64 B) ∧ w'.cell? ⟨w.heap.size, 2, none⟩ = some (.int .i64 L)) (first | (go_keep; done) | (go_simp; done) | (refine ⟨?_, ?_, ?_⟩ <;> (go_simp; done)))
      (first
        | (go_at_call 200; refine (lowBits_any _ _).mono ?_; rintro e w' ⟨rfl, rfl⟩)
        | (go_at_call_of 201 (Value.int IntKind.i64 3); refine (lowBits1_3 E _ _ ?_).mono ?_; go_simp; rintro e w' ⟨rfl, m, rfl⟩)
        | (go_at_call_of 201 (Value.int IntKind.i64 6); refine (lowBits1_6 B _ _ ?_).mono ?_; go_simp; rintro e w' ⟨rfl, m, rfl⟩)
        | (go_at_call_of 201 (Value.int IntKind.i64 6); refine (lowBits1_6 L _ _ ?_).mono ?_; go_simp; rintro e w' ⟨rfl, m, rfl⟩))
    all_goals
      go_wp2_with fail
      go_meet
      case rel =>
        refine ⟨_, rfl, by go_simp, by go_simp, by go_simp, by go_simp, by go_simp, by go_simp, ?_⟩
        repeat (first | exact Below.refl _ _ | apply below_drewN | apply Below.drew | refine Below.alloc ?_ (by simp; try omega) _ | refine Below.setCell ?_ (by simp; try omega) _)
  case rest =>
    obtain ⟨q, rfl, c0, c1, c2, d0, d1, d2, hb⟩ := hcut
    obtain ⟨E1, hE⟩ : ∃ x, Hid (x = E % 8) := ⟨_, rfl⟩
    obtain ⟨B1, hB⟩ : ∃ x, Hid (x = B % 64) := ⟨_, rfl⟩
    obtain ⟨L1, hL⟩ : ∃ x, Hid (x = L % 64) := ⟨_, rfl⟩
    rw [← hE.out] at d0
    rw [← hB.out] at d1
    rw [← hL.out] at d2
    cases g1 : (E == E1) <;> cases g2 : (B == B1) <;> cases g3 : (L == L1) <;> by_cases g4 : E ≤ 6
    all_goals
      go_wp2
      go_ret
      refine ⟨?_, hb⟩
      have e1 := hE.out
      have e2 := hB.out
      have e3 := hL.out
      simp only [beq_iff_eq, beq_eq_false_iff_ne, ne_eq] at g1 g2 g3
      first
        | (rw [pok_all (by omega) (by omega) (by omega) (by omega)]; rfl)
        | (rw [pok_no (by omega)]; rfl)
end Go.Proofs.YtpkhnajhamnggaaGreatDoor

namespace Go.Proofs.YtpkhnajhamnggaaGreatDoor
open Go.ChangeShapes Go.WideShapes Go.ChangeAt Go.RowKit

theorem pok_fit {a b : Int} (k : Nat) (h : bokB a b = true) (hk : k ≤ 6) (h1 : pB a k ≤ 63) (h2 : pL a b k ≤ 63) : pokB k (pB a k) (pL a b k) = true := by
  obtain ⟨g0, g1, g2⟩ := bok_of h
  clear h
  simp only [pokB, decide_eq_true_eq]
  obtain rfl | rfl | rfl | rfl | rfl | rfl | rfl : k = 0 ∨ k = 1 ∨ k = 2 ∨ k = 3 ∨ k = 4 ∨ k = 5 ∨ k = 6 := by omega
  all_goals
    simp [pB, pL] at h1 h2 ⊢
    omega
theorem pok_unfit {a b : Int} (k : Nat) (h : ¬ (pB a k ≤ 63 ∧ pL a b k ≤ 63)) : pokB k (pB a k) (pL a b k) = false := by
  simp only [pokB, decide_eq_false_iff_not]; intro g; exact h ⟨g.2.2.2.1, g.2.2.2.2.2⟩

set_option maxHeartbeats 1000000 in
theorem packedAt_k (a b : Int) (k : Nat) (w : World) (h : bokB a b = true) (hk : k ≤ 6) :
    Calls Tryz.prog 198 #[.int .i64 a, .int .i64 b, .int .i64 k] w fun e w' => e = .returned (.agg #[.int .i64 k, .int .i64 (pB a k), .int .i64 (pL a b k)]) ∧ Below w.heap.size w w' := by
  obtain ⟨h0, h1, h2⟩ := bok_of h
  clear h
  obtain rfl | rfl | rfl | rfl | rfl | rfl | rfl : k = 0 ∨ k = 1 ∨ k = 2 ∨ k = 3 ∨ k = 4 ∨ k = 5 ∨ k = 6 := by omega
  · go_enter Tryz.func198, Tryz.ntmps198
    go_wp2
    exact bodyPost_ret (v := .agg #[.int .i64 0, .int .i64 (a), .int .i64 (b - a)]) (by simp [results, Tryz.results198, go_sem]) rfl ⟨by simp [pB, pL], (Below.refl _ _).alloc (Nat.le_refl _) _⟩
  · go_enter Tryz.func198, Tryz.ntmps198
    go_wp2
    exact bodyPost_ret (v := .agg #[.int .i64 1, .int .i64 (a / 2), .int .i64 ((b - a / 2 * 2 + 2 - 1) / 2)]) (by simp [results, Tryz.results198, go_sem]) rfl ⟨by simp [pB, pL], (Below.refl _ _).alloc (Nat.le_refl _) _⟩
  · go_enter Tryz.func198, Tryz.ntmps198
    go_wp2
    exact bodyPost_ret (v := .agg #[.int .i64 2, .int .i64 (a / 4), .int .i64 ((b - a / 4 * 4 + 4 - 1) / 4)]) (by simp [results, Tryz.results198, go_sem]) rfl ⟨by simp [pB, pL], (Below.refl _ _).alloc (Nat.le_refl _) _⟩
  · go_enter Tryz.func198, Tryz.ntmps198
    go_wp2
    exact bodyPost_ret (v := .agg #[.int .i64 3, .int .i64 (a / 8), .int .i64 ((b - a / 8 * 8 + 8 - 1) / 8)]) (by simp [results, Tryz.results198, go_sem]) rfl ⟨by simp [pB, pL], (Below.refl _ _).alloc (Nat.le_refl _) _⟩
  · go_enter Tryz.func198, Tryz.ntmps198
    go_wp2
    exact bodyPost_ret (v := .agg #[.int .i64 4, .int .i64 (a / 16), .int .i64 ((b - a / 16 * 16 + 16 - 1) / 16)]) (by simp [results, Tryz.results198, go_sem]) rfl ⟨by simp [pB, pL], (Below.refl _ _).alloc (Nat.le_refl _) _⟩
  · go_enter Tryz.func198, Tryz.ntmps198
    go_wp2
    exact bodyPost_ret (v := .agg #[.int .i64 5, .int .i64 (a / 32), .int .i64 ((b - a / 32 * 32 + 32 - 1) / 32)]) (by simp [results, Tryz.results198, go_sem]) rfl ⟨by simp [pB, pL], (Below.refl _ _).alloc (Nat.le_refl _) _⟩
  · go_enter Tryz.func198, Tryz.ntmps198
    go_wp2
    exact bodyPost_ret (v := .agg #[.int .i64 6, .int .i64 (a / 64), .int .i64 ((b - a / 64 * 64 + 64 - 1) / 64)]) (by simp [results, Tryz.results198, go_sem]) rfl ⟨by simp [pB, pL], (Below.refl _ _).alloc (Nat.le_refl _) _⟩

set_option maxHeartbeats 1000000 in
theorem implPack_no (a b : Int) (w : World) (h : bokB a b = false) :
    Calls Tryz.prog 194 #[.int .i64 a, .int .i64 b] w fun e w' => e = .returned (.tuple #[pkV (pk a b), .bool (pk a b).2.2.2]) ∧ Below w.heap.size w w' := by
  rw [pk_no h]
  go_enter Tryz.func194, Tryz.ntmps194
  go_wp2_with (go_at_call 179; refine (implBounds_any _ _ _).mono ?_; rintro e w' ⟨rfl, rfl⟩)
  exact bodyPost_ret (v := .tuple #[.agg #[.int .i64 0, .int .i64 0, .int .i64 0], .bool false]) (by simp [results, Tryz.results194, go_sem]) rfl ⟨rfl, (Below.refl _ _).alloc (Nat.le_refl _) _⟩

set_option maxRecDepth 100000 in
set_option maxHeartbeats 2000000 in
theorem implPack_yes (a b : Int) (w : World) (h : bokB a b = true) :
    Calls Tryz.prog 194 #[.int .i64 a, .int .i64 b] w fun e w' => e = .returned (.tuple #[pkV (pk a b), .bool (pk a b).2.2.2]) ∧ Below w.heap.size w w' := by
  have HP : Hid (pk a b = packGo a b 7 0) := pk_ok h
  go_enter Tryz.func194, Tryz.ntmps194
  go_wp2_with (go_at_call 179; refine (implBounds_any _ _ _).mono ?_; rintro e w' ⟨rfl, rfl⟩)
  go_loopw [6] (fun e w' => ∃ k : Nat, k ≤ 7 ∧ e = .int .i64 k ∧ Hid (pk a b = packGo a b (7 - k) k) ∧ Below w.heap.size w w' ∧ w.heap.size < w'.heap.size ∧
    w'.cell? ⟨w.heap.size, 0, none⟩ = some (.int .i64 0) ∧ w'.cell? ⟨w.heap.size, 1, none⟩ = some (.int .i64 0) ∧ w'.cell? ⟨w.heap.size, 2, none⟩ = some (.int .i64 0) ∧
    w'.frozen? ⟨w.heap.size, 0, none⟩ = false ∧ w'.frozen? ⟨w.heap.size, 1, none⟩ = false ∧ w'.frozen? ⟨w.heap.size, 2, none⟩ = false) (fun e _ => 7 - (intOf e).toNat)
  case atStart => exact ⟨0, by omega, rfl, HP, (Below.refl _ _).alloc (Nat.le_refl _) _, by simp, by simp, by simp, by simp, by simp, by simp, by simp⟩
  case round =>
    obtain ⟨k, hk, rfl, HK, hB, hsz, c0, c1, c2, f0, f1, f2⟩ := hrel
    clear HP
    by_cases hlt : k < 7
    · by_cases hfit : pB a k ≤ 63 ∧ pL a b k ≤ 63
      all_goals
        first
          | (have hpok : pokB k (pB a k) (pL a b k) = true := pok_fit k h (by omega) hfit.1 hfit.2)
          | (have hpok : pokB k (pB a k) (pL a b k) = false := pok_unfit k hfit)
        have HF : Hid _ := hfit
        clear hfit
        go_wp2_with fail
        refine (packedAt_k a b k _ h (by omega)).mono ?_
        rintro e w1 ⟨rfl, hb1⟩
        have hz1 := hb1.size
        go_wp2_with fail
        refine (packedOk_any _ _ _ _).mono ?_
        rintro e w2 ⟨rfl, hb2⟩
        rw [hpok]
        have hbB : Below wr.heap.size wr w2 := (hb1.alloc hz1 _).trans (hb2.mono (by simp; omega))
        have hB2 : Below w.heap.size w w2 := hB.trans (hbB.mono (by omega))
        have hz2 : w.heap.size < w2.heap.size := by have := hbB.size; omega
        have d0 := (hbB.cell (p := ⟨w.heap.size, 0, none⟩) hsz).trans c0
        have d1 := (hbB.cell (p := ⟨w.heap.size, 1, none⟩) hsz).trans c1
        have d2 := (hbB.cell (p := ⟨w.heap.size, 2, none⟩) hsz).trans c2
        have g0 := (hbB.frozen (p := ⟨w.heap.size, 0, none⟩) hsz).trans f0
        have g1 := (hbB.frozen (p := ⟨w.heap.size, 1, none⟩) hsz).trans f1
        have g2 := (hbB.frozen (p := ⟨w.heap.size, 2, none⟩) hsz).trans f2
        have p0 : w2.cell? ⟨w1.heap.size, 0, none⟩ = some (.int .i64 k) := (hb2.cell (p := ⟨w1.heap.size, 0, none⟩) (by simp)).trans (by simp)
        have p1 : w2.cell? ⟨w1.heap.size, 1, none⟩ = some (.int .i64 (pB a k)) := (hb2.cell (p := ⟨w1.heap.size, 1, none⟩) (by simp)).trans (by simp)
        have p2 : w2.cell? ⟨w1.heap.size, 2, none⟩ = some (.int .i64 (pL a b k)) := (hb2.cell (p := ⟨w1.heap.size, 2, none⟩) (by simp)).trans (by simp)
        clear c0 c1 c2 f0 f1 f2 hbB hb1 hb2 hB hz1 hpok
        go_wp2
      · refine bodyPost_ret (v := .tuple #[.agg #[.int .i64 k, .int .i64 (pB a k), .int .i64 (pL a b k)], .bool true]) (by simp [results, Tryz.results194, go_sem, d0, d1, d2]) rfl ⟨?_, ?_⟩
        · have e7 : 7 - k = (6 - k) + 1 := by omega
          rw [HK.out, e7, packGo_hit (a := a) (b := b) (6 - k) k HF.out.1 HF.out.2]; rfl
        · exact ((hB2.setCell (by simp) _).setCell (by simp) _).setCell (by simp) _
      · go_roundw
        case rel =>
          refine ⟨k + 1, by omega, by go_num, ?_, hB2, hz2, d0, d1, d2, g0, g1, g2⟩
          have e7 : 7 - k = (7 - (k + 1)) + 1 := by omega
          have := HK.out
          rw [e7, packGo_miss (a := a) (b := b) _ _ HF.out] at this
          exact this
        case measure => simp [intOf]; omega
    · obtain rfl : k = 7 := by omega
      go_wp2
      refine bodyPost_ret (v := .tuple #[.agg #[.int .i64 0, .int .i64 0, .int .i64 0], .bool false]) (by simp [results, Tryz.results194, go_sem, c0, c1, c2]) rfl ⟨?_, ?_⟩
      · rw [HK.out]; rfl
      · repeat (first | exact hB | refine Below.setCell ?_ (by simp) _)

theorem implPack_any (a b : Int) (w : World) :
    Calls Tryz.prog 194 #[.int .i64 a, .int .i64 b] w fun e w' => e = .returned (.tuple #[pkV (pk a b), .bool (pk a b).2.2.2]) ∧ Below w.heap.size w w' := by
  cases h : bokB a b
  · exact implPack_no a b w h
  · exact implPack_yes a b w h
end Go.Proofs.YtpkhnajhamnggaaGreatDoor

namespace Go.Proofs.YtpkhnajhamnggaaGreatDoor
open Go.ChangeShapes Go.WideShapes Go.ChangeAt Go.RowKit

theorem in_any (a lo hi : Int) (w : World) :
    Calls Tryz.prog 74 #[.int .i64 a, .int .i64 lo, .int .i64 hi] w fun e w' => e = .returned (.bool (decide (lo ≤ a ∧ a ≤ hi))) ∧ w' = w := by
  by_cases h0 : lo ≤ a <;> by_cases h1 : a ≤ hi
  all_goals
    go_enter Tryz.func74, Tryz.ntmps74
    go_wp2
    go_ret
    simp [h0, h1]

theorem min_any (a b : Int) (w : World) :
    Calls Tryz.prog 193 #[.int .i64 a, .int .i64 b] w fun e w' => e = .returned (.int .i64 (min a b)) ∧ w' = w := by
  by_cases h0 : a < b
  · rw [Int.min_eq_left (by omega)]
    go_enter Tryz.func193, Tryz.ntmps193
    go_wp2
    go_ret
    exact ⟨rfl, rfl⟩
  · rw [Int.min_eq_right (by omega)]
    go_enter Tryz.func193, Tryz.ntmps193
    go_wp2
    go_ret
    exact ⟨rfl, rfl⟩

/-- What Unpack answers. -/
def upLo (E B : Int) : Int := B * 2 ^ E.toNat
def upHi (E B L : Int) : Int := min ((B + L) * 2 ^ E.toNat) 4096
def up (E B L : Int) : Value := if pokB E B L then .tuple #[.int .i64 (upLo E B), .int .i64 (upHi E B L), .bool true] else .tuple #[.int .i64 0, .int .i64 0, .bool false]

theorem pok_of {E B L : Int} (h : pokB E B L = true) : 0 ≤ E ∧ E ≤ 6 ∧ 0 ≤ B ∧ B ≤ 63 ∧ 0 ≤ L ∧ L ≤ 63 := by simpa [pokB] using h

set_option maxHeartbeats 1000000 in
theorem specUnpack_yes (E B L : Int) (w : World) (h : pokB E B L = true) :
    Calls Tryz.prog 177 #[.agg #[.int .i64 E, .int .i64 B, .int .i64 L]] w fun e w' => e = .returned (.tuple #[.int .i64 (upLo E B), .int .i64 (upHi E B L), .bool true]) ∧ Below w.heap.size w w' := by
  obtain ⟨h0, h1, h2, h3, h4, h5⟩ := pok_of h
  clear h
  obtain rfl | rfl | rfl | rfl | rfl | rfl | rfl : E = 0 ∨ E = 1 ∨ E = 2 ∨ E = 3 ∨ E = 4 ∨ E = 5 ∨ E = 6 := by omega
  all_goals
    go_enter Tryz.func177, Tryz.ntmps177
    go_wp2_with (first | (go_at_call 74; refine (in_any _ _ _ _).mono ?_; rintro e w' ⟨rfl, rfl⟩))
    go_quiet ((go_at_call 193; exact Calls.quiet_of_same (min_any _ _ _)))
    go_wp2
    go_ret3
    refine ⟨?_, below_drewN ((Below.refl _ _).alloc (Nat.le_refl _) _) _⟩
    simp [upLo, upHi]

set_option maxHeartbeats 1000000 in
theorem specUnpack_no (E B L : Int) (w : World) (h : pokB E B L = false) :
    Calls Tryz.prog 177 #[.agg #[.int .i64 E, .int .i64 B, .int .i64 L]] w fun e w' => e = .returned (.tuple #[.int .i64 0, .int .i64 0, .bool false]) ∧ Below w.heap.size w w' := by
  have hn : ¬ (0 ≤ E ∧ E ≤ 6 ∧ 0 ≤ B ∧ B ≤ 63 ∧ 0 ≤ L ∧ L ≤ 63) := by simpa only [pokB, decide_eq_false_iff_not] using h
  clear h
  have d1 : decide (0 ≤ E ∧ E ≤ 6) = true ∨ decide (0 ≤ E ∧ E ≤ 6) = false := by cases decide (0 ≤ E ∧ E ≤ 6) <;> simp
  have d2 : decide (0 ≤ B ∧ B ≤ 63) = true ∨ decide (0 ≤ B ∧ B ≤ 63) = false := by cases decide (0 ≤ B ∧ B ≤ 63) <;> simp
  have d3 : decide (0 ≤ L ∧ L ≤ 63) = true ∨ decide (0 ≤ L ∧ L ≤ 63) = false := by cases decide (0 ≤ L ∧ L ≤ 63) <;> simp
  rcases d1 with d1 | d1 <;> rcases d2 with d2 | d2 <;> rcases d3 with d3 | d3
  all_goals
    first
      | (exfalso; simp only [decide_eq_true_eq] at d1 d2 d3; exact hn ⟨d1.1, d1.2, d2.1, d2.2, d3.1, d3.2⟩)
      | (clear hn
         have s1 := in_any E 0 6
         have s2 := in_any B 0 63
         have s3 := in_any L 0 63
         rw [d1] at s1
         rw [d2] at s2
         rw [d3] at s3
         have S1 : Hid _ := s1
         have S2 : Hid _ := s2
         have S3 : Hid _ := s3
         clear s1 s2 s3 d1 d2 d3
         go_enter Tryz.func177, Tryz.ntmps177
         go_wp2_with (first | (go_at_call_of 74 (Value.int IntKind.i64 E); refine (S1.out _).mono ?_; rintro e w' ⟨rfl, rfl⟩) | (go_at_call_of 74 (Value.int IntKind.i64 B); refine (S2.out _).mono ?_; rintro e w' ⟨rfl, rfl⟩) | (go_at_call_of 74 (Value.int IntKind.i64 L); refine (S3.out _).mono ?_; rintro e w' ⟨rfl, rfl⟩))
         go_ret3
         exact ⟨rfl, (Below.refl _ _).alloc (Nat.le_refl _) _⟩)

set_option maxHeartbeats 2000000 in
theorem implUnpack_yes (E B L : Int) (w : World) (h : pokB E B L = true) :
    Calls Tryz.prog 195 #[.agg #[.int .i64 E, .int .i64 B, .int .i64 L]] w fun e w' => e = .returned (.tuple #[.int .i64 (upLo E B), .int .i64 (upHi E B L), .bool true]) ∧ Below w.heap.size w w' := by
  have s1 := packedOk_any E B L
  rw [h] at s1
  have S1 : Hid _ := s1
  clear s1
  obtain ⟨h0, h1, h2, h3, h4, h5⟩ := pok_of h
  clear h
  obtain rfl | rfl | rfl | rfl | rfl | rfl | rfl : E = 0 ∨ E = 1 ∨ E = 2 ∨ E = 3 ∨ E = 4 ∨ E = 5 ∨ E = 6 := by omega
  all_goals
    go_enter Tryz.func195, Tryz.ntmps195
    go_wp2_with fail
    refine (S1.out _).mono ?_
    rintro e w1 ⟨rfl, hb1⟩
    have c0 := hb1.cell (p := ⟨w.heap.size, 0, none⟩) (by simp)
    simp at c0
    have c1 : w1.cell? ⟨w.heap.size, 1, none⟩ = some (.int .i64 B) := (hb1.cell (p := ⟨w.heap.size, 1, none⟩) (by simp)).trans (by simp)
    have c2 : w1.cell? ⟨w.heap.size, 2, none⟩ = some (.int .i64 L) := (hb1.cell (p := ⟨w.heap.size, 2, none⟩) (by simp)).trans (by simp)
    have hB1 : Below w.heap.size w w1 := ((Below.refl _ w).alloc (Nat.le_refl _) _).trans (hb1.mono (by simp))
    clear hb1
    go_wp2
    go_quiet (fail)
    go_wp2
    all_goals
      go_ret3
      refine ⟨?_, below_drewN hB1 _⟩
      simp [upLo, upHi] <;> omega

set_option maxHeartbeats 2000000 in
theorem implUnpack_no (E B L : Int) (w : World) (h : pokB E B L = false) :
    Calls Tryz.prog 195 #[.agg #[.int .i64 E, .int .i64 B, .int .i64 L]] w fun e w' => e = .returned (.tuple #[.int .i64 0, .int .i64 0, .bool false]) ∧ Below w.heap.size w w' := by
  have s1 := packedOk_any E B L
  rw [h] at s1
  have S1 : Hid _ := s1
  clear s1 h
  go_enter Tryz.func195, Tryz.ntmps195
  go_wp2_with fail
  refine (S1.out _).mono ?_
  rintro e w1 ⟨rfl, hb1⟩
  have hB1 : Below w.heap.size w w1 := ((Below.refl _ w).alloc (Nat.le_refl _) _).trans (hb1.mono (by simp))
  clear hb1
  go_wp2
  go_ret3
  exact ⟨rfl, hB1⟩

theorem specUnpack_any (E B L : Int) (w : World) :
    Calls Tryz.prog 177 #[.agg #[.int .i64 E, .int .i64 B, .int .i64 L]] w fun e w' => e = .returned (up E B L) ∧ Below w.heap.size w w' := by
  cases h : pokB E B L
  · simpa [up, h] using specUnpack_no E B L w h
  · simpa [up, h] using specUnpack_yes E B L w h

theorem implUnpack_any (E B L : Int) (w : World) :
    Calls Tryz.prog 195 #[.agg #[.int .i64 E, .int .i64 B, .int .i64 L]] w fun e w' => e = .returned (up E B L) ∧ Below w.heap.size w w' := by
  cases h : pokB E B L
  · simpa [up, h] using implUnpack_no E B L w h
  · simpa [up, h] using implUnpack_yes E B L w h
end Go.Proofs.YtpkhnajhamnggaaGreatDoor

namespace Go.Proofs.YtpkhnajhamnggaaGreatDoor
open Go.ChangeShapes Go.WideShapes Go.ChangeAt Go.RowKit

/-- The two numbers of Unpack. -/
def upN (E B L : Int) : Int × Int := if pokB E B L then (upLo E B, upHi E B L) else (0, 0)
theorem up_eq (E B L : Int) : up E B L = .tuple #[.int .i64 (upN E B L).1, .int .i64 (upN E B L).2, .bool (pokB E B L)] := by
  unfold up upN; cases h : pokB E B L <;> simp

/-- What Wide answers. -/
def wd (a b : Int) : Int × Int :=
  if (pk a b).2.2.2 then upN (pk a b).1 (pk a b).2.1 (pk a b).2.2.1 else if bokB a b then (0, 4096) else (0, 0)

/-- What Exact answers. -/
def exB (a b : Int) : Bool := bokB a b && ((wd a b).1 == a && (wd a b).2 == b)

set_option maxHeartbeats 1000000 in
theorem specWide_any (a b : Int) (w : World) :
    Calls Tryz.prog 146 #[.int .i64 a, .int .i64 b] w fun e w' => e = .returned (.tuple #[.int .i64 (wd a b).1, .int .i64 (wd a b).2]) ∧ Below w.heap.size w w' := by
  obtain ⟨E, B, L, ok, hp⟩ : ∃ E B L ok, pk a b = (E, B, L, ok) := ⟨_, _, _, _, rfl⟩
  have s1 := specPack_any a b
  simp only [hp, pkV] at s1
  have s2 := specUnpack_any E B L
  simp only [up_eq] at s2
  have S1 : Hid _ := s1
  have S2 : Hid _ := s2
  have hw : wd a b = if ok then upN E B L else if bokB a b then (0, 4096) else (0, 0) := by simp [wd, hp]
  have s3 := specBounds_any a b
  clear s1 s2 hp
  cases ok
  · cases hb : bokB a b
    all_goals
      rw [hb] at s3
      simp only [hb, Bool.false_eq_true, if_false, if_true] at hw
      rw [hw]
      have S3 : Hid _ := s3
      clear s3 hw hb
      go_enter Tryz.func146, Tryz.ntmps146
      go_wp2_with fail
      refine (S1.out _).mono ?_
      rintro e w1 ⟨rfl, hb1⟩
      have hB : Below w.heap.size w w1 := hb1
      have z1 := hb1.size
      clear hb1
      go_wp2_with fail
      refine (S3.out _).mono ?_
      rintro e w2 ⟨rfl, rfl⟩
      go_wp2
      go_ret2
      exact ⟨rfl, hB.alloc z1 _⟩
  · simp only [if_true] at hw
    rw [hw]
    clear s3 hw
    generalize upN E B L = p at S2
    generalize pokB E B L = q at S2
    obtain ⟨x, y⟩ := p
    simp only at S2
    go_enter Tryz.func146, Tryz.ntmps146
    go_wp2_with fail
    refine (S1.out _).mono ?_
    rintro e w1 ⟨rfl, hb1⟩
    have z1 := hb1.size
    have hB : Below w.heap.size w (w1.alloc (.cells #[.int .i64 E, .int .i64 B, .int .i64 L] 208)) := hb1.alloc z1 _
    clear hb1
    go_wp2_with fail
    refine (S2.out _).mono ?_
    rintro e w2 ⟨rfl, hb2⟩
    have hB2 : Below w.heap.size w w2 := hB.trans (hb2.mono (by simp; omega))
    clear hb2 hB z1
    go_wp2
    go_ret2
    exact ⟨rfl, hB2⟩

set_option maxHeartbeats 1000000 in
theorem implWide_any (a b : Int) (w : World) :
    Calls Tryz.prog 178 #[.int .i64 a, .int .i64 b] w fun e w' => e = .returned (.tuple #[.int .i64 (wd a b).1, .int .i64 (wd a b).2]) ∧ Below w.heap.size w w' := by
  have s3 := implBounds_any a b
  cases hb : bokB a b
  · have hw : wd a b = (0, 0) := by simp [wd, pk_no hb, hb]
    rw [hb] at s3
    rw [hw]
    have S3 : Hid _ := s3
    clear s3 hw hb
    go_enter Tryz.func178, Tryz.ntmps178
    go_wp2_with fail
    refine (S3.out _).mono ?_
    rintro e w1 ⟨rfl, rfl⟩
    go_wp2
    go_ret2
    exact ⟨rfl, Below.refl _ _⟩
  · rw [hb] at s3
    have S3 : Hid _ := s3
    clear s3
    obtain ⟨E, B, L, ok, hp⟩ : ∃ E B L ok, pk a b = (E, B, L, ok) := ⟨_, _, _, _, rfl⟩
    have s1 := implPack_any a b
    simp only [hp, pkV] at s1
    have s2 := implUnpack_any E B L
    simp only [up_eq] at s2
    have S1 : Hid _ := s1
    have S2 : Hid _ := s2
    have hw : wd a b = if ok then upN E B L else (0, 4096) := by simp [wd, hp, hb]
    clear s1 s2 hp hb
    generalize upN E B L = p at S2 hw
    generalize pokB E B L = q at S2
    obtain ⟨x, y⟩ := p
    simp only at S2
    cases ok
    · simp only [Bool.false_eq_true, if_false] at hw
      rw [hw]
      clear hw S2
      go_enter Tryz.func178, Tryz.ntmps178
      go_wp2_with fail
      refine (S3.out _).mono ?_
      rintro e w1 ⟨rfl, rfl⟩
      go_wp2_with fail
      refine (S1.out _).mono ?_
      rintro e w1 ⟨rfl, hb1⟩
      have z1 := hb1.size
      go_wp2
      go_ret2
      exact ⟨rfl, hb1.alloc z1 _⟩
    · simp only [if_true] at hw
      rw [hw]
      clear hw
      go_enter Tryz.func178, Tryz.ntmps178
      go_wp2_with fail
      refine (S3.out _).mono ?_
      rintro e w0 ⟨rfl, rfl⟩
      go_wp2_with fail
      refine (S1.out _).mono ?_
      rintro e w1 ⟨rfl, hb1⟩
      have z1 := hb1.size
      have hB : Below w0.heap.size w0 (w1.alloc (.cells #[.int .i64 E, .int .i64 B, .int .i64 L] 208)) := hb1.alloc z1 _
      go_wp2_with fail
      refine (S2.out _).mono ?_
      rintro e w2 ⟨rfl, hb2⟩
      go_wp2
      go_ret2
      exact ⟨rfl, hB.trans (hb2.mono (by simp; omega))⟩

set_option maxHeartbeats 1000000 in
theorem specExact_any (a b : Int) (w : World) :
    Calls Tryz.prog 144 #[.int .i64 a, .int .i64 b] w fun e w' => e = .returned (.bool (exB a b)) ∧ Below w.heap.size w w' := by
  have s1 := specWide_any a b
  have s3 := specBounds_any a b
  have he : exB a b = (bokB a b && ((wd a b).1 == a && (wd a b).2 == b)) := rfl
  generalize wd a b = p at s1 he
  obtain ⟨x, y⟩ := p
  simp only at s1 he
  have S1 : Hid _ := s1
  have S3 : Hid _ := s3
  rw [he]
  clear s1 s3 he
  cases hb : bokB a b <;> cases g1 : (x == a) <;> cases g2 : (y == b)
  all_goals
    rw [hb] at S3
    clear hb
    go_enter Tryz.func144, Tryz.ntmps144
    go_wp2_with fail
    refine (S1.out _).mono ?_
    rintro e w1 ⟨rfl, hb1⟩
    go_wp2_with fail
    refine (S3.out _).mono ?_
    rintro e w2 ⟨rfl, rfl⟩
    go_wp2
    go_ret
    exact ⟨rfl, hb1⟩

set_option maxHeartbeats 1000000 in
theorem implExact_any (a b : Int) (w : World) :
    Calls Tryz.prog 148 #[.int .i64 a, .int .i64 b] w fun e w' => e = .returned (.bool (exB a b)) ∧ Below w.heap.size w w' := by
  have s1 := implWide_any a b
  have s3 := implBounds_any a b
  have he : exB a b = (bokB a b && ((wd a b).1 == a && (wd a b).2 == b)) := rfl
  generalize wd a b = p at s1 he
  obtain ⟨x, y⟩ := p
  simp only at s1 he
  have S1 : Hid _ := s1
  have S3 : Hid _ := s3
  rw [he]
  clear s1 s3 he
  cases hb : bokB a b <;> cases g1 : (x == a) <;> cases g2 : (y == b)
  all_goals
    rw [hb] at S3
    clear hb
    go_enter Tryz.func148, Tryz.ntmps148
    go_wp2_with fail
    refine (S1.out _).mono ?_
    rintro e w1 ⟨rfl, hb1⟩
    go_wp2_with fail
    refine (S3.out _).mono ?_
    rintro e w2 ⟨rfl, rfl⟩
    go_wp2
    go_ret
    exact ⟨rfl, hb1⟩
end Go.Proofs.YtpkhnajhamnggaaGreatDoor

namespace Go.Proofs.YtpkhnajhamnggaaGreatDoor

section
variable {P : Program} {md : Region.Mode} {ops : Array Oper} {Q : Exit → Act → World → Prop} {S : World → Prop}
theorem take_on {i d : Nat} {oi : Oper} {v : Value} {fuel : Nat} {listed : Array Bool} {a : Act} {w : World} (hi : ops[i]? = some oi) (hd : oi.dst = some d)
    (hs : Region.noSelect ops = true) (hf : Region.free md ops listed i = true) (hr : (Region.ready md ops listed).contains i = true)
    (hQ : ∀ c a w, Q (.panic c) (a.put (some d) v) w → Q (.panic c) a w) (hw : Region.wanted oi (yielded ops a.tmps) = true) (hy : ∀ w, S w → (execOp a.eval oi).run P w = .ok (.value v) w) (hS : S w)
    (h : wpAnyH P md ops Q S fuel (listed.setIfInBounds i true) (a.put (some d) v) w) : wpAnyH P md ops Q S (fuel + 1) listed a w :=
  wpAnyH_take hi hs hf hr (by rw [hd]; exact hQ) (Or.inl ⟨hw, hy⟩) hS (by rw [hd]; exact h)
theorem take_off {i d : Nat} {oi : Oper} {fuel : Nat} {listed : Array Bool} {a : Act} {w : World} (hi : ops[i]? = some oi) (hd : oi.dst = some d)
    (hs : Region.noSelect ops = true) (hf : Region.free md ops listed i = true) (hr : (Region.ready md ops listed).contains i = true)
    (hQ : ∀ c a w, Q (.panic c) (a.put (some d) undef) w → Q (.panic c) a w) (hw : Region.wanted oi (yielded ops a.tmps) = false) (hS : S w)
    (h : wpAnyH P md ops Q S fuel (listed.setIfInBounds i true) (a.put (some d) undef) w) : wpAnyH P md ops Q S (fuel + 1) listed a w :=
  wpAnyH_take hi hs hf hr (by rw [hd]; exact hQ) (Or.inr ⟨hw, rfl⟩) hS (by rw [hd]; exact h)
end
end Go.Proofs.YtpkhnajhamnggaaGreatDoor
