/- sameInts of the laws, at lists that are the same. No condition. -/
import Derived.Test.YtcokcfgagbahbaaIntS
namespace Go.Proofs.Ytcokcfgagbahbaa
open Go.ChangeShapes Go.WideShapes Go.ChangeAt Go.RowKit
set_option maxRecDepth 100000

set_option maxHeartbeats 1000000 in
theorem sameInts_same (a a' : Option Addr) (len cap cap' : Nat) (L : List Int) (w : World) (hS : SliceN w.heap.size w a len L) (hS' : SliceN w.heap.size w a' len L) :
    Calls Try.prog 11 #[.slice a len cap, .slice a' len cap'] w fun e w' => e = .returned (.bool true) ∧ Below w.heap.size w w' := by
  have S : Hid (SliceN w.heap.size w a len L) := hS
  have S' : Hid (SliceN w.heap.size w a' len L) := hS'
  have hlen := hS.1
  unfold maxLen at hlen
  clear hS hS'
  go_enter Try.func11, Try.ntmps11
  go_wp2
  go_loopw [5] (fun c wr => ∃ k : Nat, k ≤ len ∧ c = .int .i64 k ∧ Hid (Below w.heap.size w wr)) (fun c _ => len - (RowKit.intOf c).toNat)
  case atStart => exact ⟨0, Nat.zero_le _, rfl, Below.refl _ _⟩
  case round =>
    obtain ⟨k, hk, rfl, hB⟩ := hrel
    by_cases hlt : k < len
    · obtain ⟨kb, o, x, rfl, hkb, hx, d0⟩ := (S.out.keep hB.out).at hlt
      obtain ⟨kb', o', x', rfl, hkb', hx', d1⟩ := (S'.out.keep hB.out).at hlt
      obtain rfl : x = x' := by rw [hx] at hx'; exact Option.some.inj hx'
      have hxx : (x != x) = false := by simp
      have D0 : Hid (Below w.heap.size w wr.drew) := hB.out.drew
      clear hx hx'
      go_wp2_with fail
      go_region
      all_goals
        go_wp2
        go_roundw
        case rel => exact ⟨k + 1, hlt, by go_num, D0.out⟩
        case measure => simp [RowKit.intOf]; omega
    · go_wp2
      go_ret
      exact ⟨rfl, hB.out⟩
end Go.Proofs.Ytcokcfgagbahbaa
