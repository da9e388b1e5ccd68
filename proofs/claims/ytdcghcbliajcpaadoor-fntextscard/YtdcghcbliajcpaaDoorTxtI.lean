/- The program's InsText at all places: what it answers. The tables hold what the texts lay. -/
import Derived.Test.YtdcghcbliajcpaaDoorLay7
import Derived.Test.YtdcghcbliajcpaaDoorInsK
import Derived.Lib.OthersKept
import Derived.WalkLawsBesides
namespace Go.Proofs.YtdcghcbliajcpaaDoor
open Go.ChangeShapes Go.WideShapes Go.ChangeAt Go.RowKit
set_option maxRecDepth 100000

/-- Two strings, one behind the other: as lists. -/
theorem add_bs {P : Program} (x y : List UInt8) (w : World) (h : x.length + y.length ≤ 9223372036854775807) : (Op.stringOp .add (bs x) (bs y)).run P w = .ok (.string (bs (x ++ y))) w := by
  rw [run_string_add_sum w _ _ (by rw [bs_size, bs_size]; omega), bs_append]
theorem itoa_len {n : Int} (h0 : -128 ≤ n) (h1 : n ≤ 127) : (Lib.itoa n).length ≤ 4 := by
  have N := fine_in h0 h1
  simp only [fine, Bool.and_eq_true, decide_eq_true_eq] at N
  exact N.2

set_option maxHeartbeats 1000000 in
theorem regText_any (r : Int) (h0 : -128 ≤ r) (h1 : r ≤ 127) (w : World) (hL : Lay w) :
    Calls Tryd.prog 54 #[.int .i64 r] w fun e w' => e = .returned (.string (bs (114 :: Lib.itoa r))) ∧ Below w.heap.size w w' := by
  have L := hid_mk hL
  have q := hid_mk (fun w => add_bs (P := Tryd.prog) [114] (Lib.itoa r) w (by have := itoa_len h0 h1; simp; omega))
  have c : (ByteArray.mk #[114]) = bs [114] := rfl
  clear hL
  go_enter Tryd.func54, Tryd.ntmps54
  go_wp2_with (go_at_call 55; refine (itoa_any r (by omega) (by omega) _ L.out).mono ?_; rintro e w1 ⟨rfl, hb⟩; refine Hid.out ?_)
  refine Lib.hid ?_
  have q := q.out
  go_wp2
  go_ret
  exact ⟨rfl, hb⟩
set_option maxHeartbeats 2000000 in
theorem fieldText_any (o r a b n : Int) (c : UInt8) (hk : okI ⟨o, r, a, b, n⟩ = true) (w : World) (hL : Lay w) :
    Calls Tryd.prog 33 #[.agg #[.int .i64 o, .int .i64 r, .int .i64 a, .int .i64 b, .int .i64 n], .int .i32 (c.toNat : Int)] w fun e w' => e = .returned (.string (bs (fdL ⟨o, r, a, b, n⟩ c))) ∧ Below w.heap.size w w' := by
  obtain ⟨_, _, r0, r1, a0, a1, b0, b1, n0, n1⟩ := ok_range hk
  simp only at r0 r1 a0 a1 b0 b1 n0 n1
  have L := hid_mk hL
  clear hL hk
  by_cases h1 : c = 82
  · subst h1
    go_enter Tryd.func33, Tryd.ntmps33
    go_wp2_with (go_at_call 54; refine (regText_any r (by omega) (by omega) _ (L.out.alloc _)).mono ?_; rintro e w1 ⟨rfl, hb⟩)
    go_wp2
    go_ret
    exact ⟨rfl, ((Below.refl _ _).alloc (Nat.le_refl _) _).trans (hb.mono (by simp))⟩
  by_cases h2 : c = 65
  · subst h2
    go_enter Tryd.func33, Tryd.ntmps33
    go_wp2_with (go_at_call 54; refine (regText_any a (by omega) (by omega) _ (L.out.alloc _)).mono ?_; rintro e w1 ⟨rfl, hb⟩)
    go_wp2
    go_ret
    exact ⟨rfl, ((Below.refl _ _).alloc (Nat.le_refl _) _).trans (hb.mono (by simp))⟩
  by_cases h3 : c = 66
  · subst h3
    go_enter Tryd.func33, Tryd.ntmps33
    go_wp2_with (go_at_call 54; refine (regText_any b (by omega) (by omega) _ (L.out.alloc _)).mono ?_; rintro e w1 ⟨rfl, hb⟩)
    go_wp2
    go_ret
    exact ⟨rfl, ((Below.refl _ _).alloc (Nat.le_refl _) _).trans (hb.mono (by simp))⟩
  · have e : fdL ⟨o, r, a, b, n⟩ c = Lib.itoa n := by simp [fdL, h1, h2, h3]
    rw [e]
    have g : ∀ k : Nat, k < 256 → (c.toNat : Int) = k → c = UInt8.ofNat k := fun k hk hh => by
      apply UInt8.toNat_inj.1
      rw [UInt8.toNat_ofNat']
      omega
    have g1 : ¬ (c.toNat : Int) = 82 := fun hh => h1 (g 82 (by decide) hh)
    have g2 : ¬ (c.toNat : Int) = 65 := fun hh => h2 (g 65 (by decide) hh)
    have g3 : ¬ (c.toNat : Int) = 66 := fun hh => h3 (g 66 (by decide) hh)
    clear g h1 h2 h3 e
    generalize (c.toNat : Int) = m at g1 g2 g3 ⊢
    go_enter Tryd.func33, Tryd.ntmps33
    go_wp2_with (go_at_call 55; refine (itoa_any n (by omega) (by omega) _ (L.out.alloc _)).mono ?_; rintro e w1 ⟨rfl, hb⟩)
    go_wp2
    go_ret
    exact ⟨rfl, ((Below.refl _ _).alloc (Nat.le_refl _) _).trans (hb.mono (by simp))⟩
end Go.Proofs.YtdcghcbliajcpaaDoor
