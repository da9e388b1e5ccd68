/- What is sealed is opened by its key alone: what the five, Bare and Try of the program answer at a word, a sealer and what the sealer makes of it. -/
import Derived.Test.YtehmlneaahbdoaaDoorIFive
import Derived.Test.YtehmlneaahbdoaaDoorTMath
namespace Go.Proofs.YtehmlneaahbdoaaDoor
open Go.ChangeShapes Go.WideShapes Go.ChangeAt Go.RowKit

/-- Where it may be sealed. -/
structure Sld (a0 a1 a2 a3 : Addr) (A0 A2 A3 A4 B0 : Int) (B1 : Bool) (B2 B3 B4 B5 o : Int) : Prop where
  im : ∀ w, Calls Tryd.prog 8 #[.agg #[.int .i64 A0, .bool true, .int .i64 A2, .int .i64 A3, .int .i64 A4, .int .i64 0], .agg #[.int .i64 B0, .bool B1, .int .i64 B2, .int .i64 B3, .int .i64 B4, .int .i64 B5]] w fun e w' => e = .returned (.agg #[.int .i64 A0, .bool true, .int .i64 A2, .int .i64 A3, .int .i64 A4, .int .i64 B0]) ∧ Below w.heap.size w w'
  sp : ∀ w, Calls Tryd.prog 9 #[.agg #[.int .i64 A0, .bool true, .int .i64 A2, .int .i64 A3, .int .i64 A4, .int .i64 0], .agg #[.int .i64 B0, .bool B1, .int .i64 B2, .int .i64 B3, .int .i64 B4, .int .i64 B5]] w fun e w' => e = .returned (.agg #[.int .i64 A0, .bool true, .int .i64 A2, .int .i64 A3, .int .i64 A4, .int .i64 B0]) ∧ Below w.heap.size w w'
  pt : ∀ w, Calls Tryd.prog 11 #[.agg #[.int .i64 B0, .bool B1, .int .i64 B2, .int .i64 B3, .int .i64 B4, .int .i64 B5], .int .i64 (wrap64 (B0 + 1))] w fun e w' => e = .returned (.agg #[.int .i64 o, .bool true, .int .i64 B2, .int .i64 B3, .int .i64 B4, .int .i64 B5]) ∧ Below w.heap.size w w'
  o1 : ∀ w, Calls Tryd.prog 12 #[.agg #[.int .i64 A0, .bool true, .int .i64 A2, .int .i64 A3, .int .i64 A4, .int .i64 B0], .agg #[.int .i64 B0, .bool B1, .int .i64 B2, .int .i64 B3, .int .i64 B4, .int .i64 B5]] w fun e w' => e = .returned (.agg #[.int .i64 A0, .bool true, .int .i64 A2, .int .i64 A3, .int .i64 A4, .int .i64 0]) ∧ Below w.heap.size w w'
  o2 : ∀ w, Calls Tryd.prog 12 #[.agg #[.int .i64 A0, .bool true, .int .i64 A2, .int .i64 A3, .int .i64 A4, .int .i64 B0], .agg #[.int .i64 o, .bool true, .int .i64 B2, .int .i64 B3, .int .i64 B4, .int .i64 B5]] w fun e w' => e = .returned (.agg #[.int .i64 A0, .bool false, .int .i64 0, .int .i64 0, .int .i64 0, .int .i64 0]) ∧ Below w.heap.size w w'
  wk : ∀ w, Calls Tryd.prog 13 #[.agg #[.int .i64 A0, .bool true, .int .i64 A2, .int .i64 A3, .int .i64 A4, .int .i64 B0], .int .i64 63] w fun e w' => e = .returned (.agg #[.int .i64 A0, .bool false, .int .i64 0, .int .i64 0, .int .i64 0, .int .i64 0]) ∧ Below w.heap.size w w'
  nr : ∀ w, Calls Tryd.prog 14 #[.agg #[.int .i64 A0, .bool true, .int .i64 A2, .int .i64 A3, .int .i64 A4, .int .i64 B0], .int .i64 1] w fun e w' => e = .returned (.agg #[.int .i64 A0, .bool false, .int .i64 0, .int .i64 0, .int .i64 0, .int .i64 0]) ∧ Below w.heap.size w w'
  p2 : ∀ w, Calls Tryd.prog 11 #[.agg #[.int .i64 A0, .bool true, .int .i64 A2, .int .i64 A3, .int .i64 A4, .int .i64 B0], .int .i64 3] w fun e w' => e = .returned (.agg #[.int .i64 3, .bool false, .int .i64 0, .int .i64 0, .int .i64 0, .int .i64 0]) ∧ Below w.heap.size w w'
  sb : ∀ w, Calls Tryd.prog 8 #[.agg #[.int .i64 A0, .bool true, .int .i64 A2, .int .i64 A3, .int .i64 A4, .int .i64 B0], .agg #[.int .i64 B0, .bool B1, .int .i64 B2, .int .i64 B3, .int .i64 B4, .int .i64 B5]] w fun e w' => e = .returned (.agg #[.int .i64 A0, .bool false, .int .i64 0, .int .i64 0, .int .i64 0, .int .i64 0]) ∧ Below w.heap.size w w'
  tr : ∀ w, Errs a0 a1 a2 a3 w → Calls Tryd.prog 15 #[.agg #[.int .i64 A0, .bool true, .int .i64 A2, .int .i64 A3, .int .i64 A4, .int .i64 B0], .int .i64 A2, .int .i64 0] w fun e w' => e = .returned (.int .i64 2) ∧ Below w.heap.size w w'
/-- Where it may not. -/
structure Nld (A0 : Int) (A1 : Bool) (A2 A3 A4 A5 B0 : Int) (B1 : Bool) (B2 B3 B4 B5 k : Int) : Prop where
  im : ∀ w, Calls Tryd.prog 8 #[.agg #[.int .i64 A0, .bool A1, .int .i64 A2, .int .i64 A3, .int .i64 A4, .int .i64 A5], .agg #[.int .i64 B0, .bool B1, .int .i64 B2, .int .i64 B3, .int .i64 B4, .int .i64 B5]] w fun e w' => e = .returned (.agg #[.int .i64 k, .bool false, .int .i64 0, .int .i64 0, .int .i64 0, .int .i64 0]) ∧ Below w.heap.size w w'
  sp : ∀ w, Calls Tryd.prog 9 #[.agg #[.int .i64 A0, .bool A1, .int .i64 A2, .int .i64 A3, .int .i64 A4, .int .i64 A5], .agg #[.int .i64 B0, .bool B1, .int .i64 B2, .int .i64 B3, .int .i64 B4, .int .i64 B5]] w fun e w' => e = .returned (.agg #[.int .i64 k, .bool false, .int .i64 0, .int .i64 0, .int .i64 0, .int .i64 0]) ∧ Below w.heap.size w w'
  ba : ∀ w, Calls Tryd.prog 10 #[.agg #[.int .i64 A0, .bool A1, .int .i64 A2, .int .i64 A3, .int .i64 A4, .int .i64 A5]] w fun e w' => e = .returned (.agg #[.int .i64 k, .bool false, .int .i64 0, .int .i64 0, .int .i64 0, .int .i64 0]) ∧ Below w.heap.size w w'

theorem nld_mk (A0 : Int) (A1 : Bool) (A2 A3 A4 A5 B0 : Int) (B1 : Bool) (B2 B3 B4 B5 : Int) (h : (openB A0 A1 A2 A3 A4 A5 && mayB B0 B1 B2 B3 B4 B5) = false) : ∃ k, Nld A0 A1 A2 A3 A4 A5 B0 B1 B2 B3 B4 B5 k := by
  refine ⟨A0 % 65536, fun w => ?_, fun w => ?_, fun w => implBare_any A0 A1 A2 A3 A4 A5 w⟩
  · have := implSealBy_any A0 A1 A2 A3 A4 A5 B0 B1 B2 B3 B4 B5 w
    rw [h] at this
    exact this
  · have := specSealBy_any A0 A1 A2 A3 A4 A5 B0 B1 B2 B3 B4 B5 w
    rw [h] at this
    exact this

theorem not_open {n b t p s : Int} {i : Bool} (h : s ≠ 0) : openB n i b t p s = false := by
  unfold openB
  simp [h]
theorem sld_mk (a0 a1 a2 a3 : Addr) (A0 : Int) (A1 : Bool) (A2 A3 A4 A5 B0 : Int) (B1 : Bool) (B2 B3 B4 B5 : Int) (h : (openB A0 A1 A2 A3 A4 A5 && mayB B0 B1 B2 B3 B4 B5) = true) : A1 = true ∧ A5 = 0 ∧ ∃ o, Sld a0 a1 a2 a3 A0 A2 A3 A4 B0 B1 B2 B3 B4 B5 o := by
  have hk := (seal_made h).1
  have h' := h
  rw [Bool.and_eq_true] at h'
  obtain ⟨hA, hB⟩ := h'
  obtain ⟨rfl, rfl, hn, hn0, hn1⟩ := open_of hA
  have hm := may_of hB
  have hBo : openB B0 B1 B2 B3 B4 B5 = true := by
    unfold mayB at hB
    rw [Bool.and_eq_true] at hB
    exact hB.1
  have hr : rkB A0 true A2 A3 A4 B0 = true := by
    unfold rkB wokB
    rw [hk, decide_eq_true ⟨hn0, hn1⟩]
    rfl
  have hno : openB A0 true A2 A3 A4 B0 = false := not_open (by omega)
  have ho : wrap64 (B0 + 1) % 65536 = B0 + 1 := by unfold wrap64; omega
  refine ⟨rfl, rfl, B0 + 1, fun w => ?_, fun w => ?_, fun w => ?_, fun w => ?_, fun w => ?_, fun w => ?_, fun w => ?_, fun w => ?_, fun w => ?_, fun w he => ?_⟩
  · have := implSealBy_any A0 true A2 A3 A4 0 B0 B1 B2 B3 B4 B5 w
    rw [h, hn] at this
    exact this
  · have := specSealBy_any A0 true A2 A3 A4 0 B0 B1 B2 B3 B4 B5 w
    rw [h, hn] at this
    exact this
  · have := implPoint_any B0 B1 B2 B3 B4 B5 (wrap64 (B0 + 1)) w
    rw [hBo, ho] at this
    exact this
  · have := implOpenBy_any A0 true A2 A3 A4 B0 B0 B1 B2 B3 B4 B5 w
    have hc : opnB A0 true A2 A3 A4 B0 B0 B1 B2 B3 B4 B5 = true := by
      unfold opnB
      rw [hr, hB]
      simp
    rw [hc, hn] at this
    exact this
  · have := implOpenBy_any A0 true A2 A3 A4 B0 (B0 + 1) true B2 B3 B4 B5 w
    have hc : opnB A0 true A2 A3 A4 B0 (B0 + 1) true B2 B3 B4 B5 = false := by
      unfold opnB
      have : (B0 == B0 + 1) = false := by simp; omega
      rw [this]
      simp
    rw [hc, hn] at this
    exact this
  · have := implWeaken_any A0 true A2 A3 A4 B0 63 w
    rw [hno, hn] at this
    exact this
  · have := implNarrow_any A0 true A2 A3 A4 B0 1 w
    have hc : narB A0 true A2 A3 A4 B0 1 = false := by
      unfold narB
      rw [hno]
      rfl
    rw [hc, hn] at this
    exact this
  · have := implPoint_any A0 true A2 A3 A4 B0 3 w
    rw [hno] at this
    exact this
  · have := implSealBy_any A0 true A2 A3 A4 B0 B0 B1 B2 B3 B4 B5 w
    rw [hno, hn] at this
    exact this
  · have := implTry_any a0 a1 a2 a3 A0 true A2 A3 A4 B0 A2 0 w he
    have hc : tryZ A0 true A2 A3 A4 B0 A2 0 = 2 := by
      unfold tryZ
      have : (B0 != 0) = true := by simp; omega
      rw [hr, this]
      rfl
    rw [hc] at this
    exact this
end Go.Proofs.YtehmlneaahbdoaaDoor
