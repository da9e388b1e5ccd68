/- InsRead of the specification at all lines: what it answers. No condition. -/
import Derived.Test.YtdcghcbliajcpaaDoorTxtQ
import Derived.Test.YtdcghcbliajcpaaDoorTxtW
import Derived.Test.YtdcghcbliajcpaaDoorTxtM
import Derived.Test.YtdcghcbliajcpaaDoorTxtU
namespace Go.Proofs.YtdcghcbliajcpaaDoor
open Go.ChangeShapes Go.WideShapes Go.ChangeAt Go.RowKit
set_option maxRecDepth 100000

/-- The op as the specification looks it up: the last of the first k names that is nm. -/
def opF (nm : List UInt8) : Nat → Int
  | 0 => 0
  | k + 1 => if nmL ((k : Int) + 1) = nm then (k : Int) + 1 else opF nm k
theorem opF_range (nm : List UInt8) : ∀ k, 0 ≤ opF nm k ∧ opF nm k ≤ k
  | 0 => by simp [opF]
  | k + 1 => by
    have := opF_range nm k
    unfold opF
    split <;> omega
theorem opF_nm : ∀ {o : Int}, 1 ≤ o ∧ o ≤ 15 → opF (nmL o) 15 = o := by
  intro o h
  rcases op_cases h with rfl | rfl | rfl | rfl | rfl | rfl | rfl | rfl | rfl | rfl | rfl | rfl | rfl | rfl | rfl <;> decide

/-- Four numbers in a block. -/
structure Nu (w : World) (k : Nat) (a b c d : Int) : Prop where
  lt : k < w.heap.size
  c0 : w.cell? ⟨k, 0, none⟩ = some (.int .i64 a)
  c1 : w.cell? ⟨k, 1, none⟩ = some (.int .i64 b)
  c2 : w.cell? ⟨k, 2, none⟩ = some (.int .i64 c)
  c3 : w.cell? ⟨k, 3, none⟩ = some (.int .i64 d)
  f0 : w.frozen? ⟨k, 0, none⟩ = false
  f1 : w.frozen? ⟨k, 1, none⟩ = false
  f2 : w.frozen? ⟨k, 2, none⟩ = false
  f3 : w.frozen? ⟨k, 3, none⟩ = false
theorem Nu.keep {w w' : World} {k q : Nat} {a b c d : Int} (h : Nu w k a b c d) (g : KeepBut q w w') (hq : k ≠ q) : Nu w' k a b c d :=
  ⟨Nat.lt_of_lt_of_le h.lt g.size, (g.cell (p := ⟨k, 0, none⟩) h.lt hq).trans h.c0, (g.cell (p := ⟨k, 1, none⟩) h.lt hq).trans h.c1, (g.cell (p := ⟨k, 2, none⟩) h.lt hq).trans h.c2, (g.cell (p := ⟨k, 3, none⟩) h.lt hq).trans h.c3,
    (g.frozen (p := ⟨k, 0, none⟩) h.lt hq).trans h.f0, (g.frozen (p := ⟨k, 1, none⟩) h.lt hq).trans h.f1, (g.frozen (p := ⟨k, 2, none⟩) h.lt hq).trans h.f2, (g.frozen (p := ⟨k, 3, none⟩) h.lt hq).trans h.f3⟩
theorem Nu.below {w w' : World} {k : Nat} {a b c d : Int} (h : Nu w k a b c d) (g : Below w.heap.size w w') : Nu w' k a b c d := h.keep (q := w.heap.size) (KeepBut.ofBelow g) (Nat.ne_of_lt h.lt)
theorem Nu.new (w : World) (T : TypeId) (a b c d : Int) : Nu (w.alloc (.cells #[.int .i64 a, .int .i64 b, .int .i64 c, .int .i64 d] T)) w.heap.size a b c d :=
  ⟨by simp, by simp, by simp, by simp, by simp, by simp, by simp, by simp, by simp⟩
theorem Nu.set0 {w : World} {k : Nat} {a b c d : Int} (h : Nu w k a b c d) (m : Int) : Nu (w.setCell ⟨k, 0, none⟩ (.int .i64 m)) k m b c d := by
  obtain ⟨l, c0, c1, c2, c3, f0, f1, f2, f3⟩ := h
  exact ⟨Nat.lt_of_lt_of_le l ((Below.refl 0 w).setCell (p := ⟨k, 0, none⟩) (Nat.zero_le _) _).size, by go_simp, by go_simp, by go_simp, by go_simp, by go_simp, by go_simp, by go_simp, by go_simp⟩
theorem Nu.set1 {w : World} {k : Nat} {a b c d : Int} (h : Nu w k a b c d) (m : Int) : Nu (w.setCell ⟨k, 1, none⟩ (.int .i64 m)) k a m c d := by
  obtain ⟨l, c0, c1, c2, c3, f0, f1, f2, f3⟩ := h
  exact ⟨Nat.lt_of_lt_of_le l ((Below.refl 0 w).setCell (p := ⟨k, 1, none⟩) (Nat.zero_le _) _).size, by go_simp, by go_simp, by go_simp, by go_simp, by go_simp, by go_simp, by go_simp, by go_simp⟩
theorem Nu.set2 {w : World} {k : Nat} {a b c d : Int} (h : Nu w k a b c d) (m : Int) : Nu (w.setCell ⟨k, 2, none⟩ (.int .i64 m)) k a b m d := by
  obtain ⟨l, c0, c1, c2, c3, f0, f1, f2, f3⟩ := h
  exact ⟨Nat.lt_of_lt_of_le l ((Below.refl 0 w).setCell (p := ⟨k, 2, none⟩) (Nat.zero_le _) _).size, by go_simp, by go_simp, by go_simp, by go_simp, by go_simp, by go_simp, by go_simp, by go_simp⟩
theorem Nu.set3 {w : World} {k : Nat} {a b c d : Int} (h : Nu w k a b c d) (m : Int) : Nu (w.setCell ⟨k, 3, none⟩ (.int .i64 m)) k a b c m := by
  obtain ⟨l, c0, c1, c2, c3, f0, f1, f2, f3⟩ := h
  exact ⟨Nat.lt_of_lt_of_le l ((Below.refl 0 w).setCell (p := ⟨k, 3, none⟩) (Nat.zero_le _) _).size, by go_simp, by go_simp, by go_simp, by go_simp, by go_simp, by go_simp, by go_simp, by go_simp⟩

/-- One field as the specification reads it: the number, and what is left of the words. -/
def fldC (b : Bool) (ps : List (List UInt8)) : Int × List (List UInt8) := match b, ps with
  | true, p :: r => (numL p, r)
  | _, ps => (0, ps)
/-- The place that the specification tries. -/
def candL (l : List UInt8) : In :=
  let o := opF ((splitL 32 l).headD []) 15
  let a := fldC (bitB o 1) (splitL 32 l).tail
  let b := fldC (bitB o 2) a.2
  let c := fldC (bitB o 4) b.2
  let d := fldC (bitB o 8) c.2
  ⟨o, a.1, b.1, c.1, d.1⟩

theorem cand_back {x : In} (h : okI x = true) : candL (inL x) = x := by
  have F := fun c => (fd_read h c).2
  have F82 := F 82
  have F65 := F 65
  have F66 := F 66
  have F78 := F 78
  have hp := line_parts h
  obtain ⟨h1, h2, _⟩ := ok_range h
  have ho := opF_nm ⟨h1, h2⟩
  unfold candL
  rw [hp]
  simp only [List.headD_cons, List.tail_cons]
  rw [ho]
  clear hp ho F
  simp at F82 F65 F66 F78
  obtain ⟨o, r, a, b, n⟩ := x
  have hk : iokB o r a b n = true := h
  simp only at h1 h2 F82 F65 F66 F78 ⊢
  rcases op_cases ⟨h1, h2⟩ with rfl | rfl | rfl | rfl | rfl | rfl | rfl | rfl | rfl | rfl | rfl | rfl | rfl | rfl | rfl
  all_goals
    simp only [iok_1, iok_2, iok_3, iok_4, iok_5, iok_6, iok_7, iok_8, iok_9, iok_10, iok_11, iok_12, iok_13, iok_14, iok_15, eqB, Bool.and_eq_true, beq_iff_eq] at hk
    simp [bit_1_1, bit_1_2, bit_1_4, bit_1_8, bit_2_1, bit_2_2, bit_2_4, bit_2_8, bit_3_1, bit_3_2, bit_3_4, bit_3_8, bit_4_1, bit_4_2, bit_4_4, bit_4_8, bit_5_1, bit_5_2, bit_5_4, bit_5_8, bit_6_1, bit_6_2, bit_6_4, bit_6_8, bit_7_1, bit_7_2, bit_7_4, bit_7_8, bit_8_1, bit_8_2, bit_8_4, bit_8_8, bit_9_1, bit_9_2, bit_9_4, bit_9_8, bit_10_1, bit_10_2, bit_10_4, bit_10_8, bit_11_1, bit_11_2, bit_11_4, bit_11_8, bit_12_1, bit_12_2, bit_12_4, bit_12_8, bit_13_1, bit_13_2, bit_13_4, bit_13_8, bit_14_1, bit_14_2, bit_14_4, bit_14_8, bit_15_1, bit_15_2, bit_15_4, bit_15_8, flL, fldC, F82, F65, F66, F78]
    try omega
/-- What the specification answers. -/
theorem cand_read (l : List UInt8) : (if l = [] ∨ inL (candL l) ≠ l then none else some (candL l)) = readL l := by
  cases hr : readL l with
  | some x =>
    obtain ⟨h1, h2⟩ := read_some hr
    have hc : candL l = x := by rw [← h2]; exact cand_back h1
    rw [if_neg, hc]
    rintro (h | h)
    · rw [h, readL_nil] at hr; cases hr
    · exact h (by rw [hc]; exact h2)
  | none =>
    by_cases h : l = [] ∨ inL (candL l) ≠ l
    · rw [if_pos h]
    · exfalso
      have h1 : l ≠ [] := fun e => h (.inl e)
      have h2 : inL (candL l) = l := Classical.byContradiction fun e => h (.inr e)
      have h3 : okI (candL l) = true := by
        cases hk : okI (candL l) with
        | true => rfl
        | false => exact absurd (h2.symm.trans (inL_off hk)) h1
      have := read_back7 h3
      rw [h2, hr] at this
      cases this
end Go.Proofs.YtdcghcbliajcpaaDoor
