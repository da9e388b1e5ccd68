/- A place (Ins) of the laws as data: its five cells are opened. No condition. · Places (Ins) as values, in blocks of five cells; toIns and eqIns of the laws; what the specification says of ops and fields. No condition. · The kinds of place of the program: placeOf, ins, registerSet, fieldsFit, isRegister. No condition. · The method ins of each kind of place; registerSet. No condition. · InsOk, Word32 and Sets of the specification at all places: what they answer. No condition. · InsOk and Sets of the program at all places: they answer as the specification's. No condition. -/
import Derived.Test.YtpkhnajhamnggaaGreatDoorRows
import Derived.WalkKit
import Derived.ProofKit
import Derived.OpenShut
import Derived.Lib.SmallJoins
import Derived.Deep.Slices
import Derived.Deep.Strs
import Derived.Test.YtpkhnajhamnggaaGreatDoorZB
namespace Go.Proofs.YtpkhnajhamnggaaGreatDoor
open Go.ChangeShapes Go.WideShapes Go.ChangeAt Go.RowKit Go.Joins Go.Deep
set_option maxRecDepth 100000

theorem cellsIns : Tryz.prog.cellsOf 86 = 5 := by kernel_rfl
theorem cellsInt : Tryz.prog.cellsOf 3 = 1 := by kernel_rfl

section
variable {H : Type} {enc : TypeId × Value → H} {W : World} {base : Nat} {sp : Nat → Bool} {held : Bool}

theorem trod_struct5 {P : Program} {t : TypeId} {f0 f1 f2 f3 f4 : Field} {fuel : Nat} {cs : List Value} {x : DataW H × List MemPlace} (ht : P.underlying t = some (.struct #[f0, f1, f2, f3, f4])) (h : DataW.trod enc P W base sp held fuel t cs = some x) :
    ∃ (y0 y1 y2 y3 y4 : DataW H × List MemPlace) (n : Nat), cs.length = P.cellsOf t ∧
      DataW.trod enc P W base sp held n f0.type ((cs.drop f0.offset).take (P.cellsOf f0.type)) = some y0 ∧ DataW.trod enc P W base sp held n f1.type ((cs.drop f1.offset).take (P.cellsOf f1.type)) = some y1 ∧
      DataW.trod enc P W base sp held n f2.type ((cs.drop f2.offset).take (P.cellsOf f2.type)) = some y2 ∧ DataW.trod enc P W base sp held n f3.type ((cs.drop f3.offset).take (P.cellsOf f3.type)) = some y3 ∧
      DataW.trod enc P W base sp held n f4.type ((cs.drop f4.offset).take (P.cellsOf f4.type)) = some y4 := by
  obtain ⟨xs, n, _, rfl, hl, hlen, hf⟩ := DataW.trod_struct ht h
  match xs, hlen with
  | [y0, y1, y2, y3, y4], _ => exact ⟨y0, y1, y2, y3, y4, n, hl, by simpa using hf 0 f0 rfl, by simpa using hf 1 f1 rfl, by simpa using hf 2 f2 rfl, by simpa using hf 3 f3 rfl, by simpa using hf 4 f4 rfl⟩

/-- A place's five cells, opened. -/
theorem open_ins5 {fuel : Nat} {cs : List Value} {x : DataW H × List MemPlace} (h : DataW.trod enc Tryz.prog W base sp held fuel 86 cs = some x) :
    ∃ o r a b n : Int, cs = [.int .i64 o, .int .i64 r, .int .i64 a, .int .i64 b, .int .i64 n] := by
  obtain ⟨y0, y1, y2, y3, y4, n, hl, h0, h1, h2, h3, h4⟩ := trod_struct5 Tryz.underlying86 h
  rw [cellsIns] at hl
  match cs, hl with
  | [v0, v1, v2, v3, v4], _ =>
    simp only [cellsInt, List.drop, List.take] at h0 h1 h2 h3 h4
    obtain ⟨o, e0, _, _⟩ := DataW.trod_int Tryz.underlying3 h0
    obtain ⟨r, e1, _, _⟩ := DataW.trod_int Tryz.underlying3 h1
    obtain ⟨a, e2, _, _⟩ := DataW.trod_int Tryz.underlying3 h2
    obtain ⟨b, e3, _, _⟩ := DataW.trod_int Tryz.underlying3 h3
    obtain ⟨m, e4, _, _⟩ := DataW.trod_int Tryz.underlying3 h4
    simp at e0 e1 e2 e3 e4
    subst e0 e1 e2 e3 e4
    exact ⟨o, r, a, b, m, rfl⟩

/-- A place by value, opened. -/
theorem open_ins {r : Reach} {b0 : Nat} {v : Value} {d : DataW H} {p : List MemPlace} (hv : Value.okWide Tryz.prog W r b0 86 v) (h : DataW.Trod enc Tryz.prog W base sp held 86 v d p) :
    ∃ o r a b n : Int, v = .agg #[.int .i64 o, .int .i64 r, .int .i64 a, .int .i64 b, .int .i64 n] := by
  obtain ⟨cs, rfl, hsz⟩ := okWide_struct Tryz.underlying86 hv
  obtain ⟨fuel, hf⟩ := h
  obtain ⟨o, r, a, b, n, hc⟩ := open_ins5 hf
  obtain ⟨l⟩ := cs
  simp [Value.cells] at hc
  subst hc
  exact ⟨o, r, a, b, n, rfl⟩
end
end Go.Proofs.YtpkhnajhamnggaaGreatDoor

namespace Go.Proofs.YtpkhnajhamnggaaGreatDoor
open Go.ChangeShapes Go.WideShapes Go.ChangeAt Go.RowKit

/-- A place in block k. -/
structure Five (w : World) (k : Nat) (o r a b n : Int) : Prop where
  lt : k < w.heap.size
  c0 : w.cell? ⟨k, 0, none⟩ = some (.int .i64 o)
  c1 : w.cell? ⟨k, 1, none⟩ = some (.int .i64 r)
  c2 : w.cell? ⟨k, 2, none⟩ = some (.int .i64 a)
  c3 : w.cell? ⟨k, 3, none⟩ = some (.int .i64 b)
  c4 : w.cell? ⟨k, 4, none⟩ = some (.int .i64 n)
  f0 : w.frozen? ⟨k, 0, none⟩ = false
  f1 : w.frozen? ⟨k, 1, none⟩ = false
  f2 : w.frozen? ⟨k, 2, none⟩ = false
  f3 : w.frozen? ⟨k, 3, none⟩ = false
  f4 : w.frozen? ⟨k, 4, none⟩ = false
section
variable {w w' : World} {k q : Nat} {o r a b n : Int}
theorem Five.keep (h : Five w k o r a b n) (g : KeepBut q w w') (hq : k ≠ q) : Five w' k o r a b n :=
  ⟨Nat.lt_of_lt_of_le h.lt g.size, (g.cell (p := ⟨k, 0, none⟩) h.lt hq).trans h.c0, (g.cell (p := ⟨k, 1, none⟩) h.lt hq).trans h.c1, (g.cell (p := ⟨k, 2, none⟩) h.lt hq).trans h.c2, (g.cell (p := ⟨k, 3, none⟩) h.lt hq).trans h.c3, (g.cell (p := ⟨k, 4, none⟩) h.lt hq).trans h.c4,
    (g.frozen (p := ⟨k, 0, none⟩) h.lt hq).trans h.f0, (g.frozen (p := ⟨k, 1, none⟩) h.lt hq).trans h.f1, (g.frozen (p := ⟨k, 2, none⟩) h.lt hq).trans h.f2, (g.frozen (p := ⟨k, 3, none⟩) h.lt hq).trans h.f3, (g.frozen (p := ⟨k, 4, none⟩) h.lt hq).trans h.f4⟩
theorem Five.below (h : Five w k o r a b n) (g : Below w.heap.size w w') : Five w' k o r a b n := h.keep (q := w.heap.size) (KeepBut.ofBelow g) (Nat.ne_of_lt h.lt)
theorem Five.alloc (h : Five w k o r a b n) (x : Obj) : Five (w.alloc x) k o r a b n := h.keep (q := w.heap.size) ((KeepBut.refl _ _).alloc x) (Nat.ne_of_lt h.lt)
theorem Five.drew (h : Five w k o r a b n) : Five w.drew k o r a b n := h.below ((Below.refl _ _).drew)
theorem Five.other (h : Five w k o r a b n) {k' : Nat} (hr : k ≠ k') (j : Nat) (u : Value) : Five (w.setCell ⟨k', j, none⟩ u) k o r a b n := h.keep (q := k') ((KeepBut.refl _ _).setCell j u) hr
theorem Five.set0 (h : Five w k o r a b n) (m : Int) : Five (w.setCell ⟨k, 0, none⟩ (.int .i64 m)) k m r a b n := by
  obtain ⟨l, c0, c1, c2, c3, c4, f0, f1, f2, f3, f4⟩ := h
  exact ⟨Nat.lt_of_lt_of_le l ((Below.refl 0 w).setCell (p := ⟨k, 0, none⟩) (Nat.zero_le _) _).size, by go_simp, by go_simp, by go_simp, by go_simp, by go_simp, by go_simp, by go_simp, by go_simp, by go_simp, by go_simp⟩
theorem Five.set1 (h : Five w k o r a b n) (m : Int) : Five (w.setCell ⟨k, 1, none⟩ (.int .i64 m)) k o m a b n := by
  obtain ⟨l, c0, c1, c2, c3, c4, f0, f1, f2, f3, f4⟩ := h
  exact ⟨Nat.lt_of_lt_of_le l ((Below.refl 0 w).setCell (p := ⟨k, 1, none⟩) (Nat.zero_le _) _).size, by go_simp, by go_simp, by go_simp, by go_simp, by go_simp, by go_simp, by go_simp, by go_simp, by go_simp, by go_simp⟩
theorem Five.set2 (h : Five w k o r a b n) (m : Int) : Five (w.setCell ⟨k, 2, none⟩ (.int .i64 m)) k o r m b n := by
  obtain ⟨l, c0, c1, c2, c3, c4, f0, f1, f2, f3, f4⟩ := h
  exact ⟨Nat.lt_of_lt_of_le l ((Below.refl 0 w).setCell (p := ⟨k, 2, none⟩) (Nat.zero_le _) _).size, by go_simp, by go_simp, by go_simp, by go_simp, by go_simp, by go_simp, by go_simp, by go_simp, by go_simp, by go_simp⟩
theorem Five.set3 (h : Five w k o r a b n) (m : Int) : Five (w.setCell ⟨k, 3, none⟩ (.int .i64 m)) k o r a m n := by
  obtain ⟨l, c0, c1, c2, c3, c4, f0, f1, f2, f3, f4⟩ := h
  exact ⟨Nat.lt_of_lt_of_le l ((Below.refl 0 w).setCell (p := ⟨k, 3, none⟩) (Nat.zero_le _) _).size, by go_simp, by go_simp, by go_simp, by go_simp, by go_simp, by go_simp, by go_simp, by go_simp, by go_simp, by go_simp⟩
theorem Five.set4 (h : Five w k o r a b n) (m : Int) : Five (w.setCell ⟨k, 4, none⟩ (.int .i64 m)) k o r a b m := by
  obtain ⟨l, c0, c1, c2, c3, c4, f0, f1, f2, f3, f4⟩ := h
  exact ⟨Nat.lt_of_lt_of_le l ((Below.refl 0 w).setCell (p := ⟨k, 4, none⟩) (Nat.zero_le _) _).size, by go_simp, by go_simp, by go_simp, by go_simp, by go_simp, by go_simp, by go_simp, by go_simp, by go_simp, by go_simp⟩
end
theorem Five.new (w : World) (o r a b n : Int) (T : TypeId) : Five (w.alloc (.cells #[.int .i64 o, .int .i64 r, .int .i64 a, .int .i64 b, .int .i64 n] T)) w.heap.size o r a b n :=
  ⟨by simp, by simp, by simp, by simp, by simp, by simp, by simp, by simp, by simp, by simp, by simp⟩
theorem Five.second (w : World) (x : Obj) (o r a b n : Int) (T : TypeId) : Five ((w.alloc x).alloc (.cells #[.int .i64 o, .int .i64 r, .int .i64 a, .int .i64 b, .int .i64 n] T)) (w.heap.size + 1) o r a b n := by
  have h := Five.new (w.alloc x) o r a b n T
  simpa using h
theorem Aft.five {W w : World} (h : Aft W w) {k : Nat} {o r a b n : Int} (f : Five W k o r a b n) : Five w k o r a b n := f.below h

set_option maxHeartbeats 400000 in
theorem eqIns_same (o r a b n : Int) (w : World) :
    Calls Tryz.prog 47 #[.agg #[.int .i64 o, .int .i64 r, .int .i64 a, .int .i64 b, .int .i64 n], .agg #[.int .i64 o, .int .i64 r, .int .i64 a, .int .i64 b, .int .i64 n]] w fun e w' => e = .returned (.bool true) ∧ Below w.heap.size w w' := by
  go_enter Tryz.func47, Tryz.ntmps47
  go_wp2
  go_ret
  exact ⟨rfl, ((Below.refl _ _).alloc (Nat.le_refl _) _).alloc (by simp) _⟩

set_option maxHeartbeats 400000 in
theorem toIns_any (o r a b n : Int) (w : World) :
    Calls Tryz.prog 37 #[.agg #[.int .i64 o, .int .i64 r, .int .i64 a, .int .i64 b, .int .i64 n]] w fun e w' => e = .returned (.agg #[.int .i64 o, .int .i64 r, .int .i64 a, .int .i64 b, .int .i64 n]) ∧ Below w.heap.size w w' := by
  go_enter Tryz.func37, Tryz.ntmps37
  go_wp2
  refine bodyPost_ret (v := .agg #[.int .i64 o, .int .i64 r, .int .i64 a, .int .i64 b, .int .i64 n]) (by simp [results, Tryz.results37, go_sem]) rfl ⟨rfl, ?_⟩
  repeat (first | exact Below.refl _ _ | refine Below.alloc ?_ (by simp; try omega) _ | refine Below.setCell ?_ (by simp; try omega) _)

set_option maxHeartbeats 400000 in
theorem lin_any (a lo hi : Int) (w : World) :
    Calls Tryz.prog 74 #[.int .i64 a, .int .i64 lo, .int .i64 hi] w fun e w' => e = .returned (.bool (decide (lo ≤ a ∧ a ≤ hi))) ∧ w' = w := by
  have h : decide (lo ≤ a ∧ a ≤ hi) = (decide (lo ≤ a) && decide (a ≤ hi)) := by simp
  rw [h]
  by_cases h0 : lo ≤ a <;> by_cases h1 : a ≤ hi <;> simp only [h0, h1, decide_true, decide_false, Bool.true_and, Bool.false_and, Bool.and_true]
  all_goals
    go_enter Tryz.func74, Tryz.ntmps74
    go_wp2
    go_ret
    exact ⟨rfl, rfl⟩

/-- What an op has, by the chapter's list: R 1, A 2, B 4, N 8. -/
def hasZ (o : Int) : Int :=
  if o = 1 then 9 else if o = 2 then 7 else if o = 3 then 3 else if o = 4 then 7 else if o = 5 then 7 else if o = 6 then 15 else if o = 7 then 7 else if o = 8 then 7 else if o = 9 then 3 else if o = 10 then 11 else if o = 11 then 14 else if o = 12 then 3 else if o = 13 then 10 else if o = 14 then 2 else 0
theorem op_cases {o : Int} (h : 1 ≤ o ∧ o ≤ 15) : o = 1 ∨ o = 2 ∨ o = 3 ∨ o = 4 ∨ o = 5 ∨ o = 6 ∨ o = 7 ∨ o = 8 ∨ o = 9 ∨ o = 10 ∨ o = 11 ∨ o = 12 ∨ o = 13 ∨ o = 14 ∨ o = 15 := by omega
theorem has_none {o : Int} (h : ¬ (1 ≤ o ∧ o ≤ 15)) : hasZ o = 0 := by
  unfold hasZ
  repeat' (rw [if_neg (by omega)])

set_option maxHeartbeats 2000000 in
theorem hasI_any (o : Int) (w : World) :
    Calls Tryz.prog 117 #[.int .i64 o] w fun e w' => e = .returned (.int .i64 (hasZ o)) ∧ Below w.heap.size w w' := by
  by_cases h : 1 ≤ o ∧ o ≤ 15
  · have s1 := lin_any o 1 15
    rw [decide_eq_true h] at s1
    have S1 : Hid _ := s1
    clear s1
    rcases op_cases h with rfl | rfl | rfl | rfl | rfl | rfl | rfl | rfl | rfl | rfl | rfl | rfl | rfl | rfl | rfl
    all_goals
      go_enter Tryz.func117, Tryz.ntmps117
      go_wp2_with fail
      refine (S1.out _).mono ?_
      rintro e w1 ⟨rfl, rfl⟩
      go_wp2
      go_ret
      exact ⟨rfl, (Below.refl _ _).alloc (Nat.le_refl _) _⟩
  · have s1 := lin_any o 1 15
    rw [decide_eq_false h] at s1
    have S1 : Hid _ := s1
    clear s1
    rw [has_none h]
    go_enter Tryz.func117, Tryz.ntmps117
    go_wp2_with fail
    refine (S1.out _).mono ?_
    rintro e w1 ⟨rfl, rfl⟩
    go_wp2
    go_ret
    exact ⟨rfl, Below.refl _ _⟩

/-- What l6Field answers. -/
def fldB (x : Int) (h : Bool) : Bool := decide (0 ≤ x ∧ x ≤ 7) && (h || x == 0)
set_option maxHeartbeats 1000000 in
theorem field_any (x : Int) (h : Bool) (w : World) :
    Calls Tryz.prog 118 #[.int .i64 x, .bool h] w fun e w' => e = .returned (.bool (fldB x h)) ∧ w' = w := by
  have s1 := lin_any x 0 7
  unfold fldB
  generalize decide (0 ≤ x ∧ x ≤ 7) = y at s1 ⊢
  have S1 : Hid _ := s1
  clear s1
  go_enter Tryz.func118, Tryz.ntmps118
  go_wp2_with fail
  refine (S1.out _).mono ?_
  rintro e w1 ⟨rfl, rfl⟩
  cases y
  · go_wp2
    go_ret
    exact ⟨rfl, rfl⟩
  · cases h
    · go_wp2
      go_ret
      exact ⟨rfl, rfl⟩
    · go_wp2
      go_ret
      exact ⟨rfl, rfl⟩
end Go.Proofs.YtpkhnajhamnggaaGreatDoor

namespace Go.Proofs.YtpkhnajhamnggaaGreatDoor
open Go.ChangeShapes Go.WideShapes Go.ChangeAt Go.RowKit

set_option maxHeartbeats 400000 in
theorem isReg_any (a : Int) (w : World) :
    Calls Tryz.prog 89 #[.int .i64 a] w fun e w' => e = .returned (.bool (decide (0 ≤ a ∧ a ≤ 7))) ∧ w' = w := by
  have h : decide (0 ≤ a ∧ a ≤ 7) = (decide (0 ≤ a) && decide (a < 8)) := by
    by_cases h0 : 0 ≤ a <;> by_cases h1 : a < 8 <;> simp [h0, h1] <;> omega
  rw [h]
  by_cases h0 : 0 ≤ a <;> by_cases h1 : a < 8 <;> simp only [h0, h1, decide_true, decide_false, Bool.true_and, Bool.false_and, Bool.and_true]
  all_goals
    go_enter Tryz.func89, Tryz.ntmps89
    go_wp2
    go_ret
    exact ⟨rfl, rfl⟩

/-- What fieldsFit answers. -/
def fitB (r a b n : Int) : Bool := decide (0 ≤ r ∧ r ≤ 7) && (decide (0 ≤ a ∧ a ≤ 7) && (decide (0 ≤ b ∧ b ≤ 7) && decide (-128 ≤ n ∧ n ≤ 127)))
set_option maxRecDepth 100000 in
set_option maxHeartbeats 2000000 in
theorem fits_any (o r a b n : Int) (w : World) :
    Calls Tryz.prog 140 #[.agg #[.int .i64 o, .int .i64 r, .int .i64 a, .int .i64 b, .int .i64 n]] w fun e w' => e = .returned (.bool (fitB r a b n)) ∧ Below w.heap.size w w' := by
  have s1 := isReg_any r
  have s2 := isReg_any a
  have s3 := isReg_any b
  unfold fitB
  have h : decide (-128 ≤ n ∧ n ≤ 127) = (decide (-128 ≤ n) && decide (n ≤ 127)) := by simp
  rw [h]
  clear h
  generalize decide (0 ≤ r ∧ r ≤ 7) = y1 at s1 ⊢
  generalize decide (0 ≤ a ∧ a ≤ 7) = y2 at s2 ⊢
  generalize decide (0 ≤ b ∧ b ≤ 7) = y3 at s3 ⊢
  have S1 : Hid _ := s1
  have S2 : Hid _ := s2
  have S3 : Hid _ := s3
  clear s1 s2 s3
  go_enter Tryz.func140, Tryz.ntmps140
  go_wp2_with fail
  refine (S1.out _).mono ?_
  rintro e w' ⟨rfl, rfl⟩
  cases y1
  · go_wp2
    go_ret
    exact ⟨rfl, (Below.refl _ _).alloc (Nat.le_refl _) _⟩
  go_wp2_with fail
  refine (S2.out _).mono ?_
  rintro e w' ⟨rfl, rfl⟩
  cases y2
  · go_wp2
    go_ret
    exact ⟨rfl, (Below.refl _ _).alloc (Nat.le_refl _) _⟩
  go_wp2_with fail
  refine (S3.out _).mono ?_
  rintro e w' ⟨rfl, rfl⟩
  cases y3
  · go_wp2
    go_ret
    exact ⟨rfl, (Below.refl _ _).alloc (Nat.le_refl _) _⟩
  by_cases h0 : -128 ≤ n
  · by_cases h1 : n ≤ 127
    · go_wp2
      go_ret
      exact ⟨by simp [h0, h1], (Below.refl _ _).alloc (Nat.le_refl _) _⟩
    · go_wp2
      go_ret
      exact ⟨by simp; omega, (Below.refl _ _).alloc (Nat.le_refl _) _⟩
  · go_wp2
    go_ret
    exact ⟨by simp; omega, (Below.refl _ _).alloc (Nat.le_refl _) _⟩

/-- The place that placeOf answers: of nine kinds. -/
def plcV (o r a b n : Int) : Value :=
  if o = 1 then .iface 184 (.agg #[.int .i64 r, .int .i64 n])
  else if o = 3 ∨ o = 9 ∨ o = 12 then .iface 186 (.agg #[.int .i64 o, .int .i64 r, .int .i64 a])
  else if o = 2 ∨ o = 4 ∨ o = 5 ∨ o = 7 ∨ o = 8 then .iface 188 (.agg #[.int .i64 o, .int .i64 r, .int .i64 a, .int .i64 b])
  else if o = 6 then .iface 190 (.agg #[.int .i64 r, .int .i64 a, .int .i64 b, .int .i64 n])
  else if o = 10 then .iface 192 (.agg #[.int .i64 r, .int .i64 a, .int .i64 n])
  else if o = 11 then .iface 194 (.agg #[.int .i64 a, .int .i64 b, .int .i64 n])
  else if o = 13 then .iface 196 (.agg #[.int .i64 a, .int .i64 n])
  else if o = 14 then .iface 198 (.agg #[.int .i64 a])
  else if o = 15 then .iface 200 (.agg #[])
  else .nilIface

set_option maxRecDepth 100000 in
set_option maxHeartbeats 4000000 in
theorem placeOf_any (o r a b n : Int) (w : World) :
    Calls Tryz.prog 139 #[.agg #[.int .i64 o, .int .i64 r, .int .i64 a, .int .i64 b, .int .i64 n]] w fun e w' => e = .returned (.tuple #[plcV o r a b n, .bool (decide (1 ≤ o ∧ o ≤ 15))]) ∧ Below w.heap.size w w' := by
  by_cases h : 1 ≤ o ∧ o ≤ 15
  · rcases op_cases h with rfl | rfl | rfl | rfl | rfl | rfl | rfl | rfl | rfl | rfl | rfl | rfl | rfl | rfl | rfl
    all_goals
      go_enter Tryz.func139, Tryz.ntmps139
      go_wp2
      go_ret2
      refine ⟨rfl, ?_⟩
      repeat (first | exact Below.refl _ _ | refine Below.alloc ?_ (by simp; try omega) _ | refine Below.setCell ?_ (by simp; try omega) _)
  · have e : plcV o r a b n = .nilIface := by
      unfold plcV
      repeat' (rw [if_neg (by omega)])
    rw [e, decide_eq_false h]
    clear e
    go_enter Tryz.func139, Tryz.ntmps139
    go_wp2
    go_ret2
    refine ⟨rfl, ?_⟩
    repeat (first | exact Below.refl _ _ | refine Below.alloc ?_ (by simp; try omega) _ | refine Below.setCell ?_ (by simp; try omega) _)
end Go.Proofs.YtpkhnajhamnggaaGreatDoor

namespace Go.Proofs.YtpkhnajhamnggaaGreatDoor
open Go.ChangeShapes Go.WideShapes Go.ChangeAt Go.RowKit

set_option maxHeartbeats 1000000 in
theorem ins_number (r n : Int) (w : World) :
    Calls Tryz.prog 217 #[.agg #[.int .i64 r, .int .i64 n]] w fun e w' => e = .returned (.agg #[.int .i64 1, .int .i64 r, .int .i64 0, .int .i64 0, .int .i64 n]) ∧ Below w.heap.size w w' := by
  go_enter Tryz.func217, Tryz.ntmps217
  go_wp2
  refine bodyPost_ret (v := .agg #[.int .i64 1, .int .i64 r, .int .i64 0, .int .i64 0, .int .i64 n]) (by simp [results, Tryz.results217, go_sem]) rfl ⟨rfl, ?_⟩
  repeat (first | exact Below.refl _ _ | refine Below.alloc ?_ (by simp; try omega) _ | refine Below.setCell ?_ (by simp; try omega) _)
theorem meth_number (v : Value) (w : World) : (Go.method 370 184 v "loop.example/g00249/impl.ins").run Tryz.prog w = .ok (217, v) w := by kernel_rfl
theorem as_number_number (v : Value) (w : World) : (Instr.typeAssert (.iface 184 v) 168 184 true).run Tryz.prog w = .ok (.tuple #[v, .bool true]) w := by kernel_rfl
set_option maxHeartbeats 1000000 in
theorem ins_one (o r a : Int) (w : World) :
    Calls Tryz.prog 218 #[.agg #[.int .i64 o, .int .i64 r, .int .i64 a]] w fun e w' => e = .returned (.agg #[.int .i64 o, .int .i64 r, .int .i64 a, .int .i64 0, .int .i64 0]) ∧ Below w.heap.size w w' := by
  go_enter Tryz.func218, Tryz.ntmps218
  go_wp2
  refine bodyPost_ret (v := .agg #[.int .i64 o, .int .i64 r, .int .i64 a, .int .i64 0, .int .i64 0]) (by simp [results, Tryz.results218, go_sem]) rfl ⟨rfl, ?_⟩
  repeat (first | exact Below.refl _ _ | refine Below.alloc ?_ (by simp; try omega) _ | refine Below.setCell ?_ (by simp; try omega) _)
theorem meth_one (v : Value) (w : World) : (Go.method 370 186 v "loop.example/g00249/impl.ins").run Tryz.prog w = .ok (218, v) w := by kernel_rfl
theorem as_one_number (v : Value) (w : World) : (Instr.typeAssert (.iface 186 v) 168 184 true).run Tryz.prog w = .ok (.tuple #[.agg #[.int .i64 0, .int .i64 0], .bool false]) w := by kernel_rfl
theorem as_one_one (v : Value) (w : World) : (Instr.typeAssert (.iface 186 v) 168 186 true).run Tryz.prog w = .ok (.tuple #[v, .bool true]) w := by kernel_rfl
set_option maxHeartbeats 1000000 in
theorem ins_two (o r a b : Int) (w : World) :
    Calls Tryz.prog 219 #[.agg #[.int .i64 o, .int .i64 r, .int .i64 a, .int .i64 b]] w fun e w' => e = .returned (.agg #[.int .i64 o, .int .i64 r, .int .i64 a, .int .i64 b, .int .i64 0]) ∧ Below w.heap.size w w' := by
  go_enter Tryz.func219, Tryz.ntmps219
  go_wp2
  refine bodyPost_ret (v := .agg #[.int .i64 o, .int .i64 r, .int .i64 a, .int .i64 b, .int .i64 0]) (by simp [results, Tryz.results219, go_sem]) rfl ⟨rfl, ?_⟩
  repeat (first | exact Below.refl _ _ | refine Below.alloc ?_ (by simp; try omega) _ | refine Below.setCell ?_ (by simp; try omega) _)
theorem meth_two (v : Value) (w : World) : (Go.method 370 188 v "loop.example/g00249/impl.ins").run Tryz.prog w = .ok (219, v) w := by kernel_rfl
theorem as_two_number (v : Value) (w : World) : (Instr.typeAssert (.iface 188 v) 168 184 true).run Tryz.prog w = .ok (.tuple #[.agg #[.int .i64 0, .int .i64 0], .bool false]) w := by kernel_rfl
theorem as_two_one (v : Value) (w : World) : (Instr.typeAssert (.iface 188 v) 168 186 true).run Tryz.prog w = .ok (.tuple #[.agg #[.int .i64 0, .int .i64 0, .int .i64 0], .bool false]) w := by kernel_rfl
theorem as_two_two (v : Value) (w : World) : (Instr.typeAssert (.iface 188 v) 168 188 true).run Tryz.prog w = .ok (.tuple #[v, .bool true]) w := by kernel_rfl
set_option maxHeartbeats 1000000 in
theorem ins_point (r a b n : Int) (w : World) :
    Calls Tryz.prog 220 #[.agg #[.int .i64 r, .int .i64 a, .int .i64 b, .int .i64 n]] w fun e w' => e = .returned (.agg #[.int .i64 6, .int .i64 r, .int .i64 a, .int .i64 b, .int .i64 n]) ∧ Below w.heap.size w w' := by
  go_enter Tryz.func220, Tryz.ntmps220
  go_wp2
  refine bodyPost_ret (v := .agg #[.int .i64 6, .int .i64 r, .int .i64 a, .int .i64 b, .int .i64 n]) (by simp [results, Tryz.results220, go_sem]) rfl ⟨rfl, ?_⟩
  repeat (first | exact Below.refl _ _ | refine Below.alloc ?_ (by simp; try omega) _ | refine Below.setCell ?_ (by simp; try omega) _)
theorem meth_point (v : Value) (w : World) : (Go.method 370 190 v "loop.example/g00249/impl.ins").run Tryz.prog w = .ok (220, v) w := by kernel_rfl
theorem as_point_number (v : Value) (w : World) : (Instr.typeAssert (.iface 190 v) 168 184 true).run Tryz.prog w = .ok (.tuple #[.agg #[.int .i64 0, .int .i64 0], .bool false]) w := by kernel_rfl
theorem as_point_one (v : Value) (w : World) : (Instr.typeAssert (.iface 190 v) 168 186 true).run Tryz.prog w = .ok (.tuple #[.agg #[.int .i64 0, .int .i64 0, .int .i64 0], .bool false]) w := by kernel_rfl
theorem as_point_two (v : Value) (w : World) : (Instr.typeAssert (.iface 190 v) 168 188 true).run Tryz.prog w = .ok (.tuple #[.agg #[.int .i64 0, .int .i64 0, .int .i64 0, .int .i64 0], .bool false]) w := by kernel_rfl
theorem as_point_point (v : Value) (w : World) : (Instr.typeAssert (.iface 190 v) 168 190 true).run Tryz.prog w = .ok (.tuple #[v, .bool true]) w := by kernel_rfl
set_option maxHeartbeats 1000000 in
theorem ins_load (r a n : Int) (w : World) :
    Calls Tryz.prog 221 #[.agg #[.int .i64 r, .int .i64 a, .int .i64 n]] w fun e w' => e = .returned (.agg #[.int .i64 10, .int .i64 r, .int .i64 a, .int .i64 0, .int .i64 n]) ∧ Below w.heap.size w w' := by
  go_enter Tryz.func221, Tryz.ntmps221
  go_wp2
  refine bodyPost_ret (v := .agg #[.int .i64 10, .int .i64 r, .int .i64 a, .int .i64 0, .int .i64 n]) (by simp [results, Tryz.results221, go_sem]) rfl ⟨rfl, ?_⟩
  repeat (first | exact Below.refl _ _ | refine Below.alloc ?_ (by simp; try omega) _ | refine Below.setCell ?_ (by simp; try omega) _)
theorem meth_load (v : Value) (w : World) : (Go.method 370 192 v "loop.example/g00249/impl.ins").run Tryz.prog w = .ok (221, v) w := by kernel_rfl
theorem as_load_number (v : Value) (w : World) : (Instr.typeAssert (.iface 192 v) 168 184 true).run Tryz.prog w = .ok (.tuple #[.agg #[.int .i64 0, .int .i64 0], .bool false]) w := by kernel_rfl
theorem as_load_one (v : Value) (w : World) : (Instr.typeAssert (.iface 192 v) 168 186 true).run Tryz.prog w = .ok (.tuple #[.agg #[.int .i64 0, .int .i64 0, .int .i64 0], .bool false]) w := by kernel_rfl
theorem as_load_two (v : Value) (w : World) : (Instr.typeAssert (.iface 192 v) 168 188 true).run Tryz.prog w = .ok (.tuple #[.agg #[.int .i64 0, .int .i64 0, .int .i64 0, .int .i64 0], .bool false]) w := by kernel_rfl
theorem as_load_point (v : Value) (w : World) : (Instr.typeAssert (.iface 192 v) 168 190 true).run Tryz.prog w = .ok (.tuple #[.agg #[.int .i64 0, .int .i64 0, .int .i64 0, .int .i64 0], .bool false]) w := by kernel_rfl
theorem as_load_load (v : Value) (w : World) : (Instr.typeAssert (.iface 192 v) 168 192 true).run Tryz.prog w = .ok (.tuple #[v, .bool true]) w := by kernel_rfl
set_option maxHeartbeats 1000000 in
theorem ins_store (a b n : Int) (w : World) :
    Calls Tryz.prog 222 #[.agg #[.int .i64 a, .int .i64 b, .int .i64 n]] w fun e w' => e = .returned (.agg #[.int .i64 11, .int .i64 0, .int .i64 a, .int .i64 b, .int .i64 n]) ∧ Below w.heap.size w w' := by
  go_enter Tryz.func222, Tryz.ntmps222
  go_wp2
  refine bodyPost_ret (v := .agg #[.int .i64 11, .int .i64 0, .int .i64 a, .int .i64 b, .int .i64 n]) (by simp [results, Tryz.results222, go_sem]) rfl ⟨rfl, ?_⟩
  repeat (first | exact Below.refl _ _ | refine Below.alloc ?_ (by simp; try omega) _ | refine Below.setCell ?_ (by simp; try omega) _)
theorem meth_store (v : Value) (w : World) : (Go.method 370 194 v "loop.example/g00249/impl.ins").run Tryz.prog w = .ok (222, v) w := by kernel_rfl
theorem as_store_number (v : Value) (w : World) : (Instr.typeAssert (.iface 194 v) 168 184 true).run Tryz.prog w = .ok (.tuple #[.agg #[.int .i64 0, .int .i64 0], .bool false]) w := by kernel_rfl
theorem as_store_one (v : Value) (w : World) : (Instr.typeAssert (.iface 194 v) 168 186 true).run Tryz.prog w = .ok (.tuple #[.agg #[.int .i64 0, .int .i64 0, .int .i64 0], .bool false]) w := by kernel_rfl
theorem as_store_two (v : Value) (w : World) : (Instr.typeAssert (.iface 194 v) 168 188 true).run Tryz.prog w = .ok (.tuple #[.agg #[.int .i64 0, .int .i64 0, .int .i64 0, .int .i64 0], .bool false]) w := by kernel_rfl
theorem as_store_point (v : Value) (w : World) : (Instr.typeAssert (.iface 194 v) 168 190 true).run Tryz.prog w = .ok (.tuple #[.agg #[.int .i64 0, .int .i64 0, .int .i64 0, .int .i64 0], .bool false]) w := by kernel_rfl
theorem as_store_load (v : Value) (w : World) : (Instr.typeAssert (.iface 194 v) 168 192 true).run Tryz.prog w = .ok (.tuple #[.agg #[.int .i64 0, .int .i64 0, .int .i64 0], .bool false]) w := by kernel_rfl
set_option maxHeartbeats 1000000 in
theorem ins_zero (a n : Int) (w : World) :
    Calls Tryz.prog 223 #[.agg #[.int .i64 a, .int .i64 n]] w fun e w' => e = .returned (.agg #[.int .i64 13, .int .i64 0, .int .i64 a, .int .i64 0, .int .i64 n]) ∧ Below w.heap.size w w' := by
  go_enter Tryz.func223, Tryz.ntmps223
  go_wp2
  refine bodyPost_ret (v := .agg #[.int .i64 13, .int .i64 0, .int .i64 a, .int .i64 0, .int .i64 n]) (by simp [results, Tryz.results223, go_sem]) rfl ⟨rfl, ?_⟩
  repeat (first | exact Below.refl _ _ | refine Below.alloc ?_ (by simp; try omega) _ | refine Below.setCell ?_ (by simp; try omega) _)
theorem meth_zero (v : Value) (w : World) : (Go.method 370 196 v "loop.example/g00249/impl.ins").run Tryz.prog w = .ok (223, v) w := by kernel_rfl
theorem as_zero_number (v : Value) (w : World) : (Instr.typeAssert (.iface 196 v) 168 184 true).run Tryz.prog w = .ok (.tuple #[.agg #[.int .i64 0, .int .i64 0], .bool false]) w := by kernel_rfl
theorem as_zero_one (v : Value) (w : World) : (Instr.typeAssert (.iface 196 v) 168 186 true).run Tryz.prog w = .ok (.tuple #[.agg #[.int .i64 0, .int .i64 0, .int .i64 0], .bool false]) w := by kernel_rfl
theorem as_zero_two (v : Value) (w : World) : (Instr.typeAssert (.iface 196 v) 168 188 true).run Tryz.prog w = .ok (.tuple #[.agg #[.int .i64 0, .int .i64 0, .int .i64 0, .int .i64 0], .bool false]) w := by kernel_rfl
theorem as_zero_point (v : Value) (w : World) : (Instr.typeAssert (.iface 196 v) 168 190 true).run Tryz.prog w = .ok (.tuple #[.agg #[.int .i64 0, .int .i64 0, .int .i64 0, .int .i64 0], .bool false]) w := by kernel_rfl
theorem as_zero_load (v : Value) (w : World) : (Instr.typeAssert (.iface 196 v) 168 192 true).run Tryz.prog w = .ok (.tuple #[.agg #[.int .i64 0, .int .i64 0, .int .i64 0], .bool false]) w := by kernel_rfl
set_option maxHeartbeats 1000000 in
theorem ins_gone (a : Int) (w : World) :
    Calls Tryz.prog 224 #[.agg #[.int .i64 a]] w fun e w' => e = .returned (.agg #[.int .i64 14, .int .i64 0, .int .i64 a, .int .i64 0, .int .i64 0]) ∧ Below w.heap.size w w' := by
  go_enter Tryz.func224, Tryz.ntmps224
  go_wp2
  refine bodyPost_ret (v := .agg #[.int .i64 14, .int .i64 0, .int .i64 a, .int .i64 0, .int .i64 0]) (by simp [results, Tryz.results224, go_sem]) rfl ⟨rfl, ?_⟩
  repeat (first | exact Below.refl _ _ | refine Below.alloc ?_ (by simp; try omega) _ | refine Below.setCell ?_ (by simp; try omega) _)
theorem meth_gone (v : Value) (w : World) : (Go.method 370 198 v "loop.example/g00249/impl.ins").run Tryz.prog w = .ok (224, v) w := by kernel_rfl
theorem as_gone_number (v : Value) (w : World) : (Instr.typeAssert (.iface 198 v) 168 184 true).run Tryz.prog w = .ok (.tuple #[.agg #[.int .i64 0, .int .i64 0], .bool false]) w := by kernel_rfl
theorem as_gone_one (v : Value) (w : World) : (Instr.typeAssert (.iface 198 v) 168 186 true).run Tryz.prog w = .ok (.tuple #[.agg #[.int .i64 0, .int .i64 0, .int .i64 0], .bool false]) w := by kernel_rfl
theorem as_gone_two (v : Value) (w : World) : (Instr.typeAssert (.iface 198 v) 168 188 true).run Tryz.prog w = .ok (.tuple #[.agg #[.int .i64 0, .int .i64 0, .int .i64 0, .int .i64 0], .bool false]) w := by kernel_rfl
theorem as_gone_point (v : Value) (w : World) : (Instr.typeAssert (.iface 198 v) 168 190 true).run Tryz.prog w = .ok (.tuple #[.agg #[.int .i64 0, .int .i64 0, .int .i64 0, .int .i64 0], .bool false]) w := by kernel_rfl
theorem as_gone_load (v : Value) (w : World) : (Instr.typeAssert (.iface 198 v) 168 192 true).run Tryz.prog w = .ok (.tuple #[.agg #[.int .i64 0, .int .i64 0, .int .i64 0], .bool false]) w := by kernel_rfl
set_option maxHeartbeats 1000000 in
theorem ins_halt (w : World) :
    Calls Tryz.prog 225 #[.agg #[]] w fun e w' => e = .returned (.agg #[.int .i64 15, .int .i64 0, .int .i64 0, .int .i64 0, .int .i64 0]) ∧ Below w.heap.size w w' := by
  go_enter Tryz.func225, Tryz.ntmps225
  go_wp2
  refine bodyPost_ret (v := .agg #[.int .i64 15, .int .i64 0, .int .i64 0, .int .i64 0, .int .i64 0]) (by simp [results, Tryz.results225, go_sem]) rfl ⟨rfl, ?_⟩
  repeat (first | exact Below.refl _ _ | refine Below.alloc ?_ (by simp; try omega) _ | refine Below.setCell ?_ (by simp; try omega) _)
theorem meth_halt (v : Value) (w : World) : (Go.method 370 200 v "loop.example/g00249/impl.ins").run Tryz.prog w = .ok (225, v) w := by kernel_rfl
theorem as_halt_number (v : Value) (w : World) : (Instr.typeAssert (.iface 200 v) 168 184 true).run Tryz.prog w = .ok (.tuple #[.agg #[.int .i64 0, .int .i64 0], .bool false]) w := by kernel_rfl
theorem as_halt_one (v : Value) (w : World) : (Instr.typeAssert (.iface 200 v) 168 186 true).run Tryz.prog w = .ok (.tuple #[.agg #[.int .i64 0, .int .i64 0, .int .i64 0], .bool false]) w := by kernel_rfl
theorem as_halt_two (v : Value) (w : World) : (Instr.typeAssert (.iface 200 v) 168 188 true).run Tryz.prog w = .ok (.tuple #[.agg #[.int .i64 0, .int .i64 0, .int .i64 0, .int .i64 0], .bool false]) w := by kernel_rfl
theorem as_halt_point (v : Value) (w : World) : (Instr.typeAssert (.iface 200 v) 168 190 true).run Tryz.prog w = .ok (.tuple #[.agg #[.int .i64 0, .int .i64 0, .int .i64 0, .int .i64 0], .bool false]) w := by kernel_rfl
theorem as_halt_load (v : Value) (w : World) : (Instr.typeAssert (.iface 200 v) 168 192 true).run Tryz.prog w = .ok (.tuple #[.agg #[.int .i64 0, .int .i64 0, .int .i64 0], .bool false]) w := by kernel_rfl
end Go.Proofs.YtpkhnajhamnggaaGreatDoor

namespace Go.Proofs.YtpkhnajhamnggaaGreatDoor
open Go.ChangeShapes Go.WideShapes Go.ChangeAt Go.RowKit

/-- Whether an op has what the bit k stands for. -/
def bitB (o k : Int) : Bool := bits .and .i64 (hasZ o) k != 0
/-- What InsOk answers. -/
def iokB (o r a b n : Int) : Bool :=
  decide (1 ≤ o ∧ o ≤ 15) && (fldB r (bitB o 1) && (fldB a (bitB o 2) && (fldB b (bitB o 4) && (decide (-128 ≤ n ∧ n ≤ 127) && (bitB o 8 || n == 0)))))

set_option maxRecDepth 100000 in
set_option maxHeartbeats 4000000 in
theorem specInsOk_any (o r a b n : Int) (w : World) :
    Calls Tryz.prog 77 #[.agg #[.int .i64 o, .int .i64 r, .int .i64 a, .int .i64 b, .int .i64 n]] w fun e w' => e = .returned (.bool (iokB o r a b n)) ∧ Below w.heap.size w w' := by
  have s0 := hasI_any o
  unfold iokB bitB
  generalize hasZ o = h at s0 ⊢
  have s1 := lin_any o 1 15
  have s2 := field_any r (bits .and .i64 h 1 != 0)
  have s3 := field_any a (bits .and .i64 h 2 != 0)
  have s4 := field_any b (bits .and .i64 h 4 != 0)
  have s5 := lin_any n (-128) 127
  generalize decide (1 ≤ o ∧ o ≤ 15) = y1 at s1 ⊢
  generalize fldB r (bits .and .i64 h 1 != 0) = y2 at s2 ⊢
  generalize fldB a (bits .and .i64 h 2 != 0) = y3 at s3 ⊢
  generalize fldB b (bits .and .i64 h 4 != 0) = y4 at s4 ⊢
  generalize decide (-128 ≤ n ∧ n ≤ 127) = y5 at s5 ⊢
  have S0 : Hid _ := s0
  have S1 : Hid _ := s1
  have S2 : Hid _ := s2
  have S3 : Hid _ := s3
  have S4 : Hid _ := s4
  have S5 : Hid _ := s5
  clear s0 s1 s2 s3 s4 s5
  go_enter Tryz.func77, Tryz.ntmps77
  go_wp2_with fail
  refine (S0.out _).mono ?_
  rintro e w1 ⟨rfl, hb1⟩
  have K1 : Hid (Below w.heap.size w w1) := ((Below.refl _ w).alloc (Nat.le_refl _) _).trans (hb1.mono (by simp))
  obtain ⟨_, c0, c1, c2, c3, c4, _, _, _, _, _⟩ := (Five.new w o r a b n 76).below hb1
  clear hb1 S0
  go_wp2_with fail
  refine (S1.out _).mono ?_
  rintro e w' ⟨rfl, rfl⟩
  cases y1
  · go_wp2
    go_ret
    exact ⟨rfl, K1.out⟩
  go_wp2_with fail
  refine (S2.out _).mono ?_
  rintro e w' ⟨rfl, rfl⟩
  cases y2
  · go_wp2
    go_ret
    exact ⟨rfl, K1.out⟩
  go_wp2_with fail
  refine (S3.out _).mono ?_
  rintro e w' ⟨rfl, rfl⟩
  cases y3
  · go_wp2
    go_ret
    exact ⟨rfl, K1.out⟩
  go_wp2_with fail
  refine (S4.out _).mono ?_
  rintro e w' ⟨rfl, rfl⟩
  cases y4
  · go_wp2
    go_ret
    exact ⟨rfl, K1.out⟩
  go_wp2_with fail
  refine (S5.out _).mono ?_
  rintro e w' ⟨rfl, rfl⟩
  cases y5
  · go_wp2
    go_ret
    exact ⟨rfl, K1.out⟩
  cases h8 : (bits .and .i64 h 8 != 0)
  · go_wp2
    go_ret
    exact ⟨by simp [h8], K1.out⟩
  · go_wp2
    go_ret
    exact ⟨by simp [h8], K1.out⟩

/-- What Word32 answers of a place that is right. -/
def w32Z (o r a b n : Int) : Int := o + 16 * r + 128 * a + 1024 * b + 8192 * (n + 128)
theorem iok_range {o r a b n : Int} (h : iokB o r a b n = true) : 1 ≤ o ∧ o ≤ 15 ∧ 0 ≤ r ∧ r ≤ 7 ∧ 0 ≤ a ∧ a ≤ 7 ∧ 0 ≤ b ∧ b ≤ 7 ∧ -128 ≤ n ∧ n ≤ 127 := by
  simp only [iokB, fldB, Bool.and_eq_true, decide_eq_true_eq] at h
  omega

/-- What Sets answers. -/
def setZ (o r : Int) : Int := bif bitB o 1 then r else -1
set_option maxRecDepth 100000 in
set_option maxHeartbeats 4000000 in
theorem specSets_any (o r a b n : Int) (w : World) :
    Calls Tryz.prog 81 #[.agg #[.int .i64 o, .int .i64 r, .int .i64 a, .int .i64 b, .int .i64 n]] w fun e w' => e = .returned (.int .i64 (setZ o r)) ∧ Below w.heap.size w w' := by
  have s0 := hasI_any o
  unfold setZ bitB
  generalize hasZ o = h at s0 ⊢
  have S0 : Hid _ := s0
  clear s0
  go_enter Tryz.func81, Tryz.ntmps81
  go_wp2_with fail
  refine (S0.out _).mono ?_
  rintro e w1 ⟨rfl, hb1⟩
  have K1 : Hid (Below w.heap.size w w1) := ((Below.refl _ w).alloc (Nat.le_refl _) _).trans (hb1.mono (by simp))
  obtain ⟨_, c0, c1, c2, c3, c4, _, _, _, _, _⟩ := (Five.new w o r a b n 76).below hb1
  clear hb1 S0
  by_cases h1 : bits .and .i64 h 1 = 0
  · have h2 : (bits .and .i64 h 1 != 0) = false := by simp [h1]
    go_wp2
    go_ret
    exact ⟨by simp [h2], K1.out⟩
  · have h2 : (bits .and .i64 h 1 != 0) = true := by simp [h1]
    go_wp2
    go_ret
    exact ⟨by simp [h2], K1.out⟩
end Go.Proofs.YtpkhnajhamnggaaGreatDoor

namespace Go.Proofs.YtpkhnajhamnggaaGreatDoor
open Go.ChangeShapes Go.WideShapes Go.ChangeAt Go.RowKit

theorem st_ins : Tryz.prog.stoodInHeld 76 = false := by kernel_rfl
theorem eg_ins : Tryz.prog.eqGuardType Tryz.prog.depth 76 = false := by kernel_rfl
/-- Whether two places are the same. -/
def eqB (o r a b n o' r' a' b' n' : Int) : Bool := o == o' && (r == r' && (a == a' && (b == b' && n == n')))
theorem equalIn_ins (o r a b n o' r' a' b' n' : Int) (w : World) : (Op.equalIn 10000 76 (.agg #[.int .i64 o, .int .i64 r, .int .i64 a, .int .i64 b, .int .i64 n]) (.agg #[.int .i64 o', .int .i64 r', .int .i64 a', .int .i64 b', .int .i64 n'])).run Tryz.prog w = .ok (eqB o r a b n o' r' a' b' n') w := by
  rw [run_equalIn_agg w 9999 76 _ _ (by kernel_rfl) st_ins]
  simp only [Program.fieldsOf, Tryz.underlying76]
  have e3 : ∀ (x y : Int) (w : World), (Op.equalIn 9999 3 (.int .i64 x) (.int .i64 y)).run Tryz.prog w = .ok (x == y) w := fun x y w => run_equalIn_int w 9998 3 _ _ x y Tryz.underlying3
  unfold eqB
  cases h1 : (o == o') <;> cases h2 : (r == r') <;> cases h3 : (a == a') <;> cases h4 : (b == b') <;> cases h5 : (n == n') <;> simp [Op.eqFields, go_sem, e3, h1, h2, h3, h4, h5]
theorem eql_ins (o r a b n o' r' a' b' n' : Int) (w : World) : (binOp .eql 76 (.agg #[.int .i64 o, .int .i64 r, .int .i64 a, .int .i64 b, .int .i64 n]) (.agg #[.int .i64 o', .int .i64 r', .int .i64 a', .int .i64 b', .int .i64 n'])).run Tryz.prog w = .ok (.bool (eqB o r a b n o' r' a' b' n')) w := by
  rw [run_eql_struct, equalIn_ins]; rfl
theorem neq_ins (o r a b n o' r' a' b' n' : Int) (w : World) : (binOp .neq 76 (.agg #[.int .i64 o, .int .i64 r, .int .i64 a, .int .i64 b, .int .i64 n]) (.agg #[.int .i64 o', .int .i64 r', .int .i64 a', .int .i64 b', .int .i64 n'])).run Tryz.prog w = .ok (.bool (!eqB o r a b n o' r' a' b' n')) w := by
  rw [run_neq_struct, equalIn_ins]; rfl

end Go.Proofs.YtpkhnajhamnggaaGreatDoor
