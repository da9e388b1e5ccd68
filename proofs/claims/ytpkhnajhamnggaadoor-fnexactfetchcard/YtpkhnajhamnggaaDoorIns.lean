/- Places (Ins) as values, in blocks of five cells; toIns and eqIns of the laws; what the specification says of ops and fields. No condition. -/
import Derived.Test.YtpkhnajhamnggaaDoorDraw4
import Derived.Test.YtpkhnajhamnggaaDoorAft
namespace Go.Proofs.YtpkhnajhamnggaaDoor
open Go.ChangeShapes Go.WideShapes Go.ChangeAt Go.RowKit

/-- A place in block k. -/
structure Five (w : World) (k : Nat) (o r a b n : Int) : Prop where
  lt : k < w.heap.size
  c0 : w.cell? ⟨k, 0, none⟩ = some (.int .i64 o)
  c1 : w.cell? ⟨k, 1, none⟩ = some (.int .i64 r)
  c2 : w.cell? ⟨k, 2, none⟩ = some (.int .i64 a)
  c3 : w.cell? ⟨k, 3, none⟩ = some (.int .i64 b)
  c4 : w.cell? ⟨k, 4, none⟩ = some (.int .i64 n)
  f0 : w.frozen? ⟨k, 0, none⟩ = false
  f1 : w.frozen? ⟨k, 1, none⟩ = false
  f2 : w.frozen? ⟨k, 2, none⟩ = false
  f3 : w.frozen? ⟨k, 3, none⟩ = false
  f4 : w.frozen? ⟨k, 4, none⟩ = false
section
variable {w w' : World} {k q : Nat} {o r a b n : Int}
theorem Five.keep (h : Five w k o r a b n) (g : KeepBut q w w') (hq : k ≠ q) : Five w' k o r a b n :=
  ⟨Nat.lt_of_lt_of_le h.lt g.size, (g.cell (p := ⟨k, 0, none⟩) h.lt hq).trans h.c0, (g.cell (p := ⟨k, 1, none⟩) h.lt hq).trans h.c1, (g.cell (p := ⟨k, 2, none⟩) h.lt hq).trans h.c2, (g.cell (p := ⟨k, 3, none⟩) h.lt hq).trans h.c3, (g.cell (p := ⟨k, 4, none⟩) h.lt hq).trans h.c4,
    (g.frozen (p := ⟨k, 0, none⟩) h.lt hq).trans h.f0, (g.frozen (p := ⟨k, 1, none⟩) h.lt hq).trans h.f1, (g.frozen (p := ⟨k, 2, none⟩) h.lt hq).trans h.f2, (g.frozen (p := ⟨k, 3, none⟩) h.lt hq).trans h.f3, (g.frozen (p := ⟨k, 4, none⟩) h.lt hq).trans h.f4⟩
theorem Five.below (h : Five w k o r a b n) (g : Below w.heap.size w w') : Five w' k o r a b n := h.keep (q := w.heap.size) (KeepBut.ofBelow g) (Nat.ne_of_lt h.lt)
theorem Five.alloc (h : Five w k o r a b n) (x : Obj) : Five (w.alloc x) k o r a b n := h.keep (q := w.heap.size) ((KeepBut.refl _ _).alloc x) (Nat.ne_of_lt h.lt)
theorem Five.drew (h : Five w k o r a b n) : Five w.drew k o r a b n := h.below ((Below.refl _ _).drew)
theorem Five.other (h : Five w k o r a b n) {k' : Nat} (hr : k ≠ k') (j : Nat) (u : Value) : Five (w.setCell ⟨k', j, none⟩ u) k o r a b n := h.keep (q := k') ((KeepBut.refl _ _).setCell j u) hr
theorem Five.set0 (h : Five w k o r a b n) (m : Int) : Five (w.setCell ⟨k, 0, none⟩ (.int .i64 m)) k m r a b n := by
  obtain ⟨l, c0, c1, c2, c3, c4, f0, f1, f2, f3, f4⟩ := h
  exact ⟨Nat.lt_of_lt_of_le l ((Below.refl 0 w).setCell (p := ⟨k, 0, none⟩) (Nat.zero_le _) _).size, by go_simp, by go_simp, by go_simp, by go_simp, by go_simp, by go_simp, by go_simp, by go_simp, by go_simp, by go_simp⟩
theorem Five.set1 (h : Five w k o r a b n) (m : Int) : Five (w.setCell ⟨k, 1, none⟩ (.int .i64 m)) k o m a b n := by
  obtain ⟨l, c0, c1, c2, c3, c4, f0, f1, f2, f3, f4⟩ := h
  exact ⟨Nat.lt_of_lt_of_le l ((Below.refl 0 w).setCell (p := ⟨k, 1, none⟩) (Nat.zero_le _) _).size, by go_simp, by go_simp, by go_simp, by go_simp, by go_simp, by go_simp, by go_simp, by go_simp, by go_simp, by go_simp⟩
theorem Five.set2 (h : Five w k o r a b n) (m : Int) : Five (w.setCell ⟨k, 2, none⟩ (.int .i64 m)) k o r m b n := by
  obtain ⟨l, c0, c1, c2, c3, c4, f0, f1, f2, f3, f4⟩ := h
  exact ⟨Nat.lt_of_lt_of_le l ((Below.refl 0 w).setCell (p := ⟨k, 2, none⟩) (Nat.zero_le _) _).size, by go_simp, by go_simp, by go_simp, by go_simp, by go_simp, by go_simp, by go_simp, by go_simp, by go_simp, by go_simp⟩
theorem Five.set3 (h : Five w k o r a b n) (m : Int) : Five (w.setCell ⟨k, 3, none⟩ (.int .i64 m)) k o r a m n := by
  obtain ⟨l, c0, c1, c2, c3, c4, f0, f1, f2, f3, f4⟩ := h
  exact ⟨Nat.lt_of_lt_of_le l ((Below.refl 0 w).setCell (p := ⟨k, 3, none⟩) (Nat.zero_le _) _).size, by go_simp, by go_simp, by go_simp, by go_simp, by go_simp, by go_simp, by go_simp, by go_simp, by go_simp, by go_simp⟩
theorem Five.set4 (h : Five w k o r a b n) (m : Int) : Five (w.setCell ⟨k, 4, none⟩ (.int .i64 m)) k o r a b m := by
  obtain ⟨l, c0, c1, c2, c3, c4, f0, f1, f2, f3, f4⟩ := h
  exact ⟨Nat.lt_of_lt_of_le l ((Below.refl 0 w).setCell (p := ⟨k, 4, none⟩) (Nat.zero_le _) _).size, by go_simp, by go_simp, by go_simp, by go_simp, by go_simp, by go_simp, by go_simp, by go_simp, by go_simp, by go_simp⟩
end
theorem Five.new (w : World) (o r a b n : Int) (T : TypeId) : Five (w.alloc (.cells #[.int .i64 o, .int .i64 r, .int .i64 a, .int .i64 b, .int .i64 n] T)) w.heap.size o r a b n :=
  ⟨by simp, by simp, by simp, by simp, by simp, by simp, by simp, by simp, by simp, by simp, by simp⟩
theorem Five.second (w : World) (x : Obj) (o r a b n : Int) (T : TypeId) : Five ((w.alloc x).alloc (.cells #[.int .i64 o, .int .i64 r, .int .i64 a, .int .i64 b, .int .i64 n] T)) (w.heap.size + 1) o r a b n := by
  have h := Five.new (w.alloc x) o r a b n T
  simpa using h
theorem Aft.five {W w : World} (h : Aft W w) {k : Nat} {o r a b n : Int} (f : Five W k o r a b n) : Five w k o r a b n := f.below h

set_option maxHeartbeats 400000 in
theorem eqIns_same (o r a b n : Int) (w : World) :
    Calls Tryd.prog 9 #[.agg #[.int .i64 o, .int .i64 r, .int .i64 a, .int .i64 b, .int .i64 n], .agg #[.int .i64 o, .int .i64 r, .int .i64 a, .int .i64 b, .int .i64 n]] w fun e w' => e = .returned (.bool true) ∧ Below w.heap.size w w' := by
  go_enter Tryd.func9, Tryd.ntmps9
  go_wp2
  go_ret
  exact ⟨rfl, ((Below.refl _ _).alloc (Nat.le_refl _) _).alloc (by simp) _⟩

set_option maxHeartbeats 400000 in
theorem toIns_any (o r a b n : Int) (w : World) :
    Calls Tryd.prog 14 #[.agg #[.int .i64 o, .int .i64 r, .int .i64 a, .int .i64 b, .int .i64 n]] w fun e w' => e = .returned (.agg #[.int .i64 o, .int .i64 r, .int .i64 a, .int .i64 b, .int .i64 n]) ∧ Below w.heap.size w w' := by
  go_enter Tryd.func14, Tryd.ntmps14
  go_wp2
  refine bodyPost_ret (v := .agg #[.int .i64 o, .int .i64 r, .int .i64 a, .int .i64 b, .int .i64 n]) (by simp [results, Tryd.results14, go_sem]) rfl ⟨rfl, ?_⟩
  repeat (first | exact Below.refl _ _ | refine Below.alloc ?_ (by simp; try omega) _ | refine Below.setCell ?_ (by simp; try omega) _)

set_option maxHeartbeats 400000 in
theorem lin_any (a lo hi : Int) (w : World) :
    Calls Tryd.prog 12 #[.int .i64 a, .int .i64 lo, .int .i64 hi] w fun e w' => e = .returned (.bool (decide (lo ≤ a ∧ a ≤ hi))) ∧ w' = w := by
  have h : decide (lo ≤ a ∧ a ≤ hi) = (decide (lo ≤ a) && decide (a ≤ hi)) := by simp
  rw [h]
  by_cases h0 : lo ≤ a <;> by_cases h1 : a ≤ hi <;> simp only [h0, h1, decide_true, decide_false, Bool.true_and, Bool.false_and, Bool.and_true]
  all_goals
    go_enter Tryd.func12, Tryd.ntmps12
    go_wp2
    go_ret
    exact ⟨rfl, rfl⟩

/-- What an op has, by the chapter's list: R 1, A 2, B 4, N 8. -/
def hasZ (o : Int) : Int :=
  if o = 1 then 9 else if o = 2 then 7 else if o = 3 then 3 else if o = 4 then 7 else if o = 5 then 7 else if o = 6 then 15 else if o = 7 then 7 else if o = 8 then 7 else if o = 9 then 3 else if o = 10 then 11 else if o = 11 then 14 else if o = 12 then 3 else if o = 13 then 10 else if o = 14 then 2 else 0
theorem op_cases {o : Int} (h : 1 ≤ o ∧ o ≤ 15) : o = 1 ∨ o = 2 ∨ o = 3 ∨ o = 4 ∨ o = 5 ∨ o = 6 ∨ o = 7 ∨ o = 8 ∨ o = 9 ∨ o = 10 ∨ o = 11 ∨ o = 12 ∨ o = 13 ∨ o = 14 ∨ o = 15 := by omega
theorem has_none {o : Int} (h : ¬ (1 ≤ o ∧ o ≤ 15)) : hasZ o = 0 := by
  unfold hasZ
  repeat' (rw [if_neg (by omega)])

set_option maxHeartbeats 2000000 in
theorem hasI_any (o : Int) (w : World) :
    Calls Tryd.prog 18 #[.int .i64 o] w fun e w' => e = .returned (.int .i64 (hasZ o)) ∧ Below w.heap.size w w' := by
  by_cases h : 1 ≤ o ∧ o ≤ 15
  · have s1 := lin_any o 1 15
    rw [decide_eq_true h] at s1
    have S1 : Hid _ := s1
    clear s1
    rcases op_cases h with rfl | rfl | rfl | rfl | rfl | rfl | rfl | rfl | rfl | rfl | rfl | rfl | rfl | rfl | rfl
    all_goals
      go_enter Tryd.func18, Tryd.ntmps18
      go_wp2_with fail
      refine (S1.out _).mono ?_
      rintro e w1 ⟨rfl, rfl⟩
      go_wp2
      go_ret
      exact ⟨rfl, (Below.refl _ _).alloc (Nat.le_refl _) _⟩
  · have s1 := lin_any o 1 15
    rw [decide_eq_false h] at s1
    have S1 : Hid _ := s1
    clear s1
    rw [has_none h]
    go_enter Tryd.func18, Tryd.ntmps18
    go_wp2_with fail
    refine (S1.out _).mono ?_
    rintro e w1 ⟨rfl, rfl⟩
    go_wp2
    go_ret
    exact ⟨rfl, Below.refl _ _⟩

/-- What l6Field answers. -/
def fldB (x : Int) (h : Bool) : Bool := decide (0 ≤ x ∧ x ≤ 7) && (h || x == 0)
set_option maxHeartbeats 1000000 in
theorem field_any (x : Int) (h : Bool) (w : World) :
    Calls Tryd.prog 19 #[.int .i64 x, .bool h] w fun e w' => e = .returned (.bool (fldB x h)) ∧ w' = w := by
  have s1 := lin_any x 0 7
  unfold fldB
  generalize decide (0 ≤ x ∧ x ≤ 7) = y at s1 ⊢
  have S1 : Hid _ := s1
  clear s1
  go_enter Tryd.func19, Tryd.ntmps19
  go_wp2_with fail
  refine (S1.out _).mono ?_
  rintro e w1 ⟨rfl, rfl⟩
  cases y
  · go_wp2
    go_ret
    exact ⟨rfl, rfl⟩
  · cases h
    · go_wp2
      go_ret
      exact ⟨rfl, rfl⟩
    · go_wp2
      go_ret
      exact ⟨rfl, rfl⟩
end Go.Proofs.YtpkhnajhamnggaaDoor
