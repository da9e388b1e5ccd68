/- Wide and Exact of the specification and of the program, at every two numbers: both answer the same. No condition. -/
import Derived.Test.YtpkhnajhamnggaaDoorIPack
import Derived.Test.YtpkhnajhamnggaaDoorSUnpack
namespace Go.Proofs.YtpkhnajhamnggaaDoor
open Go.ChangeShapes Go.WideShapes Go.ChangeAt Go.RowKit

/-- The two numbers of Unpack. -/
def upN (E B L : Int) : Int × Int := if pokB E B L then (upLo E B, upHi E B L) else (0, 0)
theorem up_eq (E B L : Int) : up E B L = .tuple #[.int .i64 (upN E B L).1, .int .i64 (upN E B L).2, .bool (pokB E B L)] := by
  unfold up upN; cases h : pokB E B L <;> simp

/-- What Wide answers. -/
def wd (a b : Int) : Int × Int :=
  if (pk a b).2.2.2 then upN (pk a b).1 (pk a b).2.1 (pk a b).2.2.1 else if bokB a b then (0, 4096) else (0, 0)

/-- What Exact answers. -/
def exB (a b : Int) : Bool := bokB a b && ((wd a b).1 == a && (wd a b).2 == b)

set_option maxHeartbeats 1000000 in
theorem specWide_any (a b : Int) (w : World) :
    Calls Tryd.prog 35 #[.int .i64 a, .int .i64 b] w fun e w' => e = .returned (.tuple #[.int .i64 (wd a b).1, .int .i64 (wd a b).2]) ∧ Below w.heap.size w w' := by
  obtain ⟨E, B, L, ok, hp⟩ : ∃ E B L ok, pk a b = (E, B, L, ok) := ⟨_, _, _, _, rfl⟩
  have s1 := specPack_any a b
  simp only [hp, pkV] at s1
  have s2 := specUnpack_any E B L
  simp only [up_eq] at s2
  have S1 : Hid _ := s1
  have S2 : Hid _ := s2
  have hw : wd a b = if ok then upN E B L else if bokB a b then (0, 4096) else (0, 0) := by simp [wd, hp]
  have s3 := specBounds_any a b
  clear s1 s2 hp
  cases ok
  · cases hb : bokB a b
    all_goals
      rw [hb] at s3
      simp only [hb, Bool.false_eq_true, if_false, if_true] at hw
      rw [hw]
      have S3 : Hid _ := s3
      clear s3 hw hb
      go_enter Tryd.func35, Tryd.ntmps35
      go_wp2_with fail
      refine (S1.out _).mono ?_
      rintro e w1 ⟨rfl, hb1⟩
      have hB : Below w.heap.size w w1 := hb1
      have z1 := hb1.size
      clear hb1
      go_wp2_with fail
      refine (S3.out _).mono ?_
      rintro e w2 ⟨rfl, rfl⟩
      go_wp2
      go_ret2
      exact ⟨rfl, hB.alloc z1 _⟩
  · simp only [if_true] at hw
    rw [hw]
    clear s3 hw
    generalize upN E B L = p at S2
    generalize pokB E B L = q at S2
    obtain ⟨x, y⟩ := p
    simp only at S2
    go_enter Tryd.func35, Tryd.ntmps35
    go_wp2_with fail
    refine (S1.out _).mono ?_
    rintro e w1 ⟨rfl, hb1⟩
    have z1 := hb1.size
    have hB : Below w.heap.size w (w1.alloc (.cells #[.int .i64 E, .int .i64 B, .int .i64 L] 93)) := hb1.alloc z1 _
    clear hb1
    go_wp2_with fail
    refine (S2.out _).mono ?_
    rintro e w2 ⟨rfl, hb2⟩
    have hB2 : Below w.heap.size w w2 := hB.trans (hb2.mono (by simp; omega))
    clear hb2 hB z1
    go_wp2
    go_ret2
    exact ⟨rfl, hB2⟩

set_option maxHeartbeats 1000000 in
theorem implWide_any (a b : Int) (w : World) :
    Calls Tryd.prog 45 #[.int .i64 a, .int .i64 b] w fun e w' => e = .returned (.tuple #[.int .i64 (wd a b).1, .int .i64 (wd a b).2]) ∧ Below w.heap.size w w' := by
  have s3 := implBounds_any a b
  cases hb : bokB a b
  · have hw : wd a b = (0, 0) := by simp [wd, pk_no hb, hb]
    rw [hb] at s3
    rw [hw]
    have S3 : Hid _ := s3
    clear s3 hw hb
    go_enter Tryd.func45, Tryd.ntmps45
    go_wp2_with fail
    refine (S3.out _).mono ?_
    rintro e w1 ⟨rfl, rfl⟩
    go_wp2
    go_ret2
    exact ⟨rfl, Below.refl _ _⟩
  · rw [hb] at s3
    have S3 : Hid _ := s3
    clear s3
    obtain ⟨E, B, L, ok, hp⟩ : ∃ E B L ok, pk a b = (E, B, L, ok) := ⟨_, _, _, _, rfl⟩
    have s1 := implPack_any a b
    simp only [hp, pkV] at s1
    have s2 := implUnpack_any E B L
    simp only [up_eq] at s2
    have S1 : Hid _ := s1
    have S2 : Hid _ := s2
    have hw : wd a b = if ok then upN E B L else (0, 4096) := by simp [wd, hp, hb]
    clear s1 s2 hp hb
    generalize upN E B L = p at S2 hw
    generalize pokB E B L = q at S2
    obtain ⟨x, y⟩ := p
    simp only at S2
    cases ok
    · simp only [Bool.false_eq_true, if_false] at hw
      rw [hw]
      clear hw S2
      go_enter Tryd.func45, Tryd.ntmps45
      go_wp2_with fail
      refine (S3.out _).mono ?_
      rintro e w1 ⟨rfl, rfl⟩
      go_wp2_with fail
      refine (S1.out _).mono ?_
      rintro e w1 ⟨rfl, hb1⟩
      have z1 := hb1.size
      go_wp2
      go_ret2
      exact ⟨rfl, hb1.alloc z1 _⟩
    · simp only [if_true] at hw
      rw [hw]
      clear hw
      go_enter Tryd.func45, Tryd.ntmps45
      go_wp2_with fail
      refine (S3.out _).mono ?_
      rintro e w0 ⟨rfl, rfl⟩
      go_wp2_with fail
      refine (S1.out _).mono ?_
      rintro e w1 ⟨rfl, hb1⟩
      have z1 := hb1.size
      have hB : Below w0.heap.size w0 (w1.alloc (.cells #[.int .i64 E, .int .i64 B, .int .i64 L] 93)) := hb1.alloc z1 _
      go_wp2_with fail
      refine (S2.out _).mono ?_
      rintro e w2 ⟨rfl, hb2⟩
      go_wp2
      go_ret2
      exact ⟨rfl, hB.trans (hb2.mono (by simp; omega))⟩

set_option maxHeartbeats 1000000 in
theorem specExact_any (a b : Int) (w : World) :
    Calls Tryd.prog 28 #[.int .i64 a, .int .i64 b] w fun e w' => e = .returned (.bool (exB a b)) ∧ Below w.heap.size w w' := by
  have s1 := specWide_any a b
  have s3 := specBounds_any a b
  have he : exB a b = (bokB a b && ((wd a b).1 == a && (wd a b).2 == b)) := rfl
  generalize wd a b = p at s1 he
  obtain ⟨x, y⟩ := p
  simp only at s1 he
  have S1 : Hid _ := s1
  have S3 : Hid _ := s3
  rw [he]
  clear s1 s3 he
  cases hb : bokB a b <;> cases g1 : (x == a) <;> cases g2 : (y == b)
  all_goals
    rw [hb] at S3
    clear hb
    go_enter Tryd.func28, Tryd.ntmps28
    go_wp2_with fail
    refine (S1.out _).mono ?_
    rintro e w1 ⟨rfl, hb1⟩
    go_wp2_with fail
    refine (S3.out _).mono ?_
    rintro e w2 ⟨rfl, rfl⟩
    go_wp2
    go_ret
    exact ⟨rfl, hb1⟩

set_option maxHeartbeats 1000000 in
theorem implExact_any (a b : Int) (w : World) :
    Calls Tryd.prog 44 #[.int .i64 a, .int .i64 b] w fun e w' => e = .returned (.bool (exB a b)) ∧ Below w.heap.size w w' := by
  have s1 := implWide_any a b
  have s3 := implBounds_any a b
  have he : exB a b = (bokB a b && ((wd a b).1 == a && (wd a b).2 == b)) := rfl
  generalize wd a b = p at s1 he
  obtain ⟨x, y⟩ := p
  simp only at s1 he
  have S1 : Hid _ := s1
  have S3 : Hid _ := s3
  rw [he]
  clear s1 s3 he
  cases hb : bokB a b <;> cases g1 : (x == a) <;> cases g2 : (y == b)
  all_goals
    rw [hb] at S3
    clear hb
    go_enter Tryd.func44, Tryd.ntmps44
    go_wp2_with fail
    refine (S1.out _).mono ?_
    rintro e w1 ⟨rfl, hb1⟩
    go_wp2_with fail
    refine (S3.out _).mono ?_
    rintro e w2 ⟨rfl, rfl⟩
    go_wp2
    go_ret
    exact ⟨rfl, hb1⟩
end Go.Proofs.YtpkhnajhamnggaaDoor
