/- KeyWord of the specification and of the program, at all keys and numbers: both answer the same. No condition. -/
import Derived.Test.YtneohabkoighcaaGreatWordX
namespace Go.Proofs.YtneohabkoighcaaGreat
open Go.ChangeShapes Go.WideShapes Go.ChangeAt Go.RowKit

section
variable {w : World} {r : Nat} {n : Int} {i : Bool} {b t p s : Int}
theorem Six.set0 (h : Six w r n i b t p s) (m : Int) : Six (w.setCell ⟨r, 0, none⟩ (.int .i64 m)) r m i b t p s := by
  obtain ⟨l, c0, c1, c2, c3, c4, c5, f0, f1, f2, f3, f4, f5⟩ := h
  exact ⟨Nat.lt_of_lt_of_le l ((Below.refl 0 w).setCell (p := ⟨r, 0, none⟩) (Nat.zero_le _) _).size, by go_simp, by go_simp, by go_simp, by go_simp, by go_simp, by go_simp, by go_simp, by go_simp, by go_simp, by go_simp, by go_simp, by go_simp⟩
theorem Six.set1 (h : Six w r n i b t p s) (m : Bool) : Six (w.setCell ⟨r, 1, none⟩ (.bool m)) r n m b t p s := by
  obtain ⟨l, c0, c1, c2, c3, c4, c5, f0, f1, f2, f3, f4, f5⟩ := h
  exact ⟨Nat.lt_of_lt_of_le l ((Below.refl 0 w).setCell (p := ⟨r, 1, none⟩) (Nat.zero_le _) _).size, by go_simp, by go_simp, by go_simp, by go_simp, by go_simp, by go_simp, by go_simp, by go_simp, by go_simp, by go_simp, by go_simp, by go_simp⟩
theorem Six.set2 (h : Six w r n i b t p s) (m : Int) : Six (w.setCell ⟨r, 2, none⟩ (.int .i64 m)) r n i m t p s := by
  obtain ⟨l, c0, c1, c2, c3, c4, c5, f0, f1, f2, f3, f4, f5⟩ := h
  exact ⟨Nat.lt_of_lt_of_le l ((Below.refl 0 w).setCell (p := ⟨r, 2, none⟩) (Nat.zero_le _) _).size, by go_simp, by go_simp, by go_simp, by go_simp, by go_simp, by go_simp, by go_simp, by go_simp, by go_simp, by go_simp, by go_simp, by go_simp⟩
theorem Six.set3 (h : Six w r n i b t p s) (m : Int) : Six (w.setCell ⟨r, 3, none⟩ (.int .i64 m)) r n i b m p s := by
  obtain ⟨l, c0, c1, c2, c3, c4, c5, f0, f1, f2, f3, f4, f5⟩ := h
  exact ⟨Nat.lt_of_lt_of_le l ((Below.refl 0 w).setCell (p := ⟨r, 3, none⟩) (Nat.zero_le _) _).size, by go_simp, by go_simp, by go_simp, by go_simp, by go_simp, by go_simp, by go_simp, by go_simp, by go_simp, by go_simp, by go_simp, by go_simp⟩
theorem Six.set4 (h : Six w r n i b t p s) (m : Int) : Six (w.setCell ⟨r, 4, none⟩ (.int .i64 m)) r n i b t m s := by
  obtain ⟨l, c0, c1, c2, c3, c4, c5, f0, f1, f2, f3, f4, f5⟩ := h
  exact ⟨Nat.lt_of_lt_of_le l ((Below.refl 0 w).setCell (p := ⟨r, 4, none⟩) (Nat.zero_le _) _).size, by go_simp, by go_simp, by go_simp, by go_simp, by go_simp, by go_simp, by go_simp, by go_simp, by go_simp, by go_simp, by go_simp, by go_simp⟩
theorem Six.set5 (h : Six w r n i b t p s) (m : Int) : Six (w.setCell ⟨r, 5, none⟩ (.int .i64 m)) r n i b t p m := by
  obtain ⟨l, c0, c1, c2, c3, c4, c5, f0, f1, f2, f3, f4, f5⟩ := h
  exact ⟨Nat.lt_of_lt_of_le l ((Below.refl 0 w).setCell (p := ⟨r, 5, none⟩) (Nat.zero_le _) _).size, by go_simp, by go_simp, by go_simp, by go_simp, by go_simp, by go_simp, by go_simp, by go_simp, by go_simp, by go_simp, by go_simp, by go_simp⟩
end

set_option maxRecDepth 100000 in
set_option maxHeartbeats 2000000 in
theorem specKeyWord_any (b t p s n : Int) (w : World) :
    Calls Tryz.prog 131 #[.agg #[.int .i64 b, .int .i64 t, .int .i64 p, .int .i64 s], .int .i64 n] w fun e w' => e = .returned (.agg #[.int .i64 (n % 65536), .bool (kokB b t p s), .int .i64 (bif kokB b t p s then b else 0), .int .i64 (bif kokB b t p s then t else 0), .int .i64 (bif kokB b t p s then p else 0), .int .i64 (bif kokB b t p s then s else 0)]) ∧ Below w.heap.size w w' := by
  have s1 := specKeyOk_any b t p s
  have s2 := specPlain_any n
  generalize kokB b t p s = x at s1 ⊢
  obtain ⟨m, hm⟩ : ∃ m, Hid (m = n % 65536) := ⟨_, rfl⟩
  rw [← hm.out] at s2 ⊢
  have S1 : Hid _ := s1
  have S2 : Hid _ := s2
  clear s1 s2
  go_enter Tryz.func131, Tryz.ntmps131
  go_wp2_with fail
  refine (S2.out _).mono ?_
  rintro e w1 ⟨rfl, hb1⟩
  have z1 := hb1.size
  simp only [World.size_alloc] at z1
  have A1 : Hid _ := (Six.second w (.cells #[.int .i64 b, .int .i64 t, .int .i64 p, .int .i64 s] 26) 0 false 0 0 0 0 28).below hb1
  have B1 : Hid (Four w1 w.heap.size b t p s) := ((Four.new w b t p s 26).alloc _).below hb1
  have K1 : Hid (Below w.heap.size w w1) := (((Below.refl _ w).alloc (Nat.le_refl _) _).alloc (by simp) _).trans (hb1.mono (by simp; omega))
  obtain ⟨_, k0, k1, k2, k3, _, _, _, _⟩ := B1.out
  clear hb1
  go_wp2_with fail
  refine (S1.out _).mono ?_
  rintro e w2 ⟨rfl, hb2⟩
  have K2 : Hid (Below w.heap.size w w2) := (K1.out.alloc K1.out.size _).trans (hb2.mono (by simp; omega))
  have B2 : Hid (Four w2 w.heap.size b t p s) := (B1.out.alloc _).below hb2
  have A2 : Hid (Six w2 (w.heap.size + 1) 0 false 0 0 0 0) := (A1.out.alloc _).below hb2
  have W2 : Hid (Six w2 w1.heap.size m false 0 0 0 0) := (Six.new w1 m false 0 0 0 0 28).below hb2
  clear hb2 A1 B1 K1 k0 k1 k2 k3
  obtain ⟨_, c0, c1, c2, c3, c4, c5, f0, f1, f2, f3, f4, f5⟩ := A2.out
  obtain ⟨_, d0, d1, d2, d3, d4, d5, g0, g1, g2, g3, g4, g5⟩ := W2.out
  obtain ⟨_, k0, k1, k2, k3, _, _, _, _⟩ := B2.out
  cases x
  · go_wp2
    refine bodyPost_ret (v := .agg #[.int .i64 m, .bool false, .int .i64 0, .int .i64 0, .int .i64 0, .int .i64 0]) (by simp [results, Tryz.results131, go_sem, c0, c1, c2, c3, c4, c5]) rfl ⟨rfl, ?_⟩
    repeat' (first | (with_reducible exact K2.out) | (refine Below.setCell ?_ (by show w.heap.size ≤ _; dsimp only; omega) _))
  · go_wp2
    refine bodyPost_ret (v := .agg #[.int .i64 m, .bool true, .int .i64 b, .int .i64 t, .int .i64 p, .int .i64 s]) (by simp [results, Tryz.results131, go_sem, c0, c1, c2, c3, c4, c5]) rfl ⟨rfl, ?_⟩
    repeat' (first | (with_reducible exact K2.out) | (refine Below.setCell ?_ (by show w.heap.size ≤ _; dsimp only; omega) _))
end Go.Proofs.YtneohabkoighcaaGreat
