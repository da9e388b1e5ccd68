/- madeOr of the program: what the maker of that name makes, where the word is right and a key and the maker makes something; the first word elsewhere. -/
import Derived.Test.YtcokcfgagbahbaaIMade
import Derived.Test.YtcokcfgagbahbaaMakers
namespace Go.Proofs.Ytcokcfgagbahbaa
open Go.ChangeShapes Go.WideShapes Go.ChangeAt Go.RowKit

/-- The blocks of madeOr: the first word, the word, what is given beside it, the answer's. -/
structure Mor (w0 : World) (o0 : Int) (o1 : Bool) (o2 o3 o4 o5 n : Int) (i : Bool) (b t p s m n' : Int) (i' : Bool) (b' t' p' s' : Int) (w : World) : Prop where
  o : Six w w0.heap.size o0 o1 o2 o3 o4 o5
  a : Six w (w0.heap.size + 1) n i b t p s
  g : Seven w (w0.heap.size + 1 + 1) m n' i' b' t' p' s'
  z : Six w (w0.heap.size + 1 + 1 + 1) 0 false 0 0 0 0
  k : Below w0.heap.size w0 w
section
variable {w0 w w' : World} {o0 : Int} {o1 : Bool} {o2 o3 o4 o5 n : Int} {i : Bool} {b t p s m n' : Int} {i' : Bool} {b' t' p' s' : Int}
theorem Mor.next (h : Mor w0 o0 o1 o2 o3 o4 o5 n i b t p s m n' i' b' t' p' s' w) (hb : Below w.heap.size w w') : Mor w0 o0 o1 o2 o3 o4 o5 n i b t p s m n' i' b' t' p' s' w' :=
  ⟨h.o.below hb, h.a.below hb, h.g.below hb, h.z.below hb, h.k.trans (hb.mono h.k.size)⟩
theorem Aft.mor {W : World} (h : Aft W w) (f : Mor w0 o0 o1 o2 o3 o4 o5 n i b t p s m n' i' b' t' p' s' W) : Mor w0 o0 o1 o2 o3 o4 o5 n i b t p s m n' i' b' t' p' s' w := f.next h
end
theorem Six.fourth (w : World) (o o' o'' : Obj) (n : Int) (i : Bool) (b t p s : Int) (T : TypeId) : Six ((((w.alloc o).alloc o').alloc o'').alloc (.cells #[.int .i64 n, .bool i, .int .i64 b, .int .i64 t, .int .i64 p, .int .i64 s] T)) (w.heap.size + 1 + 1 + 1) n i b t p s := by
  have h := Six.new (((w.alloc o).alloc o').alloc o'') n i b t p s T
  rw [World.size_alloc, World.size_alloc, World.size_alloc] at h
  exact h
theorem Seven.third (w : World) (o o' : Obj) (m n : Int) (i : Bool) (b t p s : Int) (T : TypeId) : Seven (((w.alloc o).alloc o').alloc (.cells #[.int .i64 m, .int .i64 n, .bool i, .int .i64 b, .int .i64 t, .int .i64 p, .int .i64 s] T)) (w.heap.size + 1 + 1) m n i b t p s := by
  have h := Seven.second (w.alloc o) o' m n i b t p s T
  rw [World.size_alloc] at h
  exact h
theorem Mor.new (w : World) (o0 : Int) (o1 : Bool) (o2 o3 o4 o5 n : Int) (i : Bool) (b t p s m n' : Int) (i' : Bool) (b' t' p' s' : Int) :
    Mor w o0 o1 o2 o3 o4 o5 n i b t p s m n' i' b' t' p' s' ((((w.alloc (.cells #[.int .i64 o0, .bool o1, .int .i64 o2, .int .i64 o3, .int .i64 o4, .int .i64 o5] 28)).alloc (.cells #[.int .i64 n, .bool i, .int .i64 b, .int .i64 t, .int .i64 p, .int .i64 s] 28)).alloc (.cells #[.int .i64 m, .int .i64 n', .bool i', .int .i64 b', .int .i64 t', .int .i64 p', .int .i64 s'] 77)).alloc (.cells #[.int .i64 0, .bool false, .int .i64 0, .int .i64 0, .int .i64 0, .int .i64 0] 28)) :=
  ⟨(((Six.new w o0 o1 o2 o3 o4 o5 _).alloc _).alloc _).alloc _, ((Six.second w _ n i b t p s _).alloc _).alloc _, (Seven.third w _ _ m n' i' b' t' p' s' _).alloc _, Six.fourth w _ _ _ 0 false 0 0 0 0 _,
    ((((Below.refl _ w).alloc (Nat.le_refl _) _).alloc (by simp) _).alloc (by simp; omega) _).alloc (by simp; omega) _⟩

theorem makers_at (w : World) :
    Calls Try.prog 59 #[] w fun e w' => ∃ r, e = .returned (.map (some r)) ∧ w'.heap[r]? = some (.map made5 5) ∧ Below w.heap.size w w' := by
  refine (makers_any w).mono ?_
  rintro e w' ⟨rfl, rfl⟩
  exact ⟨_, rfl, (MapKept.heap_alloc w _).1, (Below.refl _ _).alloc (Nat.le_refl _) _⟩

set_option maxRecDepth 100000 in
set_option maxHeartbeats 20000000 in
theorem madeOr_any (o0 : Int) (o1 : Bool) (o2 o3 o4 o5 n : Int) (i : Bool) (b t p s m n' : Int) (i' : Bool) (b' t' p' s' : Int) (nm : ByteArray) (F j : Nat) (v0 : Int) (v1 : Bool) (v2 v3 v4 v5 : Int) (ok : Bool) (w : World)
    (hc : ∀ (args : Array Value) (w : World), (callFunc F args).run Try.prog w = .ok (.enter F args) w)
    (hl : Instr.findNow .string (.string nm) made5.toList 0 = some (some (j, .func (.func F) #[] #[])))
    (hf : rkB n i b t p s = true → ∀ w, Calls Try.prog F #[.agg #[.int .i64 n, .bool i, .int .i64 b, .int .i64 t, .int .i64 p, .int .i64 s], .agg #[.int .i64 m, .int .i64 n', .bool i', .int .i64 b', .int .i64 t', .int .i64 p', .int .i64 s']] w fun e w' => e = .returned (.tuple #[.agg #[.int .i64 v0, .bool v1, .int .i64 v2, .int .i64 v3, .int .i64 v4, .int .i64 v5], .bool ok]) ∧ Below w.heap.size w w') :
    Calls Try.prog 49 #[.agg #[.int .i64 o0, .bool o1, .int .i64 o2, .int .i64 o3, .int .i64 o4, .int .i64 o5], .string nm, .agg #[.int .i64 n, .bool i, .int .i64 b, .int .i64 t, .int .i64 p, .int .i64 s], .agg #[.int .i64 m, .int .i64 n', .bool i', .int .i64 b', .int .i64 t', .int .i64 p', .int .i64 s']] w fun e w' => e = .returned (.agg #[.int .i64 (bif rkB n i b t p s && ok then v0 else o0), .bool (bif rkB n i b t p s && ok then v1 else o1), .int .i64 (bif rkB n i b t p s && ok then v2 else o2), .int .i64 (bif rkB n i b t p s && ok then v3 else o3), .int .i64 (bif rkB n i b t p s && ok then v4 else o4), .int .i64 (bif rkB n i b t p s && ok then v5 else o5)]) ∧ Below w.heap.size w w' := by
  have s1 := rightKey_any n i b t p s
  generalize rkB n i b t p s = x at s1 hf ⊢
  have S1 : Hid _ := s1
  have S2 : Hid _ := hf
  have S3 : Hid _ := hl
  clear s1 hf hl
  go_enter Try.func49, Try.ntmps49
  go_upto_region 1 with fail
  have M0 : Hid _ := Mor.new w o0 o1 o2 o3 o4 o5 n i b t p s m n' i' b' t' p' s'
  generalize (((w.alloc (.cells #[.int .i64 o0, .bool o1, .int .i64 o2, .int .i64 o3, .int .i64 o4, .int .i64 o5] 28)).alloc (.cells #[.int .i64 n, .bool i, .int .i64 b, .int .i64 t, .int .i64 p, .int .i64 s] 28)).alloc (.cells #[.int .i64 m, .int .i64 n', .bool i', .int .i64 b', .int .i64 t', .int .i64 p', .int .i64 s'] 77)).alloc (.cells #[.int .i64 0, .bool false, .int .i64 0, .int .i64 0, .int .i64 0, .int .i64 0] 28) = W0 at M0 ⊢
  obtain ⟨_, c0, c1, c2, c3, c4, c5, _, _, _, _, _, _⟩ := M0.out.a
  go_wp2_with fail
  refine (S1.out _).mono ?_
  rintro e w1 ⟨rfl, hb1⟩
  have M1 : Hid _ := M0.out.next hb1
  clear hb1 M0 S1 c0 c1 c2 c3 c4 c5
  cases x
  case false =>
    obtain ⟨_, c0, c1, c2, c3, c4, c5, _, _, _, _, _, _⟩ := M1.out.o
    obtain ⟨_, y0, y1, y2, y3, y4, y5, g0, g1, g2, g3, g4, g5⟩ := M1.out.z
    go_wp2
    refine bodyPost_ret (v := .agg #[.int .i64 o0, .bool o1, .int .i64 o2, .int .i64 o3, .int .i64 o4, .int .i64 o5]) (by simp [results, Try.results49, go_sem, y0, y1, y2, y3, y4, y5]) rfl ⟨rfl, ?_⟩
    repeat' (first | (with_reducible exact M1.out.k) | (refine Below.setCell ?_ (by show w.heap.size ≤ _; dsimp only; omega) _))
  have S4 : Hid _ := S2.out rfl
  clear S2
  go_upto_region 3 with fail
  have ALL : Hid (∀ w', Aft w1 w' → w'.cell? ⟨w.heap.size + 1, 0, none⟩ = some (.int .i64 n) ∧ w'.cell? ⟨w.heap.size + 1, 1, none⟩ = some (.bool i) ∧ w'.cell? ⟨w.heap.size + 1, 2, none⟩ = some (.int .i64 b) ∧ w'.cell? ⟨w.heap.size + 1, 3, none⟩ = some (.int .i64 t) ∧ w'.cell? ⟨w.heap.size + 1, 4, none⟩ = some (.int .i64 p) ∧ w'.cell? ⟨w.heap.size + 1, 5, none⟩ = some (.int .i64 s) ∧ w'.cell? ⟨w.heap.size + 1 + 1, 0, none⟩ = some (.int .i64 m) ∧ w'.cell? ⟨w.heap.size + 1 + 1, 1, none⟩ = some (.int .i64 n') ∧ w'.cell? ⟨w.heap.size + 1 + 1, 2, none⟩ = some (.bool i') ∧ w'.cell? ⟨w.heap.size + 1 + 1, 3, none⟩ = some (.int .i64 b') ∧ w'.cell? ⟨w.heap.size + 1 + 1, 4, none⟩ = some (.int .i64 t') ∧ w'.cell? ⟨w.heap.size + 1 + 1, 5, none⟩ = some (.int .i64 p') ∧ w'.cell? ⟨w.heap.size + 1 + 1, 6, none⟩ = some (.int .i64 s') ∧ Hid (Aft w1 w')) := fun w' h => by
    obtain ⟨_, c0, c1, c2, c3, c4, c5, _, _, _, _, _, _⟩ := (h.mor M1.out).a
    obtain ⟨_, d0, d1, d2, d3, d4, d5, d6⟩ := (h.mor M1.out).g
    exact ⟨c0, c1, c2, c3, c4, c5, d0, d1, d2, d3, d4, d5, d6, h⟩
  have GET : Hid (∀ w', w'.cell? ⟨w.heap.size + 1, 0, none⟩ = some (.int .i64 n) ∧ w'.cell? ⟨w.heap.size + 1, 1, none⟩ = some (.bool i) ∧ w'.cell? ⟨w.heap.size + 1, 2, none⟩ = some (.int .i64 b) ∧ w'.cell? ⟨w.heap.size + 1, 3, none⟩ = some (.int .i64 t) ∧ w'.cell? ⟨w.heap.size + 1, 4, none⟩ = some (.int .i64 p) ∧ w'.cell? ⟨w.heap.size + 1, 5, none⟩ = some (.int .i64 s) ∧ w'.cell? ⟨w.heap.size + 1 + 1, 0, none⟩ = some (.int .i64 m) ∧ w'.cell? ⟨w.heap.size + 1 + 1, 1, none⟩ = some (.int .i64 n') ∧ w'.cell? ⟨w.heap.size + 1 + 1, 2, none⟩ = some (.bool i') ∧ w'.cell? ⟨w.heap.size + 1 + 1, 3, none⟩ = some (.int .i64 b') ∧ w'.cell? ⟨w.heap.size + 1 + 1, 4, none⟩ = some (.int .i64 t') ∧ w'.cell? ⟨w.heap.size + 1 + 1, 5, none⟩ = some (.int .i64 p') ∧ w'.cell? ⟨w.heap.size + 1 + 1, 6, none⟩ = some (.int .i64 s') ∧ Hid (Aft w1 w') → Aft w1 w') := fun w' h => h.2.2.2.2.2.2.2.2.2.2.2.2.2
  have A0 : Hid (Aft w1 w1.drew) := (Aft.refl _).drew
  go_cut [9, 10] (fun u9 u10 wx => ∃ q : Nat, u9 = .pointer (some ⟨q, 0, none⟩) ∧ u10 = .bool ok ∧ Hid (Six wx q v0 v1 v2 v3 v4 v5) ∧ Hid (Aft w1 wx))
  case first =>
    go_region_held3 (fun w' => w'.cell? ⟨w.heap.size + 1, 0, none⟩ = some (.int .i64 n) ∧ w'.cell? ⟨w.heap.size + 1, 1, none⟩ = some (.bool i) ∧ w'.cell? ⟨w.heap.size + 1, 2, none⟩ = some (.int .i64 b) ∧ w'.cell? ⟨w.heap.size + 1, 3, none⟩ = some (.int .i64 t) ∧ w'.cell? ⟨w.heap.size + 1, 4, none⟩ = some (.int .i64 p) ∧ w'.cell? ⟨w.heap.size + 1, 5, none⟩ = some (.int .i64 s) ∧ w'.cell? ⟨w.heap.size + 1 + 1, 0, none⟩ = some (.int .i64 m) ∧ w'.cell? ⟨w.heap.size + 1 + 1, 1, none⟩ = some (.int .i64 n') ∧ w'.cell? ⟨w.heap.size + 1 + 1, 2, none⟩ = some (.bool i') ∧ w'.cell? ⟨w.heap.size + 1 + 1, 3, none⟩ = some (.int .i64 b') ∧ w'.cell? ⟨w.heap.size + 1 + 1, 4, none⟩ = some (.int .i64 t') ∧ w'.cell? ⟨w.heap.size + 1 + 1, 5, none⟩ = some (.int .i64 p') ∧ w'.cell? ⟨w.heap.size + 1 + 1, 6, none⟩ = some (.int .i64 s') ∧ Hid (Aft w1 w')) (first | (with_reducible assumption) | (((with_reducible refine ALL.out _ ?_); (first | (with_reducible apply A0.out) | ((with_reducible apply Aft.drew); (with_reducible apply Aft.alloc); (with_reducible exact Aft.refl _)) | ((with_reducible apply Aft.call ?_ H1.out); (with_reducible exact GET.out _ (by with_reducible assumption))) | ((with_reducible apply Aft.call ?_ H2.out); (with_reducible exact GET.out _ (by with_reducible assumption))) | ((with_reducible apply Aft.realloc (GET.out _ (by with_reducible assumption))); omega) | ((with_reducible apply Aft.alloc); (with_reducible exact GET.out _ (by with_reducible assumption))) | ((iterate 6 (with_reducible refine Aft.set ?_ (by omega))); (with_reducible exact GET.out _ (by with_reducible assumption))) | fail))))
      (first
        | (go_at_call 59; refine (makers_at _).mono ?_; rintro e w2 ⟨r, rfl, hr, hb1⟩; have q1 := run_look w2 r nm j _ hr S3.out; have q2 := run_look (w2.alloc (.cells #[.int .i64 0, .bool false, .int .i64 0, .int .i64 0, .int .i64 0, .int .i64 0] 28)) r nm j _ (((MapKept.heap_alloc w2 _).2 r (by have := Array.getElem?_eq_some_iff.1 hr; exact this.1)).trans hr) S3.out; have H1 : Hid _ := hb1; have l1 := hb1.size; (try simp at l1); (first | (with_reducible have Z1 := hid_mk ((Six.new _ 0 false 0 0 0 0 28).below hb1); obtain ⟨zl1, zc0, zc1, zc2, zc3, zc4, zc5, zf0, zf1, zf2, zf3, zf4, zf5⟩ := Z1.out) | (with_reducible have Z1 := hid_mk ((Six.new _ 0 false 0 0 0 0 28).drew.below hb1); obtain ⟨zl1, zc0, zc1, zc2, zc3, zc4, zc5, zf0, zf1, zf2, zf3, zf4, zf5⟩ := Z1.out) | skip); clear hb1 hr)
        | ((with_reducible show Calls Try.prog F _ _ _); refine (S4.out _).mono ?_; rintro e w3 ⟨rfl, hb2⟩; have H2 : Hid _ := hb2; have l2 := hb2.size; (try simp at l2); (first | (have Z2 : Hid _ := Z1.out.below hb2; obtain ⟨zl2, zc0, zc1, zc2, zc3, zc4, zc5, zf0, zf1, zf2, zf3, zf4, zf5⟩ := Z2.out) | (with_reducible have Z2 := hid_mk ((Six.new _ 0 false 0 0 0 0 28).below hb2); obtain ⟨zl2, zc0, zc1, zc2, zc3, zc4, zc5, zf0, zf1, zf2, zf3, zf4, zf5⟩ := Z2.out) | (with_reducible have Z2 := hid_mk ((Six.new _ 0 false 0 0 0 0 28).drew.below hb2); obtain ⟨zl2, zc0, zc1, zc2, zc3, zc4, zc5, zf0, zf1, zf2, zf3, zf4, zf5⟩ := Z2.out) | skip); clear hb2))
    all_goals
      go_wp2_with fail
      go_meet
      case rel =>
        refine ⟨_, rfl, rfl, ⟨?_, by go_simp, by go_simp, by go_simp, by go_simp, by go_simp, by go_simp, by go_simp, by go_simp, by go_simp, by go_simp, by go_simp, by go_simp⟩, GET.out _ (by with_reducible assumption)⟩
        first | (simp; done) | (simp; omega)
  case rest =>
    obtain ⟨q, rfl, rfl, F1, hA⟩ := hcut
    have M2 : Hid _ := hA.out.mor M1.out
    clear ALL GET A0 hA M1 S3 S4
    obtain ⟨_, y0, y1, y2, y3, y4, y5, g0, g1, g2, g3, g4, g5⟩ := M2.out.z
    cases ok
    · obtain ⟨_, c0, c1, c2, c3, c4, c5, _, _, _, _, _, _⟩ := M2.out.o
      go_wp2
      refine bodyPost_ret (v := .agg #[.int .i64 o0, .bool o1, .int .i64 o2, .int .i64 o3, .int .i64 o4, .int .i64 o5]) (by simp [results, Try.results49, go_sem, y0, y1, y2, y3, y4, y5]) rfl ⟨rfl, ?_⟩
      repeat' (first | (with_reducible exact M2.out.k) | (refine Below.setCell ?_ (by show w.heap.size ≤ _; dsimp only; omega) _))
    · obtain ⟨_, c0, c1, c2, c3, c4, c5, _, _, _, _, _, _⟩ := F1.out
      go_wp2
      refine bodyPost_ret (v := .agg #[.int .i64 v0, .bool v1, .int .i64 v2, .int .i64 v3, .int .i64 v4, .int .i64 v5]) (by simp [results, Try.results49, go_sem, y0, y1, y2, y3, y4, y5]) rfl ⟨rfl, ?_⟩
      repeat' (first | (with_reducible exact M2.out.k) | (refine Below.setCell ?_ (by show w.heap.size ≤ _; dsimp only; omega) _))
end Go.Proofs.Ytcokcfgagbahbaa
