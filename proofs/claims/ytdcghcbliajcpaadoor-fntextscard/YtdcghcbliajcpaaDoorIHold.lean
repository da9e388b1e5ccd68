/- Places in their blocks, as a list: kept by whatever only makes new memory. Plain facts on words of places. -/
import Derived.Test.YtdcghcbliajcpaaDoorInsC
namespace Go.Proofs.YtdcghcbliajcpaaDoor
open Go.ChangeShapes Go.WideShapes Go.ChangeAt Go.RowKit

/-- Each block of R holds its place; what was there in w0 has not turned. -/
structure Ris (w0 : World) (R : List (Nat × In)) (w : World) : Prop where
  all : ∀ x ∈ R, Five w x.1 x.2.o x.2.r x.2.a x.2.b x.2.n
  bel : Below w0.heap.size w0 w
section
variable {w0 w w' : World} {R : List (Nat × In)}
theorem Ris.start (h : Below w0.heap.size w0 w) : Ris w0 [] w := ⟨(by simp), h⟩
theorem Ris.next (h : Ris w0 R w) (hb : Below w.heap.size w w') : Ris w0 R w' := ⟨fun x hx => (h.all x hx).below hb, h.bel.trans (hb.mono h.bel.size)⟩
theorem Ris.drew (h : Ris w0 R w) : Ris w0 R w.drew := h.next (Below.refl _ _).drew
theorem Ris.alloc (h : Ris w0 R w) (o : Obj) : Ris w0 R (w.alloc o) := h.next ((Below.refl _ _).alloc (Nat.le_refl _) _)
theorem Ris.at (h : Ris w0 R w) {k : Nat} {o r a b n : Int} (hx : (k, (⟨o, r, a, b, n⟩ : In)) ∈ R) : Five w k o r a b n := h.all _ hx
theorem Ris.push (h : Ris w0 R w) (o r a b n : Int) (T : TypeId) :
    Ris w0 ((w.heap.size, ⟨o, r, a, b, n⟩) :: R) (w.alloc (.cells #[.int .i64 o, .int .i64 r, .int .i64 a, .int .i64 b, .int .i64 n] T)) := by
  refine ⟨fun x hx => ?_, (h.alloc _).bel⟩
  rcases List.mem_cons.1 hx with rfl | hx
  · exact Five.new w o r a b n T
  · exact (h.alloc _).all x hx
theorem Ris.less (h : Ris w0 R w) {S : List (Nat × In)} (hs : ∀ x ∈ S, x ∈ R) : Ris w0 S w := ⟨fun x hx => h.all x (hs x hx), h.bel⟩
theorem Ris.cells (h : Ris w0 R w) {k : Nat} {o r a b n : Int} (hx : (k, (⟨o, r, a, b, n⟩ : In)) ∈ R) :
    w.cell? ⟨k, 0, none⟩ = some (.int .i64 o) ∧ w.cell? ⟨k, 1, none⟩ = some (.int .i64 r) ∧ w.cell? ⟨k, 2, none⟩ = some (.int .i64 a) ∧ w.cell? ⟨k, 3, none⟩ = some (.int .i64 b) ∧ w.cell? ⟨k, 4, none⟩ = some (.int .i64 n) :=
  have f := h.at hx
  ⟨f.c0, f.c1, f.c2, f.c3, f.c4⟩
end

/-- A place is read from its word as it was. -/
theorem read_back {o r a b n : Int} (h : iokB o r a b n = true) :
    iofB (w32Z o r a b n) = true ∧ iofO (w32Z o r a b n) = o ∧ iofR (w32Z o r a b n) = r ∧ iofA (w32Z o r a b n) = a ∧ iofC (w32Z o r a b n) = b ∧ iofN (w32Z o r a b n) = n ∧ w32Z o r a b n ≤ 9223372036854775807 := by
  have hr := iok_range h
  have e0 : w32Z o r a b n % 16 = o := by unfold w32Z; omega
  have e1 : w32Z o r a b n / 16 % 8 = r := by unfold w32Z; omega
  have e2 : w32Z o r a b n / 128 % 8 = a := by unfold w32Z; omega
  have e3 : w32Z o r a b n / 1024 % 8 = b := by unfold w32Z; omega
  have e4 : w32Z o r a b n / 8192 - 128 = n := by unfold w32Z; omega
  have e5 : 0 ≤ w32Z o r a b n ∧ w32Z o r a b n ≤ 9223372036854775807 := by unfold w32Z; omega
  have hB : iofB (w32Z o r a b n) = true := by
    unfold iofB
    rw [e0, e1, e2, e3, e4, h]
    simp [e5.1]
  refine ⟨hB, ?_, ?_, ?_, ?_, ?_, e5.2⟩
  · unfold iofO; rw [hB, e0]; rfl
  · unfold iofR; rw [hB, e1]; rfl
  · unfold iofA; rw [hB, e2]; rfl
  · unfold iofC; rw [hB, e3]; rfl
  · unfold iofN; rw [hB, e4]; rfl

/-- A word that is read is that of the place. -/
theorem word_back {n : Int} (h : iofB n = true) : iokB (iofO n) (iofR n) (iofA n) (iofC n) (iofN n) = true ∧ w32Z (iofO n) (iofR n) (iofA n) (iofC n) (iofN n) = n := by
  unfold iofO iofR iofA iofC iofN
  rw [h]
  simp only [cond_true]
  have h' := h
  unfold iofB at h'
  simp only [Bool.and_eq_true, decide_eq_true_eq] at h'
  exact ⟨h'.2, back_math h'.1⟩
theorem word_none {n : Int} (h : iofB n = false) : iofO n = 0 ∧ iofR n = 0 ∧ iofA n = 0 ∧ iofC n = 0 ∧ iofN n = 0 := by
  unfold iofO iofR iofA iofC iofN
  rw [h]
  exact ⟨rfl, rfl, rfl, rfl, rfl⟩
theorem eqB_self (o r a b n : Int) : eqB o r a b n o r a b n = true := by simp [eqB]
end Go.Proofs.YtdcghcbliajcpaaDoor
