/- The draws of Draw over one bundle, 'Drawn': the code's bytes, the cursor, and what is kept; a number picked of a literal list is one of the list. -/
import Derived.Test.YtneohabkoighcaaGreatDraw
namespace Go.Proofs.YtneohabkoighcaaGreat
open Go.ChangeShapes Go.WideShapes Go.ChangeAt Go.RowKit

/-- A cursor in block q over the bytes that came in below block B. -/
structure Drawn (B q : Nat) (w : World) (a : Option Addr) (len cap : Nat) : Prop where
  code : Code8 B w a len
  hq : B ≤ q
  lt : q < w.heap.size
  cur : Cur w q a len cap

theorem Cur.keep {w w' : World} {q : Nat} {a : Option Addr} {len cap : Nat} (h : Cur w q a len cap) (hb : w'.heap[q]? = w.heap[q]?) : Cur w' q a len cap := by
  obtain ⟨i, x, h0, c0, c1, c2, f1, f2⟩ := h
  exact ⟨i, x, h0, (World.cell?_of_block (w := w) hb).trans c0, (World.cell?_of_block (w := w) hb).trans c1, (World.cell?_of_block (w := w) hb).trans c2, (World.frozen?_of_block (w := w) hb).trans f1, (World.frozen?_of_block (w := w) hb).trans f2⟩

theorem Drawn.keep {B q : Nat} {w w' : World} {a : Option Addr} {len cap : Nat} (d : Drawn B q w a len cap) (k : KeepBut q w w') (u : Cur w' q a len cap) : Drawn B q w' a len cap :=
  ⟨d.code.keep (k.below d.hq (Nat.le_of_lt (Nat.lt_of_le_of_lt d.hq d.lt))), d.hq, Nat.lt_of_lt_of_le d.lt k.size, u⟩
/-- What makes new memory alone keeps it. -/
theorem Drawn.below {B q : Nat} {w w' : World} {a : Option Addr} {len cap : Nat} (d : Drawn B q w a len cap) (h : Below w.heap.size w w') : Drawn B q w' a len cap :=
  d.keep (KeepBut.ofBelow h) (d.cur.keep (h.block q d.lt))
theorem Drawn.alloc {B q : Nat} {w : World} {a : Option Addr} {len cap : Nat} (d : Drawn B q w a len cap) (o : Obj) : Drawn B q (w.alloc o) a len cap :=
  d.below ((Below.refl _ _).alloc (Nat.le_refl _) _)
theorem Drawn.base {B q : Nat} {w : World} {a : Option Addr} {len cap : Nat} (d : Drawn B q w a len cap) : B ≤ w.heap.size := Nat.le_of_lt (Nat.lt_of_le_of_lt d.hq d.lt)

theorem d_below {B q : Nat} {w : World} {a : Option Addr} {len cap : Nat} (n : Int) (d : Drawn B q w a len cap) :
    Calls Tryz.prog 70 #[.pointer (some ⟨q, 0, none⟩), .int .i64 n] w fun e w' => ∃ x : Int, e = .returned (.int .i64 x) ∧ (n ≤ 0 → x = 0) ∧ (0 < n → 0 ≤ x ∧ x < n) ∧ Drawn B q w' a len cap ∧ KeepBut q w w' :=
  (below_any n B q a len cap w d.code d.hq d.base d.cur).mono fun _ _ ⟨x, he, h0, h1, u, k⟩ => ⟨x, he, h0, h1, d.keep k u, k⟩
theorem d_once {B q : Nat} {w : World} {a : Option Addr} {len cap : Nat} (n : Int) (d : Drawn B q w a len cap) :
    Calls Tryz.prog 108 #[.pointer (some ⟨q, 0, none⟩), .int .i64 n] w fun e w' => ∃ x : Bool, e = .returned (.bool x) ∧ Drawn B q w' a len cap ∧ KeepBut q w w' :=
  (once_any n B q a len cap w d.code d.hq d.base d.cur).mono fun _ _ ⟨x, he, u, k⟩ => ⟨x, he, d.keep k u, k⟩

theorem new_list (zs : List Int) (T : TypeId) (w : World) (i : Nat) (hi : i < zs.length) :
    (w.alloc (.cells (zs.map (Value.int .i64)).toArray T)).cell? ⟨w.heap.size, i, none⟩ = some (.int .i64 zs[i]) := by
  simp [hi]

/-- A pick of a literal list, just laid. -/
theorem d_pick {B q : Nat} {w : World} {a : Option Addr} {len cap : Nat} (zs : List Int) (T : TypeId) (m c : Nat) (hm : m = zs.length) (hz : 0 < zs.length) (hM : zs.length ≤ 1000) (d : Drawn B q w a len cap) :
    Calls Tryz.prog 77 #[.pointer (some ⟨q, 0, none⟩), .slice (some ⟨w.heap.size, 0, none⟩) m c] (w.alloc (.cells (zs.map (Value.int .i64)).toArray T)) fun e w' => ∃ x : Int, e = .returned (.int .i64 x) ∧ x ∈ zs ∧ Drawn B q w' a len cap ∧ KeepBut q w w' := by
  subst hm
  have d1 := d.alloc (.cells (zs.map (Value.int .i64)).toArray T)
  have hne : w.heap.size ≠ q := Nat.ne_of_gt d.lt
  refine (pick_any (fun x => x ∈ zs) w.heap.size zs.length c B q a len cap _ d1.code d1.hq d1.base d1.cur hz hM (by simp) hne (fun i hi => ⟨zs[i], List.getElem_mem hi, new_list zs T w i hi⟩)).mono ?_
  rintro e w' ⟨x, he, hp, u, k⟩
  exact ⟨x, he, hp, d1.keep k u, ((KeepBut.refl q w).alloc _).trans k⟩

theorem d_new {w : World} {a : Option Addr} {len cap : Nat} (hc : Code8 w.heap.size w a len) :
    Calls Tryz.prog 37 #[.slice a len cap] w fun e w' => e = .returned (.pointer (some ⟨w.heap.size, 0, none⟩)) ∧ Drawn w.heap.size w.heap.size w' a len cap ∧ Below w.heap.size w w' :=
  (new_any a len cap w hc).mono fun _ _ ⟨he, u, b, l⟩ => ⟨he, ⟨hc.keep b, Nat.le_refl _, l, u⟩, b⟩
end Go.Proofs.YtneohabkoighcaaGreat
