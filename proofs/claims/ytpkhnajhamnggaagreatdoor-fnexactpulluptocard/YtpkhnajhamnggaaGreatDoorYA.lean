/- Slices of structs, whatever the struct: an element is a list of s values; a slice that is read, a row that is filled, both as facts. No condition. · Entries as lists of forty values; what an entry that is right is. No condition. · toEffect and toEntry of the laws: what they answer, at all effects and entries. No condition. · eqEffect, eqEntry of the laws at what is the same; toEntryS, eqEntryS, szEntryS, szIntS. No condition but that the lists are no longer than the law lets them be. -/
import Derived.Test.YtpkhnajhamnggaaGreatDoorEffL
import Derived.Test.YtpkhnajhamnggaaGreatDoorZI
import Derived.Test.YtpkhnajhamnggaaGreatDoorZH
import Derived.Test.YtpkhnajhamnggaaGreatDoorZE
import Derived.Test.YtpkhnajhamnggaaGreatDoorZA
namespace Go.Proofs.YtpkhnajhamnggaaGreatDoor
open Go.ChangeShapes Go.WideShapes Go.ChangeAt Go.RowKit
set_option maxRecDepth 100000

section
variable {α : Type} {s : Nat} {f : α → List Value}
/-- A slice of the elements L, each of s cells, in a block below B. -/
def SliceV (s : Nat) (f : α → List Value) (B : Nat) (w : World) (a : Option Addr) (len : Nat) (L : List α) : Prop :=
  len ≤ maxLen ∧ L.length = len ∧ (len = 0 ∨ ∃ k o, a = some ⟨k, o, none⟩ ∧ k < B ∧ ∀ j x, L[j]? = some x → w.rangeAt k (o + j * s) (f x))
theorem SliceV.keep {B : Nat} {w w' : World} {a : Option Addr} {len : Nat} {L : List α} (h : SliceV s f B w a len L) (hb : Below B w w') : SliceV s f B w' a len L := by
  refine ⟨h.1, h.2.1, ?_⟩
  rcases h.2.2 with h0 | ⟨k, o, ha, hk, hc⟩
  · exact .inl h0
  · exact .inr ⟨k, o, ha, hk, fun j x hj i v hv => (hb.cell (p := ⟨k, o + j * s + i, none⟩) hk).trans (hc j x hj i v hv)⟩
theorem SliceV.mono {B C : Nat} {w : World} {a : Option Addr} {len : Nat} {L : List α} (h : SliceV s f B w a len L) (hB : B ≤ C) : SliceV s f C w a len L := by
  refine ⟨h.1, h.2.1, ?_⟩
  rcases h.2.2 with h0 | ⟨k, o, ha, hk, hc⟩
  · exact .inl h0
  · exact .inr ⟨k, o, ha, by omega, hc⟩
theorem SliceV.below {w w' : World} {a : Option Addr} {len : Nat} {L : List α} (h : SliceV s f w.heap.size w a len L) (hb : Below w.heap.size w w') : SliceV s f w'.heap.size w' a len L := (h.keep hb).mono hb.size
theorem SliceV.at {B : Nat} {w : World} {a : Option Addr} {len : Nat} {L : List α} (h : SliceV s f B w a len L) {j : Nat} (hj : j < len) :
    ∃ k o x, a = some ⟨k, o, none⟩ ∧ k < B ∧ L[j]? = some x ∧ w.rangeAt k (o + j * s) (f x) := by
  rcases h.2.2 with h0 | ⟨k, o, ha, hk, hc⟩
  · omega
  · have hl : j < L.length := by rw [h.2.1]; exact hj
    exact ⟨k, o, L[j], ha, hk, List.getElem?_eq_getElem hl, hc j _ (List.getElem?_eq_getElem hl)⟩
theorem SliceV.ofBlocks {B : Nat} {w w' : World} {a : Option Addr} {n : Nat} {L : List α} (h : SliceV s f B w a n L) (hlt : B ≤ w.heap.size) (hb : ∀ k, k < w.heap.size → k < B → w'.heap[k]? = w.heap[k]?) : SliceV s f B w' a n L := by
  refine ⟨h.1, h.2.1, ?_⟩
  rcases h.2.2 with h0 | ⟨k, o, ha, hk, hc⟩
  · exact .inl h0
  · exact .inr ⟨k, o, ha, hk, fun j x hj i v hv => (World.cell?_of_block (hb k (Nat.lt_of_lt_of_le hk hlt) hk)).trans (hc j x hj i v hv)⟩
theorem SliceV.take {B : Nat} {w : World} {a : Option Addr} {len m : Nat} {L : List α} (h : SliceV s f B w a len L) (hm : m ≤ len) : SliceV s f B w a m (L.take m) := by
  have hl := h.2.1
  refine ⟨Nat.le_trans hm h.1, by rw [List.length_take]; omega, ?_⟩
  rcases h.2.2 with h0 | ⟨k, o, ha, hk, hc⟩
  · exact .inl (by omega)
  · refine .inr ⟨k, o, ha, hk, fun j x hj => ?_⟩
    have hj' := (List.getElem?_eq_some_iff.1 hj).1
    rw [List.length_take] at hj'
    rw [List.getElem?_take_of_lt (by omega)] at hj
    exact hc j x hj
theorem SliceV.nil (B : Nat) (w : World) : SliceV s f B w none 0 ([] : List α) := ⟨by unfold maxLen; omega, rfl, .inl rfl⟩

/-- A row of len elements in block q, which may be written; the first k are those of L. -/
structure OutV (s : Nat) (f : α → List Value) (w : World) (q len k : Nat) (L : List α) : Prop where
  lt : q < w.heap.size
  has : ∀ i, i < len * s → (w.cell? ⟨q, i, none⟩).isSome = true
  fr : ∀ i, i < len * s → w.frozen? ⟨q, i, none⟩ = false
  wd : ∀ j x, j < k → L[j]? = some x → w.rangeAt q (j * s) (f x)
theorem OutV.ofBlock {w w' : World} {q n k : Nat} {L : List α} (h : OutV s f w q n k L) (hs : w.heap.size ≤ w'.heap.size) (e : w'.heap[q]? = w.heap[q]?) : OutV s f w' q n k L :=
  ⟨Nat.lt_of_lt_of_le h.lt hs, fun i hi => by rw [World.cell?_of_block (w := w) (w' := w') (a := ⟨q, i, none⟩) e]; exact h.has i hi, fun i hi => by rw [World.frozen?_of_block (w := w) (w' := w') (a := ⟨q, i, none⟩) e]; exact h.fr i hi, fun j x hj hx i v hv => (World.cell?_of_block (w := w) (w' := w') (a := ⟨q, j * s + i, none⟩) e).trans (h.wd j x hj hx i v hv)⟩
theorem OutV.below {w w' : World} {q len k : Nat} {L : List α} (h : OutV s f w q len k L) (hb : Below w.heap.size w w') : OutV s f w' q len k L := h.ofBlock hb.size (hb.block q h.lt)
/-- There is room for one element more. -/
theorem OutV.there {w : World} {q len k j : Nat} {L : List α} (h : OutV s f w q len k L) (hj : j < len) : w.there q (j * s) s := fun i hi => by
  have h1 : j * s + i < len * s := by
    have : (j + 1) * s ≤ len * s := Nat.mul_le_mul_right s hj
    rw [Nat.add_mul, Nat.one_mul] at this
    omega
  exact ⟨h.has _ h1, h.fr _ h1⟩
theorem OutV.set {w : World} {q len k : Nat} {L : List α} {x : α} (h : OutV s f w q len k L) (hk : k < len) (hx : L[k]? = some x) (hf : ∀ y, (f y).length = s) : OutV s f (w.setCells q (k * s) (f x)) q len (k + 1) L := by
  have hs := hf x
  have inn : ∀ j, j < (f x).length → (w.setCells q (k * s) (f x)).cell? ⟨q, k * s + j, none⟩ = (f x)[j]? := fun j hj =>
    (World.cell?_setCells_in q (f x) (k * s) w (fun i hi => (h.there hk i (by omega)).1) j hj).trans (List.getElem?_eq_getElem hj).symm
  have out : ∀ i, (i < k * s ∨ k * s + s ≤ i) → (w.setCells q (k * s) (f x)).cell? ⟨q, i, none⟩ = w.cell? ⟨q, i, none⟩ := fun i hi =>
    World.cell?_setCells_out q (f x) (k * s) w ⟨q, i, none⟩ (fun _ _ => by simp; omega)
  refine ⟨by rw [size_setCells]; exact h.lt, fun i hi => ?_, fun i hi => ?_, fun j y hj hy => ?_⟩
  · by_cases h1 : i < k * s ∨ k * s + s ≤ i
    · rw [out i h1]; exact h.has i hi
    · have := inn (i - k * s) (by omega)
      rw [show k * s + (i - k * s) = i by omega] at this
      rw [this, List.getElem?_eq_getElem (by omega)]
      rfl
  · have := World.frozen?_setCells (w := w) q (f x) (k * s) ⟨q, i, none⟩
    exact this.trans (h.fr i hi)
  · by_cases hjk : j = k
    · subst hjk
      obtain rfl : x = y := by rw [hx] at hy; exact Option.some.inj hy
      intro i v hv
      have hi := (List.getElem?_eq_some_iff.1 hv).1
      rw [inn i hi, hv]
    · have h2 : j * s + s ≤ k * s := by
        have : (j + 1) * s ≤ k * s := Nat.mul_le_mul_right s (by omega)
        rwa [Nat.add_mul, Nat.one_mul] at this
      exact World.rangeAt_setCells_apart (h.wd j y (by omega) hy) q (k * s) (f x) (.inr (.inl (by rw [hf y]; exact h2)))
theorem OutV.slice {w : World} {q len : Nat} {L : List α} (h : OutV s f w q len len L) (hl : L.length = len) (hm : len ≤ maxLen) : SliceV s f w.heap.size w (some ⟨q, 0, none⟩) len L :=
  ⟨hm, hl, .inr ⟨q, 0, rfl, h.lt, fun j x hj => by
    have hj' := (List.getElem?_eq_some_iff.1 hj).1
    rw [Nat.zero_add]
    exact h.wd j x (by omega) hj⟩⟩

/-- A slice that came in. -/
def sevF (s : Nat) (f : α → List Value) (B : Nat) (a : Option Addr) (n : Nat) (L : List α) : Fct where
  S := fun k => k < B
  p := fun w => SliceV s f B w a n L ∧ B ≤ w.heap.size
  keep := fun _ _ h hs hb => ⟨h.1.ofBlocks h.2 hb, Nat.le_trans h.2 hs⟩
theorem Hold.sev {w0 w : World} {fs : List Fct} (h : Hold w0 w fs) {B : Nat} {a : Option Addr} {n : Nat} {L : List α} (hm : sevF s f B a n L ∈ fs) : SliceV s f w.heap.size w a n L := by
  have g : SliceV s f B w a n L ∧ B ≤ w.heap.size := h.at hm
  exact g.1.mono g.2
/-- A row in a block of its own, which may be written. -/
def outVF (s : Nat) (f : α → List Value) (q n : Nat) (L : List α) : Fct where
  S := fun k => k = q
  p := fun w => OutV s f w q n n L ∧ L.length = n
  keep := fun _ _ h hs hb => ⟨h.1.ofBlock hs (hb q h.1.lt rfl), h.2⟩
theorem Hold.osl {w0 w : World} {fs : List Fct} (h : Hold w0 w fs) {q n : Nat} {L : List α} (hm : outVF s f q n L ∈ fs) (hn : n ≤ 1048576) : SliceV s f w.heap.size w (some ⟨q, 0, none⟩) n L := by
  have g : OutV s f w q n n L ∧ L.length = n := h.at hm
  exact g.1.slice g.2 (by unfold maxLen; omega)
theorem made_outV (w : World) (len : Nat) (z : Array Value) (T : TypeId) (L : List α) : OutV s f (w.alloc (.cells (madeCells z (len * s)) T)) w.heap.size len 0 L :=
  ⟨by simp, fun i hi => by rw [World.cell?_alloc_new]; simp [madeCells, hi], fun i _ => by simp, fun j _ hj => absurd hj (Nat.not_lt_zero _)⟩
end
end Go.Proofs.YtpkhnajhamnggaaGreatDoor

namespace Go.Proofs.YtpkhnajhamnggaaGreatDoor
open Go.ChangeShapes Go.WideShapes Go.ChangeAt Go.RowKit
set_option maxRecDepth 100000

/-- An entry: where it stands, its place, whether it is done, what it did, where it goes on by guess. -/
structure En where
  pc : Wd
  x : In
  d : Bool
  e : Eff
  g : Wd
def enl (y : En) : List Value := [.int .i64 y.pc.n, .bool y.pc.i, .int .i64 y.pc.b, .int .i64 y.pc.t, .int .i64 y.pc.p, .int .i64 y.pc.s,
  .int .i64 y.x.o, .int .i64 y.x.r, .int .i64 y.x.a, .int .i64 y.x.b, .int .i64 y.x.n, .bool y.d,
  .int .i64 y.e.t, .int .i64 y.e.r, .int .i64 y.e.v.n, .bool y.e.v.i, .int .i64 y.e.v.b, .int .i64 y.e.v.t, .int .i64 y.e.v.p, .int .i64 y.e.v.s,
  .int .i64 y.e.x.n, .bool y.e.x.i, .int .i64 y.e.x.b, .int .i64 y.e.x.t, .int .i64 y.e.x.p, .int .i64 y.e.x.s, .int .i64 y.e.at_,
  .int .i64 y.e.p.n, .bool y.e.p.i, .int .i64 y.e.p.b, .int .i64 y.e.p.t, .int .i64 y.e.p.p, .int .i64 y.e.p.s, .int .i64 y.e.d,
  .int .i64 y.g.n, .bool y.g.i, .int .i64 y.g.b, .int .i64 y.g.t, .int .i64 y.g.p, .int .i64 y.g.s]
theorem enl_len (y : En) : (enl y).length = 40 := rfl
theorem enl_one (y : En) : ((enl y).toArray.all (·.oneCell')) = true := all_oneCell_toArray fun v hv => by
  simp only [enl, List.mem_cons, List.not_mem_nil, or_false] at hv
  rcases hv with rfl | rfl | rfl | rfl | rfl | rfl | rfl | rfl | rfl | rfl | rfl | rfl | rfl | rfl | rfl | rfl | rfl | rfl | rfl | rfl | rfl | rfl | rfl | rfl | rfl | rfl | rfl | rfl | rfl | rfl | rfl | rfl | rfl | rfl | rfl | rfl | rfl | rfl | rfl | rfl <;> rfl
theorem sizeEnt : (Tryz.prog.info? 104).map (·.size) = some 40 := by kernel_rfl
theorem sizeEntL : (Tryz.prog.info? 140).map (·.size) = some 40 := by kernel_rfl
theorem sizeEffL : (Tryz.prog.info? 138).map (·.size) = some 22 := by kernel_rfl
theorem sizeWord : (Tryz.prog.info? 38).map (·.size) = some 6 := by kernel_rfl
theorem sizeIns : (Tryz.prog.info? 76).map (·.size) = some 5 := by kernel_rfl
theorem lv_ent {w : World} {r : Nat} {y : En} (h : w.rangeAt r 0 (enl y)) : (loadVar 104 ⟨r, 0, none⟩).run Tryz.prog w = .ok (.agg (enl y).toArray) w :=
  run_loadVar_mid w r 0 _ _ _ h Tryz.underlying104 rfl sizeEnt
/-- The entry's effect lies within it. -/
theorem ent_e {w : World} {r o : Nat} {y : En} (h : w.rangeAt r o (enl y)) : w.rangeAt r (o + 12) (effl y.e) := fun j v hv => by
  have hj : j < 22 := (List.getElem?_eq_some_iff.1 hv).1
  have e : (enl y)[12 + j]? = (effl y.e)[j]? := by
    have e1 : enl y = (enl y).take 12 ++ (effl y.e ++ (enl y).drop 34) := rfl
    rw [e1, List.getElem?_append_right (by simp [enl])]
    have e2 : 12 + j - ((enl y).take 12).length = j := by simp [enl]
    rw [e2, List.getElem?_append_left (by simpa using hj)]
  rw [Nat.add_assoc]
  exact h (12 + j) v (e.trans hv)
theorem ent_c {w : World} {r o : Nat} {y : En} (h : w.rangeAt r o (enl y)) (i : Nat) (v : Value) (hv : (enl y)[i]? = some v) : w.cell? ⟨r, o + i, none⟩ = some v := h i v hv

/-- A place that is right, or none. -/
def plzB (x : In) : Bool := iokB x.o x.r x.a x.b x.n || eqB x.o x.r x.a x.b x.n 0 0 0 0 0
/-- Whether an entry is right. -/
def entB (y : En) : Bool := okW y.pc && (okW y.g && (okW y.e.v && (okW y.e.x && (okW y.e.p && (plzB y.x && (decide (0 ≤ y.e.t ∧ y.e.t ≤ 5) && (decide (-1 ≤ y.e.r ∧ y.e.r ≤ 7) && decide (y.e.d ≤ 4096))))))))

/-- A block that is being filled from its beginning: n cells that may be written, the first of them known. -/
structure Pre (w : World) (r n : Nat) (vs : List Value) : Prop where
  lt : r < w.heap.size
  ok : w.there r 0 n
  at_ : w.rangeAt r 0 vs
theorem Pre.ofBlock {w w' : World} {r n : Nat} {vs : List Value} (h : Pre w r n vs) (hs : w.heap.size ≤ w'.heap.size) (e : w'.heap[r]? = w.heap[r]?) : Pre w' r n vs :=
  ⟨Nat.lt_of_lt_of_le h.lt hs, fun j hj => ⟨by rw [World.cell?_of_block (w := w) (w' := w') (a := ⟨r, 0 + j, none⟩) e]; exact (h.ok j hj).1, by rw [World.frozen?_of_block (w := w) (w' := w') (a := ⟨r, 0 + j, none⟩) e]; exact (h.ok j hj).2⟩,
    fun j v hv => (World.cell?_of_block (w := w) (w' := w') (a := ⟨r, 0 + j, none⟩) e).trans (h.at_ j v hv)⟩
def preF (r n : Nat) (vs : List Value) : Fct where
  S := fun k => k = r
  p := fun w => Pre w r n vs
  keep := fun _ _ h hs hb => h.ofBlock hs (hb r h.lt rfl)
theorem Hold.pre {w0 w : World} {fs : List Fct} (h : Hold w0 w fs) {r n : Nat} {vs : List Value} (hm : preF r n vs ∈ fs) : Pre w r n vs := h.at hm
theorem Cel.pre {w : World} {r n : Nat} {vs : List Value} (h : Cel w r vs) (hl : vs.length = n) : Pre w r n [] := ⟨h.lt, by rw [← hl]; exact h.there, fun j v hv => by cases hv⟩
theorem Pre.put {w : World} {r n o : Nat} {vs : List Value} (h : Pre w r n vs) (us : List Value) (ho : vs.length = o) (hl : o + us.length ≤ n) : Pre (w.setCells r o us) r n (vs ++ us) := by
  refine ⟨by rw [size_setCells]; exact h.lt, fun j hj => ⟨?_, ?_⟩, fun j v hv => ?_⟩
  · by_cases hjo : o ≤ j ∧ j < o + us.length
    · have := World.cell?_setCells_in r us o w (fun i hi => by have := (h.ok (o + i) (by omega)).1; rwa [Nat.zero_add] at this) (j - o) (by omega)
      rw [show o + (j - o) = 0 + j by omega] at this
      rw [this]
      rfl
    · rw [World.cell?_setCells_out r us o w ⟨r, 0 + j, none⟩ (fun _ _ => by simp; omega)]
      exact (h.ok j hj).1
  · exact (World.frozen?_setCells (w := w) r us o ⟨r, 0 + j, none⟩).trans (h.ok j hj).2
  · by_cases hjo : j < o
    · rw [List.getElem?_append_left (by omega)] at hv
      rw [World.cell?_setCells_out r us o w ⟨r, 0 + j, none⟩ (fun _ _ => by simp; omega)]
      exact h.at_ j v hv
    · rw [List.getElem?_append_right (by omega)] at hv
      have hj2 : j - vs.length < us.length := (List.getElem?_eq_some_iff.1 hv).1
      have := World.cell?_setCells_in r us o w (fun i hi => by have := (h.ok (o + i) (by omega)).1; rwa [Nat.zero_add] at this) (j - o) (by omega)
      rw [show o + (j - o) = 0 + j by omega] at this
      rw [this, ← List.getElem?_eq_getElem, ← ho]
      exact hv
theorem Pre.one {w : World} {r n : Nat} {vs : List Value} (h : Pre w r n vs) (i : Nat) (hi : i < n) : ∃ v, w.cell? ⟨r, i, none⟩ = some v ∧ w.frozen? ⟨r, i, none⟩ = false := by
  have h1 := h.ok i hi
  rw [Nat.zero_add] at h1
  obtain ⟨v, hv⟩ := Option.isSome_iff_exists.1 h1.1
  exact ⟨v, hv, h1.2⟩
/-- There is room behind what is known. -/
theorem Pre.room {w : World} {r n o m : Nat} {vs : List Value} (h : Pre w r n vs) (hm : o + m ≤ n) : w.there r o m := fun j hj => by
  have := h.ok (o + j) (by omega)
  rwa [Nat.zero_add] at this
theorem Hold.put {w0 w : World} {fs : List Fct} {r n o : Nat} {vs : List Value} (h : Hold w0 w (preF r n vs :: fs)) (us : List Value) (ho : vs.length = o) (hl : o + us.length ≤ n) (h0 : w0.heap.size ≤ r) (hd : ∀ f ∈ fs, ¬ f.S r) :
    Hold w0 (w.setCells r o us) (preF r n (vs ++ us) :: fs) :=
  (h.tail.wrote (T := fun k => k = r) (KeptS.ofBut (KeepBut.setCells us o w) rfl) (fun k e => by omega) (fun f hf k hk e => by subst e; exact hd f hf hk)).push (preF r n (vs ++ us)) ((h.pre (.head _)).put us ho hl)
end Go.Proofs.YtpkhnajhamnggaaGreatDoor

namespace Go.Proofs.YtpkhnajhamnggaaGreatDoor
open Go.ChangeShapes Go.WideShapes Go.ChangeAt Go.RowKit
set_option maxRecDepth 100000

set_option maxHeartbeats 4000000 in
theorem toEffect_any (y : Eff) (w : World) :
    Calls Tryz.prog 136 #[.agg (effl y).toArray] w fun e w' => e = .returned (.agg (effl y).toArray) ∧ Below w.heap.size w w' := by
  have H : Hid (Hold w (((w.alloc (.cells (effl y).toArray 138)).alloc (.cells ([.int .i64 0, .int .i64 0, .int .i64 0, .bool false, .int .i64 0, .int .i64 0, .int .i64 0, .int .i64 0, .int .i64 0, .bool false, .int .i64 0, .int .i64 0, .int .i64 0, .int .i64 0, .int .i64 0, .int .i64 0, .bool false, .int .i64 0, .int .i64 0, .int .i64 0, .int .i64 0, .int .i64 0] : List Value).toArray 82)).alloc (.cells ([.int .i64 0, .int .i64 0, .int .i64 0, .bool false, .int .i64 0, .int .i64 0, .int .i64 0, .int .i64 0, .int .i64 0, .bool false, .int .i64 0, .int .i64 0, .int .i64 0, .int .i64 0, .int .i64 0, .int .i64 0, .bool false, .int .i64 0, .int .i64 0, .int .i64 0, .int .i64 0, .int .i64 0] : List Value).toArray 82)) [preF (w.heap.size + 1 + 1) 22 [], celF (w.heap.size + 1) [.int .i64 0, .int .i64 0, .int .i64 0, .bool false, .int .i64 0, .int .i64 0, .int .i64 0, .int .i64 0, .int .i64 0, .bool false, .int .i64 0, .int .i64 0, .int .i64 0, .int .i64 0, .int .i64 0, .int .i64 0, .bool false, .int .i64 0, .int .i64 0, .int .i64 0, .int .i64 0, .int .i64 0], celF w.heap.size (effl y)]) := by
    have h := (((Hold.new w).box (effl y) 138 w.heap.size rfl).box [.int .i64 0, .int .i64 0, .int .i64 0, .bool false, .int .i64 0, .int .i64 0, .int .i64 0, .int .i64 0, .int .i64 0, .bool false, .int .i64 0, .int .i64 0, .int .i64 0, .int .i64 0, .int .i64 0, .int .i64 0, .bool false, .int .i64 0, .int .i64 0, .int .i64 0, .int .i64 0, .int .i64 0] 82 (w.heap.size + 1) (by simp)).box [.int .i64 0, .int .i64 0, .int .i64 0, .bool false, .int .i64 0, .int .i64 0, .int .i64 0, .int .i64 0, .int .i64 0, .bool false, .int .i64 0, .int .i64 0, .int .i64 0, .int .i64 0, .int .i64 0, .int .i64 0, .bool false, .int .i64 0, .int .i64 0, .int .i64 0, .int .i64 0, .int .i64 0] 82 (w.heap.size + 1 + 1) (by simp)
    exact h.tail.push (preF (w.heap.size + 1 + 1) 22 []) ((h.cel (.head _)).pre rfl)
  have DD : Hid (∀ f ∈ [celF (w.heap.size + 1) [.int .i64 0, .int .i64 0, .int .i64 0, .bool false, .int .i64 0, .int .i64 0, .int .i64 0, .int .i64 0, .int .i64 0, .bool false, .int .i64 0, .int .i64 0, .int .i64 0, .int .i64 0, .int .i64 0, .int .i64 0, .bool false, .int .i64 0, .int .i64 0, .int .i64 0, .int .i64 0, .int .i64 0], celF w.heap.size (effl y)], ¬ f.S (w.heap.size + 1 + 1)) := fun f hf hs => by
    simp only [List.mem_cons, List.not_mem_nil, or_false] at hf
    rcases hf with rfl | rfl <;> (simp only [celF] at hs; omega)
  obtain ⟨Q, HQ, HQ2⟩ : ∃ Q : Ending → World → Prop, Hid (∀ w', Below w.heap.size w w' → Q (.returned (.agg (effl y).toArray)) w') ∧ (∀ e w', Q e w' → e = .returned (.agg (effl y).toArray) ∧ Below w.heap.size w w') :=
    ⟨fun e w' => e = .returned (.agg (effl y).toArray) ∧ Below w.heap.size w w', fun w' h => ⟨rfl, h⟩, fun _ _ h => h⟩
  refine Calls.mono (R := Q) ?_ HQ2
  clear HQ2
  generalize hw1 : ((w.alloc (.cells (effl y).toArray 138)).alloc (.cells ([.int .i64 0, .int .i64 0, .int .i64 0, .bool false, .int .i64 0, .int .i64 0, .int .i64 0, .int .i64 0, .int .i64 0, .bool false, .int .i64 0, .int .i64 0, .int .i64 0, .int .i64 0, .int .i64 0, .int .i64 0, .bool false, .int .i64 0, .int .i64 0, .int .i64 0, .int .i64 0, .int .i64 0] : List Value).toArray 82)).alloc (.cells ([.int .i64 0, .int .i64 0, .int .i64 0, .bool false, .int .i64 0, .int .i64 0, .int .i64 0, .int .i64 0, .int .i64 0, .bool false, .int .i64 0, .int .i64 0, .int .i64 0, .int .i64 0, .int .i64 0, .int .i64 0, .bool false, .int .i64 0, .int .i64 0, .int .i64 0, .int .i64 0, .int .i64 0] : List Value).toArray 82) = w1 at H
  go_enter Tryz.func136, Tryz.ntmps136
  go_upto_region 2 with fail
  clear hw1
  have c0 := (H.out.cel (.tail _ (.tail _ (.head _)))).c 0 _ rfl
  obtain ⟨_, e0, f0⟩ := (H.out.pre (.head _)).one 0 (by omega)
  go_upto_region 3 with fail
  clear c0 e0 f0
  replace H : Hid (Hold w (w1.setCell ⟨w.heap.size + 1 + 1, 0, none⟩ (.int .i64 y.t)) _) := H.out.put [.int .i64 y.t] rfl (by simp) (by omega) DD.out
  generalize w1.setCell ⟨w.heap.size + 1 + 1, 0, none⟩ (.int .i64 y.t) = v2 at H ⊢
  have c0 := (H.out.cel (.tail _ (.tail _ (.head _)))).c 1 _ rfl
  obtain ⟨_, e0, f0⟩ := (H.out.pre (.head _)).one 1 (by omega)
  go_upto_region 4 with fail
  clear c0 e0 f0
  replace H : Hid (Hold w (v2.setCell ⟨w.heap.size + 1 + 1, 1, none⟩ (.int .i64 y.r)) _) := H.out.put [.int .i64 y.r] rfl (by simp) (by omega) DD.out
  generalize v2.setCell ⟨w.heap.size + 1 + 1, 1, none⟩ (.int .i64 y.r) = v3 at H ⊢
  have c0 := (H.out.cel (.tail _ (.tail _ (.head _)))).c 2 _ rfl
  have c1 := (H.out.cel (.tail _ (.tail _ (.head _)))).c 3 _ rfl
  have c2 := (H.out.cel (.tail _ (.tail _ (.head _)))).c 4 _ rfl
  have c3 := (H.out.cel (.tail _ (.tail _ (.head _)))).c 5 _ rfl
  have c4 := (H.out.cel (.tail _ (.tail _ (.head _)))).c 6 _ rfl
  have c5 := (H.out.cel (.tail _ (.tail _ (.head _)))).c 7 _ rfl
  go_wp2_with fail
  refine (toWord_any y.v.n y.v.i y.v.b y.v.t y.v.p y.v.s _).mono ?_
  rintro e u4 ⟨rfl, hb⟩
  replace H := hid_mk (H.out.next hb)
  clear hb c0 c1 c2 c3 c4 c5
  obtain ⟨_, e0, f0⟩ := (H.out.pre (.head _)).one 2 (by omega)
  obtain ⟨_, e1, f1⟩ := (H.out.pre (.head _)).one 3 (by omega)
  obtain ⟨_, e2, f2⟩ := (H.out.pre (.head _)).one 4 (by omega)
  obtain ⟨_, e3, f3⟩ := (H.out.pre (.head _)).one 5 (by omega)
  obtain ⟨_, e4, f4⟩ := (H.out.pre (.head _)).one 6 (by omega)
  obtain ⟨_, e5, f5⟩ := (H.out.pre (.head _)).one 7 (by omega)
  go_upto_region 5 with fail
  clear e0 f0 e1 f1 e2 f2 e3 f3 e4 f4 e5 f5
  replace H : Hid (Hold w ((((((u4.setCell ⟨w.heap.size + 1 + 1, 2, none⟩ (.int .i64 y.v.n)).setCell ⟨w.heap.size + 1 + 1, 3, none⟩ (.bool y.v.i)).setCell ⟨w.heap.size + 1 + 1, 4, none⟩ (.int .i64 y.v.b)).setCell ⟨w.heap.size + 1 + 1, 5, none⟩ (.int .i64 y.v.t)).setCell ⟨w.heap.size + 1 + 1, 6, none⟩ (.int .i64 y.v.p)).setCell ⟨w.heap.size + 1 + 1, 7, none⟩ (.int .i64 y.v.s)) _) := H.out.put [.int .i64 y.v.n, .bool y.v.i, .int .i64 y.v.b, .int .i64 y.v.t, .int .i64 y.v.p, .int .i64 y.v.s] rfl (by simp) (by omega) DD.out
  generalize (((((u4.setCell ⟨w.heap.size + 1 + 1, 2, none⟩ (.int .i64 y.v.n)).setCell ⟨w.heap.size + 1 + 1, 3, none⟩ (.bool y.v.i)).setCell ⟨w.heap.size + 1 + 1, 4, none⟩ (.int .i64 y.v.b)).setCell ⟨w.heap.size + 1 + 1, 5, none⟩ (.int .i64 y.v.t)).setCell ⟨w.heap.size + 1 + 1, 6, none⟩ (.int .i64 y.v.p)).setCell ⟨w.heap.size + 1 + 1, 7, none⟩ (.int .i64 y.v.s) = v4 at H ⊢
  have c0 := (H.out.cel (.tail _ (.tail _ (.head _)))).c 8 _ rfl
  have c1 := (H.out.cel (.tail _ (.tail _ (.head _)))).c 9 _ rfl
  have c2 := (H.out.cel (.tail _ (.tail _ (.head _)))).c 10 _ rfl
  have c3 := (H.out.cel (.tail _ (.tail _ (.head _)))).c 11 _ rfl
  have c4 := (H.out.cel (.tail _ (.tail _ (.head _)))).c 12 _ rfl
  have c5 := (H.out.cel (.tail _ (.tail _ (.head _)))).c 13 _ rfl
  go_wp2_with fail
  refine (toWord_any y.x.n y.x.i y.x.b y.x.t y.x.p y.x.s _).mono ?_
  rintro e u5 ⟨rfl, hb⟩
  replace H := hid_mk (H.out.next hb)
  clear hb c0 c1 c2 c3 c4 c5
  obtain ⟨_, e0, f0⟩ := (H.out.pre (.head _)).one 8 (by omega)
  obtain ⟨_, e1, f1⟩ := (H.out.pre (.head _)).one 9 (by omega)
  obtain ⟨_, e2, f2⟩ := (H.out.pre (.head _)).one 10 (by omega)
  obtain ⟨_, e3, f3⟩ := (H.out.pre (.head _)).one 11 (by omega)
  obtain ⟨_, e4, f4⟩ := (H.out.pre (.head _)).one 12 (by omega)
  obtain ⟨_, e5, f5⟩ := (H.out.pre (.head _)).one 13 (by omega)
  go_upto_region 6 with fail
  clear e0 f0 e1 f1 e2 f2 e3 f3 e4 f4 e5 f5
  replace H : Hid (Hold w ((((((u5.setCell ⟨w.heap.size + 1 + 1, 8, none⟩ (.int .i64 y.x.n)).setCell ⟨w.heap.size + 1 + 1, 9, none⟩ (.bool y.x.i)).setCell ⟨w.heap.size + 1 + 1, 10, none⟩ (.int .i64 y.x.b)).setCell ⟨w.heap.size + 1 + 1, 11, none⟩ (.int .i64 y.x.t)).setCell ⟨w.heap.size + 1 + 1, 12, none⟩ (.int .i64 y.x.p)).setCell ⟨w.heap.size + 1 + 1, 13, none⟩ (.int .i64 y.x.s)) _) := H.out.put [.int .i64 y.x.n, .bool y.x.i, .int .i64 y.x.b, .int .i64 y.x.t, .int .i64 y.x.p, .int .i64 y.x.s] rfl (by simp) (by omega) DD.out
  generalize (((((u5.setCell ⟨w.heap.size + 1 + 1, 8, none⟩ (.int .i64 y.x.n)).setCell ⟨w.heap.size + 1 + 1, 9, none⟩ (.bool y.x.i)).setCell ⟨w.heap.size + 1 + 1, 10, none⟩ (.int .i64 y.x.b)).setCell ⟨w.heap.size + 1 + 1, 11, none⟩ (.int .i64 y.x.t)).setCell ⟨w.heap.size + 1 + 1, 12, none⟩ (.int .i64 y.x.p)).setCell ⟨w.heap.size + 1 + 1, 13, none⟩ (.int .i64 y.x.s) = v5 at H ⊢
  have c0 := (H.out.cel (.tail _ (.tail _ (.head _)))).c 14 _ rfl
  obtain ⟨_, e0, f0⟩ := (H.out.pre (.head _)).one 14 (by omega)
  go_upto_region 7 with fail
  clear c0 e0 f0
  replace H : Hid (Hold w (v5.setCell ⟨w.heap.size + 1 + 1, 14, none⟩ (.int .i64 y.at_)) _) := H.out.put [.int .i64 y.at_] rfl (by simp) (by omega) DD.out
  generalize v5.setCell ⟨w.heap.size + 1 + 1, 14, none⟩ (.int .i64 y.at_) = v6 at H ⊢
  have c0 := (H.out.cel (.tail _ (.tail _ (.head _)))).c 15 _ rfl
  have c1 := (H.out.cel (.tail _ (.tail _ (.head _)))).c 16 _ rfl
  have c2 := (H.out.cel (.tail _ (.tail _ (.head _)))).c 17 _ rfl
  have c3 := (H.out.cel (.tail _ (.tail _ (.head _)))).c 18 _ rfl
  have c4 := (H.out.cel (.tail _ (.tail _ (.head _)))).c 19 _ rfl
  have c5 := (H.out.cel (.tail _ (.tail _ (.head _)))).c 20 _ rfl
  go_wp2_with fail
  refine (toWord_any y.p.n y.p.i y.p.b y.p.t y.p.p y.p.s _).mono ?_
  rintro e u7 ⟨rfl, hb⟩
  replace H := hid_mk (H.out.next hb)
  clear hb c0 c1 c2 c3 c4 c5
  obtain ⟨_, e0, f0⟩ := (H.out.pre (.head _)).one 15 (by omega)
  obtain ⟨_, e1, f1⟩ := (H.out.pre (.head _)).one 16 (by omega)
  obtain ⟨_, e2, f2⟩ := (H.out.pre (.head _)).one 17 (by omega)
  obtain ⟨_, e3, f3⟩ := (H.out.pre (.head _)).one 18 (by omega)
  obtain ⟨_, e4, f4⟩ := (H.out.pre (.head _)).one 19 (by omega)
  obtain ⟨_, e5, f5⟩ := (H.out.pre (.head _)).one 20 (by omega)
  go_upto_region 8 with fail
  clear e0 f0 e1 f1 e2 f2 e3 f3 e4 f4 e5 f5
  replace H : Hid (Hold w ((((((u7.setCell ⟨w.heap.size + 1 + 1, 15, none⟩ (.int .i64 y.p.n)).setCell ⟨w.heap.size + 1 + 1, 16, none⟩ (.bool y.p.i)).setCell ⟨w.heap.size + 1 + 1, 17, none⟩ (.int .i64 y.p.b)).setCell ⟨w.heap.size + 1 + 1, 18, none⟩ (.int .i64 y.p.t)).setCell ⟨w.heap.size + 1 + 1, 19, none⟩ (.int .i64 y.p.p)).setCell ⟨w.heap.size + 1 + 1, 20, none⟩ (.int .i64 y.p.s)) _) := H.out.put [.int .i64 y.p.n, .bool y.p.i, .int .i64 y.p.b, .int .i64 y.p.t, .int .i64 y.p.p, .int .i64 y.p.s] rfl (by simp) (by omega) DD.out
  generalize (((((u7.setCell ⟨w.heap.size + 1 + 1, 15, none⟩ (.int .i64 y.p.n)).setCell ⟨w.heap.size + 1 + 1, 16, none⟩ (.bool y.p.i)).setCell ⟨w.heap.size + 1 + 1, 17, none⟩ (.int .i64 y.p.b)).setCell ⟨w.heap.size + 1 + 1, 18, none⟩ (.int .i64 y.p.t)).setCell ⟨w.heap.size + 1 + 1, 19, none⟩ (.int .i64 y.p.p)).setCell ⟨w.heap.size + 1 + 1, 20, none⟩ (.int .i64 y.p.s) = v7 at H ⊢
  have c0 := (H.out.cel (.tail _ (.tail _ (.head _)))).c 21 _ rfl
  obtain ⟨_, e0, f0⟩ := (H.out.pre (.head _)).one 21 (by omega)
  go_upto_region 9 with fail
  clear c0 e0 f0
  replace H : Hid (Hold w (v7.setCell ⟨w.heap.size + 1 + 1, 21, none⟩ (.int .i64 y.d)) _) := H.out.put [.int .i64 y.d] rfl (by simp) (by omega) DD.out
  generalize v7.setCell ⟨w.heap.size + 1 + 1, 21, none⟩ (.int .i64 y.d) = v8 at H ⊢
  have R9 : Hid (v8.rangeAt (w.heap.size + 1 + 1) 0 (effl y)) := (H.out.pre (.head _)).at_
  have C9 := hid_mk (H.out.cel (.tail _ (.head _)))
  have C2 := hid_mk (C9.out.sets (us := effl y) rfl)
  have B2 := hid_mk (below_sets (effl y) H.out.bel (r := w.heap.size + 1) (by omega))
  have hlv := hid_mk (lv_eff C2.out)
  clear H DD
  go_wp2_with (first | (refine wpList_load_mid (by rfl) 82 _ (by rfl) (w.heap.size + 1 + 1) 0 (by rfl) (effl y) _ R9.out Tryz.underlying82 rfl sizeEff ?_) | (refine wpList_store_mid (by rfl) 82 _ _ (by rfl) (w.heap.size + 1) 0 (effl y).toArray (by rfl) (by rfl) C9.out.there sizeEff (effl_one y) ?_))
  refine bodyPost_ret (v := .agg (effl y).toArray) (results_cell1 Tryz.results136 (by rfl) hlv.out) rfl (HQ.out _ B2.out)

set_option maxHeartbeats 4000000 in
theorem toEntry_any (y : En) (w : World) :
    Calls Tryz.prog 106 #[.agg (enl y).toArray] w fun e w' => e = .returned (.agg (enl y).toArray) ∧ Below w.heap.size w w' := by
  have H : Hid (Hold w (((w.alloc (.cells (enl y).toArray 140)).alloc (.cells ([.int .i64 0, .bool false, .int .i64 0, .int .i64 0, .int .i64 0, .int .i64 0, .int .i64 0, .int .i64 0, .int .i64 0, .int .i64 0, .int .i64 0, .bool false, .int .i64 0, .int .i64 0, .int .i64 0, .bool false, .int .i64 0, .int .i64 0, .int .i64 0, .int .i64 0, .int .i64 0, .bool false, .int .i64 0, .int .i64 0, .int .i64 0, .int .i64 0, .int .i64 0, .int .i64 0, .bool false, .int .i64 0, .int .i64 0, .int .i64 0, .int .i64 0, .int .i64 0, .int .i64 0, .bool false, .int .i64 0, .int .i64 0, .int .i64 0, .int .i64 0] : List Value).toArray 104)).alloc (.cells ([.int .i64 0, .bool false, .int .i64 0, .int .i64 0, .int .i64 0, .int .i64 0, .int .i64 0, .int .i64 0, .int .i64 0, .int .i64 0, .int .i64 0, .bool false, .int .i64 0, .int .i64 0, .int .i64 0, .bool false, .int .i64 0, .int .i64 0, .int .i64 0, .int .i64 0, .int .i64 0, .bool false, .int .i64 0, .int .i64 0, .int .i64 0, .int .i64 0, .int .i64 0, .int .i64 0, .bool false, .int .i64 0, .int .i64 0, .int .i64 0, .int .i64 0, .int .i64 0, .int .i64 0, .bool false, .int .i64 0, .int .i64 0, .int .i64 0, .int .i64 0] : List Value).toArray 104)) [preF (w.heap.size + 1 + 1) 40 [], celF (w.heap.size + 1) [.int .i64 0, .bool false, .int .i64 0, .int .i64 0, .int .i64 0, .int .i64 0, .int .i64 0, .int .i64 0, .int .i64 0, .int .i64 0, .int .i64 0, .bool false, .int .i64 0, .int .i64 0, .int .i64 0, .bool false, .int .i64 0, .int .i64 0, .int .i64 0, .int .i64 0, .int .i64 0, .bool false, .int .i64 0, .int .i64 0, .int .i64 0, .int .i64 0, .int .i64 0, .int .i64 0, .bool false, .int .i64 0, .int .i64 0, .int .i64 0, .int .i64 0, .int .i64 0, .int .i64 0, .bool false, .int .i64 0, .int .i64 0, .int .i64 0, .int .i64 0], celF w.heap.size (enl y)]) := by
    have h := (((Hold.new w).box (enl y) 140 w.heap.size rfl).box [.int .i64 0, .bool false, .int .i64 0, .int .i64 0, .int .i64 0, .int .i64 0, .int .i64 0, .int .i64 0, .int .i64 0, .int .i64 0, .int .i64 0, .bool false, .int .i64 0, .int .i64 0, .int .i64 0, .bool false, .int .i64 0, .int .i64 0, .int .i64 0, .int .i64 0, .int .i64 0, .bool false, .int .i64 0, .int .i64 0, .int .i64 0, .int .i64 0, .int .i64 0, .int .i64 0, .bool false, .int .i64 0, .int .i64 0, .int .i64 0, .int .i64 0, .int .i64 0, .int .i64 0, .bool false, .int .i64 0, .int .i64 0, .int .i64 0, .int .i64 0] 104 (w.heap.size + 1) (by simp)).box [.int .i64 0, .bool false, .int .i64 0, .int .i64 0, .int .i64 0, .int .i64 0, .int .i64 0, .int .i64 0, .int .i64 0, .int .i64 0, .int .i64 0, .bool false, .int .i64 0, .int .i64 0, .int .i64 0, .bool false, .int .i64 0, .int .i64 0, .int .i64 0, .int .i64 0, .int .i64 0, .bool false, .int .i64 0, .int .i64 0, .int .i64 0, .int .i64 0, .int .i64 0, .int .i64 0, .bool false, .int .i64 0, .int .i64 0, .int .i64 0, .int .i64 0, .int .i64 0, .int .i64 0, .bool false, .int .i64 0, .int .i64 0, .int .i64 0, .int .i64 0] 104 (w.heap.size + 1 + 1) (by simp)
    exact h.tail.push (preF (w.heap.size + 1 + 1) 40 []) ((h.cel (.head _)).pre rfl)
  have DD : Hid (∀ f ∈ [celF (w.heap.size + 1) [.int .i64 0, .bool false, .int .i64 0, .int .i64 0, .int .i64 0, .int .i64 0, .int .i64 0, .int .i64 0, .int .i64 0, .int .i64 0, .int .i64 0, .bool false, .int .i64 0, .int .i64 0, .int .i64 0, .bool false, .int .i64 0, .int .i64 0, .int .i64 0, .int .i64 0, .int .i64 0, .bool false, .int .i64 0, .int .i64 0, .int .i64 0, .int .i64 0, .int .i64 0, .int .i64 0, .bool false, .int .i64 0, .int .i64 0, .int .i64 0, .int .i64 0, .int .i64 0, .int .i64 0, .bool false, .int .i64 0, .int .i64 0, .int .i64 0, .int .i64 0], celF w.heap.size (enl y)], ¬ f.S (w.heap.size + 1 + 1)) := fun f hf hs => by
    simp only [List.mem_cons, List.not_mem_nil, or_false] at hf
    rcases hf with rfl | rfl <;> (simp only [celF] at hs; omega)
  obtain ⟨Q, HQ, HQ2⟩ : ∃ Q : Ending → World → Prop, Hid (∀ w', Below w.heap.size w w' → Q (.returned (.agg (enl y).toArray)) w') ∧ (∀ e w', Q e w' → e = .returned (.agg (enl y).toArray) ∧ Below w.heap.size w w') :=
    ⟨fun e w' => e = .returned (.agg (enl y).toArray) ∧ Below w.heap.size w w', fun w' h => ⟨rfl, h⟩, fun _ _ h => h⟩
  refine Calls.mono (R := Q) ?_ HQ2
  clear HQ2
  generalize hw1 : ((w.alloc (.cells (enl y).toArray 140)).alloc (.cells ([.int .i64 0, .bool false, .int .i64 0, .int .i64 0, .int .i64 0, .int .i64 0, .int .i64 0, .int .i64 0, .int .i64 0, .int .i64 0, .int .i64 0, .bool false, .int .i64 0, .int .i64 0, .int .i64 0, .bool false, .int .i64 0, .int .i64 0, .int .i64 0, .int .i64 0, .int .i64 0, .bool false, .int .i64 0, .int .i64 0, .int .i64 0, .int .i64 0, .int .i64 0, .int .i64 0, .bool false, .int .i64 0, .int .i64 0, .int .i64 0, .int .i64 0, .int .i64 0, .int .i64 0, .bool false, .int .i64 0, .int .i64 0, .int .i64 0, .int .i64 0] : List Value).toArray 104)).alloc (.cells ([.int .i64 0, .bool false, .int .i64 0, .int .i64 0, .int .i64 0, .int .i64 0, .int .i64 0, .int .i64 0, .int .i64 0, .int .i64 0, .int .i64 0, .bool false, .int .i64 0, .int .i64 0, .int .i64 0, .bool false, .int .i64 0, .int .i64 0, .int .i64 0, .int .i64 0, .int .i64 0, .bool false, .int .i64 0, .int .i64 0, .int .i64 0, .int .i64 0, .int .i64 0, .int .i64 0, .bool false, .int .i64 0, .int .i64 0, .int .i64 0, .int .i64 0, .int .i64 0, .int .i64 0, .bool false, .int .i64 0, .int .i64 0, .int .i64 0, .int .i64 0] : List Value).toArray 104) = w1 at H
  go_enter Tryz.func106, Tryz.ntmps106
  go_upto_region 2 with fail
  clear hw1
  have c0 := (H.out.cel (.tail _ (.tail _ (.head _)))).c 0 _ rfl
  have c1 := (H.out.cel (.tail _ (.tail _ (.head _)))).c 1 _ rfl
  have c2 := (H.out.cel (.tail _ (.tail _ (.head _)))).c 2 _ rfl
  have c3 := (H.out.cel (.tail _ (.tail _ (.head _)))).c 3 _ rfl
  have c4 := (H.out.cel (.tail _ (.tail _ (.head _)))).c 4 _ rfl
  have c5 := (H.out.cel (.tail _ (.tail _ (.head _)))).c 5 _ rfl
  go_wp2_with fail
  refine (toWord_any y.pc.n y.pc.i y.pc.b y.pc.t y.pc.p y.pc.s _).mono ?_
  rintro e u2 ⟨rfl, hb⟩
  replace H := hid_mk (H.out.next hb)
  clear hb c0 c1 c2 c3 c4 c5
  obtain ⟨_, e0, f0⟩ := (H.out.pre (.head _)).one 0 (by omega)
  obtain ⟨_, e1, f1⟩ := (H.out.pre (.head _)).one 1 (by omega)
  obtain ⟨_, e2, f2⟩ := (H.out.pre (.head _)).one 2 (by omega)
  obtain ⟨_, e3, f3⟩ := (H.out.pre (.head _)).one 3 (by omega)
  obtain ⟨_, e4, f4⟩ := (H.out.pre (.head _)).one 4 (by omega)
  obtain ⟨_, e5, f5⟩ := (H.out.pre (.head _)).one 5 (by omega)
  go_upto_region 3 with fail
  clear e0 f0 e1 f1 e2 f2 e3 f3 e4 f4 e5 f5
  replace H : Hid (Hold w ((((((u2.setCell ⟨w.heap.size + 1 + 1, 0, none⟩ (.int .i64 y.pc.n)).setCell ⟨w.heap.size + 1 + 1, 1, none⟩ (.bool y.pc.i)).setCell ⟨w.heap.size + 1 + 1, 2, none⟩ (.int .i64 y.pc.b)).setCell ⟨w.heap.size + 1 + 1, 3, none⟩ (.int .i64 y.pc.t)).setCell ⟨w.heap.size + 1 + 1, 4, none⟩ (.int .i64 y.pc.p)).setCell ⟨w.heap.size + 1 + 1, 5, none⟩ (.int .i64 y.pc.s)) _) := H.out.put [.int .i64 y.pc.n, .bool y.pc.i, .int .i64 y.pc.b, .int .i64 y.pc.t, .int .i64 y.pc.p, .int .i64 y.pc.s] rfl (by simp) (by omega) DD.out
  generalize (((((u2.setCell ⟨w.heap.size + 1 + 1, 0, none⟩ (.int .i64 y.pc.n)).setCell ⟨w.heap.size + 1 + 1, 1, none⟩ (.bool y.pc.i)).setCell ⟨w.heap.size + 1 + 1, 2, none⟩ (.int .i64 y.pc.b)).setCell ⟨w.heap.size + 1 + 1, 3, none⟩ (.int .i64 y.pc.t)).setCell ⟨w.heap.size + 1 + 1, 4, none⟩ (.int .i64 y.pc.p)).setCell ⟨w.heap.size + 1 + 1, 5, none⟩ (.int .i64 y.pc.s) = v2 at H ⊢
  have c0 := (H.out.cel (.tail _ (.tail _ (.head _)))).c 6 _ rfl
  have c1 := (H.out.cel (.tail _ (.tail _ (.head _)))).c 7 _ rfl
  have c2 := (H.out.cel (.tail _ (.tail _ (.head _)))).c 8 _ rfl
  have c3 := (H.out.cel (.tail _ (.tail _ (.head _)))).c 9 _ rfl
  have c4 := (H.out.cel (.tail _ (.tail _ (.head _)))).c 10 _ rfl
  go_wp2_with fail
  refine (toIns_any y.x.o y.x.r y.x.a y.x.b y.x.n _).mono ?_
  rintro e u3 ⟨rfl, hb⟩
  replace H := hid_mk (H.out.next hb)
  clear hb c0 c1 c2 c3 c4
  obtain ⟨_, e0, f0⟩ := (H.out.pre (.head _)).one 6 (by omega)
  obtain ⟨_, e1, f1⟩ := (H.out.pre (.head _)).one 7 (by omega)
  obtain ⟨_, e2, f2⟩ := (H.out.pre (.head _)).one 8 (by omega)
  obtain ⟨_, e3, f3⟩ := (H.out.pre (.head _)).one 9 (by omega)
  obtain ⟨_, e4, f4⟩ := (H.out.pre (.head _)).one 10 (by omega)
  go_upto_region 4 with fail
  clear e0 f0 e1 f1 e2 f2 e3 f3 e4 f4
  replace H : Hid (Hold w (((((u3.setCell ⟨w.heap.size + 1 + 1, 6, none⟩ (.int .i64 y.x.o)).setCell ⟨w.heap.size + 1 + 1, 7, none⟩ (.int .i64 y.x.r)).setCell ⟨w.heap.size + 1 + 1, 8, none⟩ (.int .i64 y.x.a)).setCell ⟨w.heap.size + 1 + 1, 9, none⟩ (.int .i64 y.x.b)).setCell ⟨w.heap.size + 1 + 1, 10, none⟩ (.int .i64 y.x.n)) _) := H.out.put [.int .i64 y.x.o, .int .i64 y.x.r, .int .i64 y.x.a, .int .i64 y.x.b, .int .i64 y.x.n] rfl (by simp) (by omega) DD.out
  generalize ((((u3.setCell ⟨w.heap.size + 1 + 1, 6, none⟩ (.int .i64 y.x.o)).setCell ⟨w.heap.size + 1 + 1, 7, none⟩ (.int .i64 y.x.r)).setCell ⟨w.heap.size + 1 + 1, 8, none⟩ (.int .i64 y.x.a)).setCell ⟨w.heap.size + 1 + 1, 9, none⟩ (.int .i64 y.x.b)).setCell ⟨w.heap.size + 1 + 1, 10, none⟩ (.int .i64 y.x.n) = v3 at H ⊢
  have c0 := (H.out.cel (.tail _ (.tail _ (.head _)))).c 11 _ rfl
  obtain ⟨_, e0, f0⟩ := (H.out.pre (.head _)).one 11 (by omega)
  go_upto_region 5 with fail
  clear c0 e0 f0
  replace H : Hid (Hold w (v3.setCell ⟨w.heap.size + 1 + 1, 11, none⟩ (.bool y.d)) _) := H.out.put [.bool y.d] rfl (by simp) (by omega) DD.out
  generalize v3.setCell ⟨w.heap.size + 1 + 1, 11, none⟩ (.bool y.d) = v4 at H ⊢
  have RS := hid_mk (ent_e (H.out.cel (.tail _ (.tail _ (.head _)))).range)
  go_wp2_with (refine wpList_load_mid (by rfl) 138 _ (by rfl) w.heap.size 12 (by rfl) (effl y.e) _ RS.out Tryz.underlying138 rfl sizeEffL ?_)
  refine (toEffect_any y.e _).mono ?_
  rintro e u5 ⟨rfl, hb⟩
  replace H := hid_mk (H.out.next hb)
  clear hb RS
  have TH := hid_mk ((H.out.pre (.head _)).room (o := 12) (m := 22) (by omega))
  go_upto_region 6 with (refine wpList_store_mid (by rfl) 82 _ _ (by rfl) (w.heap.size + 1 + 1) 12 (effl y.e).toArray (by rfl) (by rfl) TH.out sizeEff (effl_one y.e) ?_)
  clear TH
  replace H : Hid (Hold w (u5.setCells (w.heap.size + 1 + 1) 12 (effl y.e)) _) := H.out.put (effl y.e) rfl (by simp) (by omega) DD.out
  generalize u5.setCells (w.heap.size + 1 + 1) 12 (effl y.e) = v5 at H ⊢
  have c0 := (H.out.cel (.tail _ (.tail _ (.head _)))).c 34 _ rfl
  have c1 := (H.out.cel (.tail _ (.tail _ (.head _)))).c 35 _ rfl
  have c2 := (H.out.cel (.tail _ (.tail _ (.head _)))).c 36 _ rfl
  have c3 := (H.out.cel (.tail _ (.tail _ (.head _)))).c 37 _ rfl
  have c4 := (H.out.cel (.tail _ (.tail _ (.head _)))).c 38 _ rfl
  have c5 := (H.out.cel (.tail _ (.tail _ (.head _)))).c 39 _ rfl
  go_wp2_with fail
  refine (toWord_any y.g.n y.g.i y.g.b y.g.t y.g.p y.g.s _).mono ?_
  rintro e u6 ⟨rfl, hb⟩
  replace H := hid_mk (H.out.next hb)
  clear hb c0 c1 c2 c3 c4 c5
  obtain ⟨_, e0, f0⟩ := (H.out.pre (.head _)).one 34 (by omega)
  obtain ⟨_, e1, f1⟩ := (H.out.pre (.head _)).one 35 (by omega)
  obtain ⟨_, e2, f2⟩ := (H.out.pre (.head _)).one 36 (by omega)
  obtain ⟨_, e3, f3⟩ := (H.out.pre (.head _)).one 37 (by omega)
  obtain ⟨_, e4, f4⟩ := (H.out.pre (.head _)).one 38 (by omega)
  obtain ⟨_, e5, f5⟩ := (H.out.pre (.head _)).one 39 (by omega)
  go_upto_region 7 with fail
  clear e0 f0 e1 f1 e2 f2 e3 f3 e4 f4 e5 f5
  replace H : Hid (Hold w ((((((u6.setCell ⟨w.heap.size + 1 + 1, 34, none⟩ (.int .i64 y.g.n)).setCell ⟨w.heap.size + 1 + 1, 35, none⟩ (.bool y.g.i)).setCell ⟨w.heap.size + 1 + 1, 36, none⟩ (.int .i64 y.g.b)).setCell ⟨w.heap.size + 1 + 1, 37, none⟩ (.int .i64 y.g.t)).setCell ⟨w.heap.size + 1 + 1, 38, none⟩ (.int .i64 y.g.p)).setCell ⟨w.heap.size + 1 + 1, 39, none⟩ (.int .i64 y.g.s)) _) := H.out.put [.int .i64 y.g.n, .bool y.g.i, .int .i64 y.g.b, .int .i64 y.g.t, .int .i64 y.g.p, .int .i64 y.g.s] rfl (by simp) (by omega) DD.out
  generalize (((((u6.setCell ⟨w.heap.size + 1 + 1, 34, none⟩ (.int .i64 y.g.n)).setCell ⟨w.heap.size + 1 + 1, 35, none⟩ (.bool y.g.i)).setCell ⟨w.heap.size + 1 + 1, 36, none⟩ (.int .i64 y.g.b)).setCell ⟨w.heap.size + 1 + 1, 37, none⟩ (.int .i64 y.g.t)).setCell ⟨w.heap.size + 1 + 1, 38, none⟩ (.int .i64 y.g.p)).setCell ⟨w.heap.size + 1 + 1, 39, none⟩ (.int .i64 y.g.s) = v6 at H ⊢
  have R9 : Hid (v6.rangeAt (w.heap.size + 1 + 1) 0 (enl y)) := (H.out.pre (.head _)).at_
  have C9 := hid_mk (H.out.cel (.tail _ (.head _)))
  have C2 := hid_mk (C9.out.sets (us := enl y) rfl)
  have B2 := hid_mk (below_sets (enl y) H.out.bel (r := w.heap.size + 1) (by omega))
  have hlv := hid_mk (lv_ent C2.out.range)
  clear H DD
  go_wp2_with (first | (refine wpList_load_mid (by rfl) 104 _ (by rfl) (w.heap.size + 1 + 1) 0 (by rfl) (enl y) _ R9.out Tryz.underlying104 rfl sizeEnt ?_) | (refine wpList_store_mid (by rfl) 104 _ _ (by rfl) (w.heap.size + 1) 0 (enl y).toArray (by rfl) (by rfl) C9.out.there sizeEnt (enl_one y) ?_))
  refine bodyPost_ret (v := .agg (enl y).toArray) (results_cell1 Tryz.results106 (by rfl) hlv.out) rfl (HQ.out _ B2.out)
end Go.Proofs.YtpkhnajhamnggaaGreatDoor

namespace Go.Proofs.YtpkhnajhamnggaaGreatDoor
open Go.ChangeShapes Go.WideShapes Go.ChangeAt Go.RowKit
set_option maxRecDepth 100000

theorem bne_b (d : Bool) : (d != d) = false := by cases d <;> rfl
theorem SliceV.range {α : Type} {s : Nat} {f : α → List Value} {B : Nat} {w : World} {k o len j : Nat} {x : α} {L : List α} (h : SliceV s f B w (some ⟨k, o, none⟩) len L) (hj : j < len) (hx : L[j]? = some x) : w.rangeAt k (o + j * s) (f x) := by
  rcases h.2.2 with h0 | ⟨k', o', ha, hk, hc⟩
  · omega
  · cases ha; exact hc j x hx

set_option maxHeartbeats 2000000 in
theorem eqEffect_same (y : Eff) (w : World) :
    Calls Tryz.prog 143 #[.agg (effl y).toArray, .agg (effl y).toArray] w fun e w' => e = .returned (.bool true) ∧ Below w.heap.size w w' := by
  have H : Hid (Hold w ((w.alloc (.cells (effl y).toArray 82)).alloc (.cells (effl y).toArray 82)) [celF (w.heap.size + 1) (effl y), celF w.heap.size (effl y)]) := ((Hold.new w).box (effl y) 82 w.heap.size rfl).box (effl y) 82 (w.heap.size + 1) (by simp)
  generalize hw1 : (w.alloc (.cells (effl y).toArray 82)).alloc (.cells (effl y).toArray 82) = w1 at H
  go_enter Tryz.func143, Tryz.ntmps143
  go_upto_region 1 with fail
  clear hw1
  have n1 : (y.t != y.t) = false := by simp
  have n2 : (y.r != y.r) = false := by simp
  have n3 : (y.at_ != y.at_) = false := by simp
  have n4 : (y.d != y.d) = false := by simp
  have c0 := (H.out.cel (.tail _ (.head _))).c 0 _ rfl
  have d0 := (H.out.cel (.head _)).c 0 _ rfl
  have c1 := (H.out.cel (.tail _ (.head _))).c 1 _ rfl
  have d1 := (H.out.cel (.head _)).c 1 _ rfl
  have p0 := (H.out.cel (.tail _ (.head _))).c 2 _ rfl
  have q0 := (H.out.cel (.head _)).c 2 _ rfl
  have p1 := (H.out.cel (.tail _ (.head _))).c 3 _ rfl
  have q1 := (H.out.cel (.head _)).c 3 _ rfl
  have p2 := (H.out.cel (.tail _ (.head _))).c 4 _ rfl
  have q2 := (H.out.cel (.head _)).c 4 _ rfl
  have p3 := (H.out.cel (.tail _ (.head _))).c 5 _ rfl
  have q3 := (H.out.cel (.head _)).c 5 _ rfl
  have p4 := (H.out.cel (.tail _ (.head _))).c 6 _ rfl
  have q4 := (H.out.cel (.head _)).c 6 _ rfl
  have p5 := (H.out.cel (.tail _ (.head _))).c 7 _ rfl
  have q5 := (H.out.cel (.head _)).c 7 _ rfl
  go_wp2_with fail
  refine (eqWord_same y.v.n y.v.i y.v.b y.v.t y.v.p y.v.s _).mono ?_
  rintro e w2 ⟨rfl, hb⟩
  replace H := hid_mk (H.out.next hb)
  clear hb p0 q0 p1 q1 p2 q2 p3 q3 p4 q4 p5 q5
  have p0 := (H.out.cel (.tail _ (.head _))).c 8 _ rfl
  have q0 := (H.out.cel (.head _)).c 8 _ rfl
  have p1 := (H.out.cel (.tail _ (.head _))).c 9 _ rfl
  have q1 := (H.out.cel (.head _)).c 9 _ rfl
  have p2 := (H.out.cel (.tail _ (.head _))).c 10 _ rfl
  have q2 := (H.out.cel (.head _)).c 10 _ rfl
  have p3 := (H.out.cel (.tail _ (.head _))).c 11 _ rfl
  have q3 := (H.out.cel (.head _)).c 11 _ rfl
  have p4 := (H.out.cel (.tail _ (.head _))).c 12 _ rfl
  have q4 := (H.out.cel (.head _)).c 12 _ rfl
  have p5 := (H.out.cel (.tail _ (.head _))).c 13 _ rfl
  have q5 := (H.out.cel (.head _)).c 13 _ rfl
  go_wp2_with fail
  refine (eqWord_same y.x.n y.x.i y.x.b y.x.t y.x.p y.x.s _).mono ?_
  rintro e w3 ⟨rfl, hb⟩
  replace H := hid_mk (H.out.next hb)
  clear hb p0 q0 p1 q1 p2 q2 p3 q3 p4 q4 p5 q5
  have c0 := (H.out.cel (.tail _ (.head _))).c 14 _ rfl
  have d0 := (H.out.cel (.head _)).c 14 _ rfl
  have p0 := (H.out.cel (.tail _ (.head _))).c 15 _ rfl
  have q0 := (H.out.cel (.head _)).c 15 _ rfl
  have p1 := (H.out.cel (.tail _ (.head _))).c 16 _ rfl
  have q1 := (H.out.cel (.head _)).c 16 _ rfl
  have p2 := (H.out.cel (.tail _ (.head _))).c 17 _ rfl
  have q2 := (H.out.cel (.head _)).c 17 _ rfl
  have p3 := (H.out.cel (.tail _ (.head _))).c 18 _ rfl
  have q3 := (H.out.cel (.head _)).c 18 _ rfl
  have p4 := (H.out.cel (.tail _ (.head _))).c 19 _ rfl
  have q4 := (H.out.cel (.head _)).c 19 _ rfl
  have p5 := (H.out.cel (.tail _ (.head _))).c 20 _ rfl
  have q5 := (H.out.cel (.head _)).c 20 _ rfl
  go_wp2_with fail
  refine (eqWord_same y.p.n y.p.i y.p.b y.p.t y.p.p y.p.s _).mono ?_
  rintro e w4 ⟨rfl, hb⟩
  replace H := hid_mk (H.out.next hb)
  clear hb p0 q0 p1 q1 p2 q2 p3 q3 p4 q4 p5 q5
  have c0 := (H.out.cel (.tail _ (.head _))).c 21 _ rfl
  have d0 := (H.out.cel (.head _)).c 21 _ rfl
  have B := hid_mk H.out.bel
  clear H
  go_wp2
  go_ret
  exact ⟨rfl, B.out⟩

set_option maxHeartbeats 2000000 in
theorem eqEntry_same (y : En) (w : World) :
    Calls Tryz.prog 115 #[.agg (enl y).toArray, .agg (enl y).toArray] w fun e w' => e = .returned (.bool true) ∧ Below w.heap.size w w' := by
  have H : Hid (Hold w ((w.alloc (.cells (enl y).toArray 104)).alloc (.cells (enl y).toArray 104)) [celF (w.heap.size + 1) (enl y), celF w.heap.size (enl y)]) := ((Hold.new w).box (enl y) 104 w.heap.size rfl).box (enl y) 104 (w.heap.size + 1) (by simp)
  generalize hw1 : (w.alloc (.cells (enl y).toArray 104)).alloc (.cells (enl y).toArray 104) = w1 at H
  go_enter Tryz.func115, Tryz.ntmps115
  go_upto_region 1 with fail
  clear hw1
  have n1 := bne_b y.d
  have p0 := (H.out.cel (.tail _ (.head _))).c 0 _ rfl
  have q0 := (H.out.cel (.head _)).c 0 _ rfl
  have p1 := (H.out.cel (.tail _ (.head _))).c 1 _ rfl
  have q1 := (H.out.cel (.head _)).c 1 _ rfl
  have p2 := (H.out.cel (.tail _ (.head _))).c 2 _ rfl
  have q2 := (H.out.cel (.head _)).c 2 _ rfl
  have p3 := (H.out.cel (.tail _ (.head _))).c 3 _ rfl
  have q3 := (H.out.cel (.head _)).c 3 _ rfl
  have p4 := (H.out.cel (.tail _ (.head _))).c 4 _ rfl
  have q4 := (H.out.cel (.head _)).c 4 _ rfl
  have p5 := (H.out.cel (.tail _ (.head _))).c 5 _ rfl
  have q5 := (H.out.cel (.head _)).c 5 _ rfl
  go_wp2_with fail
  refine (eqWord_same y.pc.n y.pc.i y.pc.b y.pc.t y.pc.p y.pc.s _).mono ?_
  rintro e w2 ⟨rfl, hb⟩
  replace H := hid_mk (H.out.next hb)
  clear hb p0 q0 p1 q1 p2 q2 p3 q3 p4 q4 p5 q5
  have p0 := (H.out.cel (.tail _ (.head _))).c 6 _ rfl
  have q0 := (H.out.cel (.head _)).c 6 _ rfl
  have p1 := (H.out.cel (.tail _ (.head _))).c 7 _ rfl
  have q1 := (H.out.cel (.head _)).c 7 _ rfl
  have p2 := (H.out.cel (.tail _ (.head _))).c 8 _ rfl
  have q2 := (H.out.cel (.head _)).c 8 _ rfl
  have p3 := (H.out.cel (.tail _ (.head _))).c 9 _ rfl
  have q3 := (H.out.cel (.head _)).c 9 _ rfl
  have p4 := (H.out.cel (.tail _ (.head _))).c 10 _ rfl
  have q4 := (H.out.cel (.head _)).c 10 _ rfl
  go_wp2_with fail
  refine (eqIns_same y.x.o y.x.r y.x.a y.x.b y.x.n _).mono ?_
  rintro e w3 ⟨rfl, hb⟩
  replace H := hid_mk (H.out.next hb)
  clear hb p0 q0 p1 q1 p2 q2 p3 q3 p4 q4
  have c0 := (H.out.cel (.tail _ (.head _))).c 11 _ rfl
  have d0 := (H.out.cel (.head _)).c 11 _ rfl
  have R1 := hid_mk (ent_e (H.out.cel (.tail _ (.head _))).range)
  have R2 := hid_mk (ent_e (H.out.cel (.head _)).range)
  go_wp2_with (first | (refine wpList_load_mid (by rfl) 82 _ (by rfl) w.heap.size 12 (by rfl) (effl y.e) _ R1.out Tryz.underlying82 rfl sizeEff ?_) | (refine wpList_load_mid (by rfl) 82 _ (by rfl) (w.heap.size + 1) 12 (by rfl) (effl y.e) _ R2.out Tryz.underlying82 rfl sizeEff ?_))
  refine (eqEffect_same y.e _).mono ?_
  rintro e w4 ⟨rfl, hb⟩
  replace H := hid_mk (H.out.next hb)
  clear hb c0 d0 R1 R2
  have p0 := (H.out.cel (.tail _ (.head _))).c 34 _ rfl
  have q0 := (H.out.cel (.head _)).c 34 _ rfl
  have p1 := (H.out.cel (.tail _ (.head _))).c 35 _ rfl
  have q1 := (H.out.cel (.head _)).c 35 _ rfl
  have p2 := (H.out.cel (.tail _ (.head _))).c 36 _ rfl
  have q2 := (H.out.cel (.head _)).c 36 _ rfl
  have p3 := (H.out.cel (.tail _ (.head _))).c 37 _ rfl
  have q3 := (H.out.cel (.head _)).c 37 _ rfl
  have p4 := (H.out.cel (.tail _ (.head _))).c 38 _ rfl
  have q4 := (H.out.cel (.head _)).c 38 _ rfl
  have p5 := (H.out.cel (.tail _ (.head _))).c 39 _ rfl
  have q5 := (H.out.cel (.head _)).c 39 _ rfl
  go_wp2_with fail
  refine (eqWord_same y.g.n y.g.i y.g.b y.g.t y.g.p y.g.s _).mono ?_
  rintro e w5 ⟨rfl, hb⟩
  replace H := hid_mk (H.out.next hb)
  clear hb p0 q0 p1 q1 p2 q2 p3 q3 p4 q4 p5 q5
  have B := hid_mk H.out.bel
  clear H
  go_wp2
  go_ret
  exact ⟨rfl, B.out⟩

theorem infoEnt : (Tryz.prog.info? 104).map (fun i => (i.zero, i.size, i.bytes)) = some (some (.agg #[.int .i64 0, .bool false, .int .i64 0, .int .i64 0, .int .i64 0, .int .i64 0, .int .i64 0, .int .i64 0, .int .i64 0, .int .i64 0, .int .i64 0, .bool false, .int .i64 0, .int .i64 0, .int .i64 0, .bool false, .int .i64 0, .int .i64 0, .int .i64 0, .int .i64 0, .int .i64 0, .bool false, .int .i64 0, .int .i64 0, .int .i64 0, .int .i64 0, .int .i64 0, .int .i64 0, .bool false, .int .i64 0, .int .i64 0, .int .i64 0, .int .i64 0, .int .i64 0, .int .i64 0, .bool false, .int .i64 0, .int .i64 0, .int .i64 0, .int .i64 0]), 40, 320) := by kernel_rfl
theorem run_makeEnts (len : Nat) (hl : len ≤ 262144) (w : World) :
    (Instr.makeSlice 62 (.int .i64 (len : Int)) (.int .i64 (len : Int))).run Tryz.prog w = .ok (.slice (some ⟨w.heap.size, 0, none⟩) len len) (w.alloc (.cells (madeCells #[.int .i64 0, .bool false, .int .i64 0, .int .i64 0, .int .i64 0, .int .i64 0, .int .i64 0, .int .i64 0, .int .i64 0, .int .i64 0, .int .i64 0, .bool false, .int .i64 0, .int .i64 0, .int .i64 0, .bool false, .int .i64 0, .int .i64 0, .int .i64 0, .int .i64 0, .int .i64 0, .bool false, .int .i64 0, .int .i64 0, .int .i64 0, .int .i64 0, .int .i64 0, .int .i64 0, .bool false, .int .i64 0, .int .i64 0, .int .i64 0, .int .i64 0, .int .i64 0, .int .i64 0, .bool false, .int .i64 0, .int .i64 0, .int .i64 0, .int .i64 0] (len * 40)) 104)) := by
  obtain ⟨i, hi, h0, h1, h2⟩ := info_parts infoEnt
  have := run_makeSlice (w := w) 62 104 i _ Tryz.underlying62 hi h0 .i64 .i64 (len : Int) (len : Int) (by omega) (by omega) (by rw [h1]; simp; omega) (by rw [h2]; omega) (by omega)
  rw [this, h1]
  simp [Value.cells]

set_option maxHeartbeats 2000000 in
theorem toEntryS_own (a : Option Addr) (len cap : Nat) (L : List En) (w : World) (hl : len ≤ 262144) (hS : SliceV 40 enl w.heap.size w a len L) :
    Calls Tryz.prog 61 #[.slice a len cap] w fun e w' => ∃ q, e = .returned (.slice (some ⟨q, 0, none⟩) len len) ∧ w.heap.size ≤ q ∧ (outVF 40 enl q len L).p w' ∧ Below w.heap.size w w' := by
  have S := hid_mk hS
  have hmk := run_makeEnts len hl
  have hL := hS.2.1
  clear hS
  go_enter Tryz.func61, Tryz.ntmps61
  go_wp2
  go_loopw [4] (fun c wr => ∃ k : Nat, k ≤ len ∧ c = .int .i64 k ∧ Hid (OutV 40 enl wr w.heap.size len k L) ∧ Hid (Below w.heap.size w wr)) (fun c _ => len - (intOf c).toNat)
  case atStart => exact ⟨0, Nat.zero_le _, rfl, made_outV _ _ _ _ _, (Below.refl _ _).alloc (Nat.le_refl _) _⟩
  case round =>
    clear hmk
    obtain ⟨k, hk, rfl, hO, hB⟩ := hrel
    by_cases hlt : k < len
    · obtain ⟨kb, o, x, rfl, hkb, hx, hat⟩ := (S.out.keep hB.out).at hlt
      have zB := hB.out.size
      have HX := hid_mk hx
      have RS := hid_mk hat
      clear hx hat
      go_wp2_with (refine wpList_load_mid (by rfl) 140 _ (by rfl) kb (o + k * 40) (by rfl) (enl x) _ RS.out Tryz.underlying140 rfl sizeEntL ?_)
      refine (toEntry_any x _).mono ?_
      rintro e w1 ⟨rfl, hb1⟩
      have O1 := hid_mk (hO.out.below hb1)
      have K1 : Hid (Below w.heap.size w w1) := hB.out.trans (hb1.mono zB)
      clear hb1 RS
      have TH := hid_mk (O1.out.there hlt)
      have O2 := hid_mk (O1.out.set hlt HX.out enl_len)
      have k2 : KeepBut w.heap.size w1 (w1.setCells w.heap.size (k * 40) (enl x)) := KeepBut.setCells _ _ _
      have K2 : Hid (Below w.heap.size w (w1.setCells w.heap.size (k * 40) (enl x))) := K1.out.trans (k2.below (Nat.le_refl _) K1.out.size)
      clear k2
      go_upto_region 4 with (refine wpList_store_mid (by rfl) 104 _ _ (by rfl) w.heap.size (k * 40) (enl x).toArray (by rfl) (by rfl) TH.out sizeEnt (enl_one x) ?_)
      generalize w1.setCells w.heap.size (k * 40) (enl x) = w2 at O2 K2 ⊢
      go_wp2
      go_roundw
      case rel => exact ⟨k + 1, hlt, by go_num, O2.out, K2.out⟩
      case measure => simp [intOf]; omega
    · obtain rfl : k = len := by omega
      go_wp2
      go_ret
      exact ⟨_, rfl, Nat.le_refl _, ⟨hO.out, hL⟩, hB.out⟩

set_option maxHeartbeats 4000000 in
theorem eqEntryS_same (a a' : Option Addr) (len cap cap' : Nat) (L : List En) (w : World) (hS : SliceV 40 enl w.heap.size w a len L) (hS' : SliceV 40 enl w.heap.size w a' len L) :
    Calls Tryz.prog 67 #[.slice a len cap, .slice a' len cap'] w fun e w' => e = .returned (.bool true) ∧ Below w.heap.size w w' := by
  have H0 := hid_mk (((Hold.new w).push (sevF 40 enl w.heap.size a len L) ⟨hS, Nat.le_refl _⟩).push (sevF 40 enl w.heap.size a' len L) ⟨hS', Nat.le_refl _⟩)
  have hlen := hS.1
  unfold maxLen at hlen
  clear hS hS'
  go_enter Tryz.func67, Tryz.ntmps67
  go_wp2
  go_loopw [5] (fun c wr => ∃ k : Nat, k ≤ len ∧ c = .int .i64 k ∧ Hid (Hold w wr [sevF 40 enl w.heap.size a' len L, sevF 40 enl w.heap.size a len L])) (fun c _ => len - (intOf c).toNat)
  case atStart => exact ⟨0, Nat.zero_le _, rfl, H0.out⟩
  case round =>
    clear H0
    obtain ⟨k, hk, rfl, H⟩ := hrel
    by_cases hlt : k < len
    · obtain ⟨kb, o, x, rfl, hkb, hx, _⟩ := (H.out.sev (.tail _ (.head _))).at hlt
      obtain ⟨kb', o', x', rfl, hkb', hx', _⟩ := (H.out.sev (.head _)).at hlt
      obtain rfl : x = x' := by rw [hx] at hx'; exact Option.some.inj hx'
      have HX := hid_mk hx
      clear hx hx'
      go_upto_region 6 with fail
      have D0 := hid_mk H.out.drew
      refine wp_region_held_drew (S := fun w' => Hold w w' [sevF 40 enl w.heap.size (some ⟨kb', o', none⟩) len L, sevF 40 enl w.heap.size (some ⟨kb, o, none⟩) len L]) (by kernel_rfl) D0.out (fun hHeld => ?_)
      generalize wr.drew = wd at D0 hHeld ⊢
      clear H
      refine take_on (i := 0) (d := 17) (v := .slice (some ⟨kb, o, none⟩) len cap) rfl rfl (by kernel_rfl) (by kernel_rfl) (by kernel_rfl) (fun _ _ _ h => h) (by rfl) ?_ hHeld ?_
      · (intro w' hSw; go_simp)
      (try simp only [Act.put]); (try simp only [List.setIfInBounds_toArray]); (try simp only [List.set_cons_succ]); (try simp only [List.set_cons_zero]); (try simp only [List.set_cons_succ]); (try simp only [List.set_cons_zero]); (try simp only [Nat.zero_add])
      refine take_on (i := 1) (d := 18) (v := .int .i64 (k : Int)) rfl rfl (by kernel_rfl) (by kernel_rfl) (by kernel_rfl) (fun _ _ _ h => h) (by rfl) ?_ hHeld ?_
      · (intro w' hSw; go_simp)
      (try simp only [Act.put]); (try simp only [List.setIfInBounds_toArray]); (try simp only [List.set_cons_succ]); (try simp only [List.set_cons_zero]); (try simp only [List.set_cons_succ]); (try simp only [List.set_cons_zero]); (try simp only [Nat.zero_add])
      refine take_on (i := 2) (d := 19) (v := .pointer (some ⟨kb, o + k * 40, none⟩)) rfl rfl (by kernel_rfl) (by kernel_rfl) (by kernel_rfl) (fun _ _ _ h => h) (by rfl) ?_ hHeld ?_
      · (intro w' hSw; go_simp)
      (try simp only [Act.put]); (try simp only [List.setIfInBounds_toArray]); (try simp only [List.set_cons_succ]); (try simp only [List.set_cons_zero]); (try simp only [List.set_cons_succ]); (try simp only [List.set_cons_zero]); (try simp only [Nat.zero_add])
      refine take_on (i := 3) (d := 20) (v := .agg (enl x).toArray) rfl rfl (by kernel_rfl) (by kernel_rfl) (by kernel_rfl) (fun _ _ _ h => h) (by rfl) ?_ hHeld ?_
      · exact fun w' hSw => exec_ldm (by rfl) (by rfl) (((show Hold w w' [sevF 40 enl w.heap.size (some ⟨kb', o', none⟩) len L, sevF 40 enl w.heap.size (some ⟨kb, o, none⟩) len L] from hSw).sev (.tail _ (.head _))).range hlt HX.out) Tryz.underlying104 rfl sizeEnt
      (try simp only [Act.put]); (try simp only [List.setIfInBounds_toArray]); (try simp only [List.set_cons_succ]); (try simp only [List.set_cons_zero]); (try simp only [List.set_cons_succ]); (try simp only [List.set_cons_zero]); (try simp only [Nat.zero_add])
      refine take_on (i := 4) (d := 21) (v := .slice (some ⟨kb', o', none⟩) len cap') rfl rfl (by kernel_rfl) (by kernel_rfl) (by kernel_rfl) (fun _ _ _ h => h) (by rfl) ?_ hHeld ?_
      · (intro w' hSw; go_simp)
      (try simp only [Act.put]); (try simp only [List.setIfInBounds_toArray]); (try simp only [List.set_cons_succ]); (try simp only [List.set_cons_zero]); (try simp only [List.set_cons_succ]); (try simp only [List.set_cons_zero]); (try simp only [Nat.zero_add])
      refine take_on (i := 5) (d := 22) (v := .int .i64 (k : Int)) rfl rfl (by kernel_rfl) (by kernel_rfl) (by kernel_rfl) (fun _ _ _ h => h) (by rfl) ?_ hHeld ?_
      · (intro w' hSw; go_simp)
      (try simp only [Act.put]); (try simp only [List.setIfInBounds_toArray]); (try simp only [List.set_cons_succ]); (try simp only [List.set_cons_zero]); (try simp only [List.set_cons_succ]); (try simp only [List.set_cons_zero]); (try simp only [Nat.zero_add])
      refine take_on (i := 6) (d := 23) (v := .pointer (some ⟨kb', o' + k * 40, none⟩)) rfl rfl (by kernel_rfl) (by kernel_rfl) (by kernel_rfl) (fun _ _ _ h => h) (by rfl) ?_ hHeld ?_
      · (intro w' hSw; go_simp)
      (try simp only [Act.put]); (try simp only [List.setIfInBounds_toArray]); (try simp only [List.set_cons_succ]); (try simp only [List.set_cons_zero]); (try simp only [List.set_cons_succ]); (try simp only [List.set_cons_zero]); (try simp only [Nat.zero_add])
      refine take_on (i := 7) (d := 24) (v := .agg (enl x).toArray) rfl rfl (by kernel_rfl) (by kernel_rfl) (by kernel_rfl) (fun _ _ _ h => h) (by rfl) ?_ hHeld ?_
      · exact fun w' hSw => exec_ldm (by rfl) (by rfl) (((show Hold w w' [sevF 40 enl w.heap.size (some ⟨kb', o', none⟩) len L, sevF 40 enl w.heap.size (some ⟨kb, o, none⟩) len L] from hSw).sev (.head _)).range hlt HX.out) Tryz.underlying104 rfl sizeEnt
      (try simp only [Act.put]); (try simp only [List.setIfInBounds_toArray]); (try simp only [List.set_cons_succ]); (try simp only [List.set_cons_zero]); (try simp only [List.set_cons_succ]); (try simp only [List.set_cons_zero]); (try simp only [Nat.zero_add])
      refine wpAnyH_ready (rs := [8]) (by kernel_rfl) (by simp) ?_
      refine AllReadyH.cons rfl (fun K hK => ?_) AllReadyH.nil
      go_simp
      refine (eqEntry_same x _).mono ?_
      rintro e w3 ⟨rfl, hb⟩
      have H3 := hid_mk (D0.out.next hb)
      clear hb
      refine hK.out _ _ H3.out (fun hHeld => ?_)
      clear hK K
      (try simp only [Act.put]); (try simp only [List.setIfInBounds_toArray]); (try simp only [List.set_cons_succ]); (try simp only [List.set_cons_zero]); (try simp only [List.set_cons_succ]); (try simp only [List.set_cons_zero]); (try simp only [Nat.zero_add])
      refine take_on (i := 9) (d := 26) (v := .bool false) rfl rfl (by kernel_rfl) (by kernel_rfl) (by kernel_rfl) (fun _ _ _ h => h) (by rfl) ?_ hHeld ?_
      · (intro w' hSw; go_simp)
      (try simp only [Act.put]); (try simp only [List.setIfInBounds_toArray]); (try simp only [List.set_cons_succ]); (try simp only [List.set_cons_zero]); (try simp only [List.set_cons_succ]); (try simp only [List.set_cons_zero]); (try simp only [Nat.zero_add])
      refine wpAnyH_done (by kernel_rfl) ?_ _
      clear hHeld
      try dsimp only
      go_wp2
      go_roundw
      case rel => exact ⟨k + 1, hlt, by go_num, H3.out⟩
      case measure => simp [intOf]; omega
    · have B := hid_mk H.out.bel
      go_wp2
      go_ret
      exact ⟨rfl, B.out⟩

theorem szEntryS_any (a : Option Addr) (len cap : Nat) (m : Int) (w : World) (hm : 0 ≤ m) (hm1 : m ≤ 1048576) (hl : len ≤ maxLen) :
    Calls Tryz.prog 55 #[.slice a len cap, .int .i64 m] w fun e w' => e = .returned (.int .i64 (if (len : Int) ≤ m then m - (len : Int) else -1)) ∧ w' = w := by
  unfold maxLen at hl
  by_cases h : (len : Int) ≤ m
  all_goals
    simp only [h, if_true, if_false]
    go_enter Tryz.func55, Tryz.ntmps55
    go_wp2
    go_ret
    exact ⟨rfl, rfl⟩
theorem szIntS_any (a : Option Addr) (len cap : Nat) (m : Int) (w : World) (hm : 0 ≤ m) (hm1 : m ≤ 1048576) (hl : len ≤ maxLen) :
    Calls Tryz.prog 56 #[.slice a len cap, .int .i64 m] w fun e w' => e = .returned (.int .i64 (if (len : Int) ≤ m then m - (len : Int) else -1)) ∧ w' = w := by
  unfold maxLen at hl
  by_cases h : (len : Int) ≤ m
  all_goals
    simp only [h, if_true, if_false]
    go_enter Tryz.func56, Tryz.ntmps56
    go_wp2
    go_ret
    exact ⟨rfl, rfl⟩
end Go.Proofs.YtpkhnajhamnggaaGreatDoor
