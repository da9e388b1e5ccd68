/- InsOk and Word32 of the program at all places, as the specification's; InsOf of both at all numbers. No condition. · InsOf of the specification and of the program at all numbers of 64 bits: both answer the same. · Slices of places; toInsS, eqInsS and szInsS of the laws. No condition but that the list is no longer than the law lets it be. · CodeOk of both sides at all lists. No condition. · A slice of places that came in, opened. -/
import Derived.Test.YtpkhnajhamnggaaGreatDoorInsJ
import Derived.Laws.MakeOwn
import Derived.Laws.IdiomCopy
import Derived.OwnWalk
import Derived.Test.YtpkhnajhamnggaaGreatDoorZH
import Derived.ChangeOld
import Derived.Below
namespace Go.Proofs.YtpkhnajhamnggaaGreatDoor
open Go.ChangeShapes Go.WideShapes Go.ChangeAt Go.RowKit

theorem iok_none {o r a b n : Int} (h : ¬ (1 ≤ o ∧ o ≤ 15)) : iokB o r a b n = false := by simp [iokB, decide_eq_false h]

theorem iok_gen (o r a b n : Int) (h : 1 ≤ o ∧ o ≤ 15) (q0 q1 q2 q3 : Bool) (h0 : bitB o 1 = q0) (h1 : bitB o 2 = q1) (h2 : bitB o 4 = q2) (h3 : bitB o 8 = q3) :
    iokB o r a b n = (eqB o (bif q0 then r else 0) (bif q1 then a else 0) (bif q2 then b else 0) (bif q3 then n else 0) o r a b n && fitB r a b n) := by
  rw [Bool.eq_iff_iff]
  cases q0 <;> cases q1 <;> cases q2 <;> cases q3 <;>
    simp only [iokB, eqB, fitB, fldB, h0, h1, h2, h3, Bool.and_eq_true, Bool.or_eq_true, decide_eq_true_eq, beq_iff_eq, Bool.false_eq_true, eq_self, true_or, false_or, true_and, and_true, cond_true, cond_false] <;> omega
theorem iok_1 (r a b n : Int) : iokB 1 r a b n = (eqB 1 r 0 0 n 1 r a b n && fitB r a b n) := iok_gen 1 r a b n (by decide) true false false true (by decide) (by decide) (by decide) (by decide)
theorem iok_2 (r a b n : Int) : iokB 2 r a b n = (eqB 2 r a b 0 2 r a b n && fitB r a b n) := iok_gen 2 r a b n (by decide) true true true false (by decide) (by decide) (by decide) (by decide)
theorem iok_3 (r a b n : Int) : iokB 3 r a b n = (eqB 3 r a 0 0 3 r a b n && fitB r a b n) := iok_gen 3 r a b n (by decide) true true false false (by decide) (by decide) (by decide) (by decide)
theorem iok_4 (r a b n : Int) : iokB 4 r a b n = (eqB 4 r a b 0 4 r a b n && fitB r a b n) := iok_gen 4 r a b n (by decide) true true true false (by decide) (by decide) (by decide) (by decide)
theorem iok_5 (r a b n : Int) : iokB 5 r a b n = (eqB 5 r a b 0 5 r a b n && fitB r a b n) := iok_gen 5 r a b n (by decide) true true true false (by decide) (by decide) (by decide) (by decide)
theorem iok_6 (r a b n : Int) : iokB 6 r a b n = (eqB 6 r a b n 6 r a b n && fitB r a b n) := iok_gen 6 r a b n (by decide) true true true true (by decide) (by decide) (by decide) (by decide)
theorem iok_7 (r a b n : Int) : iokB 7 r a b n = (eqB 7 r a b 0 7 r a b n && fitB r a b n) := iok_gen 7 r a b n (by decide) true true true false (by decide) (by decide) (by decide) (by decide)
theorem iok_8 (r a b n : Int) : iokB 8 r a b n = (eqB 8 r a b 0 8 r a b n && fitB r a b n) := iok_gen 8 r a b n (by decide) true true true false (by decide) (by decide) (by decide) (by decide)
theorem iok_9 (r a b n : Int) : iokB 9 r a b n = (eqB 9 r a 0 0 9 r a b n && fitB r a b n) := iok_gen 9 r a b n (by decide) true true false false (by decide) (by decide) (by decide) (by decide)
theorem iok_10 (r a b n : Int) : iokB 10 r a b n = (eqB 10 r a 0 n 10 r a b n && fitB r a b n) := iok_gen 10 r a b n (by decide) true true false true (by decide) (by decide) (by decide) (by decide)
theorem iok_11 (r a b n : Int) : iokB 11 r a b n = (eqB 11 0 a b n 11 r a b n && fitB r a b n) := iok_gen 11 r a b n (by decide) false true true true (by decide) (by decide) (by decide) (by decide)
theorem iok_12 (r a b n : Int) : iokB 12 r a b n = (eqB 12 r a 0 0 12 r a b n && fitB r a b n) := iok_gen 12 r a b n (by decide) true true false false (by decide) (by decide) (by decide) (by decide)
theorem iok_13 (r a b n : Int) : iokB 13 r a b n = (eqB 13 0 a 0 n 13 r a b n && fitB r a b n) := iok_gen 13 r a b n (by decide) false true false true (by decide) (by decide) (by decide) (by decide)
theorem iok_14 (r a b n : Int) : iokB 14 r a b n = (eqB 14 0 a 0 0 14 r a b n && fitB r a b n) := iok_gen 14 r a b n (by decide) false true false false (by decide) (by decide) (by decide) (by decide)
theorem iok_15 (r a b n : Int) : iokB 15 r a b n = (eqB 15 0 0 0 0 15 r a b n && fitB r a b n) := iok_gen 15 r a b n (by decide) false false false false (by decide) (by decide) (by decide) (by decide)

set_option maxRecDepth 100000 in
set_option maxHeartbeats 4000000 in
theorem implInsOk_any (o r a b n : Int) (w : World) :
    Calls Tryz.prog 112 #[.agg #[.int .i64 o, .int .i64 r, .int .i64 a, .int .i64 b, .int .i64 n]] w fun e w' => e = .returned (.bool (iokB o r a b n)) ∧ Below w.heap.size w w' := by
  have hp := placeOf_any o r a b n
  by_cases h : 1 ≤ o ∧ o ≤ 15
  · rcases op_cases h with rfl | rfl | rfl | rfl | rfl | rfl | rfl | rfl | rfl | rfl | rfl | rfl | rfl | rfl | rfl
    · rw [show iokB 1 r a b n = (eqB 1 r 0 0 n 1 r a b n && fitB r a b n) from iok_1 r a b n]; exact insOk_number 1 r a b n hp w
    · rw [show iokB 2 r a b n = (eqB 2 r a b 0 2 r a b n && fitB r a b n) from iok_2 r a b n]; exact insOk_two 2 r a b n hp w
    · rw [show iokB 3 r a b n = (eqB 3 r a 0 0 3 r a b n && fitB r a b n) from iok_3 r a b n]; exact insOk_one 3 r a b n hp w
    · rw [show iokB 4 r a b n = (eqB 4 r a b 0 4 r a b n && fitB r a b n) from iok_4 r a b n]; exact insOk_two 4 r a b n hp w
    · rw [show iokB 5 r a b n = (eqB 5 r a b 0 5 r a b n && fitB r a b n) from iok_5 r a b n]; exact insOk_two 5 r a b n hp w
    · rw [show iokB 6 r a b n = (eqB 6 r a b n 6 r a b n && fitB r a b n) from iok_6 r a b n]; exact insOk_point 6 r a b n hp w
    · rw [show iokB 7 r a b n = (eqB 7 r a b 0 7 r a b n && fitB r a b n) from iok_7 r a b n]; exact insOk_two 7 r a b n hp w
    · rw [show iokB 8 r a b n = (eqB 8 r a b 0 8 r a b n && fitB r a b n) from iok_8 r a b n]; exact insOk_two 8 r a b n hp w
    · rw [show iokB 9 r a b n = (eqB 9 r a 0 0 9 r a b n && fitB r a b n) from iok_9 r a b n]; exact insOk_one 9 r a b n hp w
    · rw [show iokB 10 r a b n = (eqB 10 r a 0 n 10 r a b n && fitB r a b n) from iok_10 r a b n]; exact insOk_load 10 r a b n hp w
    · rw [show iokB 11 r a b n = (eqB 11 0 a b n 11 r a b n && fitB r a b n) from iok_11 r a b n]; exact insOk_store 11 r a b n hp w
    · rw [show iokB 12 r a b n = (eqB 12 r a 0 0 12 r a b n && fitB r a b n) from iok_12 r a b n]; exact insOk_one 12 r a b n hp w
    · rw [show iokB 13 r a b n = (eqB 13 0 a 0 n 13 r a b n && fitB r a b n) from iok_13 r a b n]; exact insOk_zero 13 r a b n hp w
    · rw [show iokB 14 r a b n = (eqB 14 0 a 0 0 14 r a b n && fitB r a b n) from iok_14 r a b n]; exact insOk_gone 14 r a b n hp w
    · rw [show iokB 15 r a b n = (eqB 15 0 0 0 0 15 r a b n && fitB r a b n) from iok_15 r a b n]; exact insOk_halt 15 r a b n hp w
  · rw [decide_eq_false h] at hp
    rw [iok_none h]
    generalize plcV o r a b n = v at hp
    have HP : Hid _ := hp
    clear hp
    have hu : undef = Value.tuple #[] := rfl
    go_enter Tryz.func112, Tryz.ntmps112
    go_wp2_with fail
    refine (HP.out _).mono ?_
    rintro e w1 ⟨rfl, hb1⟩
    have K1 : Hid (Below w.heap.size w w1) := ((Below.refl _ w).alloc (Nat.le_refl _) _).trans (hb1.mono (by simp))
    clear hb1 HP
    go_wp2_with fail
    go_quiet (fail)
    go_wp2
    go_ret
    exact ⟨rfl, below_drewN K1.out _⟩

end Go.Proofs.YtpkhnajhamnggaaGreatDoor

namespace Go.Proofs.YtpkhnajhamnggaaGreatDoor
open Go.ChangeShapes Go.WideShapes Go.ChangeAt Go.RowKit

/-- Whether n is the word of a place. -/
def iofB (n : Int) : Bool := decide (0 ≤ n) && iokB (n % 16) (n / 16 % 8) (n / 128 % 8) (n / 1024 % 8) (n / 8192 - 128)
/-- The fields of what InsOf answers. -/
def iofO (n : Int) : Int := bif iofB n then n % 16 else 0
def iofR (n : Int) : Int := bif iofB n then n / 16 % 8 else 0
def iofA (n : Int) : Int := bif iofB n then n / 128 % 8 else 0
def iofC (n : Int) : Int := bif iofB n then n / 1024 % 8 else 0
def iofN (n : Int) : Int := bif iofB n then n / 8192 - 128 else 0
theorem back_math {n : Int} (_h : 0 ≤ n) : w32Z (n % 16) (n / 16 % 8) (n / 128 % 8) (n / 1024 % 8) (n / 8192 - 128) = n := by
  unfold w32Z
  omega
theorem rem_neg {n : Int} (h : ¬ 0 ≤ n) : ¬ (1 ≤ n.tmod 16 ∧ n.tmod 16 ≤ 15) := by
  have := Int.neg_tmod (a := -n) (b := 16)
  rw [Int.neg_neg] at this
  rw [this, Int.tmod_eq_emod_of_nonneg (by omega)]
  omega

end Go.Proofs.YtpkhnajhamnggaaGreatDoor

namespace Go.Proofs.YtpkhnajhamnggaaGreatDoor
open Go.ChangeShapes Go.WideShapes Go.ChangeAt Go.RowKit

/-- A place. -/
structure In where
  o : Int
  r : Int
  a : Int
  b : Int
  n : Int

/-- A place lies in block k from cell o on. -/
structure InsAt (w : World) (k o : Nat) (x : In) : Prop where
  c0 : w.cell? ⟨k, o, none⟩ = some (.int .i64 x.o)
  c1 : w.cell? ⟨k, o + 1, none⟩ = some (.int .i64 x.r)
  c2 : w.cell? ⟨k, o + 2, none⟩ = some (.int .i64 x.a)
  c3 : w.cell? ⟨k, o + 3, none⟩ = some (.int .i64 x.b)
  c4 : w.cell? ⟨k, o + 4, none⟩ = some (.int .i64 x.n)
theorem InsAt.keep {B : Nat} {w w' : World} {k o : Nat} {x : In} (h : InsAt w k o x) (hb : Below B w w') (hk : k < B) : InsAt w' k o x :=
  ⟨(hb.cell (p := ⟨k, o, none⟩) hk).trans h.c0, (hb.cell (p := ⟨k, o + 1, none⟩) hk).trans h.c1, (hb.cell (p := ⟨k, o + 2, none⟩) hk).trans h.c2, (hb.cell (p := ⟨k, o + 3, none⟩) hk).trans h.c3, (hb.cell (p := ⟨k, o + 4, none⟩) hk).trans h.c4⟩

/-- A slice of the places L, in a block below B. -/
def SliceI (B : Nat) (w : World) (a : Option Addr) (len : Nat) (L : List In) : Prop :=
  len ≤ maxLen ∧ L.length = len ∧ (len = 0 ∨ ∃ k o, a = some ⟨k, o, none⟩ ∧ k < B ∧ ∀ j x, L[j]? = some x → InsAt w k (o + j * 5) x)
theorem SliceI.keep {B : Nat} {w w' : World} {a : Option Addr} {len : Nat} {L : List In} (h : SliceI B w a len L) (hb : Below B w w') : SliceI B w' a len L := by
  refine ⟨h.1, h.2.1, ?_⟩
  rcases h.2.2 with h0 | ⟨k, o, ha, hk, hc⟩
  · exact .inl h0
  · exact .inr ⟨k, o, ha, hk, fun j x hj => (hc j x hj).keep hb hk⟩
theorem SliceI.mono {B C : Nat} {w : World} {a : Option Addr} {len : Nat} {L : List In} (h : SliceI B w a len L) (hB : B ≤ C) : SliceI C w a len L := by
  refine ⟨h.1, h.2.1, ?_⟩
  rcases h.2.2 with h0 | ⟨k, o, ha, hk, hc⟩
  · exact .inl h0
  · exact .inr ⟨k, o, ha, by omega, hc⟩
theorem SliceI.below {B : Nat} {w w' : World} {a : Option Addr} {len : Nat} {L : List In} (h : SliceI B w a len L) (hb : Below w.heap.size w w') (hB : B ≤ w.heap.size) : SliceI B w' a len L := h.keep (hb.mono hB)
theorem SliceI.at {B : Nat} {w : World} {a : Option Addr} {len : Nat} {L : List In} (h : SliceI B w a len L) {j : Nat} (hj : j < len) :
    ∃ k o x, a = some ⟨k, o, none⟩ ∧ k < B ∧ L[j]? = some x ∧ InsAt w k (o + j * 5) x := by
  rcases h.2.2 with h0 | ⟨k, o, ha, hk, hc⟩
  · omega
  · have hl : j < L.length := by rw [h.2.1]; exact hj
    exact ⟨k, o, L[j], ha, hk, List.getElem?_eq_getElem hl, hc j _ (List.getElem?_eq_getElem hl)⟩

/-- The cells of a place. -/
def In.vs (x : In) : List Value := [.int .i64 x.o, .int .i64 x.r, .int .i64 x.a, .int .i64 x.b, .int .i64 x.n]

/-- A row of len places in block q, which may be written; the first k are those of L. -/
structure OutI (w : World) (q len k : Nat) (L : List In) : Prop where
  lt : q < w.heap.size
  has : ∀ i, i < len * 5 → (w.cell? ⟨q, i, none⟩).isSome = true
  fr : ∀ i, i < len * 5 → w.frozen? ⟨q, i, none⟩ = false
  wd : ∀ j x, j < k → L[j]? = some x → InsAt w q (j * 5) x

theorem OutI.below {w w' : World} {q len k : Nat} {L : List In} (h : OutI w q len k L) (hb : Below w.heap.size w w') : OutI w' q len k L :=
  ⟨Nat.lt_of_lt_of_le h.lt hb.size, fun i hi => by rw [hb.cell (p := ⟨q, i, none⟩) h.lt]; exact h.has i hi,
    fun i hi => by rw [(KeepBut.ofBelow (q := w.heap.size) hb).frozen (p := ⟨q, i, none⟩) h.lt (Nat.ne_of_lt h.lt)]; exact h.fr i hi, fun j x hj hx => (h.wd j x hj hx).keep hb h.lt⟩

theorem InsAt.of_vs {w : World} {q o : Nat} {x : In} (h : ∀ j v, x.vs[j]? = some v → w.cell? ⟨q, o + j, none⟩ = some v) : InsAt w q o x :=
  ⟨h 0 _ rfl, h 1 _ rfl, h 2 _ rfl, h 3 _ rfl, h 4 _ rfl⟩
theorem InsAt.vs {w : World} {q o : Nat} {x : In} (h : InsAt w q o x) : ∀ j v, x.vs[j]? = some v → w.cell? ⟨q, o + j, none⟩ = some v := by
  intro j v hj
  match j, hj with
  | 0, hj => cases hj; exact h.c0
  | 1, hj => cases hj; exact h.c1
  | 2, hj => cases hj; exact h.c2
  | 3, hj => cases hj; exact h.c3
  | 4, hj => cases hj; exact h.c4
  | j + 5, hj => simp [In.vs] at hj

theorem OutI.set {w : World} {q len k : Nat} {L : List In} {x : In} (h : OutI w q len k L) (hk : k < len) (hx : L[k]? = some x) : OutI (w.setCells q (k * 5) x.vs) q len (k + 1) L := by
  have hl : x.vs.length = 5 := rfl
  have out : ∀ i, (i < k * 5 ∨ k * 5 + 5 ≤ i) → (w.setCells q (k * 5) x.vs).cell? ⟨q, i, none⟩ = w.cell? ⟨q, i, none⟩ := fun i hi =>
    World.cell?_setCells_out q x.vs (k * 5) w ⟨q, i, none⟩ (fun _ _ => by rw [hl]; exact hi)
  have inn : ∀ j (hj : j < x.vs.length), (w.setCells q (k * 5) x.vs).cell? ⟨q, k * 5 + j, none⟩ = some x.vs[j] :=
    World.cell?_setCells_in q x.vs (k * 5) w (fun j hj => h.has _ (by rw [hl] at hj; omega))
  refine ⟨?_, fun i hi => ?_, fun i hi => ?_, fun j y hj hy => ?_⟩
  · have := h.lt
    simp only [In.vs, World.setCells, World.size_setCell]
    exact this
  · by_cases hio : i < k * 5 ∨ k * 5 + 5 ≤ i
    · rw [out i hio]; exact h.has i hi
    · have := inn (i - k * 5) (by rw [hl]; omega)
      rw [show k * 5 + (i - k * 5) = i by omega] at this
      rw [this]; rfl
  · rw [World.frozen?_setCells]; exact h.fr i hi
  · by_cases hjk : j < k
    · refine InsAt.of_vs fun m v hm => ?_
      have hm6 : m < 5 := (List.getElem?_eq_some_iff.1 hm).1
      rw [out _ (by omega)]
      exact (h.wd j y hjk hy).vs m v hm
    · obtain rfl : j = k := by omega
      obtain rfl : x = y := by rw [hx] at hy; exact Option.some.inj hy
      refine InsAt.of_vs fun m v hm => ?_
      obtain ⟨hm6, rfl⟩ := List.getElem?_eq_some_iff.1 hm
      exact inn m hm6

theorem OutI.slice {w : World} {q len : Nat} {L : List In} (h : OutI w q len len L) (hl : L.length = len) (hm : len ≤ maxLen) : SliceI w.heap.size w (some ⟨q, 0, none⟩) len L :=
  ⟨hm, hl, .inr ⟨q, 0, rfl, h.lt, fun j x hj => by
    have hj' := (List.getElem?_eq_some_iff.1 hj).1
    rw [Nat.zero_add]
    exact h.wd j x (by omega) hj⟩⟩

theorem infoI : (Tryz.prog.info? 76).map (fun i => (i.zero, i.size, i.bytes)) = some (some (.agg #[.int .i64 0, .int .i64 0, .int .i64 0, .int .i64 0, .int .i64 0]), 5, 40) := by kernel_rfl

theorem made_outI (w : World) (len : Nat) (z : Array Value) (T : TypeId) (L : List In) : OutI (w.alloc (.cells (madeCells z (len * 5)) T)) w.heap.size len 0 L :=
  ⟨by simp, fun i hi => by rw [World.cell?_alloc_new]; simp [madeCells, hi], fun i _ => by simp, fun j _ hj => absurd hj (Nat.not_lt_zero _)⟩

theorem run_makeInss (len : Nat) (hl : len ≤ 1048576) (w : World) :
    (Instr.makeSlice 44 (.int .i64 (len : Int)) (.int .i64 (len : Int))).run Tryz.prog w = .ok (.slice (some ⟨w.heap.size, 0, none⟩) len len) (w.alloc (.cells (madeCells #[.int .i64 0, .int .i64 0, .int .i64 0, .int .i64 0, .int .i64 0] (len * 5)) 76)) := by
  obtain ⟨i, hi, h0, h1, h2⟩ := info_parts infoI
  have := run_makeSlice (w := w) 44 76 i _ Tryz.underlying44 hi h0 .i64 .i64 (len : Int) (len : Int) (by omega) (by omega) (by rw [h1]; simp; omega) (by rw [h2]; omega) (by omega)
  rw [this, h1]
  simp [Value.cells]

set_option maxRecDepth 100000 in
set_option maxHeartbeats 2000000 in
theorem toInsS_any (a : Option Addr) (len cap : Nat) (L : List In) (w : World) (hl : len ≤ 1048576) (hS : SliceI w.heap.size w a len L) :
    Calls Tryz.prog 9 #[.slice a len cap] w fun e w' => ∃ q, e = .returned (.slice (some ⟨q, 0, none⟩) len len) ∧ SliceI w'.heap.size w' (some ⟨q, 0, none⟩) len L ∧ Below w.heap.size w w' := by
  have S : Hid (SliceI w.heap.size w a len L) := hS
  have hmk := run_makeInss len hl
  have hL := hS.2.1
  clear hS
  go_enter Tryz.func9, Tryz.ntmps9
  go_wp2
  go_loopw [4] (fun c wr => ∃ k : Nat, k ≤ len ∧ c = .int .i64 k ∧ Hid (OutI wr w.heap.size len k L) ∧ Hid (Below w.heap.size w wr)) (fun c _ => len - (intOf c).toNat)
  case atStart => exact ⟨0, Nat.zero_le _, rfl, made_outI _ _ _ _ _, (Below.refl _ _).alloc (Nat.le_refl _) _⟩
  case round =>
    clear hmk
    obtain ⟨k, hk, rfl, hO, hB⟩ := hrel
    by_cases hlt : k < len
    · obtain ⟨kb, o, x, rfl, hkb, hx, hat⟩ := (S.out.keep hB.out).at hlt
      have zB := hB.out.size
      have hX' : Hid _ := hx
      obtain ⟨d0, d1, d2, d3, d4⟩ := hat
      clear hx
      go_wp2_with fail
      refine (toIns_any x.o x.r x.a x.b x.n _).mono ?_
      rintro e w1 ⟨rfl, hb1⟩
      have O1 : Hid (OutI w1 w.heap.size len k L) := hO.out.below hb1
      have K1 : Hid (Below w.heap.size w w1) := hB.out.trans (hb1.mono zB)
      clear hb1 d0 d1 d2 d3 d4
      obtain ⟨v0, e0⟩ := Option.isSome_iff_exists.1 (O1.out.has (k * 5) (by omega))
      obtain ⟨v1, e1⟩ := Option.isSome_iff_exists.1 (O1.out.has (k * 5 + 1) (by omega))
      obtain ⟨v2, e2⟩ := Option.isSome_iff_exists.1 (O1.out.has (k * 5 + 2) (by omega))
      obtain ⟨v3, e3⟩ := Option.isSome_iff_exists.1 (O1.out.has (k * 5 + 3) (by omega))
      obtain ⟨v4, e4⟩ := Option.isSome_iff_exists.1 (O1.out.has (k * 5 + 4) (by omega))
      have f0 := O1.out.fr (k * 5) (by omega)
      have f1 := O1.out.fr (k * 5 + 1) (by omega)
      have f2 := O1.out.fr (k * 5 + 2) (by omega)
      have f3 := O1.out.fr (k * 5 + 3) (by omega)
      have f4 := O1.out.fr (k * 5 + 4) (by omega)
      go_wp2
      go_roundw
      case rel =>
        refine ⟨k + 1, hlt, by go_num, O1.out.set hlt hX'.out, hid_mk ?_⟩
        repeat' (first | (with_reducible exact K1.out) | (refine Below.setCell ?_ (by show w.heap.size ≤ w.heap.size; exact Nat.le_refl _) _))
      case measure => simp [intOf]; omega
    · obtain rfl : k = len := by omega
      go_wp2
      go_ret
      exact ⟨_, rfl, hO.out.slice hL (by unfold maxLen; omega), hB.out⟩

/-- A place in two places, beside what was there at first. -/
structure Two5 (w0 w : World) (k o k' o' : Nat) (x : In) : Prop where
  a : InsAt w k o x
  b : InsAt w k' o' x
  bel : Below w0.heap.size w0 w
  lt : k < w.heap.size
  lt' : k' < w.heap.size
section
variable {w0 w w' : World} {k o k' o' : Nat} {x : In}
theorem Two5.next (h : Two5 w0 w k o k' o' x) (hb : Below w.heap.size w w') : Two5 w0 w' k o k' o' x :=
  ⟨h.a.keep hb h.lt, h.b.keep hb h.lt', h.bel.trans (hb.mono h.bel.size), Nat.lt_of_lt_of_le h.lt hb.size, Nat.lt_of_lt_of_le h.lt' hb.size⟩
theorem Two5.drew (h : Two5 w0 w k o k' o' x) : Two5 w0 w.drew k o k' o' x := h.next ((Below.refl _ _).drew)
theorem Two5.all (h : Two5 w0 w k o k' o' x) :
    w.cell? ⟨k, o, none⟩ = some (.int .i64 x.o) ∧ w.cell? ⟨k, o + 1, none⟩ = some (.int .i64 x.r) ∧ w.cell? ⟨k, o + 2, none⟩ = some (.int .i64 x.a) ∧ w.cell? ⟨k, o + 3, none⟩ = some (.int .i64 x.b) ∧ w.cell? ⟨k, o + 4, none⟩ = some (.int .i64 x.n) ∧ w.cell? ⟨k', o', none⟩ = some (.int .i64 x.o) ∧ w.cell? ⟨k', o' + 1, none⟩ = some (.int .i64 x.r) ∧ w.cell? ⟨k', o' + 2, none⟩ = some (.int .i64 x.a) ∧ w.cell? ⟨k', o' + 3, none⟩ = some (.int .i64 x.b) ∧ w.cell? ⟨k', o' + 4, none⟩ = some (.int .i64 x.n) :=
  ⟨h.a.c0, h.a.c1, h.a.c2, h.a.c3, h.a.c4, h.b.c0, h.b.c1, h.b.c2, h.b.c3, h.b.c4⟩
end

set_option maxRecDepth 100000 in
set_option maxHeartbeats 2000000 in
theorem eqInsS_same (a a' : Option Addr) (len cap cap' : Nat) (L : List In) (w : World) (hS : SliceI w.heap.size w a len L) (hS' : SliceI w.heap.size w a' len L) :
    Calls Tryz.prog 13 #[.slice a len cap, .slice a' len cap'] w fun e w' => e = .returned (.bool true) ∧ Below w.heap.size w w' := by
  have S : Hid (SliceI w.heap.size w a len L) := hS
  have S' : Hid (SliceI w.heap.size w a' len L) := hS'
  have hlen := hS.1
  unfold maxLen at hlen
  clear hS hS'
  go_enter Tryz.func13, Tryz.ntmps13
  go_wp2
  go_loopw [5] (fun c wr => ∃ k : Nat, k ≤ len ∧ c = .int .i64 k ∧ Hid (Below w.heap.size w wr)) (fun c _ => len - (intOf c).toNat)
  case atStart => exact ⟨0, Nat.zero_le _, rfl, Below.refl _ _⟩
  case round =>
    obtain ⟨k, hk, rfl, hB⟩ := hrel
    by_cases hlt : k < len
    · obtain ⟨kb, o, x, rfl, hkb, hx, hat⟩ := (S.out.keep hB.out).at hlt
      obtain ⟨kb', o', x', rfl, hkb', hx', hat'⟩ := (S'.out.keep hB.out).at hlt
      obtain rfl : x = x' := by rw [hx] at hx'; exact Option.some.inj hx'
      have zB := hB.out.size
      have P0 : Hid (Two5 w wr kb (o + k * 5) kb' (o' + k * 5) x) := ⟨hat, hat', hB.out, by omega, by omega⟩
      obtain ⟨d0, d1, d2, d3, d4⟩ := hat
      obtain ⟨e0, e1, e2, e3, e4⟩ := hat'
      clear hx hx'
      go_wp2_with fail
      have D0 : Hid _ := P0.out.drew
      go_region_held3 (fun w' => w'.cell? ⟨kb, o + k * 5, none⟩ = some (.int .i64 x.o) ∧ w'.cell? ⟨kb, o + k * 5 + 1, none⟩ = some (.int .i64 x.r) ∧ w'.cell? ⟨kb, o + k * 5 + 2, none⟩ = some (.int .i64 x.a) ∧ w'.cell? ⟨kb, o + k * 5 + 3, none⟩ = some (.int .i64 x.b) ∧ w'.cell? ⟨kb, o + k * 5 + 4, none⟩ = some (.int .i64 x.n) ∧ w'.cell? ⟨kb', o' + k * 5, none⟩ = some (.int .i64 x.o) ∧ w'.cell? ⟨kb', o' + k * 5 + 1, none⟩ = some (.int .i64 x.r) ∧ w'.cell? ⟨kb', o' + k * 5 + 2, none⟩ = some (.int .i64 x.a) ∧ w'.cell? ⟨kb', o' + k * 5 + 3, none⟩ = some (.int .i64 x.b) ∧ w'.cell? ⟨kb', o' + k * 5 + 4, none⟩ = some (.int .i64 x.n)) (first | (with_reducible exact D0.out.all) | (with_reducible exact P1.out.all) | fail)
        (first
          | (go_at_call 47; refine (eqIns_same x.o x.r x.a x.b x.n _).mono ?_; rintro e w1 ⟨rfl, hb1⟩; have P1 : Hid _ := D0.out.next hb1; clear hb1))
      clear d0 d1 d2 d3 d4 e0 e1 e2 e3 e4 P0 D0 hB
      go_wp2
      go_roundw
      case rel => exact ⟨k + 1, hlt, by go_num, P1.out.bel⟩
      case measure => simp [intOf]; omega
    · go_wp2
      go_ret
      exact ⟨rfl, hB.out⟩

set_option maxHeartbeats 400000 in
theorem szInsS_any (a : Option Addr) (len cap : Nat) (w : World) (hl : len ≤ maxLen) :
    Calls Tryz.prog 6 #[.slice a len cap, .int .i64 1048576] w fun e w' => e = .returned (.int .i64 (if len ≤ 1048576 then 1048576 - (len : Int) else -1)) ∧ w' = w := by
  unfold maxLen at hl
  by_cases h : len ≤ 1048576
  · rw [if_pos h]
    go_enter Tryz.func6, Tryz.ntmps6
    go_wp2
    go_ret
    exact ⟨rfl, rfl⟩
  · rw [if_neg h]
    go_enter Tryz.func6, Tryz.ntmps6
    go_wp2
    go_ret
    exact ⟨rfl, rfl⟩
end Go.Proofs.YtpkhnajhamnggaaGreatDoor

namespace Go.Proofs.YtpkhnajhamnggaaGreatDoor
open Go.ChangeShapes Go.WideShapes Go.ChangeAt Go.RowKit

/-- Whether a place is right. -/
def okI (x : In) : Bool := iokB x.o x.r x.a x.b x.n
/-- What CodeOk answers. -/
def cokB (L : List In) : Bool := decide (1 ≤ (L.length : Int) ∧ (L.length : Int) ≤ 48) && L.all okI

theorem all_take {L : List In} {k : Nat} {x : In} (h : L[k]? = some x) (h0 : (L.take k).all okI = true) (h1 : okI x = true) : (L.take (k + 1)).all okI = true := by
  rw [List.take_add_one, h]; simp [h0, h1]
theorem all_at {L : List In} {k : Nat} {x : In} (h : L[k]? = some x) (h1 : okI x = false) : L.all okI = false := by
  have hm := List.mem_of_getElem? h
  rw [← Bool.not_eq_true]
  intro ha
  have := List.all_eq_true.1 ha x hm
  rw [h1] at this
  cases this
theorem all_all {L : List In} {k : Nat} (h : L.length ≤ k) (h0 : (L.take k).all okI = true) : L.all okI = true := by
  rwa [List.take_of_length_le h] at h0

end Go.Proofs.YtpkhnajhamnggaaGreatDoor

namespace Go.Proofs.YtpkhnajhamnggaaGreatDoor
open Go.ChangeShapes Go.WideShapes Go.ChangeAt Go.RowKit Go.Joins Go.Deep

/-- A slice of places that came in. -/
theorem came_in {H : Type} {enc : TypeId × Value → H} {W : World} {sp : Nat → Bool} {held : Bool} {fuel : Nat} {a : Option Addr} {len cap : Nat} {x : DataW H × List MemPlace}
    (hf : DataW.trod enc Tryz.prog W 0 sp held fuel 22 [.slice a len cap] = some x) : ∃ L, SliceI W.heap.size W a len L := by
  rcases open_slice Tryz.underlying22 hf with ⟨hcs, _⟩ | ⟨ad, l, c, m, k, D, Pl, hcs, _, hl, hm, hmm, _, hel⟩
  · simp at hcs
    obtain ⟨rfl, rfl, rfl⟩ := hcs
    exact ⟨[], by unfold maxLen; omega, rfl, .inl rfl⟩
  · simp at hcs
    obtain ⟨rfl, rfl, rfl⟩ := hcs
    have hlm : len ≤ m := by rw [hmm]; split <;> omega
    have each : ∀ j, j < len → ∃ y : In, ∀ i v, y.vs[i]? = some v → W.cell? (ad.add (j * 5 + i)) = some v := by
      intro j hj
      obtain ⟨cs, hc, ht⟩ := hel j (by omega)
      obtain ⟨o, r, a, b, n, rfl⟩ := open_ins5 ht
      rw [cellsIns] at hc
      obtain ⟨_, _, hcell⟩ := World.cells?_some hc
      refine ⟨⟨o, r, a, b, n⟩, fun i' v hv => ?_⟩
      have h6 : i' < 5 := (List.getElem?_eq_some_iff.1 hv).1
      have := hcell i' h6
      rw [add_add] at this
      rw [this]
      exact hv
    haveI : Inhabited In := ⟨⟨0, 0, 0, 0, 0⟩⟩
    obtain ⟨f, hfn⟩ := choose_lt each
    refine ⟨(List.range len).map f, by omega, by simp, ?_⟩
    by_cases h0 : len = 0
    · exact .inl h0
    · right
      obtain ⟨b, off, spot⟩ := ad
      have hc0 := hfn 0 (by omega) 0 _ rfl
      have hspot : spot = none := by simpa [Addr.add] using World.cell?_spot hc0
      subst hspot
      refine ⟨b, off, rfl, ?_, fun j y hj => ?_⟩
      · have := World.block_lt_of_cell? _ _ hc0
        simpa [Addr.add] using this
      · simp only [List.getElem?_map, Option.map_eq_some_iff] at hj
        obtain ⟨j', hj', rfl⟩ := hj
        obtain ⟨hjl, hje⟩ := List.getElem?_eq_some_iff.1 hj'
        simp at hjl hje
        subst hje
        refine InsAt.of_vs fun i v hv => ?_
        have := hfn j hjl i v hv
        rw [Go.WideShapes.add_plain] at this
        rw [Nat.add_assoc]
        exact this

end Go.Proofs.YtpkhnajhamnggaaGreatDoor
