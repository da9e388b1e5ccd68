/- markEntryS of the laws at a row of entries that may be written: what is written; a loop over a wide frame with one letter for the frame. No condition. -/
import Derived.Test.YtpkhnajhamnggaaGreatDoorYA
namespace Go.Proofs.YtpkhnajhamnggaaGreatDoor
open Go.ChangeShapes Go.WideShapes Go.ChangeAt Go.RowKit
set_option maxRecDepth 100000

/-- The entry that is marked from m on. -/
def markEn (m : Int) : En := ⟨⟨m, (m + 1) % 3 == 0, m + 1 + 1, m + 1 + 1 + 1, m + 1 + 1 + 1 + 1, m + 1 + 1 + 1 + 1 + 1⟩, ⟨m + 1 + 1 + 1 + 1 + 1 + 1, m + 1 + 1 + 1 + 1 + 1 + 1 + 1, m + 1 + 1 + 1 + 1 + 1 + 1 + 1 + 1, m + 1 + 1 + 1 + 1 + 1 + 1 + 1 + 1 + 1, m + 1 + 1 + 1 + 1 + 1 + 1 + 1 + 1 + 1 + 1⟩, (m + 1 + 1 + 1 + 1 + 1 + 1 + 1 + 1 + 1 + 1 + 1) % 3 == 0, ⟨m + 1 + 1 + 1 + 1 + 1 + 1 + 1 + 1 + 1 + 1 + 1 + 1, m + 1 + 1 + 1 + 1 + 1 + 1 + 1 + 1 + 1 + 1 + 1 + 1 + 1, ⟨m + 1 + 1 + 1 + 1 + 1 + 1 + 1 + 1 + 1 + 1 + 1 + 1 + 1 + 1, (m + 1 + 1 + 1 + 1 + 1 + 1 + 1 + 1 + 1 + 1 + 1 + 1 + 1 + 1 + 1) % 3 == 0, m + 1 + 1 + 1 + 1 + 1 + 1 + 1 + 1 + 1 + 1 + 1 + 1 + 1 + 1 + 1 + 1, m + 1 + 1 + 1 + 1 + 1 + 1 + 1 + 1 + 1 + 1 + 1 + 1 + 1 + 1 + 1 + 1 + 1, m + 1 + 1 + 1 + 1 + 1 + 1 + 1 + 1 + 1 + 1 + 1 + 1 + 1 + 1 + 1 + 1 + 1 + 1, m + 1 + 1 + 1 + 1 + 1 + 1 + 1 + 1 + 1 + 1 + 1 + 1 + 1 + 1 + 1 + 1 + 1 + 1 + 1⟩, ⟨m + 1 + 1 + 1 + 1 + 1 + 1 + 1 + 1 + 1 + 1 + 1 + 1 + 1 + 1 + 1 + 1 + 1 + 1 + 1 + 1, (m + 1 + 1 + 1 + 1 + 1 + 1 + 1 + 1 + 1 + 1 + 1 + 1 + 1 + 1 + 1 + 1 + 1 + 1 + 1 + 1 + 1) % 3 == 0, m + 1 + 1 + 1 + 1 + 1 + 1 + 1 + 1 + 1 + 1 + 1 + 1 + 1 + 1 + 1 + 1 + 1 + 1 + 1 + 1 + 1 + 1, m + 1 + 1 + 1 + 1 + 1 + 1 + 1 + 1 + 1 + 1 + 1 + 1 + 1 + 1 + 1 + 1 + 1 + 1 + 1 + 1 + 1 + 1 + 1, m + 1 + 1 + 1 + 1 + 1 + 1 + 1 + 1 + 1 + 1 + 1 + 1 + 1 + 1 + 1 + 1 + 1 + 1 + 1 + 1 + 1 + 1 + 1 + 1, m + 1 + 1 + 1 + 1 + 1 + 1 + 1 + 1 + 1 + 1 + 1 + 1 + 1 + 1 + 1 + 1 + 1 + 1 + 1 + 1 + 1 + 1 + 1 + 1 + 1⟩, m + 1 + 1 + 1 + 1 + 1 + 1 + 1 + 1 + 1 + 1 + 1 + 1 + 1 + 1 + 1 + 1 + 1 + 1 + 1 + 1 + 1 + 1 + 1 + 1 + 1 + 1, ⟨m + 1 + 1 + 1 + 1 + 1 + 1 + 1 + 1 + 1 + 1 + 1 + 1 + 1 + 1 + 1 + 1 + 1 + 1 + 1 + 1 + 1 + 1 + 1 + 1 + 1 + 1 + 1, (m + 1 + 1 + 1 + 1 + 1 + 1 + 1 + 1 + 1 + 1 + 1 + 1 + 1 + 1 + 1 + 1 + 1 + 1 + 1 + 1 + 1 + 1 + 1 + 1 + 1 + 1 + 1 + 1) % 3 == 0, m + 1 + 1 + 1 + 1 + 1 + 1 + 1 + 1 + 1 + 1 + 1 + 1 + 1 + 1 + 1 + 1 + 1 + 1 + 1 + 1 + 1 + 1 + 1 + 1 + 1 + 1 + 1 + 1 + 1, m + 1 + 1 + 1 + 1 + 1 + 1 + 1 + 1 + 1 + 1 + 1 + 1 + 1 + 1 + 1 + 1 + 1 + 1 + 1 + 1 + 1 + 1 + 1 + 1 + 1 + 1 + 1 + 1 + 1 + 1, m + 1 + 1 + 1 + 1 + 1 + 1 + 1 + 1 + 1 + 1 + 1 + 1 + 1 + 1 + 1 + 1 + 1 + 1 + 1 + 1 + 1 + 1 + 1 + 1 + 1 + 1 + 1 + 1 + 1 + 1 + 1, m + 1 + 1 + 1 + 1 + 1 + 1 + 1 + 1 + 1 + 1 + 1 + 1 + 1 + 1 + 1 + 1 + 1 + 1 + 1 + 1 + 1 + 1 + 1 + 1 + 1 + 1 + 1 + 1 + 1 + 1 + 1 + 1⟩, m + 1 + 1 + 1 + 1 + 1 + 1 + 1 + 1 + 1 + 1 + 1 + 1 + 1 + 1 + 1 + 1 + 1 + 1 + 1 + 1 + 1 + 1 + 1 + 1 + 1 + 1 + 1 + 1 + 1 + 1 + 1 + 1 + 1⟩, ⟨m + 1 + 1 + 1 + 1 + 1 + 1 + 1 + 1 + 1 + 1 + 1 + 1 + 1 + 1 + 1 + 1 + 1 + 1 + 1 + 1 + 1 + 1 + 1 + 1 + 1 + 1 + 1 + 1 + 1 + 1 + 1 + 1 + 1 + 1, (m + 1 + 1 + 1 + 1 + 1 + 1 + 1 + 1 + 1 + 1 + 1 + 1 + 1 + 1 + 1 + 1 + 1 + 1 + 1 + 1 + 1 + 1 + 1 + 1 + 1 + 1 + 1 + 1 + 1 + 1 + 1 + 1 + 1 + 1 + 1) % 3 == 0, m + 1 + 1 + 1 + 1 + 1 + 1 + 1 + 1 + 1 + 1 + 1 + 1 + 1 + 1 + 1 + 1 + 1 + 1 + 1 + 1 + 1 + 1 + 1 + 1 + 1 + 1 + 1 + 1 + 1 + 1 + 1 + 1 + 1 + 1 + 1 + 1, m + 1 + 1 + 1 + 1 + 1 + 1 + 1 + 1 + 1 + 1 + 1 + 1 + 1 + 1 + 1 + 1 + 1 + 1 + 1 + 1 + 1 + 1 + 1 + 1 + 1 + 1 + 1 + 1 + 1 + 1 + 1 + 1 + 1 + 1 + 1 + 1 + 1, m + 1 + 1 + 1 + 1 + 1 + 1 + 1 + 1 + 1 + 1 + 1 + 1 + 1 + 1 + 1 + 1 + 1 + 1 + 1 + 1 + 1 + 1 + 1 + 1 + 1 + 1 + 1 + 1 + 1 + 1 + 1 + 1 + 1 + 1 + 1 + 1 + 1 + 1, m + 1 + 1 + 1 + 1 + 1 + 1 + 1 + 1 + 1 + 1 + 1 + 1 + 1 + 1 + 1 + 1 + 1 + 1 + 1 + 1 + 1 + 1 + 1 + 1 + 1 + 1 + 1 + 1 + 1 + 1 + 1 + 1 + 1 + 1 + 1 + 1 + 1 + 1 + 1⟩⟩
/-- The marks of a list. -/
def marksE (k0 : Int) (len : Nat) : List En := (List.range len).map fun j : Nat => markEn (k0 + 40 * (j : Int))
theorem marksE_at {k0 : Int} {len k : Nat} (h : k < len) : (marksE k0 len)[k]? = some (markEn (k0 + 40 * (k : Int))) := by simp [marksE, h]
theorem marksE_len (k0 : Int) (len : Nat) : (marksE k0 len).length = len := by simp [marksE]
theorem marked_en (m0 m1 m2 m3 m4 m5 m6 m7 m8 m9 m10 m11 m12 m13 m14 m15 m16 m17 m18 m19 m20 m21 m22 m23 m24 m25 m26 m27 m28 m29 m30 m31 m32 m33 m34 m35 m36 m37 m38 m39 : Int) (h1 : m0 + 1 = m1) (h2 : m1 + 1 = m2) (h3 : m2 + 1 = m3) (h4 : m3 + 1 = m4) (h5 : m4 + 1 = m5) (h6 : m5 + 1 = m6) (h7 : m6 + 1 = m7) (h8 : m7 + 1 = m8) (h9 : m8 + 1 = m9) (h10 : m9 + 1 = m10) (h11 : m10 + 1 = m11) (h12 : m11 + 1 = m12) (h13 : m12 + 1 = m13) (h14 : m13 + 1 = m14) (h15 : m14 + 1 = m15) (h16 : m15 + 1 = m16) (h17 : m16 + 1 = m17) (h18 : m17 + 1 = m18) (h19 : m18 + 1 = m19) (h20 : m19 + 1 = m20) (h21 : m20 + 1 = m21) (h22 : m21 + 1 = m22) (h23 : m22 + 1 = m23) (h24 : m23 + 1 = m24) (h25 : m24 + 1 = m25) (h26 : m25 + 1 = m26) (h27 : m26 + 1 = m27) (h28 : m27 + 1 = m28) (h29 : m28 + 1 = m29) (h30 : m29 + 1 = m30) (h31 : m30 + 1 = m31) (h32 : m31 + 1 = m32) (h33 : m32 + 1 = m33) (h34 : m33 + 1 = m34) (h35 : m34 + 1 = m35) (h36 : m35 + 1 = m36) (h37 : m36 + 1 = m37) (h38 : m37 + 1 = m38) (h39 : m38 + 1 = m39) : [.int .i64 m0, .bool (m1 % 3 == 0), .int .i64 m2, .int .i64 m3, .int .i64 m4, .int .i64 m5, .int .i64 m6, .int .i64 m7, .int .i64 m8, .int .i64 m9, .int .i64 m10, .bool (m11 % 3 == 0), .int .i64 m12, .int .i64 m13, .int .i64 m14, .bool (m15 % 3 == 0), .int .i64 m16, .int .i64 m17, .int .i64 m18, .int .i64 m19, .int .i64 m20, .bool (m21 % 3 == 0), .int .i64 m22, .int .i64 m23, .int .i64 m24, .int .i64 m25, .int .i64 m26, .int .i64 m27, .bool (m28 % 3 == 0), .int .i64 m29, .int .i64 m30, .int .i64 m31, .int .i64 m32, .int .i64 m33, .int .i64 m34, .bool (m35 % 3 == 0), .int .i64 m36, .int .i64 m37, .int .i64 m38, .int .i64 m39] = enl (markEn m0) := by
  subst h1 h2 h3 h4 h5 h6 h7 h8 h9 h10 h11 h12 h13 h14 h15 h16 h17 h18 h19 h20 h21 h22 h23 h24 h25 h26 h27 h28 h29 h30 h31 h32 h33 h34 h35 h36 h37 h38 h39
  rfl

section
variable {α : Type} {s : Nat} {f : α → List Value}
theorem OutV.poke {w : World} {q len k p : Nat} {L : List α} (h : OutV s f w q len k L) (hf : ∀ y, (f y).length = s) (hp : k * s ≤ p) (v : Value) : OutV s f (w.setCells q p [v]) q len k L := by
  refine ⟨by rw [size_setCells]; exact h.lt, fun i hi => ?_, fun i hi => (World.frozen?_setCells (w := w) q [v] p ⟨q, i, none⟩).trans (h.fr i hi), fun j y hj hy => ?_⟩
  · by_cases hip : i = p
    · subst hip
      have := World.cell?_setCells_in q [v] i w (fun j hj => by have : j = 0 := by simpa using hj
                                                                subst this; exact h.has i hi) 0 (by simp)
      rw [Nat.add_zero] at this
      rw [this]
      rfl
    · rw [World.cell?_setCells_out q [v] p w ⟨q, i, none⟩ (fun _ _ => by simp; omega)]
      exact h.has i hi
  · have h2 : j * s + s ≤ k * s := by
      have : (j + 1) * s ≤ k * s := Nat.mul_le_mul_right s (by omega)
      rwa [Nat.add_mul, Nat.one_mul] at this
    exact World.rangeAt_setCells_apart (h.wd j y hj hy) q p [v] (.inr (.inl (by rw [hf y]; omega)))
end
/-- A row of entries of which the first k are those of L, and of the next one the first cells are us. -/
structure MidE (w : World) (q len k : Nat) (L : List En) (us : List Value) : Prop where
  row : OutV 40 enl w q len k L
  at_ : w.rangeAt q (k * 40) us
theorem MidE.start {w : World} {q len k : Nat} {L : List En} (h : OutV 40 enl w q len k L) : MidE w q len k L [] := ⟨h, fun j v hv => by cases hv⟩
theorem MidE.one {w : World} {q len k : Nat} {L : List En} {us : List Value} (h : MidE w q len k L us) (hk : k < len) (o : Nat) (ho : o < 40) : ∃ v, w.cell? ⟨q, k * 40 + o, none⟩ = some v ∧ w.frozen? ⟨q, k * 40 + o, none⟩ = false := by
  have h1 := h.row.there hk o ho
  obtain ⟨v, hv⟩ := Option.isSome_iff_exists.1 h1.1
  exact ⟨v, hv, h1.2⟩
theorem MidE.put {w : World} {q len k o : Nat} {L : List En} {us : List Value} (h : MidE w q len k L us) (hk : k < len) (hu : us.length = o) (ho : o < 40) (v : Value) : MidE (w.setCells q (k * 40 + o) [v]) q len k L (us ++ [v]) := by
  refine ⟨h.row.poke enl_len (by omega) v, fun j x hx => ?_⟩
  by_cases hj : j < us.length
  · rw [List.getElem?_append_left hj] at hx
    rw [World.cell?_setCells_out q [v] (k * 40 + o) w ⟨q, k * 40 + j, none⟩ (fun _ _ => by simp; omega)]
    exact h.at_ j x hx
  · rw [List.getElem?_append_right (by omega)] at hx
    have hj0 : j - us.length = 0 := by
      have := (List.getElem?_eq_some_iff.1 hx).1
      simpa using this
    rw [hj0] at hx
    obtain rfl : v = x := by simpa using hx
    have := World.cell?_setCells_in q [v] (k * 40 + o) w (fun i hi => by
      obtain rfl : i = 0 := by simpa using hi
      exact (h.row.there hk o ho).1) 0 (by simp)
    rw [Nat.add_zero] at this
    rw [show k * 40 + j = k * 40 + o by omega, this]
    rfl
theorem MidE.done {w : World} {q len k : Nat} {L : List En} {us : List Value} {x : En} (h : MidE w q len k L us) (hx : L[k]? = some x) (hu : us = enl x) : OutV 40 enl w q len (k + 1) L :=
  ⟨h.row.lt, h.row.has, h.row.fr, fun j y hj hy => by
    by_cases hjk : j = k
    · subst hjk
      obtain rfl : x = y := by rw [hx] at hy; exact Option.some.inj hy
      rw [← hu]
      exact h.at_
    · exact h.row.wd j y (by omega) hy⟩

/-- A frame of n slots, written out by one letter. -/
theorem wide_range (A : Array Value) (n : Nat) (h : A.size = n) : A = ((List.range n).map fun i => A.getD i undef).toArray := by
  apply Array.ext
  · simp [h]
  · intro i h1 h2
    simp [Array.getD, h1]
theorem wide382 (A : Array Value) (s0 s1 s5 : Value) (h : A.size = 382) (h0 : A.getD 0 undef = s0) (h1 : A.getD 1 undef = s1) (h5 : A.getD 5 undef = s5) : A = #[s0, s1, A.getD 2 undef, A.getD 3 undef, A.getD 4 undef, s5, A.getD 6 undef, A.getD 7 undef, A.getD 8 undef, A.getD 9 undef, A.getD 10 undef, A.getD 11 undef, A.getD 12 undef, A.getD 13 undef, A.getD 14 undef, A.getD 15 undef, A.getD 16 undef, A.getD 17 undef, A.getD 18 undef, A.getD 19 undef, A.getD 20 undef, A.getD 21 undef, A.getD 22 undef, A.getD 23 undef, A.getD 24 undef, A.getD 25 undef, A.getD 26 undef, A.getD 27 undef, A.getD 28 undef, A.getD 29 undef, A.getD 30 undef, A.getD 31 undef, A.getD 32 undef, A.getD 33 undef, A.getD 34 undef, A.getD 35 undef, A.getD 36 undef, A.getD 37 undef, A.getD 38 undef, A.getD 39 undef, A.getD 40 undef, A.getD 41 undef, A.getD 42 undef, A.getD 43 undef, A.getD 44 undef, A.getD 45 undef, A.getD 46 undef, A.getD 47 undef, A.getD 48 undef, A.getD 49 undef, A.getD 50 undef, A.getD 51 undef, A.getD 52 undef, A.getD 53 undef, A.getD 54 undef, A.getD 55 undef, A.getD 56 undef, A.getD 57 undef, A.getD 58 undef, A.getD 59 undef, A.getD 60 undef, A.getD 61 undef, A.getD 62 undef, A.getD 63 undef, A.getD 64 undef, A.getD 65 undef, A.getD 66 undef, A.getD 67 undef, A.getD 68 undef, A.getD 69 undef, A.getD 70 undef, A.getD 71 undef, A.getD 72 undef, A.getD 73 undef, A.getD 74 undef, A.getD 75 undef, A.getD 76 undef, A.getD 77 undef, A.getD 78 undef, A.getD 79 undef, A.getD 80 undef, A.getD 81 undef, A.getD 82 undef, A.getD 83 undef, A.getD 84 undef, A.getD 85 undef, A.getD 86 undef, A.getD 87 undef, A.getD 88 undef, A.getD 89 undef, A.getD 90 undef, A.getD 91 undef, A.getD 92 undef, A.getD 93 undef, A.getD 94 undef, A.getD 95 undef, A.getD 96 undef, A.getD 97 undef, A.getD 98 undef, A.getD 99 undef, A.getD 100 undef, A.getD 101 undef, A.getD 102 undef, A.getD 103 undef, A.getD 104 undef, A.getD 105 undef, A.getD 106 undef, A.getD 107 undef, A.getD 108 undef, A.getD 109 undef, A.getD 110 undef, A.getD 111 undef, A.getD 112 undef, A.getD 113 undef, A.getD 114 undef, A.getD 115 undef, A.getD 116 undef, A.getD 117 undef, A.getD 118 undef, A.getD 119 undef, A.getD 120 undef, A.getD 121 undef, A.getD 122 undef, A.getD 123 undef, A.getD 124 undef, A.getD 125 undef, A.getD 126 undef, A.getD 127 undef, A.getD 128 undef, A.getD 129 undef, A.getD 130 undef, A.getD 131 undef, A.getD 132 undef, A.getD 133 undef, A.getD 134 undef, A.getD 135 undef, A.getD 136 undef, A.getD 137 undef, A.getD 138 undef, A.getD 139 undef, A.getD 140 undef, A.getD 141 undef, A.getD 142 undef, A.getD 143 undef, A.getD 144 undef, A.getD 145 undef, A.getD 146 undef, A.getD 147 undef, A.getD 148 undef, A.getD 149 undef, A.getD 150 undef, A.getD 151 undef, A.getD 152 undef, A.getD 153 undef, A.getD 154 undef, A.getD 155 undef, A.getD 156 undef, A.getD 157 undef, A.getD 158 undef, A.getD 159 undef, A.getD 160 undef, A.getD 161 undef, A.getD 162 undef, A.getD 163 undef, A.getD 164 undef, A.getD 165 undef, A.getD 166 undef, A.getD 167 undef, A.getD 168 undef, A.getD 169 undef, A.getD 170 undef, A.getD 171 undef, A.getD 172 undef, A.getD 173 undef, A.getD 174 undef, A.getD 175 undef, A.getD 176 undef, A.getD 177 undef, A.getD 178 undef, A.getD 179 undef, A.getD 180 undef, A.getD 181 undef, A.getD 182 undef, A.getD 183 undef, A.getD 184 undef, A.getD 185 undef, A.getD 186 undef, A.getD 187 undef, A.getD 188 undef, A.getD 189 undef, A.getD 190 undef, A.getD 191 undef, A.getD 192 undef, A.getD 193 undef, A.getD 194 undef, A.getD 195 undef, A.getD 196 undef, A.getD 197 undef, A.getD 198 undef, A.getD 199 undef, A.getD 200 undef, A.getD 201 undef, A.getD 202 undef, A.getD 203 undef, A.getD 204 undef, A.getD 205 undef, A.getD 206 undef, A.getD 207 undef, A.getD 208 undef, A.getD 209 undef, A.getD 210 undef, A.getD 211 undef, A.getD 212 undef, A.getD 213 undef, A.getD 214 undef, A.getD 215 undef, A.getD 216 undef, A.getD 217 undef, A.getD 218 undef, A.getD 219 undef, A.getD 220 undef, A.getD 221 undef, A.getD 222 undef, A.getD 223 undef, A.getD 224 undef, A.getD 225 undef, A.getD 226 undef, A.getD 227 undef, A.getD 228 undef, A.getD 229 undef, A.getD 230 undef, A.getD 231 undef, A.getD 232 undef, A.getD 233 undef, A.getD 234 undef, A.getD 235 undef, A.getD 236 undef, A.getD 237 undef, A.getD 238 undef, A.getD 239 undef, A.getD 240 undef, A.getD 241 undef, A.getD 242 undef, A.getD 243 undef, A.getD 244 undef, A.getD 245 undef, A.getD 246 undef, A.getD 247 undef, A.getD 248 undef, A.getD 249 undef, A.getD 250 undef, A.getD 251 undef, A.getD 252 undef, A.getD 253 undef, A.getD 254 undef, A.getD 255 undef, A.getD 256 undef, A.getD 257 undef, A.getD 258 undef, A.getD 259 undef, A.getD 260 undef, A.getD 261 undef, A.getD 262 undef, A.getD 263 undef, A.getD 264 undef, A.getD 265 undef, A.getD 266 undef, A.getD 267 undef, A.getD 268 undef, A.getD 269 undef, A.getD 270 undef, A.getD 271 undef, A.getD 272 undef, A.getD 273 undef, A.getD 274 undef, A.getD 275 undef, A.getD 276 undef, A.getD 277 undef, A.getD 278 undef, A.getD 279 undef, A.getD 280 undef, A.getD 281 undef, A.getD 282 undef, A.getD 283 undef, A.getD 284 undef, A.getD 285 undef, A.getD 286 undef, A.getD 287 undef, A.getD 288 undef, A.getD 289 undef, A.getD 290 undef, A.getD 291 undef, A.getD 292 undef, A.getD 293 undef, A.getD 294 undef, A.getD 295 undef, A.getD 296 undef, A.getD 297 undef, A.getD 298 undef, A.getD 299 undef, A.getD 300 undef, A.getD 301 undef, A.getD 302 undef, A.getD 303 undef, A.getD 304 undef, A.getD 305 undef, A.getD 306 undef, A.getD 307 undef, A.getD 308 undef, A.getD 309 undef, A.getD 310 undef, A.getD 311 undef, A.getD 312 undef, A.getD 313 undef, A.getD 314 undef, A.getD 315 undef, A.getD 316 undef, A.getD 317 undef, A.getD 318 undef, A.getD 319 undef, A.getD 320 undef, A.getD 321 undef, A.getD 322 undef, A.getD 323 undef, A.getD 324 undef, A.getD 325 undef, A.getD 326 undef, A.getD 327 undef, A.getD 328 undef, A.getD 329 undef, A.getD 330 undef, A.getD 331 undef, A.getD 332 undef, A.getD 333 undef, A.getD 334 undef, A.getD 335 undef, A.getD 336 undef, A.getD 337 undef, A.getD 338 undef, A.getD 339 undef, A.getD 340 undef, A.getD 341 undef, A.getD 342 undef, A.getD 343 undef, A.getD 344 undef, A.getD 345 undef, A.getD 346 undef, A.getD 347 undef, A.getD 348 undef, A.getD 349 undef, A.getD 350 undef, A.getD 351 undef, A.getD 352 undef, A.getD 353 undef, A.getD 354 undef, A.getD 355 undef, A.getD 356 undef, A.getD 357 undef, A.getD 358 undef, A.getD 359 undef, A.getD 360 undef, A.getD 361 undef, A.getD 362 undef, A.getD 363 undef, A.getD 364 undef, A.getD 365 undef, A.getD 366 undef, A.getD 367 undef, A.getD 368 undef, A.getD 369 undef, A.getD 370 undef, A.getD 371 undef, A.getD 372 undef, A.getD 373 undef, A.getD 374 undef, A.getD 375 undef, A.getD 376 undef, A.getD 377 undef, A.getD 378 undef, A.getD 379 undef, A.getD 380 undef, A.getD 381 undef] := by
  subst h0 h1 h5
  exact (wide_range A 382 h).trans (by kernel_rfl)

set_option maxHeartbeats 4000000 in
theorem markE_own (q len cap : Nat) (k0 : Int) (h0 : 1 ≤ k0) (h1 : k0 ≤ 33554432) (w : World) (hl : len ≤ 1048576) (h : OutV 40 enl w q len 0 (marksE k0 len)) :
    Calls Tryz.prog 68 #[.slice (some ⟨q, 0, none⟩) len cap, .int .i64 k0] w fun e w' => e = .returned (.int .i64 (k0 + 40 * (len : Int))) ∧ OutV 40 enl w' q len len (marksE k0 len) ∧ KeepBut q w w' := by
  have O0 := hid_mk h
  clear h
  go_enter Tryz.func68, Tryz.ntmps68
  go_wp2
  refine wp_loop (fun a' w' => ∃ k : Nat, k ≤ len ∧ a'.tmps.size = 382 ∧ a'.tmps.getD 0 undef = .slice (some ⟨q, 0, none⟩) len cap ∧ a'.tmps.getD 1 undef = .int .i64 (k0 + 40 * (k : Int)) ∧ a'.tmps.getD 5 undef = .int .i64 (k : Int) ∧ a' = ⟨a'.tmps, []⟩ ∧ Hid (OutV 40 enl w' q len k (marksE k0 len)) ∧ Hid (KeepBut q w w')) (fun a' _ => len - (intOf (a'.tmps.getD 5 undef)).toNat) ?_ ?_
  · exact ⟨0, Nat.zero_le _, rfl, rfl, by simp, rfl, rfl, O0, hid_mk (KeepBut.refl _ _)⟩
  · clear O0
    intro a' wr hinv
    obtain ⟨k, hk, s, t0, t1, t5, ha, O, K⟩ := hinv
    rw [ha]
    generalize a'.tmps = A at s t0 t1 t5
    clear ha a'
    show Code.wp _ _ (Exit.then (fun a'' w'' => _ ∧ len - (intOf (a''.tmps.getD 5 undef)).toNat < len - (intOf (A.getD 5 undef)).toNat) _) _ _
    rw [t5]
    rw [wide382 A _ _ _ s t0 t1 t5]
    have hM : (intOf (.int .i64 (k : Int))).toNat = k := by simp [intOf]
    by_cases hlt : k < len
    · obtain ⟨m0, hm0⟩ : ∃ m : Int, m = k0 + 40 * (k : Int) := ⟨_, rfl⟩
      have MX := hid_mk (marksE_at (k0 := k0) hlt)
      rw [← hm0] at MX ⊢
      have bb0 : 1 ≤ m0 := by omega
      have bc0 : m0 ≤ 134217728 := by omega
      have HM := hid_mk hm0
      have M := hid_mk (MidE.start O.out)
      clear hm0 O t0 t1 t5 s
      obtain ⟨m1, hm⟩ : ∃ x : Int, m0 + 1 = x := ⟨_, rfl⟩
      have H1 := hid_mk hm
      have bb1 : 1 ≤ m1 := by omega
      have bc1 : m1 ≤ 134217728 + 1 := by omega
      clear hm
      obtain ⟨vv, ee, ff⟩ := M.out.one hlt 0 (by omega)
      rw [Nat.add_zero] at ee ff
      have M1 : Hid (MidE (wr.setCell ⟨q, k * 40, none⟩ (.int .i64 m0)) q len k (marksE k0 len) [.int .i64 m0]) := M.out.put hlt (o := 0) rfl (by omega) (.int .i64 m0)
      have K1 : Hid (KeepBut q w (wr.setCell ⟨q, k * 40, none⟩ (.int .i64 m0))) := K.out.trans (KeepBut.setCells [.int .i64 m0] (k * 40) wr)
      clear M K
      go_upto_region 6 with fail
      clear ee ff
      generalize wr.setCell ⟨q, k * 40, none⟩ (.int .i64 m0) = w1 at M1 K1 ⊢
      rw [H1.out]
      clear bb0 bc0
      have M := M1
      have K := K1
      clear M1 K1
      clear wr
      obtain ⟨wr, rfl⟩ : ∃ x : World, x = w1 := ⟨_, rfl⟩
      obtain ⟨m2, hm⟩ : ∃ x : Int, m1 + 1 = x := ⟨_, rfl⟩
      have H2 := hid_mk hm
      have bb2 : 1 ≤ m2 := by omega
      have bc2 : m2 ≤ 134217728 + 2 := by omega
      clear hm
      obtain ⟨vv, ee, ff⟩ := M.out.one hlt 1 (by omega)
      have M1 : Hid (MidE (wr.setCell ⟨q, k * 40 + 1, none⟩ (.bool (m1 % 3 == 0))) q len k (marksE k0 len) [.int .i64 m0, .bool (m1 % 3 == 0)]) := M.out.put hlt (o := 1) rfl (by omega) (.bool (m1 % 3 == 0))
      have K1 : Hid (KeepBut q w (wr.setCell ⟨q, k * 40 + 1, none⟩ (.bool (m1 % 3 == 0)))) := K.out.trans (KeepBut.setCells [.bool (m1 % 3 == 0)] (k * 40 + 1) wr)
      clear M K
      go_upto_region 8 with fail
      clear ee ff
      generalize wr.setCell ⟨q, k * 40 + 1, none⟩ (.bool (m1 % 3 == 0)) = w1 at M1 K1 ⊢
      rw [H2.out]
      clear bb1 bc1
      have M := M1
      have K := K1
      clear M1 K1
      clear wr
      obtain ⟨wr, rfl⟩ : ∃ x : World, x = w1 := ⟨_, rfl⟩
      obtain ⟨m3, hm⟩ : ∃ x : Int, m2 + 1 = x := ⟨_, rfl⟩
      have H3 := hid_mk hm
      have bb3 : 1 ≤ m3 := by omega
      have bc3 : m3 ≤ 134217728 + 3 := by omega
      clear hm
      obtain ⟨vv, ee, ff⟩ := M.out.one hlt 2 (by omega)
      have M1 : Hid (MidE (wr.setCell ⟨q, k * 40 + 2, none⟩ (.int .i64 m2)) q len k (marksE k0 len) [.int .i64 m0, .bool (m1 % 3 == 0), .int .i64 m2]) := M.out.put hlt (o := 2) rfl (by omega) (.int .i64 m2)
      have K1 : Hid (KeepBut q w (wr.setCell ⟨q, k * 40 + 2, none⟩ (.int .i64 m2))) := K.out.trans (KeepBut.setCells [.int .i64 m2] (k * 40 + 2) wr)
      clear M K
      go_upto_region 10 with fail
      clear ee ff
      generalize wr.setCell ⟨q, k * 40 + 2, none⟩ (.int .i64 m2) = w1 at M1 K1 ⊢
      rw [H3.out]
      clear bb2 bc2
      have M := M1
      have K := K1
      clear M1 K1
      clear wr
      obtain ⟨wr, rfl⟩ : ∃ x : World, x = w1 := ⟨_, rfl⟩
      obtain ⟨m4, hm⟩ : ∃ x : Int, m3 + 1 = x := ⟨_, rfl⟩
      have H4 := hid_mk hm
      have bb4 : 1 ≤ m4 := by omega
      have bc4 : m4 ≤ 134217728 + 4 := by omega
      clear hm
      obtain ⟨vv, ee, ff⟩ := M.out.one hlt 3 (by omega)
      have M1 : Hid (MidE (wr.setCell ⟨q, k * 40 + 3, none⟩ (.int .i64 m3)) q len k (marksE k0 len) [.int .i64 m0, .bool (m1 % 3 == 0), .int .i64 m2, .int .i64 m3]) := M.out.put hlt (o := 3) rfl (by omega) (.int .i64 m3)
      have K1 : Hid (KeepBut q w (wr.setCell ⟨q, k * 40 + 3, none⟩ (.int .i64 m3))) := K.out.trans (KeepBut.setCells [.int .i64 m3] (k * 40 + 3) wr)
      clear M K
      go_upto_region 12 with fail
      clear ee ff
      generalize wr.setCell ⟨q, k * 40 + 3, none⟩ (.int .i64 m3) = w1 at M1 K1 ⊢
      rw [H4.out]
      clear bb3 bc3
      have M := M1
      have K := K1
      clear M1 K1
      clear wr
      obtain ⟨wr, rfl⟩ : ∃ x : World, x = w1 := ⟨_, rfl⟩
      obtain ⟨m5, hm⟩ : ∃ x : Int, m4 + 1 = x := ⟨_, rfl⟩
      have H5 := hid_mk hm
      have bb5 : 1 ≤ m5 := by omega
      have bc5 : m5 ≤ 134217728 + 5 := by omega
      clear hm
      obtain ⟨vv, ee, ff⟩ := M.out.one hlt 4 (by omega)
      have M1 : Hid (MidE (wr.setCell ⟨q, k * 40 + 4, none⟩ (.int .i64 m4)) q len k (marksE k0 len) [.int .i64 m0, .bool (m1 % 3 == 0), .int .i64 m2, .int .i64 m3, .int .i64 m4]) := M.out.put hlt (o := 4) rfl (by omega) (.int .i64 m4)
      have K1 : Hid (KeepBut q w (wr.setCell ⟨q, k * 40 + 4, none⟩ (.int .i64 m4))) := K.out.trans (KeepBut.setCells [.int .i64 m4] (k * 40 + 4) wr)
      clear M K
      go_upto_region 14 with fail
      clear ee ff
      generalize wr.setCell ⟨q, k * 40 + 4, none⟩ (.int .i64 m4) = w1 at M1 K1 ⊢
      rw [H5.out]
      clear bb4 bc4
      have M := M1
      have K := K1
      clear M1 K1
      clear wr
      obtain ⟨wr, rfl⟩ : ∃ x : World, x = w1 := ⟨_, rfl⟩
      obtain ⟨m6, hm⟩ : ∃ x : Int, m5 + 1 = x := ⟨_, rfl⟩
      have H6 := hid_mk hm
      have bb6 : 1 ≤ m6 := by omega
      have bc6 : m6 ≤ 134217728 + 6 := by omega
      clear hm
      obtain ⟨vv, ee, ff⟩ := M.out.one hlt 5 (by omega)
      have M1 : Hid (MidE (wr.setCell ⟨q, k * 40 + 5, none⟩ (.int .i64 m5)) q len k (marksE k0 len) [.int .i64 m0, .bool (m1 % 3 == 0), .int .i64 m2, .int .i64 m3, .int .i64 m4, .int .i64 m5]) := M.out.put hlt (o := 5) rfl (by omega) (.int .i64 m5)
      have K1 : Hid (KeepBut q w (wr.setCell ⟨q, k * 40 + 5, none⟩ (.int .i64 m5))) := K.out.trans (KeepBut.setCells [.int .i64 m5] (k * 40 + 5) wr)
      clear M K
      go_upto_region 16 with fail
      clear ee ff
      generalize wr.setCell ⟨q, k * 40 + 5, none⟩ (.int .i64 m5) = w1 at M1 K1 ⊢
      rw [H6.out]
      clear bb5 bc5
      have M := M1
      have K := K1
      clear M1 K1
      clear wr
      obtain ⟨wr, rfl⟩ : ∃ x : World, x = w1 := ⟨_, rfl⟩
      obtain ⟨m7, hm⟩ : ∃ x : Int, m6 + 1 = x := ⟨_, rfl⟩
      have H7 := hid_mk hm
      have bb7 : 1 ≤ m7 := by omega
      have bc7 : m7 ≤ 134217728 + 7 := by omega
      clear hm
      obtain ⟨vv, ee, ff⟩ := M.out.one hlt 6 (by omega)
      have M1 : Hid (MidE (wr.setCell ⟨q, k * 40 + 6, none⟩ (.int .i64 m6)) q len k (marksE k0 len) [.int .i64 m0, .bool (m1 % 3 == 0), .int .i64 m2, .int .i64 m3, .int .i64 m4, .int .i64 m5, .int .i64 m6]) := M.out.put hlt (o := 6) rfl (by omega) (.int .i64 m6)
      have K1 : Hid (KeepBut q w (wr.setCell ⟨q, k * 40 + 6, none⟩ (.int .i64 m6))) := K.out.trans (KeepBut.setCells [.int .i64 m6] (k * 40 + 6) wr)
      clear M K
      go_upto_region 18 with fail
      clear ee ff
      generalize wr.setCell ⟨q, k * 40 + 6, none⟩ (.int .i64 m6) = w1 at M1 K1 ⊢
      rw [H7.out]
      clear bb6 bc6
      have M := M1
      have K := K1
      clear M1 K1
      clear wr
      obtain ⟨wr, rfl⟩ : ∃ x : World, x = w1 := ⟨_, rfl⟩
      obtain ⟨m8, hm⟩ : ∃ x : Int, m7 + 1 = x := ⟨_, rfl⟩
      have H8 := hid_mk hm
      have bb8 : 1 ≤ m8 := by omega
      have bc8 : m8 ≤ 134217728 + 8 := by omega
      clear hm
      obtain ⟨vv, ee, ff⟩ := M.out.one hlt 7 (by omega)
      have M1 : Hid (MidE (wr.setCell ⟨q, k * 40 + 7, none⟩ (.int .i64 m7)) q len k (marksE k0 len) [.int .i64 m0, .bool (m1 % 3 == 0), .int .i64 m2, .int .i64 m3, .int .i64 m4, .int .i64 m5, .int .i64 m6, .int .i64 m7]) := M.out.put hlt (o := 7) rfl (by omega) (.int .i64 m7)
      have K1 : Hid (KeepBut q w (wr.setCell ⟨q, k * 40 + 7, none⟩ (.int .i64 m7))) := K.out.trans (KeepBut.setCells [.int .i64 m7] (k * 40 + 7) wr)
      clear M K
      go_upto_region 20 with fail
      clear ee ff
      generalize wr.setCell ⟨q, k * 40 + 7, none⟩ (.int .i64 m7) = w1 at M1 K1 ⊢
      rw [H8.out]
      clear bb7 bc7
      have M := M1
      have K := K1
      clear M1 K1
      clear wr
      obtain ⟨wr, rfl⟩ : ∃ x : World, x = w1 := ⟨_, rfl⟩
      obtain ⟨m9, hm⟩ : ∃ x : Int, m8 + 1 = x := ⟨_, rfl⟩
      have H9 := hid_mk hm
      have bb9 : 1 ≤ m9 := by omega
      have bc9 : m9 ≤ 134217728 + 9 := by omega
      clear hm
      obtain ⟨vv, ee, ff⟩ := M.out.one hlt 8 (by omega)
      have M1 : Hid (MidE (wr.setCell ⟨q, k * 40 + 8, none⟩ (.int .i64 m8)) q len k (marksE k0 len) [.int .i64 m0, .bool (m1 % 3 == 0), .int .i64 m2, .int .i64 m3, .int .i64 m4, .int .i64 m5, .int .i64 m6, .int .i64 m7, .int .i64 m8]) := M.out.put hlt (o := 8) rfl (by omega) (.int .i64 m8)
      have K1 : Hid (KeepBut q w (wr.setCell ⟨q, k * 40 + 8, none⟩ (.int .i64 m8))) := K.out.trans (KeepBut.setCells [.int .i64 m8] (k * 40 + 8) wr)
      clear M K
      go_upto_region 22 with fail
      clear ee ff
      generalize wr.setCell ⟨q, k * 40 + 8, none⟩ (.int .i64 m8) = w1 at M1 K1 ⊢
      rw [H9.out]
      clear bb8 bc8
      have M := M1
      have K := K1
      clear M1 K1
      clear wr
      obtain ⟨wr, rfl⟩ : ∃ x : World, x = w1 := ⟨_, rfl⟩
      obtain ⟨m10, hm⟩ : ∃ x : Int, m9 + 1 = x := ⟨_, rfl⟩
      have H10 := hid_mk hm
      have bb10 : 1 ≤ m10 := by omega
      have bc10 : m10 ≤ 134217728 + 10 := by omega
      clear hm
      obtain ⟨vv, ee, ff⟩ := M.out.one hlt 9 (by omega)
      have M1 : Hid (MidE (wr.setCell ⟨q, k * 40 + 9, none⟩ (.int .i64 m9)) q len k (marksE k0 len) [.int .i64 m0, .bool (m1 % 3 == 0), .int .i64 m2, .int .i64 m3, .int .i64 m4, .int .i64 m5, .int .i64 m6, .int .i64 m7, .int .i64 m8, .int .i64 m9]) := M.out.put hlt (o := 9) rfl (by omega) (.int .i64 m9)
      have K1 : Hid (KeepBut q w (wr.setCell ⟨q, k * 40 + 9, none⟩ (.int .i64 m9))) := K.out.trans (KeepBut.setCells [.int .i64 m9] (k * 40 + 9) wr)
      clear M K
      go_upto_region 24 with fail
      clear ee ff
      generalize wr.setCell ⟨q, k * 40 + 9, none⟩ (.int .i64 m9) = w1 at M1 K1 ⊢
      rw [H10.out]
      clear bb9 bc9
      have M := M1
      have K := K1
      clear M1 K1
      clear wr
      obtain ⟨wr, rfl⟩ : ∃ x : World, x = w1 := ⟨_, rfl⟩
      obtain ⟨m11, hm⟩ : ∃ x : Int, m10 + 1 = x := ⟨_, rfl⟩
      have H11 := hid_mk hm
      have bb11 : 1 ≤ m11 := by omega
      have bc11 : m11 ≤ 134217728 + 11 := by omega
      clear hm
      obtain ⟨vv, ee, ff⟩ := M.out.one hlt 10 (by omega)
      have M1 : Hid (MidE (wr.setCell ⟨q, k * 40 + 10, none⟩ (.int .i64 m10)) q len k (marksE k0 len) [.int .i64 m0, .bool (m1 % 3 == 0), .int .i64 m2, .int .i64 m3, .int .i64 m4, .int .i64 m5, .int .i64 m6, .int .i64 m7, .int .i64 m8, .int .i64 m9, .int .i64 m10]) := M.out.put hlt (o := 10) rfl (by omega) (.int .i64 m10)
      have K1 : Hid (KeepBut q w (wr.setCell ⟨q, k * 40 + 10, none⟩ (.int .i64 m10))) := K.out.trans (KeepBut.setCells [.int .i64 m10] (k * 40 + 10) wr)
      clear M K
      go_upto_region 26 with fail
      clear ee ff
      generalize wr.setCell ⟨q, k * 40 + 10, none⟩ (.int .i64 m10) = w1 at M1 K1 ⊢
      rw [H11.out]
      clear bb10 bc10
      have M := M1
      have K := K1
      clear M1 K1
      clear wr
      obtain ⟨wr, rfl⟩ : ∃ x : World, x = w1 := ⟨_, rfl⟩
      obtain ⟨m12, hm⟩ : ∃ x : Int, m11 + 1 = x := ⟨_, rfl⟩
      have H12 := hid_mk hm
      have bb12 : 1 ≤ m12 := by omega
      have bc12 : m12 ≤ 134217728 + 12 := by omega
      clear hm
      obtain ⟨vv, ee, ff⟩ := M.out.one hlt 11 (by omega)
      have M1 : Hid (MidE (wr.setCell ⟨q, k * 40 + 11, none⟩ (.bool (m11 % 3 == 0))) q len k (marksE k0 len) [.int .i64 m0, .bool (m1 % 3 == 0), .int .i64 m2, .int .i64 m3, .int .i64 m4, .int .i64 m5, .int .i64 m6, .int .i64 m7, .int .i64 m8, .int .i64 m9, .int .i64 m10, .bool (m11 % 3 == 0)]) := M.out.put hlt (o := 11) rfl (by omega) (.bool (m11 % 3 == 0))
      have K1 : Hid (KeepBut q w (wr.setCell ⟨q, k * 40 + 11, none⟩ (.bool (m11 % 3 == 0)))) := K.out.trans (KeepBut.setCells [.bool (m11 % 3 == 0)] (k * 40 + 11) wr)
      clear M K
      go_upto_region 28 with fail
      clear ee ff
      generalize wr.setCell ⟨q, k * 40 + 11, none⟩ (.bool (m11 % 3 == 0)) = w1 at M1 K1 ⊢
      rw [H12.out]
      clear bb11 bc11
      have M := M1
      have K := K1
      clear M1 K1
      clear wr
      obtain ⟨wr, rfl⟩ : ∃ x : World, x = w1 := ⟨_, rfl⟩
      obtain ⟨m13, hm⟩ : ∃ x : Int, m12 + 1 = x := ⟨_, rfl⟩
      have H13 := hid_mk hm
      have bb13 : 1 ≤ m13 := by omega
      have bc13 : m13 ≤ 134217728 + 13 := by omega
      clear hm
      obtain ⟨vv, ee, ff⟩ := M.out.one hlt 12 (by omega)
      have M1 : Hid (MidE (wr.setCell ⟨q, k * 40 + 12, none⟩ (.int .i64 m12)) q len k (marksE k0 len) [.int .i64 m0, .bool (m1 % 3 == 0), .int .i64 m2, .int .i64 m3, .int .i64 m4, .int .i64 m5, .int .i64 m6, .int .i64 m7, .int .i64 m8, .int .i64 m9, .int .i64 m10, .bool (m11 % 3 == 0), .int .i64 m12]) := M.out.put hlt (o := 12) rfl (by omega) (.int .i64 m12)
      have K1 : Hid (KeepBut q w (wr.setCell ⟨q, k * 40 + 12, none⟩ (.int .i64 m12))) := K.out.trans (KeepBut.setCells [.int .i64 m12] (k * 40 + 12) wr)
      clear M K
      go_upto_region 30 with fail
      clear ee ff
      generalize wr.setCell ⟨q, k * 40 + 12, none⟩ (.int .i64 m12) = w1 at M1 K1 ⊢
      rw [H13.out]
      clear bb12 bc12
      have M := M1
      have K := K1
      clear M1 K1
      clear wr
      obtain ⟨wr, rfl⟩ : ∃ x : World, x = w1 := ⟨_, rfl⟩
      obtain ⟨m14, hm⟩ : ∃ x : Int, m13 + 1 = x := ⟨_, rfl⟩
      have H14 := hid_mk hm
      have bb14 : 1 ≤ m14 := by omega
      have bc14 : m14 ≤ 134217728 + 14 := by omega
      clear hm
      obtain ⟨vv, ee, ff⟩ := M.out.one hlt 13 (by omega)
      have M1 : Hid (MidE (wr.setCell ⟨q, k * 40 + 13, none⟩ (.int .i64 m13)) q len k (marksE k0 len) [.int .i64 m0, .bool (m1 % 3 == 0), .int .i64 m2, .int .i64 m3, .int .i64 m4, .int .i64 m5, .int .i64 m6, .int .i64 m7, .int .i64 m8, .int .i64 m9, .int .i64 m10, .bool (m11 % 3 == 0), .int .i64 m12, .int .i64 m13]) := M.out.put hlt (o := 13) rfl (by omega) (.int .i64 m13)
      have K1 : Hid (KeepBut q w (wr.setCell ⟨q, k * 40 + 13, none⟩ (.int .i64 m13))) := K.out.trans (KeepBut.setCells [.int .i64 m13] (k * 40 + 13) wr)
      clear M K
      go_upto_region 32 with fail
      clear ee ff
      generalize wr.setCell ⟨q, k * 40 + 13, none⟩ (.int .i64 m13) = w1 at M1 K1 ⊢
      rw [H14.out]
      clear bb13 bc13
      have M := M1
      have K := K1
      clear M1 K1
      clear wr
      obtain ⟨wr, rfl⟩ : ∃ x : World, x = w1 := ⟨_, rfl⟩
      obtain ⟨m15, hm⟩ : ∃ x : Int, m14 + 1 = x := ⟨_, rfl⟩
      have H15 := hid_mk hm
      have bb15 : 1 ≤ m15 := by omega
      have bc15 : m15 ≤ 134217728 + 15 := by omega
      clear hm
      obtain ⟨vv, ee, ff⟩ := M.out.one hlt 14 (by omega)
      have M1 : Hid (MidE (wr.setCell ⟨q, k * 40 + 14, none⟩ (.int .i64 m14)) q len k (marksE k0 len) [.int .i64 m0, .bool (m1 % 3 == 0), .int .i64 m2, .int .i64 m3, .int .i64 m4, .int .i64 m5, .int .i64 m6, .int .i64 m7, .int .i64 m8, .int .i64 m9, .int .i64 m10, .bool (m11 % 3 == 0), .int .i64 m12, .int .i64 m13, .int .i64 m14]) := M.out.put hlt (o := 14) rfl (by omega) (.int .i64 m14)
      have K1 : Hid (KeepBut q w (wr.setCell ⟨q, k * 40 + 14, none⟩ (.int .i64 m14))) := K.out.trans (KeepBut.setCells [.int .i64 m14] (k * 40 + 14) wr)
      clear M K
      go_upto_region 34 with fail
      clear ee ff
      generalize wr.setCell ⟨q, k * 40 + 14, none⟩ (.int .i64 m14) = w1 at M1 K1 ⊢
      rw [H15.out]
      clear bb14 bc14
      have M := M1
      have K := K1
      clear M1 K1
      clear wr
      obtain ⟨wr, rfl⟩ : ∃ x : World, x = w1 := ⟨_, rfl⟩
      obtain ⟨m16, hm⟩ : ∃ x : Int, m15 + 1 = x := ⟨_, rfl⟩
      have H16 := hid_mk hm
      have bb16 : 1 ≤ m16 := by omega
      have bc16 : m16 ≤ 134217728 + 16 := by omega
      clear hm
      obtain ⟨vv, ee, ff⟩ := M.out.one hlt 15 (by omega)
      have M1 : Hid (MidE (wr.setCell ⟨q, k * 40 + 15, none⟩ (.bool (m15 % 3 == 0))) q len k (marksE k0 len) [.int .i64 m0, .bool (m1 % 3 == 0), .int .i64 m2, .int .i64 m3, .int .i64 m4, .int .i64 m5, .int .i64 m6, .int .i64 m7, .int .i64 m8, .int .i64 m9, .int .i64 m10, .bool (m11 % 3 == 0), .int .i64 m12, .int .i64 m13, .int .i64 m14, .bool (m15 % 3 == 0)]) := M.out.put hlt (o := 15) rfl (by omega) (.bool (m15 % 3 == 0))
      have K1 : Hid (KeepBut q w (wr.setCell ⟨q, k * 40 + 15, none⟩ (.bool (m15 % 3 == 0)))) := K.out.trans (KeepBut.setCells [.bool (m15 % 3 == 0)] (k * 40 + 15) wr)
      clear M K
      go_upto_region 36 with fail
      clear ee ff
      generalize wr.setCell ⟨q, k * 40 + 15, none⟩ (.bool (m15 % 3 == 0)) = w1 at M1 K1 ⊢
      rw [H16.out]
      clear bb15 bc15
      have M := M1
      have K := K1
      clear M1 K1
      clear wr
      obtain ⟨wr, rfl⟩ : ∃ x : World, x = w1 := ⟨_, rfl⟩
      obtain ⟨m17, hm⟩ : ∃ x : Int, m16 + 1 = x := ⟨_, rfl⟩
      have H17 := hid_mk hm
      have bb17 : 1 ≤ m17 := by omega
      have bc17 : m17 ≤ 134217728 + 17 := by omega
      clear hm
      obtain ⟨vv, ee, ff⟩ := M.out.one hlt 16 (by omega)
      have M1 : Hid (MidE (wr.setCell ⟨q, k * 40 + 16, none⟩ (.int .i64 m16)) q len k (marksE k0 len) [.int .i64 m0, .bool (m1 % 3 == 0), .int .i64 m2, .int .i64 m3, .int .i64 m4, .int .i64 m5, .int .i64 m6, .int .i64 m7, .int .i64 m8, .int .i64 m9, .int .i64 m10, .bool (m11 % 3 == 0), .int .i64 m12, .int .i64 m13, .int .i64 m14, .bool (m15 % 3 == 0), .int .i64 m16]) := M.out.put hlt (o := 16) rfl (by omega) (.int .i64 m16)
      have K1 : Hid (KeepBut q w (wr.setCell ⟨q, k * 40 + 16, none⟩ (.int .i64 m16))) := K.out.trans (KeepBut.setCells [.int .i64 m16] (k * 40 + 16) wr)
      clear M K
      go_upto_region 38 with fail
      clear ee ff
      generalize wr.setCell ⟨q, k * 40 + 16, none⟩ (.int .i64 m16) = w1 at M1 K1 ⊢
      rw [H17.out]
      clear bb16 bc16
      have M := M1
      have K := K1
      clear M1 K1
      clear wr
      obtain ⟨wr, rfl⟩ : ∃ x : World, x = w1 := ⟨_, rfl⟩
      obtain ⟨m18, hm⟩ : ∃ x : Int, m17 + 1 = x := ⟨_, rfl⟩
      have H18 := hid_mk hm
      have bb18 : 1 ≤ m18 := by omega
      have bc18 : m18 ≤ 134217728 + 18 := by omega
      clear hm
      obtain ⟨vv, ee, ff⟩ := M.out.one hlt 17 (by omega)
      have M1 : Hid (MidE (wr.setCell ⟨q, k * 40 + 17, none⟩ (.int .i64 m17)) q len k (marksE k0 len) [.int .i64 m0, .bool (m1 % 3 == 0), .int .i64 m2, .int .i64 m3, .int .i64 m4, .int .i64 m5, .int .i64 m6, .int .i64 m7, .int .i64 m8, .int .i64 m9, .int .i64 m10, .bool (m11 % 3 == 0), .int .i64 m12, .int .i64 m13, .int .i64 m14, .bool (m15 % 3 == 0), .int .i64 m16, .int .i64 m17]) := M.out.put hlt (o := 17) rfl (by omega) (.int .i64 m17)
      have K1 : Hid (KeepBut q w (wr.setCell ⟨q, k * 40 + 17, none⟩ (.int .i64 m17))) := K.out.trans (KeepBut.setCells [.int .i64 m17] (k * 40 + 17) wr)
      clear M K
      go_upto_region 40 with fail
      clear ee ff
      generalize wr.setCell ⟨q, k * 40 + 17, none⟩ (.int .i64 m17) = w1 at M1 K1 ⊢
      rw [H18.out]
      clear bb17 bc17
      have M := M1
      have K := K1
      clear M1 K1
      clear wr
      obtain ⟨wr, rfl⟩ : ∃ x : World, x = w1 := ⟨_, rfl⟩
      obtain ⟨m19, hm⟩ : ∃ x : Int, m18 + 1 = x := ⟨_, rfl⟩
      have H19 := hid_mk hm
      have bb19 : 1 ≤ m19 := by omega
      have bc19 : m19 ≤ 134217728 + 19 := by omega
      clear hm
      obtain ⟨vv, ee, ff⟩ := M.out.one hlt 18 (by omega)
      have M1 : Hid (MidE (wr.setCell ⟨q, k * 40 + 18, none⟩ (.int .i64 m18)) q len k (marksE k0 len) [.int .i64 m0, .bool (m1 % 3 == 0), .int .i64 m2, .int .i64 m3, .int .i64 m4, .int .i64 m5, .int .i64 m6, .int .i64 m7, .int .i64 m8, .int .i64 m9, .int .i64 m10, .bool (m11 % 3 == 0), .int .i64 m12, .int .i64 m13, .int .i64 m14, .bool (m15 % 3 == 0), .int .i64 m16, .int .i64 m17, .int .i64 m18]) := M.out.put hlt (o := 18) rfl (by omega) (.int .i64 m18)
      have K1 : Hid (KeepBut q w (wr.setCell ⟨q, k * 40 + 18, none⟩ (.int .i64 m18))) := K.out.trans (KeepBut.setCells [.int .i64 m18] (k * 40 + 18) wr)
      clear M K
      go_upto_region 42 with fail
      clear ee ff
      generalize wr.setCell ⟨q, k * 40 + 18, none⟩ (.int .i64 m18) = w1 at M1 K1 ⊢
      rw [H19.out]
      clear bb18 bc18
      have M := M1
      have K := K1
      clear M1 K1
      clear wr
      obtain ⟨wr, rfl⟩ : ∃ x : World, x = w1 := ⟨_, rfl⟩
      obtain ⟨m20, hm⟩ : ∃ x : Int, m19 + 1 = x := ⟨_, rfl⟩
      have H20 := hid_mk hm
      have bb20 : 1 ≤ m20 := by omega
      have bc20 : m20 ≤ 134217728 + 20 := by omega
      clear hm
      obtain ⟨vv, ee, ff⟩ := M.out.one hlt 19 (by omega)
      have M1 : Hid (MidE (wr.setCell ⟨q, k * 40 + 19, none⟩ (.int .i64 m19)) q len k (marksE k0 len) [.int .i64 m0, .bool (m1 % 3 == 0), .int .i64 m2, .int .i64 m3, .int .i64 m4, .int .i64 m5, .int .i64 m6, .int .i64 m7, .int .i64 m8, .int .i64 m9, .int .i64 m10, .bool (m11 % 3 == 0), .int .i64 m12, .int .i64 m13, .int .i64 m14, .bool (m15 % 3 == 0), .int .i64 m16, .int .i64 m17, .int .i64 m18, .int .i64 m19]) := M.out.put hlt (o := 19) rfl (by omega) (.int .i64 m19)
      have K1 : Hid (KeepBut q w (wr.setCell ⟨q, k * 40 + 19, none⟩ (.int .i64 m19))) := K.out.trans (KeepBut.setCells [.int .i64 m19] (k * 40 + 19) wr)
      clear M K
      go_upto_region 44 with fail
      clear ee ff
      generalize wr.setCell ⟨q, k * 40 + 19, none⟩ (.int .i64 m19) = w1 at M1 K1 ⊢
      rw [H20.out]
      clear bb19 bc19
      have M := M1
      have K := K1
      clear M1 K1
      clear wr
      obtain ⟨wr, rfl⟩ : ∃ x : World, x = w1 := ⟨_, rfl⟩
      obtain ⟨m21, hm⟩ : ∃ x : Int, m20 + 1 = x := ⟨_, rfl⟩
      have H21 := hid_mk hm
      have bb21 : 1 ≤ m21 := by omega
      have bc21 : m21 ≤ 134217728 + 21 := by omega
      clear hm
      obtain ⟨vv, ee, ff⟩ := M.out.one hlt 20 (by omega)
      have M1 : Hid (MidE (wr.setCell ⟨q, k * 40 + 20, none⟩ (.int .i64 m20)) q len k (marksE k0 len) [.int .i64 m0, .bool (m1 % 3 == 0), .int .i64 m2, .int .i64 m3, .int .i64 m4, .int .i64 m5, .int .i64 m6, .int .i64 m7, .int .i64 m8, .int .i64 m9, .int .i64 m10, .bool (m11 % 3 == 0), .int .i64 m12, .int .i64 m13, .int .i64 m14, .bool (m15 % 3 == 0), .int .i64 m16, .int .i64 m17, .int .i64 m18, .int .i64 m19, .int .i64 m20]) := M.out.put hlt (o := 20) rfl (by omega) (.int .i64 m20)
      have K1 : Hid (KeepBut q w (wr.setCell ⟨q, k * 40 + 20, none⟩ (.int .i64 m20))) := K.out.trans (KeepBut.setCells [.int .i64 m20] (k * 40 + 20) wr)
      clear M K
      go_upto_region 46 with fail
      clear ee ff
      generalize wr.setCell ⟨q, k * 40 + 20, none⟩ (.int .i64 m20) = w1 at M1 K1 ⊢
      rw [H21.out]
      clear bb20 bc20
      have M := M1
      have K := K1
      clear M1 K1
      clear wr
      obtain ⟨wr, rfl⟩ : ∃ x : World, x = w1 := ⟨_, rfl⟩
      obtain ⟨m22, hm⟩ : ∃ x : Int, m21 + 1 = x := ⟨_, rfl⟩
      have H22 := hid_mk hm
      have bb22 : 1 ≤ m22 := by omega
      have bc22 : m22 ≤ 134217728 + 22 := by omega
      clear hm
      obtain ⟨vv, ee, ff⟩ := M.out.one hlt 21 (by omega)
      have M1 : Hid (MidE (wr.setCell ⟨q, k * 40 + 21, none⟩ (.bool (m21 % 3 == 0))) q len k (marksE k0 len) [.int .i64 m0, .bool (m1 % 3 == 0), .int .i64 m2, .int .i64 m3, .int .i64 m4, .int .i64 m5, .int .i64 m6, .int .i64 m7, .int .i64 m8, .int .i64 m9, .int .i64 m10, .bool (m11 % 3 == 0), .int .i64 m12, .int .i64 m13, .int .i64 m14, .bool (m15 % 3 == 0), .int .i64 m16, .int .i64 m17, .int .i64 m18, .int .i64 m19, .int .i64 m20, .bool (m21 % 3 == 0)]) := M.out.put hlt (o := 21) rfl (by omega) (.bool (m21 % 3 == 0))
      have K1 : Hid (KeepBut q w (wr.setCell ⟨q, k * 40 + 21, none⟩ (.bool (m21 % 3 == 0)))) := K.out.trans (KeepBut.setCells [.bool (m21 % 3 == 0)] (k * 40 + 21) wr)
      clear M K
      go_upto_region 48 with fail
      clear ee ff
      generalize wr.setCell ⟨q, k * 40 + 21, none⟩ (.bool (m21 % 3 == 0)) = w1 at M1 K1 ⊢
      rw [H22.out]
      clear bb21 bc21
      have M := M1
      have K := K1
      clear M1 K1
      clear wr
      obtain ⟨wr, rfl⟩ : ∃ x : World, x = w1 := ⟨_, rfl⟩
      obtain ⟨m23, hm⟩ : ∃ x : Int, m22 + 1 = x := ⟨_, rfl⟩
      have H23 := hid_mk hm
      have bb23 : 1 ≤ m23 := by omega
      have bc23 : m23 ≤ 134217728 + 23 := by omega
      clear hm
      obtain ⟨vv, ee, ff⟩ := M.out.one hlt 22 (by omega)
      have M1 : Hid (MidE (wr.setCell ⟨q, k * 40 + 22, none⟩ (.int .i64 m22)) q len k (marksE k0 len) [.int .i64 m0, .bool (m1 % 3 == 0), .int .i64 m2, .int .i64 m3, .int .i64 m4, .int .i64 m5, .int .i64 m6, .int .i64 m7, .int .i64 m8, .int .i64 m9, .int .i64 m10, .bool (m11 % 3 == 0), .int .i64 m12, .int .i64 m13, .int .i64 m14, .bool (m15 % 3 == 0), .int .i64 m16, .int .i64 m17, .int .i64 m18, .int .i64 m19, .int .i64 m20, .bool (m21 % 3 == 0), .int .i64 m22]) := M.out.put hlt (o := 22) rfl (by omega) (.int .i64 m22)
      have K1 : Hid (KeepBut q w (wr.setCell ⟨q, k * 40 + 22, none⟩ (.int .i64 m22))) := K.out.trans (KeepBut.setCells [.int .i64 m22] (k * 40 + 22) wr)
      clear M K
      go_upto_region 50 with fail
      clear ee ff
      generalize wr.setCell ⟨q, k * 40 + 22, none⟩ (.int .i64 m22) = w1 at M1 K1 ⊢
      rw [H23.out]
      clear bb22 bc22
      have M := M1
      have K := K1
      clear M1 K1
      clear wr
      obtain ⟨wr, rfl⟩ : ∃ x : World, x = w1 := ⟨_, rfl⟩
      obtain ⟨m24, hm⟩ : ∃ x : Int, m23 + 1 = x := ⟨_, rfl⟩
      have H24 := hid_mk hm
      have bb24 : 1 ≤ m24 := by omega
      have bc24 : m24 ≤ 134217728 + 24 := by omega
      clear hm
      obtain ⟨vv, ee, ff⟩ := M.out.one hlt 23 (by omega)
      have M1 : Hid (MidE (wr.setCell ⟨q, k * 40 + 23, none⟩ (.int .i64 m23)) q len k (marksE k0 len) [.int .i64 m0, .bool (m1 % 3 == 0), .int .i64 m2, .int .i64 m3, .int .i64 m4, .int .i64 m5, .int .i64 m6, .int .i64 m7, .int .i64 m8, .int .i64 m9, .int .i64 m10, .bool (m11 % 3 == 0), .int .i64 m12, .int .i64 m13, .int .i64 m14, .bool (m15 % 3 == 0), .int .i64 m16, .int .i64 m17, .int .i64 m18, .int .i64 m19, .int .i64 m20, .bool (m21 % 3 == 0), .int .i64 m22, .int .i64 m23]) := M.out.put hlt (o := 23) rfl (by omega) (.int .i64 m23)
      have K1 : Hid (KeepBut q w (wr.setCell ⟨q, k * 40 + 23, none⟩ (.int .i64 m23))) := K.out.trans (KeepBut.setCells [.int .i64 m23] (k * 40 + 23) wr)
      clear M K
      go_upto_region 52 with fail
      clear ee ff
      generalize wr.setCell ⟨q, k * 40 + 23, none⟩ (.int .i64 m23) = w1 at M1 K1 ⊢
      rw [H24.out]
      clear bb23 bc23
      have M := M1
      have K := K1
      clear M1 K1
      clear wr
      obtain ⟨wr, rfl⟩ : ∃ x : World, x = w1 := ⟨_, rfl⟩
      obtain ⟨m25, hm⟩ : ∃ x : Int, m24 + 1 = x := ⟨_, rfl⟩
      have H25 := hid_mk hm
      have bb25 : 1 ≤ m25 := by omega
      have bc25 : m25 ≤ 134217728 + 25 := by omega
      clear hm
      obtain ⟨vv, ee, ff⟩ := M.out.one hlt 24 (by omega)
      have M1 : Hid (MidE (wr.setCell ⟨q, k * 40 + 24, none⟩ (.int .i64 m24)) q len k (marksE k0 len) [.int .i64 m0, .bool (m1 % 3 == 0), .int .i64 m2, .int .i64 m3, .int .i64 m4, .int .i64 m5, .int .i64 m6, .int .i64 m7, .int .i64 m8, .int .i64 m9, .int .i64 m10, .bool (m11 % 3 == 0), .int .i64 m12, .int .i64 m13, .int .i64 m14, .bool (m15 % 3 == 0), .int .i64 m16, .int .i64 m17, .int .i64 m18, .int .i64 m19, .int .i64 m20, .bool (m21 % 3 == 0), .int .i64 m22, .int .i64 m23, .int .i64 m24]) := M.out.put hlt (o := 24) rfl (by omega) (.int .i64 m24)
      have K1 : Hid (KeepBut q w (wr.setCell ⟨q, k * 40 + 24, none⟩ (.int .i64 m24))) := K.out.trans (KeepBut.setCells [.int .i64 m24] (k * 40 + 24) wr)
      clear M K
      go_upto_region 54 with fail
      clear ee ff
      generalize wr.setCell ⟨q, k * 40 + 24, none⟩ (.int .i64 m24) = w1 at M1 K1 ⊢
      rw [H25.out]
      clear bb24 bc24
      have M := M1
      have K := K1
      clear M1 K1
      clear wr
      obtain ⟨wr, rfl⟩ : ∃ x : World, x = w1 := ⟨_, rfl⟩
      obtain ⟨m26, hm⟩ : ∃ x : Int, m25 + 1 = x := ⟨_, rfl⟩
      have H26 := hid_mk hm
      have bb26 : 1 ≤ m26 := by omega
      have bc26 : m26 ≤ 134217728 + 26 := by omega
      clear hm
      obtain ⟨vv, ee, ff⟩ := M.out.one hlt 25 (by omega)
      have M1 : Hid (MidE (wr.setCell ⟨q, k * 40 + 25, none⟩ (.int .i64 m25)) q len k (marksE k0 len) [.int .i64 m0, .bool (m1 % 3 == 0), .int .i64 m2, .int .i64 m3, .int .i64 m4, .int .i64 m5, .int .i64 m6, .int .i64 m7, .int .i64 m8, .int .i64 m9, .int .i64 m10, .bool (m11 % 3 == 0), .int .i64 m12, .int .i64 m13, .int .i64 m14, .bool (m15 % 3 == 0), .int .i64 m16, .int .i64 m17, .int .i64 m18, .int .i64 m19, .int .i64 m20, .bool (m21 % 3 == 0), .int .i64 m22, .int .i64 m23, .int .i64 m24, .int .i64 m25]) := M.out.put hlt (o := 25) rfl (by omega) (.int .i64 m25)
      have K1 : Hid (KeepBut q w (wr.setCell ⟨q, k * 40 + 25, none⟩ (.int .i64 m25))) := K.out.trans (KeepBut.setCells [.int .i64 m25] (k * 40 + 25) wr)
      clear M K
      go_upto_region 56 with fail
      clear ee ff
      generalize wr.setCell ⟨q, k * 40 + 25, none⟩ (.int .i64 m25) = w1 at M1 K1 ⊢
      rw [H26.out]
      clear bb25 bc25
      have M := M1
      have K := K1
      clear M1 K1
      clear wr
      obtain ⟨wr, rfl⟩ : ∃ x : World, x = w1 := ⟨_, rfl⟩
      obtain ⟨m27, hm⟩ : ∃ x : Int, m26 + 1 = x := ⟨_, rfl⟩
      have H27 := hid_mk hm
      have bb27 : 1 ≤ m27 := by omega
      have bc27 : m27 ≤ 134217728 + 27 := by omega
      clear hm
      obtain ⟨vv, ee, ff⟩ := M.out.one hlt 26 (by omega)
      have M1 : Hid (MidE (wr.setCell ⟨q, k * 40 + 26, none⟩ (.int .i64 m26)) q len k (marksE k0 len) [.int .i64 m0, .bool (m1 % 3 == 0), .int .i64 m2, .int .i64 m3, .int .i64 m4, .int .i64 m5, .int .i64 m6, .int .i64 m7, .int .i64 m8, .int .i64 m9, .int .i64 m10, .bool (m11 % 3 == 0), .int .i64 m12, .int .i64 m13, .int .i64 m14, .bool (m15 % 3 == 0), .int .i64 m16, .int .i64 m17, .int .i64 m18, .int .i64 m19, .int .i64 m20, .bool (m21 % 3 == 0), .int .i64 m22, .int .i64 m23, .int .i64 m24, .int .i64 m25, .int .i64 m26]) := M.out.put hlt (o := 26) rfl (by omega) (.int .i64 m26)
      have K1 : Hid (KeepBut q w (wr.setCell ⟨q, k * 40 + 26, none⟩ (.int .i64 m26))) := K.out.trans (KeepBut.setCells [.int .i64 m26] (k * 40 + 26) wr)
      clear M K
      go_upto_region 58 with fail
      clear ee ff
      generalize wr.setCell ⟨q, k * 40 + 26, none⟩ (.int .i64 m26) = w1 at M1 K1 ⊢
      rw [H27.out]
      clear bb26 bc26
      have M := M1
      have K := K1
      clear M1 K1
      clear wr
      obtain ⟨wr, rfl⟩ : ∃ x : World, x = w1 := ⟨_, rfl⟩
      obtain ⟨m28, hm⟩ : ∃ x : Int, m27 + 1 = x := ⟨_, rfl⟩
      have H28 := hid_mk hm
      have bb28 : 1 ≤ m28 := by omega
      have bc28 : m28 ≤ 134217728 + 28 := by omega
      clear hm
      obtain ⟨vv, ee, ff⟩ := M.out.one hlt 27 (by omega)
      have M1 : Hid (MidE (wr.setCell ⟨q, k * 40 + 27, none⟩ (.int .i64 m27)) q len k (marksE k0 len) [.int .i64 m0, .bool (m1 % 3 == 0), .int .i64 m2, .int .i64 m3, .int .i64 m4, .int .i64 m5, .int .i64 m6, .int .i64 m7, .int .i64 m8, .int .i64 m9, .int .i64 m10, .bool (m11 % 3 == 0), .int .i64 m12, .int .i64 m13, .int .i64 m14, .bool (m15 % 3 == 0), .int .i64 m16, .int .i64 m17, .int .i64 m18, .int .i64 m19, .int .i64 m20, .bool (m21 % 3 == 0), .int .i64 m22, .int .i64 m23, .int .i64 m24, .int .i64 m25, .int .i64 m26, .int .i64 m27]) := M.out.put hlt (o := 27) rfl (by omega) (.int .i64 m27)
      have K1 : Hid (KeepBut q w (wr.setCell ⟨q, k * 40 + 27, none⟩ (.int .i64 m27))) := K.out.trans (KeepBut.setCells [.int .i64 m27] (k * 40 + 27) wr)
      clear M K
      go_upto_region 60 with fail
      clear ee ff
      generalize wr.setCell ⟨q, k * 40 + 27, none⟩ (.int .i64 m27) = w1 at M1 K1 ⊢
      rw [H28.out]
      clear bb27 bc27
      have M := M1
      have K := K1
      clear M1 K1
      clear wr
      obtain ⟨wr, rfl⟩ : ∃ x : World, x = w1 := ⟨_, rfl⟩
      obtain ⟨m29, hm⟩ : ∃ x : Int, m28 + 1 = x := ⟨_, rfl⟩
      have H29 := hid_mk hm
      have bb29 : 1 ≤ m29 := by omega
      have bc29 : m29 ≤ 134217728 + 29 := by omega
      clear hm
      obtain ⟨vv, ee, ff⟩ := M.out.one hlt 28 (by omega)
      have M1 : Hid (MidE (wr.setCell ⟨q, k * 40 + 28, none⟩ (.bool (m28 % 3 == 0))) q len k (marksE k0 len) [.int .i64 m0, .bool (m1 % 3 == 0), .int .i64 m2, .int .i64 m3, .int .i64 m4, .int .i64 m5, .int .i64 m6, .int .i64 m7, .int .i64 m8, .int .i64 m9, .int .i64 m10, .bool (m11 % 3 == 0), .int .i64 m12, .int .i64 m13, .int .i64 m14, .bool (m15 % 3 == 0), .int .i64 m16, .int .i64 m17, .int .i64 m18, .int .i64 m19, .int .i64 m20, .bool (m21 % 3 == 0), .int .i64 m22, .int .i64 m23, .int .i64 m24, .int .i64 m25, .int .i64 m26, .int .i64 m27, .bool (m28 % 3 == 0)]) := M.out.put hlt (o := 28) rfl (by omega) (.bool (m28 % 3 == 0))
      have K1 : Hid (KeepBut q w (wr.setCell ⟨q, k * 40 + 28, none⟩ (.bool (m28 % 3 == 0)))) := K.out.trans (KeepBut.setCells [.bool (m28 % 3 == 0)] (k * 40 + 28) wr)
      clear M K
      go_upto_region 62 with fail
      clear ee ff
      generalize wr.setCell ⟨q, k * 40 + 28, none⟩ (.bool (m28 % 3 == 0)) = w1 at M1 K1 ⊢
      rw [H29.out]
      clear bb28 bc28
      have M := M1
      have K := K1
      clear M1 K1
      clear wr
      obtain ⟨wr, rfl⟩ : ∃ x : World, x = w1 := ⟨_, rfl⟩
      obtain ⟨m30, hm⟩ : ∃ x : Int, m29 + 1 = x := ⟨_, rfl⟩
      have H30 := hid_mk hm
      have bb30 : 1 ≤ m30 := by omega
      have bc30 : m30 ≤ 134217728 + 30 := by omega
      clear hm
      obtain ⟨vv, ee, ff⟩ := M.out.one hlt 29 (by omega)
      have M1 : Hid (MidE (wr.setCell ⟨q, k * 40 + 29, none⟩ (.int .i64 m29)) q len k (marksE k0 len) [.int .i64 m0, .bool (m1 % 3 == 0), .int .i64 m2, .int .i64 m3, .int .i64 m4, .int .i64 m5, .int .i64 m6, .int .i64 m7, .int .i64 m8, .int .i64 m9, .int .i64 m10, .bool (m11 % 3 == 0), .int .i64 m12, .int .i64 m13, .int .i64 m14, .bool (m15 % 3 == 0), .int .i64 m16, .int .i64 m17, .int .i64 m18, .int .i64 m19, .int .i64 m20, .bool (m21 % 3 == 0), .int .i64 m22, .int .i64 m23, .int .i64 m24, .int .i64 m25, .int .i64 m26, .int .i64 m27, .bool (m28 % 3 == 0), .int .i64 m29]) := M.out.put hlt (o := 29) rfl (by omega) (.int .i64 m29)
      have K1 : Hid (KeepBut q w (wr.setCell ⟨q, k * 40 + 29, none⟩ (.int .i64 m29))) := K.out.trans (KeepBut.setCells [.int .i64 m29] (k * 40 + 29) wr)
      clear M K
      go_upto_region 64 with fail
      clear ee ff
      generalize wr.setCell ⟨q, k * 40 + 29, none⟩ (.int .i64 m29) = w1 at M1 K1 ⊢
      rw [H30.out]
      clear bb29 bc29
      have M := M1
      have K := K1
      clear M1 K1
      clear wr
      obtain ⟨wr, rfl⟩ : ∃ x : World, x = w1 := ⟨_, rfl⟩
      obtain ⟨m31, hm⟩ : ∃ x : Int, m30 + 1 = x := ⟨_, rfl⟩
      have H31 := hid_mk hm
      have bb31 : 1 ≤ m31 := by omega
      have bc31 : m31 ≤ 134217728 + 31 := by omega
      clear hm
      obtain ⟨vv, ee, ff⟩ := M.out.one hlt 30 (by omega)
      have M1 : Hid (MidE (wr.setCell ⟨q, k * 40 + 30, none⟩ (.int .i64 m30)) q len k (marksE k0 len) [.int .i64 m0, .bool (m1 % 3 == 0), .int .i64 m2, .int .i64 m3, .int .i64 m4, .int .i64 m5, .int .i64 m6, .int .i64 m7, .int .i64 m8, .int .i64 m9, .int .i64 m10, .bool (m11 % 3 == 0), .int .i64 m12, .int .i64 m13, .int .i64 m14, .bool (m15 % 3 == 0), .int .i64 m16, .int .i64 m17, .int .i64 m18, .int .i64 m19, .int .i64 m20, .bool (m21 % 3 == 0), .int .i64 m22, .int .i64 m23, .int .i64 m24, .int .i64 m25, .int .i64 m26, .int .i64 m27, .bool (m28 % 3 == 0), .int .i64 m29, .int .i64 m30]) := M.out.put hlt (o := 30) rfl (by omega) (.int .i64 m30)
      have K1 : Hid (KeepBut q w (wr.setCell ⟨q, k * 40 + 30, none⟩ (.int .i64 m30))) := K.out.trans (KeepBut.setCells [.int .i64 m30] (k * 40 + 30) wr)
      clear M K
      go_upto_region 66 with fail
      clear ee ff
      generalize wr.setCell ⟨q, k * 40 + 30, none⟩ (.int .i64 m30) = w1 at M1 K1 ⊢
      rw [H31.out]
      clear bb30 bc30
      have M := M1
      have K := K1
      clear M1 K1
      clear wr
      obtain ⟨wr, rfl⟩ : ∃ x : World, x = w1 := ⟨_, rfl⟩
      obtain ⟨m32, hm⟩ : ∃ x : Int, m31 + 1 = x := ⟨_, rfl⟩
      have H32 := hid_mk hm
      have bb32 : 1 ≤ m32 := by omega
      have bc32 : m32 ≤ 134217728 + 32 := by omega
      clear hm
      obtain ⟨vv, ee, ff⟩ := M.out.one hlt 31 (by omega)
      have M1 : Hid (MidE (wr.setCell ⟨q, k * 40 + 31, none⟩ (.int .i64 m31)) q len k (marksE k0 len) [.int .i64 m0, .bool (m1 % 3 == 0), .int .i64 m2, .int .i64 m3, .int .i64 m4, .int .i64 m5, .int .i64 m6, .int .i64 m7, .int .i64 m8, .int .i64 m9, .int .i64 m10, .bool (m11 % 3 == 0), .int .i64 m12, .int .i64 m13, .int .i64 m14, .bool (m15 % 3 == 0), .int .i64 m16, .int .i64 m17, .int .i64 m18, .int .i64 m19, .int .i64 m20, .bool (m21 % 3 == 0), .int .i64 m22, .int .i64 m23, .int .i64 m24, .int .i64 m25, .int .i64 m26, .int .i64 m27, .bool (m28 % 3 == 0), .int .i64 m29, .int .i64 m30, .int .i64 m31]) := M.out.put hlt (o := 31) rfl (by omega) (.int .i64 m31)
      have K1 : Hid (KeepBut q w (wr.setCell ⟨q, k * 40 + 31, none⟩ (.int .i64 m31))) := K.out.trans (KeepBut.setCells [.int .i64 m31] (k * 40 + 31) wr)
      clear M K
      go_upto_region 68 with fail
      clear ee ff
      generalize wr.setCell ⟨q, k * 40 + 31, none⟩ (.int .i64 m31) = w1 at M1 K1 ⊢
      rw [H32.out]
      clear bb31 bc31
      have M := M1
      have K := K1
      clear M1 K1
      clear wr
      obtain ⟨wr, rfl⟩ : ∃ x : World, x = w1 := ⟨_, rfl⟩
      obtain ⟨m33, hm⟩ : ∃ x : Int, m32 + 1 = x := ⟨_, rfl⟩
      have H33 := hid_mk hm
      have bb33 : 1 ≤ m33 := by omega
      have bc33 : m33 ≤ 134217728 + 33 := by omega
      clear hm
      obtain ⟨vv, ee, ff⟩ := M.out.one hlt 32 (by omega)
      have M1 : Hid (MidE (wr.setCell ⟨q, k * 40 + 32, none⟩ (.int .i64 m32)) q len k (marksE k0 len) [.int .i64 m0, .bool (m1 % 3 == 0), .int .i64 m2, .int .i64 m3, .int .i64 m4, .int .i64 m5, .int .i64 m6, .int .i64 m7, .int .i64 m8, .int .i64 m9, .int .i64 m10, .bool (m11 % 3 == 0), .int .i64 m12, .int .i64 m13, .int .i64 m14, .bool (m15 % 3 == 0), .int .i64 m16, .int .i64 m17, .int .i64 m18, .int .i64 m19, .int .i64 m20, .bool (m21 % 3 == 0), .int .i64 m22, .int .i64 m23, .int .i64 m24, .int .i64 m25, .int .i64 m26, .int .i64 m27, .bool (m28 % 3 == 0), .int .i64 m29, .int .i64 m30, .int .i64 m31, .int .i64 m32]) := M.out.put hlt (o := 32) rfl (by omega) (.int .i64 m32)
      have K1 : Hid (KeepBut q w (wr.setCell ⟨q, k * 40 + 32, none⟩ (.int .i64 m32))) := K.out.trans (KeepBut.setCells [.int .i64 m32] (k * 40 + 32) wr)
      clear M K
      go_upto_region 70 with fail
      clear ee ff
      generalize wr.setCell ⟨q, k * 40 + 32, none⟩ (.int .i64 m32) = w1 at M1 K1 ⊢
      rw [H33.out]
      clear bb32 bc32
      have M := M1
      have K := K1
      clear M1 K1
      clear wr
      obtain ⟨wr, rfl⟩ : ∃ x : World, x = w1 := ⟨_, rfl⟩
      obtain ⟨m34, hm⟩ : ∃ x : Int, m33 + 1 = x := ⟨_, rfl⟩
      have H34 := hid_mk hm
      have bb34 : 1 ≤ m34 := by omega
      have bc34 : m34 ≤ 134217728 + 34 := by omega
      clear hm
      obtain ⟨vv, ee, ff⟩ := M.out.one hlt 33 (by omega)
      have M1 : Hid (MidE (wr.setCell ⟨q, k * 40 + 33, none⟩ (.int .i64 m33)) q len k (marksE k0 len) [.int .i64 m0, .bool (m1 % 3 == 0), .int .i64 m2, .int .i64 m3, .int .i64 m4, .int .i64 m5, .int .i64 m6, .int .i64 m7, .int .i64 m8, .int .i64 m9, .int .i64 m10, .bool (m11 % 3 == 0), .int .i64 m12, .int .i64 m13, .int .i64 m14, .bool (m15 % 3 == 0), .int .i64 m16, .int .i64 m17, .int .i64 m18, .int .i64 m19, .int .i64 m20, .bool (m21 % 3 == 0), .int .i64 m22, .int .i64 m23, .int .i64 m24, .int .i64 m25, .int .i64 m26, .int .i64 m27, .bool (m28 % 3 == 0), .int .i64 m29, .int .i64 m30, .int .i64 m31, .int .i64 m32, .int .i64 m33]) := M.out.put hlt (o := 33) rfl (by omega) (.int .i64 m33)
      have K1 : Hid (KeepBut q w (wr.setCell ⟨q, k * 40 + 33, none⟩ (.int .i64 m33))) := K.out.trans (KeepBut.setCells [.int .i64 m33] (k * 40 + 33) wr)
      clear M K
      go_upto_region 72 with fail
      clear ee ff
      generalize wr.setCell ⟨q, k * 40 + 33, none⟩ (.int .i64 m33) = w1 at M1 K1 ⊢
      rw [H34.out]
      clear bb33 bc33
      have M := M1
      have K := K1
      clear M1 K1
      clear wr
      obtain ⟨wr, rfl⟩ : ∃ x : World, x = w1 := ⟨_, rfl⟩
      obtain ⟨m35, hm⟩ : ∃ x : Int, m34 + 1 = x := ⟨_, rfl⟩
      have H35 := hid_mk hm
      have bb35 : 1 ≤ m35 := by omega
      have bc35 : m35 ≤ 134217728 + 35 := by omega
      clear hm
      obtain ⟨vv, ee, ff⟩ := M.out.one hlt 34 (by omega)
      have M1 : Hid (MidE (wr.setCell ⟨q, k * 40 + 34, none⟩ (.int .i64 m34)) q len k (marksE k0 len) [.int .i64 m0, .bool (m1 % 3 == 0), .int .i64 m2, .int .i64 m3, .int .i64 m4, .int .i64 m5, .int .i64 m6, .int .i64 m7, .int .i64 m8, .int .i64 m9, .int .i64 m10, .bool (m11 % 3 == 0), .int .i64 m12, .int .i64 m13, .int .i64 m14, .bool (m15 % 3 == 0), .int .i64 m16, .int .i64 m17, .int .i64 m18, .int .i64 m19, .int .i64 m20, .bool (m21 % 3 == 0), .int .i64 m22, .int .i64 m23, .int .i64 m24, .int .i64 m25, .int .i64 m26, .int .i64 m27, .bool (m28 % 3 == 0), .int .i64 m29, .int .i64 m30, .int .i64 m31, .int .i64 m32, .int .i64 m33, .int .i64 m34]) := M.out.put hlt (o := 34) rfl (by omega) (.int .i64 m34)
      have K1 : Hid (KeepBut q w (wr.setCell ⟨q, k * 40 + 34, none⟩ (.int .i64 m34))) := K.out.trans (KeepBut.setCells [.int .i64 m34] (k * 40 + 34) wr)
      clear M K
      go_upto_region 74 with fail
      clear ee ff
      generalize wr.setCell ⟨q, k * 40 + 34, none⟩ (.int .i64 m34) = w1 at M1 K1 ⊢
      rw [H35.out]
      clear bb34 bc34
      have M := M1
      have K := K1
      clear M1 K1
      clear wr
      obtain ⟨wr, rfl⟩ : ∃ x : World, x = w1 := ⟨_, rfl⟩
      obtain ⟨m36, hm⟩ : ∃ x : Int, m35 + 1 = x := ⟨_, rfl⟩
      have H36 := hid_mk hm
      have bb36 : 1 ≤ m36 := by omega
      have bc36 : m36 ≤ 134217728 + 36 := by omega
      clear hm
      obtain ⟨vv, ee, ff⟩ := M.out.one hlt 35 (by omega)
      have M1 : Hid (MidE (wr.setCell ⟨q, k * 40 + 35, none⟩ (.bool (m35 % 3 == 0))) q len k (marksE k0 len) [.int .i64 m0, .bool (m1 % 3 == 0), .int .i64 m2, .int .i64 m3, .int .i64 m4, .int .i64 m5, .int .i64 m6, .int .i64 m7, .int .i64 m8, .int .i64 m9, .int .i64 m10, .bool (m11 % 3 == 0), .int .i64 m12, .int .i64 m13, .int .i64 m14, .bool (m15 % 3 == 0), .int .i64 m16, .int .i64 m17, .int .i64 m18, .int .i64 m19, .int .i64 m20, .bool (m21 % 3 == 0), .int .i64 m22, .int .i64 m23, .int .i64 m24, .int .i64 m25, .int .i64 m26, .int .i64 m27, .bool (m28 % 3 == 0), .int .i64 m29, .int .i64 m30, .int .i64 m31, .int .i64 m32, .int .i64 m33, .int .i64 m34, .bool (m35 % 3 == 0)]) := M.out.put hlt (o := 35) rfl (by omega) (.bool (m35 % 3 == 0))
      have K1 : Hid (KeepBut q w (wr.setCell ⟨q, k * 40 + 35, none⟩ (.bool (m35 % 3 == 0)))) := K.out.trans (KeepBut.setCells [.bool (m35 % 3 == 0)] (k * 40 + 35) wr)
      clear M K
      go_upto_region 76 with fail
      clear ee ff
      generalize wr.setCell ⟨q, k * 40 + 35, none⟩ (.bool (m35 % 3 == 0)) = w1 at M1 K1 ⊢
      rw [H36.out]
      clear bb35 bc35
      have M := M1
      have K := K1
      clear M1 K1
      clear wr
      obtain ⟨wr, rfl⟩ : ∃ x : World, x = w1 := ⟨_, rfl⟩
      obtain ⟨m37, hm⟩ : ∃ x : Int, m36 + 1 = x := ⟨_, rfl⟩
      have H37 := hid_mk hm
      have bb37 : 1 ≤ m37 := by omega
      have bc37 : m37 ≤ 134217728 + 37 := by omega
      clear hm
      obtain ⟨vv, ee, ff⟩ := M.out.one hlt 36 (by omega)
      have M1 : Hid (MidE (wr.setCell ⟨q, k * 40 + 36, none⟩ (.int .i64 m36)) q len k (marksE k0 len) [.int .i64 m0, .bool (m1 % 3 == 0), .int .i64 m2, .int .i64 m3, .int .i64 m4, .int .i64 m5, .int .i64 m6, .int .i64 m7, .int .i64 m8, .int .i64 m9, .int .i64 m10, .bool (m11 % 3 == 0), .int .i64 m12, .int .i64 m13, .int .i64 m14, .bool (m15 % 3 == 0), .int .i64 m16, .int .i64 m17, .int .i64 m18, .int .i64 m19, .int .i64 m20, .bool (m21 % 3 == 0), .int .i64 m22, .int .i64 m23, .int .i64 m24, .int .i64 m25, .int .i64 m26, .int .i64 m27, .bool (m28 % 3 == 0), .int .i64 m29, .int .i64 m30, .int .i64 m31, .int .i64 m32, .int .i64 m33, .int .i64 m34, .bool (m35 % 3 == 0), .int .i64 m36]) := M.out.put hlt (o := 36) rfl (by omega) (.int .i64 m36)
      have K1 : Hid (KeepBut q w (wr.setCell ⟨q, k * 40 + 36, none⟩ (.int .i64 m36))) := K.out.trans (KeepBut.setCells [.int .i64 m36] (k * 40 + 36) wr)
      clear M K
      go_upto_region 78 with fail
      clear ee ff
      generalize wr.setCell ⟨q, k * 40 + 36, none⟩ (.int .i64 m36) = w1 at M1 K1 ⊢
      rw [H37.out]
      clear bb36 bc36
      have M := M1
      have K := K1
      clear M1 K1
      clear wr
      obtain ⟨wr, rfl⟩ : ∃ x : World, x = w1 := ⟨_, rfl⟩
      obtain ⟨m38, hm⟩ : ∃ x : Int, m37 + 1 = x := ⟨_, rfl⟩
      have H38 := hid_mk hm
      have bb38 : 1 ≤ m38 := by omega
      have bc38 : m38 ≤ 134217728 + 38 := by omega
      clear hm
      obtain ⟨vv, ee, ff⟩ := M.out.one hlt 37 (by omega)
      have M1 : Hid (MidE (wr.setCell ⟨q, k * 40 + 37, none⟩ (.int .i64 m37)) q len k (marksE k0 len) [.int .i64 m0, .bool (m1 % 3 == 0), .int .i64 m2, .int .i64 m3, .int .i64 m4, .int .i64 m5, .int .i64 m6, .int .i64 m7, .int .i64 m8, .int .i64 m9, .int .i64 m10, .bool (m11 % 3 == 0), .int .i64 m12, .int .i64 m13, .int .i64 m14, .bool (m15 % 3 == 0), .int .i64 m16, .int .i64 m17, .int .i64 m18, .int .i64 m19, .int .i64 m20, .bool (m21 % 3 == 0), .int .i64 m22, .int .i64 m23, .int .i64 m24, .int .i64 m25, .int .i64 m26, .int .i64 m27, .bool (m28 % 3 == 0), .int .i64 m29, .int .i64 m30, .int .i64 m31, .int .i64 m32, .int .i64 m33, .int .i64 m34, .bool (m35 % 3 == 0), .int .i64 m36, .int .i64 m37]) := M.out.put hlt (o := 37) rfl (by omega) (.int .i64 m37)
      have K1 : Hid (KeepBut q w (wr.setCell ⟨q, k * 40 + 37, none⟩ (.int .i64 m37))) := K.out.trans (KeepBut.setCells [.int .i64 m37] (k * 40 + 37) wr)
      clear M K
      go_upto_region 80 with fail
      clear ee ff
      generalize wr.setCell ⟨q, k * 40 + 37, none⟩ (.int .i64 m37) = w1 at M1 K1 ⊢
      rw [H38.out]
      clear bb37 bc37
      have M := M1
      have K := K1
      clear M1 K1
      clear wr
      obtain ⟨wr, rfl⟩ : ∃ x : World, x = w1 := ⟨_, rfl⟩
      obtain ⟨m39, hm⟩ : ∃ x : Int, m38 + 1 = x := ⟨_, rfl⟩
      have H39 := hid_mk hm
      have bb39 : 1 ≤ m39 := by omega
      have bc39 : m39 ≤ 134217728 + 39 := by omega
      clear hm
      obtain ⟨vv, ee, ff⟩ := M.out.one hlt 38 (by omega)
      have M1 : Hid (MidE (wr.setCell ⟨q, k * 40 + 38, none⟩ (.int .i64 m38)) q len k (marksE k0 len) [.int .i64 m0, .bool (m1 % 3 == 0), .int .i64 m2, .int .i64 m3, .int .i64 m4, .int .i64 m5, .int .i64 m6, .int .i64 m7, .int .i64 m8, .int .i64 m9, .int .i64 m10, .bool (m11 % 3 == 0), .int .i64 m12, .int .i64 m13, .int .i64 m14, .bool (m15 % 3 == 0), .int .i64 m16, .int .i64 m17, .int .i64 m18, .int .i64 m19, .int .i64 m20, .bool (m21 % 3 == 0), .int .i64 m22, .int .i64 m23, .int .i64 m24, .int .i64 m25, .int .i64 m26, .int .i64 m27, .bool (m28 % 3 == 0), .int .i64 m29, .int .i64 m30, .int .i64 m31, .int .i64 m32, .int .i64 m33, .int .i64 m34, .bool (m35 % 3 == 0), .int .i64 m36, .int .i64 m37, .int .i64 m38]) := M.out.put hlt (o := 38) rfl (by omega) (.int .i64 m38)
      have K1 : Hid (KeepBut q w (wr.setCell ⟨q, k * 40 + 38, none⟩ (.int .i64 m38))) := K.out.trans (KeepBut.setCells [.int .i64 m38] (k * 40 + 38) wr)
      clear M K
      go_upto_region 82 with fail
      clear ee ff
      generalize wr.setCell ⟨q, k * 40 + 38, none⟩ (.int .i64 m38) = w1 at M1 K1 ⊢
      rw [H39.out]
      clear bb38 bc38
      have M := M1
      have K := K1
      clear M1 K1
      clear wr
      obtain ⟨wr, rfl⟩ : ∃ x : World, x = w1 := ⟨_, rfl⟩
      obtain ⟨m40, hm⟩ : ∃ x : Int, m39 + 1 = x := ⟨_, rfl⟩
      have H40 := hid_mk hm
      have bb40 : 1 ≤ m40 := by omega
      have bc40 : m40 ≤ 134217728 + 40 := by omega
      clear hm
      obtain ⟨vv, ee, ff⟩ := M.out.one hlt 39 (by omega)
      have M1 : Hid (MidE (wr.setCell ⟨q, k * 40 + 39, none⟩ (.int .i64 m39)) q len k (marksE k0 len) [.int .i64 m0, .bool (m1 % 3 == 0), .int .i64 m2, .int .i64 m3, .int .i64 m4, .int .i64 m5, .int .i64 m6, .int .i64 m7, .int .i64 m8, .int .i64 m9, .int .i64 m10, .bool (m11 % 3 == 0), .int .i64 m12, .int .i64 m13, .int .i64 m14, .bool (m15 % 3 == 0), .int .i64 m16, .int .i64 m17, .int .i64 m18, .int .i64 m19, .int .i64 m20, .bool (m21 % 3 == 0), .int .i64 m22, .int .i64 m23, .int .i64 m24, .int .i64 m25, .int .i64 m26, .int .i64 m27, .bool (m28 % 3 == 0), .int .i64 m29, .int .i64 m30, .int .i64 m31, .int .i64 m32, .int .i64 m33, .int .i64 m34, .bool (m35 % 3 == 0), .int .i64 m36, .int .i64 m37, .int .i64 m38, .int .i64 m39]) := M.out.put hlt (o := 39) rfl (by omega) (.int .i64 m39)
      have K1 : Hid (KeepBut q w (wr.setCell ⟨q, k * 40 + 39, none⟩ (.int .i64 m39))) := K.out.trans (KeepBut.setCells [.int .i64 m39] (k * 40 + 39) wr)
      clear M K
      go_upto_region 84 with fail
      clear ee ff
      generalize wr.setCell ⟨q, k * 40 + 39, none⟩ (.int .i64 m39) = w1 at M1 K1 ⊢
      rw [H40.out]
      clear bb39 bc39
      have M := M1
      have K := K1
      clear M1 K1
      clear wr
      obtain ⟨wr, rfl⟩ : ∃ x : World, x = w1 := ⟨_, rfl⟩
      go_wp2
      refine ⟨⟨k + 1, hlt, ?_, by omega, M.out.done MX.out (marked_en m0 m1 m2 m3 m4 m5 m6 m7 m8 m9 m10 m11 m12 m13 m14 m15 m16 m17 m18 m19 m20 m21 m22 m23 m24 m25 m26 m27 m28 m29 m30 m31 m32 m33 m34 m35 m36 m37 m38 m39 H1.out H2.out H3.out H4.out H5.out H6.out H7.out H8.out H9.out H10.out H11.out H12.out H13.out H14.out H15.out H16.out H17.out H18.out H19.out H20.out H21.out H22.out H23.out H24.out H25.out H26.out H27.out H28.out H29.out H30.out H31.out H32.out H33.out H34.out H35.out H36.out H37.out H38.out H39.out)⟩, ?_⟩
      · have e0 := HM.out
        have e1 := H1.out
        have e2 := H2.out
        have e3 := H3.out
        have e4 := H4.out
        have e5 := H5.out
        have e6 := H6.out
        have e7 := H7.out
        have e8 := H8.out
        have e9 := H9.out
        have e10 := H10.out
        have e11 := H11.out
        have e12 := H12.out
        have e13 := H13.out
        have e14 := H14.out
        have e15 := H15.out
        have e16 := H16.out
        have e17 := H17.out
        have e18 := H18.out
        have e19 := H19.out
        have e20 := H20.out
        have e21 := H21.out
        have e22 := H22.out
        have e23 := H23.out
        have e24 := H24.out
        have e25 := H25.out
        have e26 := H26.out
        have e27 := H27.out
        have e28 := H28.out
        have e29 := H29.out
        have e30 := H30.out
        have e31 := H31.out
        have e32 := H32.out
        have e33 := H33.out
        have e34 := H34.out
        have e35 := H35.out
        have e36 := H36.out
        have e37 := H37.out
        have e38 := H38.out
        have e39 := H39.out
        have e40 := H40.out
        omega
      · simp [intOf]; omega
    · obtain rfl : k = len := by omega
      go_wp2
      go_ret
      exact ⟨rfl, O.out, K.out⟩
end Go.Proofs.YtpkhnajhamnggaaGreatDoor
