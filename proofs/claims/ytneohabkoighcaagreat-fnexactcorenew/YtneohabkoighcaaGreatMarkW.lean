/- markWordS, heldWordS, markBoolS, heldBoolS of the laws at rows that may be written: what is marked is held. No condition. -/
import Derived.Test.YtneohabkoighcaaGreatBoolS
namespace Go.Proofs.YtneohabkoighcaaGreat
open Go.ChangeShapes Go.WideShapes Go.ChangeAt Go.RowKit
set_option maxRecDepth 100000

/-- A row of len words in block q from cell o on, which may be written; the first k are those of L. -/
structure RowW (w : World) (q o len k : Nat) (L : List Wd) : Prop where
  lt : q < w.heap.size
  has : ∀ i, i < len * 6 → (w.cell? ⟨q, o + i, none⟩).isSome = true
  fr : ∀ i, i < len * 6 → w.frozen? ⟨q, o + i, none⟩ = false
  wd : ∀ j x, j < k → L[j]? = some x → WordAt w q (o + j * 6) x
theorem OutW.row {w : World} {q len k : Nat} {L : List Wd} (h : OutW w q len k L) : RowW w q 0 len k L :=
  ⟨h.lt, fun i hi => by rw [Nat.zero_add]; exact h.has i hi, fun i hi => by rw [Nat.zero_add]; exact h.fr i hi, fun j x hj hx => by rw [Nat.zero_add]; exact h.wd j x hj hx⟩
theorem RowW.keepB {w w' : World} {q o len k b : Nat} {L : List Wd} (h : RowW w q o len k L) (g : KeepBut b w w') (hb : q ≠ b) : RowW w' q o len k L :=
  ⟨Nat.lt_of_lt_of_le h.lt g.size, fun i hi => by rw [g.cell (p := ⟨q, o + i, none⟩) h.lt hb]; exact h.has i hi, fun i hi => by rw [g.frozen (p := ⟨q, o + i, none⟩) h.lt hb]; exact h.fr i hi, fun j x hj hx => by
    refine WordAt.of_vs fun m v hm => ?_
    exact (g.cell (p := ⟨q, o + j * 6 + m, none⟩) h.lt hb).trans ((h.wd j x hj hx).vs m v hm)⟩
theorem RowW.below {w w' : World} {q o len k : Nat} {L : List Wd} (h : RowW w q o len k L) (hb : Below w.heap.size w w') : RowW w' q o len k L :=
  h.keepB (b := w.heap.size) (KeepBut.ofBelow hb) (Nat.ne_of_lt h.lt)
theorem RowW.first {w : World} {q o len k : Nat} {L : List Wd} (h : RowW w q o len k L) (M : List Wd) : RowW w q o len 0 M := ⟨h.lt, h.has, h.fr, fun _ _ hj => absurd hj (Nat.not_lt_zero _)⟩
theorem RowW.slice {w : World} {q o len : Nat} {L : List Wd} (h : RowW w q o len len L) (hl : L.length = len) (hm : len ≤ maxLen) : SliceW w.heap.size w (some ⟨q, o, none⟩) len L :=
  ⟨hm, hl, .inr ⟨q, o, rfl, h.lt, fun j x hj => h.wd j x (by have := (List.getElem?_eq_some_iff.1 hj).1; omega) hj⟩⟩
theorem RowW.set {w : World} {q o len k : Nat} {L : List Wd} {x : Wd} (h : RowW w q o len k L) (hk : k < len) (hx : L[k]? = some x) : RowW (w.setCells q (o + k * 6) x.vs) q o len (k + 1) L := by
  have hl : x.vs.length = 6 := rfl
  have out : ∀ i, (i < o + k * 6 ∨ o + k * 6 + 6 ≤ i) → (w.setCells q (o + k * 6) x.vs).cell? ⟨q, i, none⟩ = w.cell? ⟨q, i, none⟩ := fun i hi =>
    World.cell?_setCells_out q x.vs (o + k * 6) w ⟨q, i, none⟩ (fun _ _ => by rw [hl]; exact hi)
  have inn : ∀ j (hj : j < x.vs.length), (w.setCells q (o + k * 6) x.vs).cell? ⟨q, o + k * 6 + j, none⟩ = some x.vs[j] :=
    World.cell?_setCells_in q x.vs (o + k * 6) w (fun j hj => by
      have := h.has (k * 6 + j) (by rw [hl] at hj; omega)
      rwa [← Nat.add_assoc] at this)
  refine ⟨?_, fun i hi => ?_, fun i hi => ?_, fun j y hj hy => ?_⟩
  · have := h.lt
    simp only [Wd.vs, World.setCells, World.size_setCell]
    exact this
  · by_cases hio : o + i < o + k * 6 ∨ o + k * 6 + 6 ≤ o + i
    · rw [out _ hio]; exact h.has i hi
    · have := inn (i - k * 6) (by rw [hl]; omega)
      rw [show o + k * 6 + (i - k * 6) = o + i by omega] at this
      rw [this]; rfl
  · rw [World.frozen?_setCells]; exact h.fr i hi
  · by_cases hjk : j < k
    · refine WordAt.of_vs fun m v hm => ?_
      have hm6 : m < 6 := (List.getElem?_eq_some_iff.1 hm).1
      rw [out _ (by omega)]
      exact (h.wd j y hjk hy).vs m v hm
    · obtain rfl : j = k := by omega
      obtain rfl : x = y := by rw [hx] at hy; exact Option.some.inj hy
      refine WordAt.of_vs fun m v hm => ?_
      obtain ⟨hm6, rfl⟩ := List.getElem?_eq_some_iff.1 hm
      exact inn m hm6

/-- The word that is marked from m on. -/
def markWd (m : Int) : Wd := ⟨m, (m + 1) % 3 == 0, m + 1 + 1, m + 1 + 1 + 1, m + 1 + 1 + 1 + 1, m + 1 + 1 + 1 + 1 + 1⟩
/-- The marks of a list. -/
def marksW (k0 : Int) (len : Nat) : List Wd := (List.range len).map fun j : Nat => markWd (k0 + 6 * (j : Int))
theorem marksW_at {k0 : Int} {len k : Nat} (h : k < len) : (marksW k0 len)[k]? = some (markWd (k0 + 6 * (k : Int))) := by simp [marksW, h]
theorem marksW_len (k0 : Int) (len : Nat) : (marksW k0 len).length = len := by simp [marksW]

set_option maxHeartbeats 4000000 in
theorem markW_any (q o len cap : Nat) (k0 : Int) (h0 : 1 ≤ k0) (h1 : k0 ≤ 16777216) (w : World) (hl : len ≤ 1048576) (h : RowW w q o len 0 (marksW k0 len)) :
    Calls Tryz.prog 63 #[.slice (some ⟨q, o, none⟩) len cap, .int .i64 k0] w fun e w' => e = .returned (.int .i64 (k0 + 6 * (len : Int))) ∧ RowW w' q o len len (marksW k0 len) ∧ KeepBut q w w' := by
  have O0 := hid_mk h
  clear h
  go_enter Tryz.func63, Tryz.ntmps63
  go_wp2
  go_loopw [1, 5] (fun kk c wr => ∃ k : Nat, k ≤ len ∧ kk = .int .i64 (k0 + 6 * (k : Int)) ∧ c = .int .i64 (k : Int) ∧ Hid (RowW wr q o len k (marksW k0 len)) ∧ Hid (KeepBut q w wr)) (fun _ c _ => len - (intOf c).toNat)
  case atStart => exact ⟨0, Nat.zero_le _, by simp, rfl, O0.out, KeepBut.refl _ _⟩
  case round =>
    clear O0
    obtain ⟨k, hk, rfl, rfl, O, K⟩ := hrel
    by_cases hlt : k < len
    · obtain ⟨m, hm⟩ : ∃ m : Int, m = k0 + 6 * (k : Int) := ⟨_, rfl⟩
      have MX := hid_mk (marksW_at (k0 := k0) hlt)
      rw [← hm] at MX ⊢
      have hm0 : 0 ≤ m := by omega
      have hm1 : m ≤ 33554432 := by omega
      have HM := hid_mk hm
      clear hm
      obtain ⟨v0, e0⟩ := Option.isSome_iff_exists.1 (O.out.has (k * 6) (by omega))
      obtain ⟨v1, e1⟩ := Option.isSome_iff_exists.1 (O.out.has (k * 6 + 1) (by omega))
      obtain ⟨v2, e2⟩ := Option.isSome_iff_exists.1 (O.out.has (k * 6 + 2) (by omega))
      obtain ⟨v3, e3⟩ := Option.isSome_iff_exists.1 (O.out.has (k * 6 + 3) (by omega))
      obtain ⟨v4, e4⟩ := Option.isSome_iff_exists.1 (O.out.has (k * 6 + 4) (by omega))
      obtain ⟨v5, e5⟩ := Option.isSome_iff_exists.1 (O.out.has (k * 6 + 5) (by omega))
      have f0 := O.out.fr (k * 6) (by omega)
      have f1 := O.out.fr (k * 6 + 1) (by omega)
      have f2 := O.out.fr (k * 6 + 2) (by omega)
      have f3 := O.out.fr (k * 6 + 3) (by omega)
      have f4 := O.out.fr (k * 6 + 4) (by omega)
      have f5 := O.out.fr (k * 6 + 5) (by omega)
      simp only [← Nat.add_assoc] at e1 e2 e3 e4 e5 f1 f2 f3 f4 f5
      have O2 := hid_mk (O.out.set hlt MX.out)
      have K2 : Hid (KeepBut q w (wr.setCells q (o + k * 6) (markWd m).vs)) := K.out.trans (((((((KeepBut.refl q wr).setCell (o + k * 6) _).setCell (o + k * 6 + 1) _).setCell (o + k * 6 + 2) _).setCell (o + k * 6 + 3) _).setCell (o + k * 6 + 4) _).setCell (o + k * 6 + 5) _)
      go_wp2
      go_roundw
      case rel => exact ⟨k + 1, hlt, by have := HM.out; go_num, by go_num, O2.out, K2.out⟩
      case measure => simp [intOf]; omega
    · obtain rfl : k = len := by omega
      go_wp2
      go_ret
      exact ⟨rfl, O.out, K.out⟩

set_option maxHeartbeats 4000000 in
theorem heldW_any (a : Option Addr) (len cap : Nat) (k0 : Int) (h0 : 1 ≤ k0) (h1 : k0 ≤ 16777216) (w : World) (hl : len ≤ 1048576) (hS : SliceW w.heap.size w a len (marksW k0 len)) :
    Calls Tryz.prog 97 #[.slice a len cap, .int .i64 k0] w fun e w' => e = .returned (.int .i64 (k0 + 6 * (len : Int))) ∧ Below w.heap.size w w' := by
  have S := hid_mk hS
  clear hS
  go_enter Tryz.func97, Tryz.ntmps97
  go_wp2
  go_loopw [1, 5] (fun kk c wr => ∃ k : Nat, k ≤ len ∧ kk = .int .i64 (k0 + 6 * (k : Int)) ∧ c = .int .i64 (k : Int) ∧ Hid (Below w.heap.size w wr)) (fun _ c _ => len - (intOf c).toNat)
  case atStart => exact ⟨0, Nat.zero_le _, by simp, rfl, Below.refl _ _⟩
  case round =>
    obtain ⟨k, hk, rfl, rfl, B⟩ := hrel
    by_cases hlt : k < len
    · obtain ⟨kb, o, x, rfl, hkb, hx, hat⟩ := (S.out.keep B.out).at hlt
      rw [marksW_at hlt] at hx
      obtain rfl := Option.some.inj hx
      obtain ⟨d0, d1, d2, d3, d4, d5⟩ := hat
      obtain ⟨m, hm⟩ : ∃ m : Int, m = k0 + 6 * (k : Int) := ⟨_, rfl⟩
      rw [← hm] at d0 d1 d2 d3 d4 d5 ⊢
      simp only [markWd] at d0 d1 d2 d3 d4 d5
      have hm0 : 0 ≤ m := by omega
      have hm1 : m ≤ 33554432 := by omega
      have HM := hid_mk hm
      clear hm hx
      go_wp2
      go_roundw
      case rel => exact ⟨k + 1, hlt, by have := HM.out; go_num, by go_num, B.out⟩
      case measure => simp [intOf]; omega
    · obtain rfl : k = len := by omega
      go_wp2
      go_ret
      exact ⟨rfl, B.out⟩
end Go.Proofs.YtneohabkoighcaaGreat
