/- markBoolS and heldBoolS of the laws at a row that may be written: what is marked is held. No condition. -/
import Derived.Test.YtneohabkoighcaaGreatMarkW
namespace Go.Proofs.YtneohabkoighcaaGreat
open Go.ChangeShapes Go.WideShapes Go.ChangeAt Go.RowKit
set_option maxRecDepth 100000

/-- A row of len bools in block q from cell o on, which may be written; the first k are those of L. -/
structure RowB (w : World) (q o len k : Nat) (L : List Bool) : Prop where
  lt : q < w.heap.size
  has : ∀ i, i < len → (w.cell? ⟨q, o + i, none⟩).isSome = true
  fr : ∀ i, i < len → w.frozen? ⟨q, o + i, none⟩ = false
  wd : ∀ j x, j < k → L[j]? = some x → w.cell? ⟨q, o + j, none⟩ = some (.bool x)
theorem OutB.row {w : World} {q len k : Nat} {L : List Bool} (h : OutB w q len k L) : RowB w q 0 len k L :=
  ⟨h.lt, fun i hi => by rw [Nat.zero_add]; exact h.has i hi, fun i hi => by rw [Nat.zero_add]; exact h.fr i hi, fun j x hj hx => by rw [Nat.zero_add]; exact h.wd j x hj hx⟩
theorem RowB.keepB {w w' : World} {q o len k b : Nat} {L : List Bool} (h : RowB w q o len k L) (g : KeepBut b w w') (hb : q ≠ b) : RowB w' q o len k L :=
  ⟨Nat.lt_of_lt_of_le h.lt g.size, fun i hi => by rw [g.cell (p := ⟨q, o + i, none⟩) h.lt hb]; exact h.has i hi, fun i hi => by rw [g.frozen (p := ⟨q, o + i, none⟩) h.lt hb]; exact h.fr i hi, fun j x hj hx => (g.cell (p := ⟨q, o + j, none⟩) h.lt hb).trans (h.wd j x hj hx)⟩
theorem RowB.below {w w' : World} {q o len k : Nat} {L : List Bool} (h : RowB w q o len k L) (hb : Below w.heap.size w w') : RowB w' q o len k L :=
  h.keepB (b := w.heap.size) (KeepBut.ofBelow hb) (Nat.ne_of_lt h.lt)
theorem RowB.first {w : World} {q o len k : Nat} {L : List Bool} (h : RowB w q o len k L) (M : List Bool) : RowB w q o len 0 M := ⟨h.lt, h.has, h.fr, fun _ _ hj => absurd hj (Nat.not_lt_zero _)⟩
theorem RowB.slice {w : World} {q o len : Nat} {L : List Bool} (h : RowB w q o len len L) (hl : L.length = len) (hm : len ≤ maxLen) : SliceB w.heap.size w (some ⟨q, o, none⟩) len L :=
  ⟨hm, hl, .inr ⟨q, o, rfl, h.lt, fun j x hj => h.wd j x (by have := (List.getElem?_eq_some_iff.1 hj).1; omega) hj⟩⟩
theorem RowB.set {w : World} {q o len k : Nat} {L : List Bool} {x : Bool} (h : RowB w q o len k L) (hk : k < len) (hx : L[k]? = some x) : RowB (w.setCell ⟨q, o + k, none⟩ (.bool x)) q o len (k + 1) L := by
  have inn : (w.setCell ⟨q, o + k, none⟩ (.bool x)).cell? ⟨q, o + k, none⟩ = some (.bool x) := World.cell?_setCells_in q [.bool x] (o + k) w (fun j hj => by
    simp at hj
    subst hj
    exact h.has k hk) 0 (by simp)
  have out : ∀ i, i ≠ k → (w.setCell ⟨q, o + k, none⟩ (.bool x)).cell? ⟨q, o + i, none⟩ = w.cell? ⟨q, o + i, none⟩ := fun i hi =>
    World.cell?_setCells_out q [.bool x] (o + k) w ⟨q, o + i, none⟩ (fun _ _ => by simp; omega)
  refine ⟨by rw [World.size_setCell]; exact h.lt, fun i hi => ?_, fun i hi => ?_, fun j y hj hy => ?_⟩
  · by_cases hik : i = k
    · subst hik; rw [inn]; rfl
    · rw [out i hik]; exact h.has i hi
  · have := World.frozen?_setCells (w := w) q [.bool x] (o + k) ⟨q, o + i, none⟩
    exact this.trans (h.fr i hi)
  · by_cases hjk : j = k
    · subst hjk
      obtain rfl : x = y := by rw [hx] at hy; exact Option.some.inj hy
      exact inn
    · rw [out j hjk]; exact h.wd j y (by omega) hy

/-- The marks of a list of bools. -/
def marksB (k0 : Int) (len : Nat) : List Bool := (List.range len).map fun j : Nat => (k0 + (j : Int)) % 3 == 0
theorem marksB_at {k0 : Int} {len k : Nat} (h : k < len) : (marksB k0 len)[k]? = some ((k0 + (k : Int)) % 3 == 0) := by simp [marksB, h]
theorem marksB_len (k0 : Int) (len : Nat) : (marksB k0 len).length = len := by simp [marksB]

set_option maxHeartbeats 4000000 in
theorem markB_any (q o len cap : Nat) (k0 : Int) (h0 : 1 ≤ k0) (h1 : k0 ≤ 16777216) (w : World) (hl : len ≤ 1048576) (h : RowB w q o len 0 (marksB k0 len)) :
    Calls Tryz.prog 96 #[.slice (some ⟨q, o, none⟩) len cap, .int .i64 k0] w fun e w' => e = .returned (.int .i64 (k0 + (len : Int))) ∧ RowB w' q o len len (marksB k0 len) ∧ KeepBut q w w' := by
  have O0 := hid_mk h
  clear h
  go_enter Tryz.func96, Tryz.ntmps96
  go_wp2
  go_loopw [1, 5] (fun kk c wr => ∃ k : Nat, k ≤ len ∧ kk = .int .i64 (k0 + (k : Int)) ∧ c = .int .i64 (k : Int) ∧ Hid (RowB wr q o len k (marksB k0 len)) ∧ Hid (KeepBut q w wr)) (fun _ c _ => len - (intOf c).toNat)
  case atStart => exact ⟨0, Nat.zero_le _, by simp, rfl, O0.out, KeepBut.refl _ _⟩
  case round =>
    clear O0
    obtain ⟨k, hk, rfl, rfl, O, K⟩ := hrel
    by_cases hlt : k < len
    · obtain ⟨m, hm⟩ : ∃ m : Int, m = k0 + (k : Int) := ⟨_, rfl⟩
      have MX := hid_mk (marksB_at (k0 := k0) hlt)
      rw [← hm] at MX ⊢
      have hm0 : 0 ≤ m := by omega
      have hm1 : m ≤ 33554432 := by omega
      have HM := hid_mk hm
      clear hm
      obtain ⟨v0, e0⟩ := Option.isSome_iff_exists.1 (O.out.has k (by omega))
      have f0 := O.out.fr k (by omega)
      have O2 := hid_mk (O.out.set hlt MX.out)
      have K2 : Hid (KeepBut q w (wr.setCell ⟨q, o + k, none⟩ (.bool (m % 3 == 0)))) := K.out.trans ((KeepBut.refl q wr).setCell (o + k) _)
      go_wp2
      go_roundw
      case rel => exact ⟨k + 1, hlt, by have := HM.out; go_num, by go_num, O2.out, K2.out⟩
      case measure => simp [intOf]; omega
    · obtain rfl : k = len := by omega
      go_wp2
      go_ret
      exact ⟨rfl, O.out, K.out⟩

set_option maxHeartbeats 4000000 in
theorem heldB_any (a : Option Addr) (len cap : Nat) (k0 : Int) (h0 : 1 ≤ k0) (h1 : k0 ≤ 16777216) (w : World) (hl : len ≤ 1048576) (hS : SliceB w.heap.size w a len (marksB k0 len)) :
    Calls Tryz.prog 122 #[.slice a len cap, .int .i64 k0] w fun e w' => e = .returned (.int .i64 (k0 + (len : Int))) ∧ Below w.heap.size w w' := by
  have S := hid_mk hS
  clear hS
  go_enter Tryz.func122, Tryz.ntmps122
  go_wp2
  go_loopw [1, 5] (fun kk c wr => ∃ k : Nat, k ≤ len ∧ kk = .int .i64 (k0 + (k : Int)) ∧ c = .int .i64 (k : Int) ∧ Hid (Below w.heap.size w wr)) (fun _ c _ => len - (intOf c).toNat)
  case atStart => exact ⟨0, Nat.zero_le _, by simp, rfl, Below.refl _ _⟩
  case round =>
    obtain ⟨k, hk, rfl, rfl, B⟩ := hrel
    by_cases hlt : k < len
    · obtain ⟨kb, o, x, rfl, hkb, hx, d0⟩ := (S.out.keep B.out).at hlt
      rw [marksB_at hlt] at hx
      obtain rfl := Option.some.inj hx
      obtain ⟨m, hm⟩ : ∃ m : Int, m = k0 + (k : Int) := ⟨_, rfl⟩
      rw [← hm] at d0 ⊢
      have hm0 : 0 ≤ m := by omega
      have hm1 : m ≤ 33554432 := by omega
      have HM := hid_mk hm
      clear hm hx
      generalize hy : (m % 3 == 0) = y at d0
      go_wp2
      go_roundw
      case rel => exact ⟨k + 1, hlt, by have := HM.out; go_num, by go_num, B.out⟩
      case measure => simp [intOf]; omega
    · obtain rfl : k = len := by omega
      go_wp2
      go_ret
      exact ⟨rfl, B.out⟩
end Go.Proofs.YtneohabkoighcaaGreat
