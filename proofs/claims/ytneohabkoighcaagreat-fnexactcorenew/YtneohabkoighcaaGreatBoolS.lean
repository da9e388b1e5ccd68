/- Slices of bools; toBoolS, eqBoolS and szBoolS of the laws. No condition but that the list is no longer than the law lets it be. -/
import Derived.Test.YtneohabkoighcaaGreatWordM
namespace Go.Proofs.YtneohabkoighcaaGreat
open Go.ChangeShapes Go.WideShapes Go.ChangeAt Go.RowKit

/-- A slice of the bools L, in a block below B. -/
def SliceB (B : Nat) (w : World) (a : Option Addr) (len : Nat) (L : List Bool) : Prop :=
  len ≤ maxLen ∧ L.length = len ∧ (len = 0 ∨ ∃ k o, a = some ⟨k, o, none⟩ ∧ k < B ∧ ∀ j x, L[j]? = some x → w.cell? ⟨k, o + j, none⟩ = some (.bool x))
theorem SliceB.keep {B : Nat} {w w' : World} {a : Option Addr} {len : Nat} {L : List Bool} (h : SliceB B w a len L) (hb : Below B w w') : SliceB B w' a len L := by
  refine ⟨h.1, h.2.1, ?_⟩
  rcases h.2.2 with h0 | ⟨k, o, ha, hk, hc⟩
  · exact .inl h0
  · exact .inr ⟨k, o, ha, hk, fun j x hj => (hb.cell (p := ⟨k, o + j, none⟩) hk).trans (hc j x hj)⟩
theorem SliceB.mono {B C : Nat} {w : World} {a : Option Addr} {len : Nat} {L : List Bool} (h : SliceB B w a len L) (hB : B ≤ C) : SliceB C w a len L := by
  refine ⟨h.1, h.2.1, ?_⟩
  rcases h.2.2 with h0 | ⟨k, o, ha, hk, hc⟩
  · exact .inl h0
  · exact .inr ⟨k, o, ha, by omega, hc⟩
theorem SliceB.at {B : Nat} {w : World} {a : Option Addr} {len : Nat} {L : List Bool} (h : SliceB B w a len L) {j : Nat} (hj : j < len) :
    ∃ k o x, a = some ⟨k, o, none⟩ ∧ k < B ∧ L[j]? = some x ∧ w.cell? ⟨k, o + j, none⟩ = some (.bool x) := by
  rcases h.2.2 with h0 | ⟨k, o, ha, hk, hc⟩
  · omega
  · have hl : j < L.length := by rw [h.2.1]; exact hj
    exact ⟨k, o, L[j], ha, hk, List.getElem?_eq_getElem hl, hc j _ (List.getElem?_eq_getElem hl)⟩

/-- A row of len bools in block q, which may be written; the first k are those of L. -/
structure OutB (w : World) (q len k : Nat) (L : List Bool) : Prop where
  lt : q < w.heap.size
  has : ∀ i, i < len → (w.cell? ⟨q, i, none⟩).isSome = true
  fr : ∀ i, i < len → w.frozen? ⟨q, i, none⟩ = false
  wd : ∀ j x, j < k → L[j]? = some x → w.cell? ⟨q, j, none⟩ = some (.bool x)
theorem OutB.keepB {w w' : World} {q len k b : Nat} {L : List Bool} (h : OutB w q len k L) (g : KeepBut b w w') (hb : q ≠ b) : OutB w' q len k L :=
  ⟨Nat.lt_of_lt_of_le h.lt g.size, fun i hi => by rw [g.cell (p := ⟨q, i, none⟩) h.lt hb]; exact h.has i hi, fun i hi => by rw [g.frozen (p := ⟨q, i, none⟩) h.lt hb]; exact h.fr i hi, fun j x hj hx => (g.cell (p := ⟨q, j, none⟩) h.lt hb).trans (h.wd j x hj hx)⟩
theorem OutB.below {w w' : World} {q len k : Nat} {L : List Bool} (h : OutB w q len k L) (hb : Below w.heap.size w w') : OutB w' q len k L :=
  h.keepB (b := w.heap.size) (KeepBut.ofBelow hb) (Nat.ne_of_lt h.lt)
theorem OutB.set {w : World} {q len k : Nat} {L : List Bool} {x : Bool} (h : OutB w q len k L) (hk : k < len) (hx : L[k]? = some x) : OutB (w.setCell ⟨q, k, none⟩ (.bool x)) q len (k + 1) L := by
  obtain ⟨v0, e0⟩ := Option.isSome_iff_exists.1 (h.has k hk)
  have inn : (w.setCell ⟨q, k, none⟩ (.bool x)).cell? ⟨q, k, none⟩ = some (.bool x) := World.cell?_setCells_in q [.bool x] k w (fun j hj => by
    simp at hj
    subst hj
    exact h.has k hk) 0 (by simp)
  have out : ∀ i, i ≠ k → (w.setCell ⟨q, k, none⟩ (.bool x)).cell? ⟨q, i, none⟩ = w.cell? ⟨q, i, none⟩ := fun i hi =>
    World.cell?_setCells_out q [.bool x] k w ⟨q, i, none⟩ (fun _ _ => by simp; omega)
  refine ⟨by rw [World.size_setCell]; exact h.lt, fun i hi => ?_, fun i hi => ?_, fun j y hj hy => ?_⟩
  · by_cases hik : i = k
    · subst hik; rw [inn]; rfl
    · rw [out i hik]; exact h.has i hi
  · have := World.frozen?_setCells (w := w) q [.bool x] k ⟨q, i, none⟩
    exact this.trans (h.fr i hi)
  · by_cases hjk : j = k
    · subst hjk
      obtain rfl : x = y := by rw [hx] at hy; exact Option.some.inj hy
      exact inn
    · rw [out j hjk]; exact h.wd j y (by omega) hy
theorem OutB.slice {w : World} {q len : Nat} {L : List Bool} (h : OutB w q len len L) (hl : L.length = len) (hm : len ≤ maxLen) : SliceB w.heap.size w (some ⟨q, 0, none⟩) len L :=
  ⟨hm, hl, .inr ⟨q, 0, rfl, h.lt, fun j x hj => by
    have hj' := (List.getElem?_eq_some_iff.1 hj).1
    rw [Nat.zero_add]
    exact h.wd j x (by omega) hj⟩⟩

theorem infoB : (Tryz.prog.info? 4).map (fun i => (i.zero, i.size, i.bytes)) = some (some (.bool false), 1, 1) := by kernel_rfl
theorem made_outB (w : World) (len : Nat) (z : Array Value) (T : TypeId) (L : List Bool) : OutB (w.alloc (.cells (madeCells z len) T)) w.heap.size len 0 L :=
  ⟨by simp, fun i hi => by rw [World.cell?_alloc_new]; simp [madeCells, hi], fun i _ => by simp, fun j _ hj => absurd hj (Nat.not_lt_zero _)⟩
theorem run_makeBools (len : Nat) (hl : len ≤ 1048576) (w : World) :
    (Instr.makeSlice 29 (.int .i64 (len : Int)) (.int .i64 (len : Int))).run Tryz.prog w = .ok (.slice (some ⟨w.heap.size, 0, none⟩) len len) (w.alloc (.cells (madeCells #[.bool false] len) 4)) := by
  obtain ⟨i, hi, h0, h1, h2⟩ := info_parts infoB
  have := run_makeSlice (w := w) 29 4 i _ Tryz.underlying29 hi h0 .i64 .i64 (len : Int) (len : Int) (by omega) (by omega) (by rw [h1]; simp; omega) (by rw [h2]; omega) (by omega)
  rw [this, h1]
  simp [Value.cells]

set_option maxRecDepth 100000 in
set_option maxHeartbeats 2000000 in
theorem toBoolS_own (a : Option Addr) (len cap : Nat) (L : List Bool) (w : World) (hl : len ≤ 1048576) (hS : SliceB w.heap.size w a len L) :
    Calls Tryz.prog 92 #[.slice a len cap] w fun e w' => ∃ q, e = .returned (.slice (some ⟨q, 0, none⟩) len len) ∧ w.heap.size ≤ q ∧ OutB w' q len len L ∧ Below w.heap.size w w' := by
  have S : Hid (SliceB w.heap.size w a len L) := hS
  have hmk := run_makeBools len hl
  have hL := hS.2.1
  clear hS
  go_enter Tryz.func92, Tryz.ntmps92
  go_wp2
  go_loopw [4] (fun c wr => ∃ k : Nat, k ≤ len ∧ c = .int .i64 k ∧ Hid (OutB wr w.heap.size len k L) ∧ Hid (Below w.heap.size w wr)) (fun c _ => len - (intOf c).toNat)
  case atStart => exact ⟨0, Nat.zero_le _, rfl, made_outB _ _ _ _ _, (Below.refl _ _).alloc (Nat.le_refl _) _⟩
  case round =>
    clear hmk
    obtain ⟨k, hk, rfl, hO, hB⟩ := hrel
    by_cases hlt : k < len
    · obtain ⟨kb, o, x, rfl, hkb, hx, d0⟩ := (S.out.keep hB.out).at hlt
      have zB := hB.out.size
      obtain ⟨v0, e0⟩ := Option.isSome_iff_exists.1 (hO.out.has k hlt)
      have f0 := hO.out.fr k hlt
      have O1 := hid_mk (hO.out.set hlt hx)
      have K1 : Hid (Below w.heap.size w (wr.setCell ⟨w.heap.size, k, none⟩ (.bool x))) := Below.setCell hB.out (Nat.le_refl _) _
      clear hx
      go_wp2
      go_roundw
      case rel => exact ⟨k + 1, hlt, by go_num, O1.out, K1.out⟩
      case measure => simp [intOf]; omega
    · obtain rfl : k = len := by omega
      go_wp2
      go_ret
      exact ⟨_, rfl, Nat.le_refl _, hO.out, hB.out⟩

set_option maxRecDepth 100000 in
set_option maxHeartbeats 2000000 in
theorem eqBoolS_same (a a' : Option Addr) (len cap cap' : Nat) (L : List Bool) (w : World) (hS : SliceB w.heap.size w a len L) (hS' : SliceB w.heap.size w a' len L) :
    Calls Tryz.prog 95 #[.slice a len cap, .slice a' len cap'] w fun e w' => e = .returned (.bool true) ∧ Below w.heap.size w w' := by
  have S : Hid (SliceB w.heap.size w a len L) := hS
  have S' : Hid (SliceB w.heap.size w a' len L) := hS'
  have hlen := hS.1
  unfold maxLen at hlen
  clear hS hS'
  go_enter Tryz.func95, Tryz.ntmps95
  go_wp2
  go_loopw [5] (fun c wr => ∃ k : Nat, k ≤ len ∧ c = .int .i64 k ∧ Hid (Below w.heap.size w wr)) (fun c _ => len - (intOf c).toNat)
  case atStart => exact ⟨0, Nat.zero_le _, rfl, Below.refl _ _⟩
  case round =>
    obtain ⟨k, hk, rfl, hB⟩ := hrel
    by_cases hlt : k < len
    · obtain ⟨kb, o, x, rfl, hkb, hx, d0⟩ := (S.out.keep hB.out).at hlt
      obtain ⟨kb', o', x', rfl, hkb', hx', d1⟩ := (S'.out.keep hB.out).at hlt
      obtain rfl : x = x' := by rw [hx] at hx'; exact Option.some.inj hx'
      have hxx : (x != x) = false := by simp
      have D0 : Hid (Below w.heap.size w wr.drew) := hB.out.drew
      clear hx hx'
      go_wp2_with fail
      go_region
      all_goals
        go_wp2
        go_roundw
        case rel => exact ⟨k + 1, hlt, by go_num, D0.out⟩
        case measure => simp [intOf]; omega
    · go_wp2
      go_ret
      exact ⟨rfl, hB.out⟩

set_option maxHeartbeats 400000 in
theorem szBoolS_any (a : Option Addr) (len cap : Nat) (m : Int) (hm0 : 0 ≤ m) (hm1 : m ≤ 1048576) (w : World) (hl : len ≤ maxLen) :
    Calls Tryz.prog 89 #[.slice a len cap, .int .i64 m] w fun e w' => e = .returned (.int .i64 (if (len : Int) ≤ m then m - (len : Int) else -1)) ∧ w' = w := by
  unfold maxLen at hl
  by_cases h : (len : Int) ≤ m
  · rw [if_pos h]
    go_enter Tryz.func89, Tryz.ntmps89
    go_wp2
    go_ret
    exact ⟨rfl, rfl⟩
  · rw [if_neg h]
    go_enter Tryz.func89, Tryz.ntmps89
    go_wp2
    go_ret
    exact ⟨rfl, rfl⟩
end Go.Proofs.YtneohabkoighcaaGreat
