/- Slices of ints; toIntS, eqIntS and markIntS of the laws. No condition but that the list is no longer than the law lets it be. -/
import Derived.Test.YtpkhnajhamnggaaGreatDoorMemA
namespace Go.Proofs.YtpkhnajhamnggaaGreatDoor
open Go.ChangeShapes Go.WideShapes Go.ChangeAt Go.RowKit

/-- A slice of the ints L, in a block below B. -/
def SliceN (B : Nat) (w : World) (a : Option Addr) (len : Nat) (L : List Int) : Prop :=
  len ≤ maxLen ∧ L.length = len ∧ (len = 0 ∨ ∃ k o, a = some ⟨k, o, none⟩ ∧ k < B ∧ ∀ j x, L[j]? = some x → w.cell? ⟨k, o + j, none⟩ = some (.int .i64 x))
theorem SliceN.keep {B : Nat} {w w' : World} {a : Option Addr} {len : Nat} {L : List Int} (h : SliceN B w a len L) (hb : Below B w w') : SliceN B w' a len L := by
  refine ⟨h.1, h.2.1, ?_⟩
  rcases h.2.2 with h0 | ⟨k, o, ha, hk, hc⟩
  · exact .inl h0
  · exact .inr ⟨k, o, ha, hk, fun j x hj => (hb.cell (p := ⟨k, o + j, none⟩) hk).trans (hc j x hj)⟩
theorem SliceN.mono {B C : Nat} {w : World} {a : Option Addr} {len : Nat} {L : List Int} (h : SliceN B w a len L) (hB : B ≤ C) : SliceN C w a len L := by
  refine ⟨h.1, h.2.1, ?_⟩
  rcases h.2.2 with h0 | ⟨k, o, ha, hk, hc⟩
  · exact .inl h0
  · exact .inr ⟨k, o, ha, by omega, hc⟩
theorem SliceN.at {B : Nat} {w : World} {a : Option Addr} {len : Nat} {L : List Int} (h : SliceN B w a len L) {j : Nat} (hj : j < len) :
    ∃ k o x, a = some ⟨k, o, none⟩ ∧ k < B ∧ L[j]? = some x ∧ w.cell? ⟨k, o + j, none⟩ = some (.int .i64 x) := by
  rcases h.2.2 with h0 | ⟨k, o, ha, hk, hc⟩
  · omega
  · have hl : j < L.length := by rw [h.2.1]; exact hj
    exact ⟨k, o, L[j], ha, hk, List.getElem?_eq_getElem hl, hc j _ (List.getElem?_eq_getElem hl)⟩

/-- A row of len ints in block q, which may be written; the first k are those of L. -/
structure OutN (w : World) (q len k : Nat) (L : List Int) : Prop where
  lt : q < w.heap.size
  has : ∀ i, i < len → (w.cell? ⟨q, i, none⟩).isSome = true
  fr : ∀ i, i < len → w.frozen? ⟨q, i, none⟩ = false
  wd : ∀ j x, j < k → L[j]? = some x → w.cell? ⟨q, j, none⟩ = some (.int .i64 x)
theorem OutN.keepB {w w' : World} {q len k b : Nat} {L : List Int} (h : OutN w q len k L) (g : KeepBut b w w') (hb : q ≠ b) : OutN w' q len k L :=
  ⟨Nat.lt_of_lt_of_le h.lt g.size, fun i hi => by rw [g.cell (p := ⟨q, i, none⟩) h.lt hb]; exact h.has i hi, fun i hi => by rw [g.frozen (p := ⟨q, i, none⟩) h.lt hb]; exact h.fr i hi, fun j x hj hx => (g.cell (p := ⟨q, j, none⟩) h.lt hb).trans (h.wd j x hj hx)⟩
theorem OutN.below {w w' : World} {q len k : Nat} {L : List Int} (h : OutN w q len k L) (hb : Below w.heap.size w w') : OutN w' q len k L :=
  h.keepB (b := w.heap.size) (KeepBut.ofBelow hb) (Nat.ne_of_lt h.lt)
theorem OutN.set {w : World} {q len k : Nat} {L : List Int} {x : Int} (h : OutN w q len k L) (hk : k < len) (hx : L[k]? = some x) : OutN (w.setCell ⟨q, k, none⟩ (.int .i64 x)) q len (k + 1) L := by
  obtain ⟨v0, e0⟩ := Option.isSome_iff_exists.1 (h.has k hk)
  have inn : (w.setCell ⟨q, k, none⟩ (.int .i64 x)).cell? ⟨q, k, none⟩ = some (.int .i64 x) := World.cell?_setCells_in q [.int .i64 x] k w (fun j hj => by
    simp at hj
    subst hj
    exact h.has k hk) 0 (by simp)
  have out : ∀ i, i ≠ k → (w.setCell ⟨q, k, none⟩ (.int .i64 x)).cell? ⟨q, i, none⟩ = w.cell? ⟨q, i, none⟩ := fun i hi =>
    World.cell?_setCells_out q [.int .i64 x] k w ⟨q, i, none⟩ (fun _ _ => by simp; omega)
  refine ⟨by rw [World.size_setCell]; exact h.lt, fun i hi => ?_, fun i hi => ?_, fun j y hj hy => ?_⟩
  · by_cases hik : i = k
    · subst hik; rw [inn]; rfl
    · rw [out i hik]; exact h.has i hi
  · have := World.frozen?_setCells (w := w) q [.int .i64 x] k ⟨q, i, none⟩
    exact this.trans (h.fr i hi)
  · by_cases hjk : j = k
    · subst hjk
      obtain rfl : x = y := by rw [hx] at hy; exact Option.some.inj hy
      exact inn
    · rw [out j hjk]; exact h.wd j y (by omega) hy
theorem OutN.slice {w : World} {q len : Nat} {L : List Int} (h : OutN w q len len L) (hl : L.length = len) (hm : len ≤ maxLen) : SliceN w.heap.size w (some ⟨q, 0, none⟩) len L :=
  ⟨hm, hl, .inr ⟨q, 0, rfl, h.lt, fun j x hj => by
    have hj' := (List.getElem?_eq_some_iff.1 hj).1
    rw [Nat.zero_add]
    exact h.wd j x (by omega) hj⟩⟩

theorem infoN : (Tryz.prog.info? 3).map (fun i => (i.zero, i.size, i.bytes)) = some (some (.int .i64 0), 1, 8) := by kernel_rfl
theorem made_outN (w : World) (len : Nat) (z : Array Value) (T : TypeId) (L : List Int) : OutN (w.alloc (.cells (madeCells z len) T)) w.heap.size len 0 L :=
  ⟨by simp, fun i hi => by rw [World.cell?_alloc_new]; simp [madeCells, hi], fun i _ => by simp, fun j _ hj => absurd hj (Nat.not_lt_zero _)⟩
theorem run_makeInts (len : Nat) (hl : len ≤ 1048576) (w : World) :
    (Instr.makeSlice 52 (.int .i64 (len : Int)) (.int .i64 (len : Int))).run Tryz.prog w = .ok (.slice (some ⟨w.heap.size, 0, none⟩) len len) (w.alloc (.cells (madeCells #[.int .i64 0] len) 3)) := by
  obtain ⟨i, hi, h0, h1, h2⟩ := info_parts infoN
  have := run_makeSlice (w := w) 52 3 i _ Tryz.underlying52 hi h0 .i64 .i64 (len : Int) (len : Int) (by omega) (by omega) (by rw [h1]; simp; omega) (by rw [h2]; omega) (by omega)
  rw [this, h1]
  simp [Value.cells]

set_option maxRecDepth 100000 in
set_option maxHeartbeats 2000000 in
theorem toIntS_own (a : Option Addr) (len cap : Nat) (L : List Int) (w : World) (hl : len ≤ 1048576) (hS : SliceN w.heap.size w a len L) :
    Calls Tryz.prog 18 #[.slice a len cap] w fun e w' => ∃ q, e = .returned (.slice (some ⟨q, 0, none⟩) len len) ∧ w.heap.size ≤ q ∧ OutN w' q len len L ∧ Below w.heap.size w w' := by
  have S : Hid (SliceN w.heap.size w a len L) := hS
  have hmk := run_makeInts len hl
  have hL := hS.2.1
  clear hS
  go_enter Tryz.func18, Tryz.ntmps18
  go_wp2
  go_loopw [4] (fun c wr => ∃ k : Nat, k ≤ len ∧ c = .int .i64 k ∧ Hid (OutN wr w.heap.size len k L) ∧ Hid (Below w.heap.size w wr)) (fun c _ => len - (intOf c).toNat)
  case atStart => exact ⟨0, Nat.zero_le _, rfl, made_outN _ _ _ _ _, (Below.refl _ _).alloc (Nat.le_refl _) _⟩
  case round =>
    clear hmk
    obtain ⟨k, hk, rfl, hO, hB⟩ := hrel
    by_cases hlt : k < len
    · obtain ⟨kb, o, x, rfl, hkb, hx, d0⟩ := (S.out.keep hB.out).at hlt
      have zB := hB.out.size
      obtain ⟨v0, e0⟩ := Option.isSome_iff_exists.1 (hO.out.has k hlt)
      have f0 := hO.out.fr k hlt
      have O1 := hid_mk (hO.out.set hlt hx)
      have K1 : Hid (Below w.heap.size w (wr.setCell ⟨w.heap.size, k, none⟩ (.int .i64 x))) := Below.setCell hB.out (Nat.le_refl _) _
      clear hx
      go_wp2
      go_roundw
      case rel => exact ⟨k + 1, hlt, by go_num, O1.out, K1.out⟩
      case measure => simp [intOf]; omega
    · obtain rfl : k = len := by omega
      go_wp2
      go_ret
      exact ⟨_, rfl, Nat.le_refl _, hO.out, hB.out⟩

set_option maxRecDepth 100000 in
set_option maxHeartbeats 2000000 in
theorem eqIntS_same (a a' : Option Addr) (len cap cap' : Nat) (L : List Int) (w : World) (hS : SliceN w.heap.size w a len L) (hS' : SliceN w.heap.size w a' len L) :
    Calls Tryz.prog 20 #[.slice a len cap, .slice a' len cap'] w fun e w' => e = .returned (.bool true) ∧ Below w.heap.size w w' := by
  have S : Hid (SliceN w.heap.size w a len L) := hS
  have S' : Hid (SliceN w.heap.size w a' len L) := hS'
  have hlen := hS.1
  unfold maxLen at hlen
  clear hS hS'
  go_enter Tryz.func20, Tryz.ntmps20
  go_wp2
  go_loopw [5] (fun c wr => ∃ k : Nat, k ≤ len ∧ c = .int .i64 k ∧ Hid (Below w.heap.size w wr)) (fun c _ => len - (intOf c).toNat)
  case atStart => exact ⟨0, Nat.zero_le _, rfl, Below.refl _ _⟩
  case round =>
    obtain ⟨k, hk, rfl, hB⟩ := hrel
    by_cases hlt : k < len
    · obtain ⟨kb, o, x, rfl, hkb, hx, d0⟩ := (S.out.keep hB.out).at hlt
      obtain ⟨kb', o', x', rfl, hkb', hx', d1⟩ := (S'.out.keep hB.out).at hlt
      obtain rfl : x = x' := by rw [hx] at hx'; exact Option.some.inj hx'
      have hxx : (x != x) = false := by simp
      have D0 : Hid (Below w.heap.size w wr.drew) := hB.out.drew
      clear hx hx'
      go_wp2_with fail
      go_region
      all_goals
        go_wp2
        go_roundw
        case rel => exact ⟨k + 1, hlt, by go_num, D0.out⟩
        case measure => simp [intOf]; omega
    · go_wp2
      go_ret
      exact ⟨rfl, hB.out⟩


theorem OutN.ofBlock {w w' : World} {q n k : Nat} {L : List Int} (h : OutN w q n k L) (hs : w.heap.size ≤ w'.heap.size) (e : w'.heap[q]? = w.heap[q]?) : OutN w' q n k L :=
  ⟨Nat.lt_of_lt_of_le h.lt hs, fun i hi => by rw [World.cell?_of_block (w := w) (w' := w') (a := ⟨q, i, none⟩) e]; exact h.has i hi, fun i hi => by rw [World.frozen?_of_block (w := w) (w' := w') (a := ⟨q, i, none⟩) e]; exact h.fr i hi, fun j x hj hx => (World.cell?_of_block (w := w) (w' := w') (a := ⟨q, j, none⟩) e).trans (h.wd j x hj hx)⟩
theorem SliceN.ofBlocks {B : Nat} {w w' : World} {a : Option Addr} {n : Nat} {L : List Int} (h : SliceN B w a n L) (hlt : B ≤ w.heap.size) (hb : ∀ k, k < w.heap.size → k < B → w'.heap[k]? = w.heap[k]?) : SliceN B w' a n L := by
  refine ⟨h.1, h.2.1, ?_⟩
  rcases h.2.2 with h0 | ⟨k, o, ha, hk, hc⟩
  · exact .inl h0
  · exact .inr ⟨k, o, ha, hk, fun j x hj => (World.cell?_of_block (hb k (Nat.lt_of_lt_of_le hk hlt) hk)).trans (hc j x hj)⟩
/-- A list of ints in a block of its own, which may be written. -/
def intF (q n : Nat) (L : List Int) : Fct where
  S := fun k => k = q
  p := fun w => OutN w q n n L ∧ L.length = n
  keep := fun _ _ h hs hb => ⟨h.1.ofBlock hs (hb q h.1.lt rfl), h.2⟩
/-- A list of ints that came in. -/
def sinF (B : Nat) (a : Option Addr) (n : Nat) (L : List Int) : Fct where
  S := fun k => k < B
  p := fun w => SliceN B w a n L ∧ B ≤ w.heap.size
  keep := fun _ _ h hs hb => ⟨h.1.ofBlocks h.2 hb, Nat.le_trans h.2 hs⟩
theorem Hold.sin {w0 w : World} {fs : List Fct} (h : Hold w0 w fs) {B : Nat} {a : Option Addr} {n : Nat} {L : List Int} (hm : sinF B a n L ∈ fs) : SliceN w.heap.size w a n L := by
  have g : SliceN B w a n L ∧ B ≤ w.heap.size := h.at hm
  exact g.1.mono g.2
theorem Hold.isl {w0 w : World} {fs : List Fct} (h : Hold w0 w fs) {q n : Nat} {L : List Int} (hm : intF q n L ∈ fs) (hn : n ≤ 1048576) : SliceN w.heap.size w (some ⟨q, 0, none⟩) n L := by
  have g : OutN w q n n L ∧ L.length = n := h.at hm
  exact g.1.slice g.2 (by unfold maxLen; omega)

/-- Marks from k0 on. -/
def marksN (k0 : Int) (len : Nat) : List Int := (List.range len).map fun j : Nat => k0 + (j : Int)
theorem marksN_at {len k : Nat} {k0 : Int} (h : k < len) : (marksN k0 len)[k]? = some (k0 + (k : Int)) := by simp [marksN, h]
theorem marksN_len (k0 : Int) (len : Nat) : (marksN k0 len).length = len := by simp [marksN]
set_option maxRecDepth 100000 in
set_option maxHeartbeats 2000000 in
theorem markN_own (q len cap : Nat) (L : List Int) (k0 : Int) (h0 : 1 ≤ k0) (h1 : k0 ≤ 33554432) (w : World) (hl : len ≤ 1048576) (h : (intF q len L).p w) :
    Calls Tryz.prog 21 #[.slice (some ⟨q, 0, none⟩) len cap, .int .i64 k0] w fun e w' => e = .returned (.int .i64 (k0 + (len : Int))) ∧ (intF q len (marksN k0 len)).p w' ∧ KeepBut q w w' := by
  obtain ⟨h, _⟩ := h
  have O0 : Hid (OutN w q len 0 (marksN k0 len)) := ⟨h.lt, h.has, h.fr, fun j _ hj => absurd hj (Nat.not_lt_zero _)⟩
  clear h
  go_enter Tryz.func21, Tryz.ntmps21
  go_wp2
  go_loopw [1, 5] (fun kk c wr => ∃ k : Nat, k ≤ len ∧ kk = .int .i64 (k0 + (k : Int)) ∧ c = .int .i64 (k : Int) ∧ Hid (OutN wr q len k (marksN k0 len)) ∧ Hid (KeepBut q w wr)) (fun _ c _ => len - (intOf c).toNat)
  case atStart => exact ⟨0, Nat.zero_le _, by simp, rfl, O0.out, KeepBut.refl _ _⟩
  case round =>
    clear O0
    obtain ⟨k, hk, rfl, rfl, O, K⟩ := hrel
    by_cases hlt : k < len
    · obtain ⟨m, hm⟩ : ∃ m : Int, m = k0 + (k : Int) := ⟨_, rfl⟩
      have MX := hid_mk (marksN_at (k0 := k0) hlt)
      rw [← hm] at MX ⊢
      have hm0 : 0 ≤ m := by omega
      have hm1 : m ≤ 67108864 := by omega
      have HM := hid_mk hm
      clear hm
      obtain ⟨v0, e0⟩ := Option.isSome_iff_exists.1 (O.out.has k hlt)
      have f0 := O.out.fr k hlt
      have O2 := hid_mk (O.out.set hlt MX.out)
      have K2 : Hid (KeepBut q w (wr.setCell ⟨q, k, none⟩ (.int .i64 m))) := K.out.setCell k _
      go_wp2
      go_roundw
      case rel => exact ⟨k + 1, hlt, by have := HM.out; go_num, by go_num, O2.out, K2.out⟩
      case measure => simp [intOf]; omega
    · obtain rfl : k = len := by omega
      go_wp2
      go_ret
      exact ⟨rfl, ⟨O.out, marksN_len _ _⟩, K.out⟩
end Go.Proofs.YtpkhnajhamnggaaGreatDoor
