/- Lists of places in blocks, as facts over what turns; a list that toInsS makes lies in new memory; markInsS writes it alone. No condition. -/
import Derived.Test.YtpkhnajhamnggaaGreatDoorStC
import Derived.Test.YtpkhnajhamnggaaGreatDoorZI
namespace Go.Proofs.YtpkhnajhamnggaaGreatDoor
open Go.ChangeShapes Go.WideShapes Go.ChangeAt Go.RowKit
set_option maxRecDepth 100000

theorem OutI.ofBlock {w w' : World} {q n k : Nat} {L : List In} (h : OutI w q n k L) (hs : w.heap.size ≤ w'.heap.size) (e : w'.heap[q]? = w.heap[q]?) : OutI w' q n k L :=
  ⟨Nat.lt_of_lt_of_le h.lt hs, fun i hi => by rw [World.cell?_of_block (w := w) (w' := w') (a := ⟨q, i, none⟩) e]; exact h.has i hi, fun i hi => by rw [World.frozen?_of_block (w := w) (w' := w') (a := ⟨q, i, none⟩) e]; exact h.fr i hi, fun j x hj hx => by
    refine InsAt.of_vs fun m v hm => ?_
    exact (World.cell?_of_block (w := w) (w' := w') (a := ⟨q, j * 5 + m, none⟩) e).trans ((h.wd j x hj hx).vs m v hm)⟩
theorem SliceI.ofBlocks {B : Nat} {w w' : World} {a : Option Addr} {n : Nat} {L : List In} (h : SliceI B w a n L) (hlt : B ≤ w.heap.size) (hb : ∀ k, k < w.heap.size → k < B → w'.heap[k]? = w.heap[k]?) : SliceI B w' a n L := by
  refine ⟨h.1, h.2.1, ?_⟩
  rcases h.2.2 with h0 | ⟨k, o, ha, hk, hc⟩
  · exact .inl h0
  · refine .inr ⟨k, o, ha, hk, fun j x hj => InsAt.of_vs fun m v hm => ?_⟩
    exact (World.cell?_of_block (hb k (Nat.lt_of_lt_of_le hk hlt) hk)).trans ((hc j x hj).vs m v hm)
/-- A list of places in a block of its own, which may be written. -/
def lstF (q n : Nat) (L : List In) : Fct where
  S := fun k => k = q
  p := fun w => OutI w q n n L ∧ L.length = n
  keep := fun _ _ h hs hb => ⟨h.1.ofBlock hs (hb q h.1.lt rfl), h.2⟩
/-- A list of places that came in. -/
def sliF (B : Nat) (a : Option Addr) (n : Nat) (L : List In) : Fct where
  S := fun k => k < B
  p := fun w => SliceI B w a n L ∧ B ≤ w.heap.size
  keep := fun _ _ h hs hb => ⟨h.1.ofBlocks h.2 hb, Nat.le_trans h.2 hs⟩
theorem Hold.sli {w0 w : World} {fs : List Fct} (h : Hold w0 w fs) {B : Nat} {a : Option Addr} {n : Nat} {L : List In} (hm : sliF B a n L ∈ fs) : SliceI w.heap.size w a n L := by
  have g : SliceI B w a n L ∧ B ≤ w.heap.size := h.at hm
  exact g.1.mono g.2
theorem Hold.lst {w0 w : World} {fs : List Fct} (h : Hold w0 w fs) {q n : Nat} {L : List In} (hm : lstF q n L ∈ fs) : OutI w q n n L ∧ L.length = n := h.at hm
theorem Hold.lsl {w0 w : World} {fs : List Fct} (h : Hold w0 w fs) {q n : Nat} {L : List In} (hm : lstF q n L ∈ fs) (hn : n ≤ 1048576) : SliceI w.heap.size w (some ⟨q, 0, none⟩) n L := by
  have g : OutI w q n n L ∧ L.length = n := h.at hm
  exact g.1.slice g.2 (by unfold maxLen; omega)

set_option maxHeartbeats 2000000 in
theorem toInsS_own (a : Option Addr) (len cap : Nat) (L : List In) (w : World) (hl : len ≤ 1048576) (hS : SliceI w.heap.size w a len L) :
    Calls Tryz.prog 9 #[.slice a len cap] w fun e w' => ∃ q, e = .returned (.slice (some ⟨q, 0, none⟩) len len) ∧ (lstF q len L).p w' ∧ w.heap.size ≤ q ∧ Below w.heap.size w w' := by
  have S : Hid (SliceI w.heap.size w a len L) := hS
  have hmk := run_makeInss len hl
  have hL := hid_mk hS.2.1
  clear hS
  go_enter Tryz.func9, Tryz.ntmps9
  go_wp2
  go_loopw [4] (fun c wr => ∃ k : Nat, k ≤ len ∧ c = .int .i64 k ∧ Hid (OutI wr w.heap.size len k L) ∧ Hid (Below w.heap.size w wr)) (fun c _ => len - (intOf c).toNat)
  case atStart => exact ⟨0, Nat.zero_le _, rfl, made_outI _ _ _ _ _, (Below.refl _ _).alloc (Nat.le_refl _) _⟩
  case round =>
    clear hmk
    obtain ⟨k, hk, rfl, hO, hB⟩ := hrel
    by_cases hlt : k < len
    · obtain ⟨kb, o, x, rfl, hkb, hx, hat⟩ := (S.out.keep hB.out).at hlt
      have zB := hB.out.size
      have hX' : Hid _ := hx
      obtain ⟨d0, d1, d2, d3, d4⟩ := hat
      clear hx
      go_wp2_with fail
      refine (toIns_any x.o x.r x.a x.b x.n _).mono ?_
      rintro e w1 ⟨rfl, hb1⟩
      have O1 : Hid (OutI w1 w.heap.size len k L) := hO.out.below hb1
      have K1 : Hid (Below w.heap.size w w1) := hB.out.trans (hb1.mono zB)
      clear hb1 d0 d1 d2 d3 d4
      obtain ⟨v0, e0⟩ := Option.isSome_iff_exists.1 (O1.out.has (k * 5) (by omega))
      obtain ⟨v1, e1⟩ := Option.isSome_iff_exists.1 (O1.out.has (k * 5 + 1) (by omega))
      obtain ⟨v2, e2⟩ := Option.isSome_iff_exists.1 (O1.out.has (k * 5 + 2) (by omega))
      obtain ⟨v3, e3⟩ := Option.isSome_iff_exists.1 (O1.out.has (k * 5 + 3) (by omega))
      obtain ⟨v4, e4⟩ := Option.isSome_iff_exists.1 (O1.out.has (k * 5 + 4) (by omega))
      have f0 := O1.out.fr (k * 5) (by omega)
      have f1 := O1.out.fr (k * 5 + 1) (by omega)
      have f2 := O1.out.fr (k * 5 + 2) (by omega)
      have f3 := O1.out.fr (k * 5 + 3) (by omega)
      have f4 := O1.out.fr (k * 5 + 4) (by omega)
      go_wp2
      go_roundw
      case rel =>
        refine ⟨k + 1, hlt, by go_num, O1.out.set hlt hX'.out, hid_mk ?_⟩
        repeat' (first | (with_reducible exact K1.out) | (refine Below.setCell ?_ (by show w.heap.size ≤ w.heap.size; exact Nat.le_refl _) _))
      case measure => simp [intOf]; omega
    · obtain rfl : k = len := by omega
      go_wp2
      go_ret
      exact ⟨_, rfl, ⟨hO.out, hL.out⟩, Nat.le_refl _, hB.out⟩

/-- The place that is marked from m on. -/
def markI (m : Int) : In := ⟨m, m + 1, m + 1 + 1, m + 1 + 1 + 1, m + 1 + 1 + 1 + 1⟩
/-- The marks of a list. -/
def marksI (len : Nat) : List In := (List.range len).map fun j : Nat => markI (1 + 5 * (j : Int))
theorem marksI_at {len k : Nat} (h : k < len) : (marksI len)[k]? = some (markI (1 + 5 * (k : Int))) := by simp [marksI, h]
theorem marksI_len (len : Nat) : (marksI len).length = len := by simp [marksI]
set_option maxHeartbeats 4000000 in
theorem markI_own (q len cap : Nat) (L : List In) (w : World) (hl : len ≤ 1048576) (h : (lstF q len L).p w) :
    Calls Tryz.prog 14 #[.slice (some ⟨q, 0, none⟩) len cap, .int .i64 1] w fun e w' => e = .returned (.int .i64 (1 + 5 * (len : Int))) ∧ (lstF q len (marksI len)).p w' ∧ KeepBut q w w' := by
  obtain ⟨h, _⟩ := h
  have O0 : Hid (OutI w q len 0 (marksI len)) := ⟨h.lt, h.has, h.fr, fun j _ hj => absurd hj (Nat.not_lt_zero _)⟩
  clear h
  go_enter Tryz.func14, Tryz.ntmps14
  go_wp2
  go_loopw [1, 5] (fun kk c wr => ∃ k : Nat, k ≤ len ∧ kk = .int .i64 (1 + 5 * (k : Int)) ∧ c = .int .i64 (k : Int) ∧ Hid (OutI wr q len k (marksI len)) ∧ Hid (KeepBut q w wr)) (fun _ c _ => len - (intOf c).toNat)
  case atStart => exact ⟨0, Nat.zero_le _, rfl, rfl, O0.out, KeepBut.refl _ _⟩
  case round =>
    clear O0
    obtain ⟨k, hk, rfl, rfl, O, K⟩ := hrel
    by_cases hlt : k < len
    · obtain ⟨m, hm⟩ : ∃ m : Int, m = 1 + 5 * (k : Int) := ⟨_, rfl⟩
      have MX := hid_mk (marksI_at hlt)
      rw [← hm] at MX ⊢
      have hm0 : 0 ≤ m := by omega
      have hm1 : m ≤ 5242881 := by omega
      have HM := hid_mk hm
      clear hm
      obtain ⟨v0, e0⟩ := Option.isSome_iff_exists.1 (O.out.has (k * 5) (by omega))
      obtain ⟨v1, e1⟩ := Option.isSome_iff_exists.1 (O.out.has (k * 5 + 1) (by omega))
      obtain ⟨v2, e2⟩ := Option.isSome_iff_exists.1 (O.out.has (k * 5 + 2) (by omega))
      obtain ⟨v3, e3⟩ := Option.isSome_iff_exists.1 (O.out.has (k * 5 + 3) (by omega))
      obtain ⟨v4, e4⟩ := Option.isSome_iff_exists.1 (O.out.has (k * 5 + 4) (by omega))
      have f0 := O.out.fr (k * 5) (by omega)
      have f1 := O.out.fr (k * 5 + 1) (by omega)
      have f2 := O.out.fr (k * 5 + 2) (by omega)
      have f3 := O.out.fr (k * 5 + 3) (by omega)
      have f4 := O.out.fr (k * 5 + 4) (by omega)
      have O2 := hid_mk (O.out.set hlt MX.out)
      have K2 : Hid (KeepBut q w (wr.setCells q (k * 5) (markI m).vs)) := K.out.trans ((((((KeepBut.refl q wr).setCell (k * 5) _).setCell (k * 5 + 1) _).setCell (k * 5 + 2) _).setCell (k * 5 + 3) _).setCell (k * 5 + 4) _)
      go_wp2
      go_roundw
      case rel => exact ⟨k + 1, hlt, by have := HM.out; go_num, by go_num, O2.out, K2.out⟩
      case measure => simp [intOf]; omega
    · obtain rfl : k = len := by omega
      go_wp2
      go_ret
      exact ⟨rfl, ⟨O.out, marksI_len _⟩, K.out⟩
end Go.Proofs.YtpkhnajhamnggaaGreatDoor
