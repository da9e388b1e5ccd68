/- l7Words of the specification at all lines: its words in a row of the call's own. No condition. -/
import Derived.Test.YtdcghcbliajcpaaDoorTxtP
namespace Go.Proofs.YtdcghcbliajcpaaDoor
open Go.ChangeShapes Go.WideShapes Go.ChangeAt Go.RowKit
set_option maxRecDepth 100000

/-- A row of texts being filled. -/
structure WO (w0 : World) (v : Value) (L : List (List UInt8)) (w : World) : Prop where
  own : w.ownsRow w0.heap.size 9 1 v L.length (strs L)
  bel : Below w0.heap.size w0 w
theorem WO.new (w : World) : WO w (.slice (some ⟨w.heap.size, 0, none⟩) 0 0) [] (w.alloc (.cells #[] 9)) :=
  ⟨World.ownsRow_made w #[] 0 (Nat.le_refl _) (Nat.zero_le _) rfl, (Below.refl _ _).alloc (Nat.le_refl _) _⟩
theorem WO.alloc {w0 w : World} {v : Value} {L : List (List UInt8)} (h : WO w0 v L w) (o : Obj) : WO w0 v L (w.alloc o) := ⟨h.own.alloc o, h.bel.alloc h.bel.size _⟩
theorem WO.appended {w0 w w' : World} {v v' : Value} {L : List (List UInt8)} {x : List UInt8} (h : WO w0 v L w) (o : w'.ownsRow w0.heap.size 9 1 v' (L.length + 1) (strs L ++ strs [x])) (g : w.grownBy w' v.ownBlock) : WO w0 v' (L ++ [x]) w' := by
  have hb : Below w0.heap.size w w' := grown_belowI g h.bel.size (fun k hk => (h.own.lt k hk).1)
  refine ⟨?_, h.bel.trans hb⟩
  have e : strs (L ++ [x]) = strs L ++ strs [x] := by simp [strs]
  rw [e, List.length_append]
  exact o

/-- Where l7Words stands. -/
def WAt (l : List UInt8) (i start : Nat) (L : List (List UInt8)) : Prop :=
  (i ≤ l.length ∧ start ≤ i ∧ (32 : UInt8) ∉ (l.drop start).take (i - start) ∧ splitL 32 l = L ++ splitL 32 (l.drop start)) ∨ (i = l.length + 1 ∧ splitL 32 l = L)

set_option maxHeartbeats 8000000 in
theorem words_any (l : List UInt8) (hl : l.length ≤ 1048576) (w : World) :
    Calls Tryd.prog 45 #[.string (bs l)] w fun e w' => ∃ v, e = .returned v ∧ w'.ownsRow w.heap.size 9 1 v (splitL 32 l).length (strs (splitL 32 l)) ∧ Below w.heap.size w w' := by
  obtain ⟨Q, HQ⟩ : ∃ Q : Ending → World → Prop, Hid (∀ e w', Q e w' ↔ ∃ v, e = .returned v ∧ w'.ownsRow w.heap.size 9 1 v (splitL 32 l).length (strs (splitL 32 l)) ∧ Below w.heap.size w w') := ⟨_, fun _ _ => Iff.rfl⟩
  refine Calls.mono (R := Q) ?_ (fun e w' h => (HQ.out e w').1 h)
  obtain ⟨i0, hi, hz0, hz1, hz2⟩ := info_parts infoS
  have HI := hid_mk hi
  have HZ0 := hid_mk hz0
  have HZ1 := hid_mk hz1
  have HZ2 := hid_mk hz2
  clear hi hz0 hz1 hz2
  have hbl := bs_size l
  have C0 := hid_mk (splitL_length 32 l)
  go_enter Tryd.func45, Tryd.ntmps45
  go_wp2
  have I0 := hid_mk (WO.new w)
  generalize w.alloc (.cells #[] 9) = w1 at I0
  go_loopw [3, 4, 5] (fun v st ii wr => ∃ (i start : Nat) (L : List (List UInt8)), i ≤ l.length + 1 ∧ start ≤ i ∧ L.length ≤ i ∧ st = .int .i64 (start : Int) ∧ ii = .int .i64 (i : Int) ∧ Hid (WAt l i start L) ∧ Hid (WO w v L wr)) (fun _ _ ii _ => l.length + 1 - (intOf ii).toNat)
  case atStart => exact ⟨0, 0, [], Nat.zero_le _, Nat.le_refl _, Nat.le_refl _, rfl, rfl, .inl ⟨Nat.zero_le _, Nat.le_refl _, by simp, by simp⟩, I0.out⟩
  case round =>
    clear I0
    obtain ⟨i, start, L, h1, h2, h3, rfl, rfl, A, I⟩ := hrel
    by_cases hi : i ≤ l.length
    · have A1 : Hid ((32 : UInt8) ∉ (l.drop start).take (i - start) ∧ splitL 32 l = L ++ splitL 32 (l.drop start)) := by
        rcases A.out with h | h
        · exact h.2.2
        · omega
      clear A
      have hii : (i : Int) ≤ (l.length : Int) := by omega
      have hsi : (start : Int) ≤ (i : Int) := by omega
      have hx : (bs l).extract start i = bs ((l.drop start).take (i - start)) := bs_extract l start i
      have hmi : (i : Int) ≤ 1048576 := by omega
      by_cases he : i = l.length ∨ l.getD i 0 = 32
      · have A2 : Hid (WAt l (i + 1) (i + 1) (L ++ [(l.drop start).take (i - start)])) := by
          by_cases hlt : i < l.length
          · refine .inl ⟨hlt, Nat.le_refl _, by simp, ?_⟩
            rw [A1.out.2, cut_at h2 hlt (by rcases he with h | h; exact absurd h (by omega); exact h) A1.out.1]
            exact (List.append_assoc L [_] _).symm
          · obtain rfl : i = l.length := by omega
            refine .inr ⟨rfl, ?_⟩
            rw [A1.out.2, cut_end A1.out.1, List.take_of_length_le (by rw [List.length_drop]; omega)]
        generalize (l.drop start).take (i - start) = x at hx A2
        obtain ⟨w2, hw2⟩ : ∃ w2 : World, w2 = wr := ⟨_, rfl⟩
        rw [← hw2] at I ⊢
        clear hw2
        have la := hid_mk (I.out.alloc (.cells #[.string (bs x)] 9))
        by_cases hlt : i < l.length
        · have hge : l.getD i 0 = 32 := by rcases he with h | h; exact absurd h (by omega); exact h
          have hg : ∀ h : i < (bs l).size, (bs l)[i]'h = 32 := fun h => by rw [bs_at l i hlt h, hge]
          have hcmp : ((i : Int) == (l.length : Int)) = false := by simp; omega
          have hlti : (i : Int) < (l.length : Int) := by omega
          clear he
          go_wp2_with (first
            | (at_builtin; refine wpList_append_own _ rfl _ _ 52 rfl w.heap.size 9 i0 _ 1 16 Tryd.underlying52 HI.out HZ0.out HZ1.out HZ2.out rfl (by decide) _ _ _ rfl la.out.own ⟨w2.heap.size, 0, none⟩ 1 1 (strs [x]) rfl rfl ?c1 (strs_one _) ?c3 ?c4 ?c5 ?_))
          case c1 => exact fun j u hj => new_cells _ _ _ j u hj
          case c3 => unfold maxLen; omega
          case c4 => omega
          case c5 => (have := I.out.bel.size; simp; omega)
          intro v' w5 own5 grow5 _
          have l9 := hid_mk (la.out.appended own5 grow5)
          clear own5 grow5 la hx
          go_wp2
          go_roundw
          case rel => exact ⟨i + 1, i + 1, L ++ [x], by omega, Nat.le_refl _, by simp; omega, by go_num, by go_num, A2.out, l9.out⟩
          case measure => (simp [intOf]; omega)
        · have hcmp : ((i : Int) == (l.length : Int)) = true := by simp; omega
          clear he
          go_wp2_with (first
            | (at_builtin; refine wpList_append_own _ rfl _ _ 52 rfl w.heap.size 9 i0 _ 1 16 Tryd.underlying52 HI.out HZ0.out HZ1.out HZ2.out rfl (by decide) _ _ _ rfl la.out.own ⟨w2.heap.size, 0, none⟩ 1 1 (strs [x]) rfl rfl ?c1 (strs_one _) ?c3 ?c4 ?c5 ?_))
          case c1 => exact fun j u hj => new_cells _ _ _ j u hj
          case c3 => unfold maxLen; omega
          case c4 => omega
          case c5 => (have := I.out.bel.size; simp; omega)
          intro v' w5 own5 grow5 _
          have l9 := hid_mk (la.out.appended own5 grow5)
          clear own5 grow5 la hx
          go_wp2
          go_roundw
          case rel => exact ⟨i + 1, i + 1, L ++ [x], by omega, Nat.le_refl _, by simp; omega, by go_num, by go_num, A2.out, l9.out⟩
          case measure => (simp [intOf]; omega)
      · have hne : ¬ i = l.length := fun h => he (.inl h)
        have hlt : i < l.length := by omega
        obtain ⟨c, hc⟩ : ∃ c, l.getD i 0 = c := ⟨_, rfl⟩
        have hcn : c ≠ 32 := fun h => he (.inr (hc.trans h))
        have hg : ∀ h : i < (bs l).size, (bs l)[i]'h = c := fun h => by rw [bs_at l i hlt h, hc]
        have hcmp : ((i : Int) == (l.length : Int)) = false := by simp; omega
        have hlti : (i : Int) < (l.length : Int) := by omega
        have hcb : ((c.toNat : Int) == 32) = false := by
          have : c.toNat ≠ 32 := fun h => hcn (UInt8.toNat_inj.1 h)
          simp; omega
        have A2 : Hid (WAt l (i + 1) start L) := .inl ⟨hlt, by omega, not_mem_take A1.out.1 h2 (by omega) (fun j h1 h2 => by
          obtain rfl : j = i := by omega
          rw [hc]; exact hcn), A1.out.2⟩
        clear he hc hcn hx
        go_wp2
        go_roundw
        case rel => exact ⟨i + 1, start, L, by omega, by omega, by omega, rfl, by go_num, A2.out, I.out⟩
        case measure => (simp [intOf]; omega)
    · obtain rfl : i = l.length + 1 := by omega
      have hs : splitL 32 l = L := by
        rcases A.out with h | h
        · omega
        · exact h.2
      have hq : Q (.returned u3) wr := (HQ.out _ _).2 ⟨u3, rfl, by rw [hs]; exact I.out.own, I.out.bel⟩
      go_wp2
      exact hq
end Go.Proofs.YtdcghcbliajcpaaDoor
