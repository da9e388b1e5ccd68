/- Rows of ints that a call owns; GuessOk of both sides; unlearntUpTo and learntIn of the program. No condition but that the list is no longer than the law lets it be, and of ints. -/
import Derived.Test.YtcokcfgagbahbaaIntS
import Derived.Test.YtcokcfgagbahbaaGesM
import Derived.Maps.RangeWalk
import Derived.Maps.AppendAt
import Derived.OwnWalk
namespace Go.Proofs.Ytcokcfgagbahbaa
open Go.ChangeShapes Go.WideShapes Go.ChangeAt Go.RowKit Go.Maps
set_option maxRecDepth 100000

theorem lawI : Keyed Try.prog 3 := int_keyed Try.underlying3

def lnV : Value → Nat
  | .slice _ n _ => n
  | _ => 0

/-- Ints as values. -/
def ixs (L : List Int) : List Value := L.map (Value.int .i64)
theorem ixs_len (L : List Int) : (ixs L).length = L.length := by simp [ixs]
theorem ixs_one (L : List Int) : ∀ u ∈ ixs L, u.oneCell' = true := by
  intro u hu
  obtain ⟨x, _, rfl⟩ := List.mem_map.1 hu
  rfl
theorem ixs_app (L M : List Int) : ixs (L ++ M) = ixs L ++ ixs M := by simp [ixs]
theorem ixs_at {L : List Int} {j : Nat} {u : Value} (h : (ixs L)[j]? = some u) : ∃ x, L[j]? = some x ∧ u = .int .i64 x := by
  simp only [ixs, List.getElem?_map, Option.map_eq_some_iff] at h
  obtain ⟨x, hx, rfl⟩ := h
  exact ⟨x, hx, rfl⟩
theorem ixs_get {L : List Int} {j : Nat} {x : Int} (h : L[j]? = some x) : (ixs L)[j]? = some (.int .i64 x) := by simp [ixs, h]
theorem own_outN {w : World} {base g n cap : Nat} {L : List Int} (h : w.ownsRow base 3 1 (.slice (some ⟨g, 0, none⟩) n cap) n (ixs L)) (hl : L.length = n) : OutN w g n n L := by
  rcases h.2 with ⟨hv, _⟩ | ⟨g', cap', cur, hv, hb, hg, hn, hm, hs, ht⟩
  · cases hv
  · cases hv
    have hc : ∀ j x, L[j]? = some x → w.cell? ⟨g, j, none⟩ = some (.int .i64 x) := fun j x hj => by
      have := h.cells (g := g) rfl j (.int .i64 x) (ixs_get hj)
      rwa [Go.WideShapes.add_plain, Nat.zero_add] at this
    refine ⟨(Array.getElem?_eq_some_iff.1 hg).1, fun i hi => ?_, fun i _ => by simp [World.frozen?, hg], fun j x _ hx => hc j x hx⟩
    have hi' : i < L.length := by omega
    rw [hc i _ (List.getElem?_eq_getElem hi')]
    rfl
theorem own_lt {w : World} {base g n m cap : Nat} {T : TypeId} {s : Nat} {xs : List Value} (h : w.ownsRow base T s (.slice (some ⟨g, 0, none⟩) n cap) m xs) : g < w.heap.size := by
  rcases h.2 with ⟨hv, _⟩ | ⟨g', cap', cur, hv, hb, hg, _⟩
  · cases hv
  · cases hv
    exact (Array.getElem?_eq_some_iff.1 hg).1

def gokB (L : List Int) : Bool := L.all (fun x => decide (-1 ≤ x ∧ x ≤ 65535)) && decide (L.length = 48)
theorem all_none {L : List Int} {p : Int → Bool} {k : Nat} {x : Int} (h : L[k]? = some x) (hp : p x = false) : L.all p = false := by
  rw [List.all_eq_false]
  exact ⟨x, List.mem_of_getElem? h, by simp [hp]⟩
theorem all_here {L : List Int} {p : Int → Bool} (h : ∀ j x, j < L.length → L[j]? = some x → p x = true) : L.all p = true := by
  rw [List.all_eq_true]
  intro x hx
  obtain ⟨j, hj⟩ := List.getElem?_of_mem hx
  exact h j x (List.getElem?_eq_some_iff.1 hj).1 hj

set_option maxHeartbeats 2000000 in
theorem implGuessOk_any (a : Option Addr) (len cap : Nat) (L : List Int) (w : World) (hS : SliceN w.heap.size w a len L) :
    Calls Try.prog 13 #[.slice a len cap] w fun e w' => e = .returned (.bool (gokB L)) ∧ Below w.heap.size w w' := by
  have S : Hid (SliceN w.heap.size w a len L) := hS
  have hL := hid_mk hS.2.1
  have hlen := hS.1
  unfold maxLen at hlen
  clear hS
  obtain ⟨z, hz⟩ : ∃ z, Hid (gokB L = z) := ⟨_, rfl⟩
  rw [hz.out]
  by_cases h48 : len = 48
  · subst h48
    go_enter Try.func13, Try.ntmps13
    go_wp2
    go_loopw [10] (fun c wr => ∃ k : Nat, k ≤ 48 ∧ c = .int .i64 k ∧ Hid (∀ j x, j < k → L[j]? = some x → decide (-1 ≤ x ∧ x ≤ 65535) = true) ∧ Hid (Below w.heap.size w wr)) (fun c _ => 48 - (RowKit.intOf c).toNat)
    case atStart => exact ⟨0, Nat.zero_le _, rfl, fun j x hj => absurd hj (Nat.not_lt_zero _), Below.refl _ _⟩
    case round =>
      obtain ⟨k, hk, rfl, A, B⟩ := hrel
      by_cases hlt : k < 48
      · obtain ⟨kb, o, x, rfl, hkb, hx, d0⟩ := (S.out.keep B.out).at hlt
        have HX := hid_mk hx
        clear hx
        by_cases hx : -1 ≤ x ∧ x ≤ 65535
        · obtain ⟨hx1, hx2⟩ := hx
          have hd1 : (decide (x < -1)) = false := by simp; omega
          have hd2 : (decide (65536 ≤ x)) = false := by simp; omega
          go_wp2
          go_roundw
          case rel =>
            refine ⟨k + 1, hlt, by go_num, fun j y hj hy => ?_, B.out⟩
            by_cases e : j = k
            · subst e
              rw [HX.out] at hy
              cases hy
              simp only [decide_eq_true_eq]
              omega
            · exact A.out j y (by omega) hy
          case measure => simp [RowKit.intOf]; omega
        · obtain rfl : z = false := by
            rw [← hz.out]
            unfold gokB
            rw [all_none HX.out (by simp only [decide_eq_false_iff_not]; exact hx)]
            rfl
          by_cases h1 : x < -1
          · go_wp2
            go_ret
            exact ⟨rfl, B.out⟩
          · have h2 : 65536 ≤ x := by omega
            go_wp2
            go_ret
            exact ⟨rfl, B.out⟩
      · obtain rfl : k = 48 := by omega
        obtain rfl : z = true := by
          rw [← hz.out]
          unfold gokB
          rw [all_here (fun j x hj hx => A.out j x (by rw [hL.out] at hj; exact hj) hx)]
          simp [hL.out]
        go_wp2
        go_ret
        exact ⟨rfl, B.out⟩
  · obtain rfl : z = false := by
      rw [← hz.out]
      unfold gokB
      simp [hL.out, h48]
    have hne : ((len : Int) != 48) = true := by simp; omega
    go_enter Try.func13, Try.ntmps13
    go_wp2
    go_ret
    exact ⟨rfl, Below.refl _ _⟩

/-- The list may be lengthened by what is not learnt, as far as it has room. -/
structure RoomN (w : World) (g n cap : Nat) (L : List Int) : Prop where
  own : w.ownsRow 0 3 1 (.slice (some ⟨g, 0, none⟩) n cap) n (ixs L)
theorem RoomN.lt {w : World} {g n cap : Nat} {L : List Int} (h : RoomN w g n cap L) : g < w.heap.size := own_lt h.own
theorem RoomN.kept {w w' : World} {g n cap : Nat} {L : List Int} {row : Option Nat} (h : RoomN w g n cap L) (hg : w.grownBy w' row) (hne : some g ≠ row) : RoomN w' g n cap L := ⟨h.own.kept hg (.inr hne)⟩
theorem RoomN.below {w w' : World} {g n cap : Nat} {L : List Int} (h : RoomN w g n cap L) (hb : Below w.heap.size w w') : RoomN w' g n cap L :=
  ⟨h.own.kept (row := none) ⟨hb.os, hb.tape, hb.output, hb.size, fun k hk _ => hb.block k hk⟩ (.inr (by simp [Value.ownBlock]))⟩
theorem RoomN.alloc {w : World} {g n cap : Nat} {L : List Int} (h : RoomN w g n cap L) (o : Obj) : RoomN (w.alloc o) g n cap L := ⟨h.own.alloc o⟩
theorem RoomN.len {w : World} {g n cap : Nat} {L : List Int} (h : RoomN w g n cap L) : L.length = n := by have := h.own.1; rw [ixs_len] at this; omega
theorem RoomN.cap {w : World} {g n cap : Nat} {L : List Int} (h : RoomN w g n cap L) : n ≤ cap := by
  rcases h.own.2 with ⟨hv, _⟩ | ⟨g', cap', cur, hv, hb, hg, hn, _⟩
  · cases hv
  · cases hv; exact hn
theorem RoomN.out {w : World} {g n cap : Nat} {L : List Int} (h : RoomN w g n cap L) : OutN w g n n L := own_outN h.own h.len

theorem wpList_appFits {ops : Array Oper} {rest : List Oper} {o : Oper} {a : Act} {w : World} {Q : Exit → Act → World → Prop} (hgd : o.guard = none) (s x : Operand)
    (ho : o.op = .call { callee := .builtin .append, args := #[s, x], argTypes := #[24, 24] })
    (g n cap : Nat) (L : List Int) (hs : a.eval s = .slice (some ⟨g, 0, none⟩) n cap) (hR : RoomN w g n cap L) (ad : Addr) (c : Nat) (y : Int) (hx : a.eval x = .slice (some ad) 1 c) (hc : w.cell? ad = some (.int .i64 y)) (hroom : n + 1 ≤ cap)
    (h : ∀ w', RoomN w' g (n + 1) cap (L ++ [y]) → w.grownBy w' (some g) → wpList Try.prog ops Q rest (a.put o.dst (.slice (some ⟨g, 0, none⟩) (n + 1) cap)) w') :
    wpList Try.prog ops Q (o :: rest) a w := by
  obtain ⟨i, hi, hz0, hz1, hz2⟩ := info_parts infoN
  refine wpList_append_fits w hgd s x _ ho 0 3 i 1 Try.underlying24 hi hz1 g n cap _ hs hR.own ad 1 c [.int .i64 y] hx rfl (fun j u hj => ?_) (fun u hu => by simp at hu; subst hu; rfl) hroom ?_
  · match j, hj with
    | 0, hj =>
      simp at hj
      subst hj
      have e : ad.add 0 = ad := by simp [Addr.add]
      rw [e]
      exact hc
  · intro w' hown hgrow
    exact h w' ⟨by rw [ixs_app]; exact hown⟩ hgrow

set_option maxHeartbeats 2000000 in
theorem unlearnt_any (g n cap p : Nat) (L : List Int) (w : World) (hn : n ≤ p) (hp : p ≤ cap) (hc : p ≤ 1048576) (hR : RoomN w g n cap L) :
    Calls Try.prog 48 #[.slice (some ⟨g, 0, none⟩) n cap, .int .i64 (p : Int)] w fun e w' => e = .returned (.slice (some ⟨g, 0, none⟩) p cap) ∧ RoomN w' g p cap (L ++ List.replicate (p - n) (-1)) ∧ w.grownBy w' (some g) := by
  have R : Hid (RoomN w g n cap L) := hR
  clear hR
  go_enter Try.func48, Try.ntmps48
  go_wp2
  go_loopw [0] (fun c wr => ∃ k : Nat, n ≤ k ∧ k ≤ p ∧ c = .slice (some ⟨g, 0, none⟩) k cap ∧ Hid (RoomN wr g k cap (L ++ List.replicate (k - n) (-1))) ∧ Hid (w.grownBy wr (some g))) (fun c _ => p - lnV c)
  case atStart => exact ⟨n, Nat.le_refl _, hn, rfl, by rw [Nat.sub_self, List.replicate_zero, List.append_nil]; exact R.out, World.grownBy.refl _ _⟩
  case round =>
    obtain ⟨k, hk0, hk, rfl, A, B⟩ := hrel
    by_cases hlt : k < p
    · go_wp2_with (at_builtin; refine wpList_appFits rfl _ _ rfl g k cap _ rfl (A.out.alloc _) ⟨wr.heap.size, 0, none⟩ 1 (-1) rfl (by simp) (by omega) ?_; intro w1 hR1 hg1)
      go_roundw
      case rel =>
        refine ⟨k + 1, by omega, hlt, rfl, ?_, ?_⟩
        · have e : L ++ List.replicate (k + 1 - n) (-1) = (L ++ List.replicate (k - n) (-1)) ++ [-1] := by
            rw [show k + 1 - n = (k - n) + 1 by omega, List.replicate_succ', List.append_assoc]
          rw [e]
          exact hR1
        · exact (B.out.andThen (World.grownBy_alloc _ _ none) (fun j hj => by cases hj)).andThen hg1 (fun j hj => .inr hj)
      case measure => simp [lnV]; omega
    · obtain rfl : k = p := by omega
      go_wp2
      go_ret
      exact ⟨rfl, A.out, B.out⟩
end Go.Proofs.Ytcokcfgagbahbaa
