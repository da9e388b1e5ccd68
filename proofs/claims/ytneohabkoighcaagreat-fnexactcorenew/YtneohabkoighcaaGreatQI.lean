/- Rows of ints that a call owns; GuessOk of both sides; unlearntUpTo and learntIn of the program. No condition but that the list is no longer than the law lets it be, and of ints. · The map that learntIn makes; the keys of a map, sorted, by the library's contracts; the list that told makes of a map. No condition but that there are no more places than a list of the laws may have. · The keys of a map, sorted, by the library's contracts; the list that told makes of a map. No condition but that there are no more places than a list of the laws may have. · The list that told makes of a map. No condition but that there are no more places than a list of the laws may have. · The list that told makes of no map; GuessNew, Learn and Guess of the program. No condition but that there are no more places than a list of the laws may have, and that the numbers are ints. · GuessNew of the specification; append of ints to a row that is not nil. No condition. -/
import Derived.Test.YtneohabkoighcaaGreatQC
import Derived.Test.YtneohabkoighcaaGreatGesM
import Derived.Maps.RangeWalk
import Derived.Maps.AppendAt
import Derived.OwnWalk
import Derived.Test.YtneohabkoighcaaGreatLaysg
import Derived.Test.YtneohabkoighcaaGreatQD
import Derived.RangeFuncRecord
namespace Go.Proofs.YtneohabkoighcaaGreat
open Go.ChangeShapes Go.WideShapes Go.ChangeAt Go.RowKit Go.Maps
set_option maxRecDepth 100000

theorem lawI : Keyed Tryz.prog 3 := int_keyed Tryz.underlying3

def lnV : Value → Nat
  | .slice _ n _ => n
  | _ => 0

/-- Ints as values. -/
def ixs (L : List Int) : List Value := L.map (Value.int .i64)
theorem ixs_len (L : List Int) : (ixs L).length = L.length := by simp [ixs]
theorem ixs_one (L : List Int) : ∀ u ∈ ixs L, u.oneCell' = true := by
  intro u hu
  obtain ⟨x, _, rfl⟩ := List.mem_map.1 hu
  rfl
theorem ixs_app (L M : List Int) : ixs (L ++ M) = ixs L ++ ixs M := by simp [ixs]
theorem ixs_at {L : List Int} {j : Nat} {u : Value} (h : (ixs L)[j]? = some u) : ∃ x, L[j]? = some x ∧ u = .int .i64 x := by
  simp only [ixs, List.getElem?_map, Option.map_eq_some_iff] at h
  obtain ⟨x, hx, rfl⟩ := h
  exact ⟨x, hx, rfl⟩
theorem ixs_get {L : List Int} {j : Nat} {x : Int} (h : L[j]? = some x) : (ixs L)[j]? = some (.int .i64 x) := by simp [ixs, h]
theorem own_outN {w : World} {base g n cap : Nat} {L : List Int} (h : w.ownsRow base 3 1 (.slice (some ⟨g, 0, none⟩) n cap) n (ixs L)) (hl : L.length = n) : OutN w g n n L := by
  rcases h.2 with ⟨hv, _⟩ | ⟨g', cap', cur, hv, hb, hg, hn, hm, hs, ht⟩
  · cases hv
  · cases hv
    have hc : ∀ j x, L[j]? = some x → w.cell? ⟨g, j, none⟩ = some (.int .i64 x) := fun j x hj => by
      have := h.cells (g := g) rfl j (.int .i64 x) (ixs_get hj)
      rwa [Go.WideShapes.add_plain, Nat.zero_add] at this
    refine ⟨(Array.getElem?_eq_some_iff.1 hg).1, fun i hi => ?_, fun i _ => by simp [World.frozen?, hg], fun j x _ hx => hc j x hx⟩
    have hi' : i < L.length := by omega
    rw [hc i _ (List.getElem?_eq_getElem hi')]
    rfl
theorem own_lt {w : World} {base g n m cap : Nat} {T : TypeId} {s : Nat} {xs : List Value} (h : w.ownsRow base T s (.slice (some ⟨g, 0, none⟩) n cap) m xs) : g < w.heap.size := by
  rcases h.2 with ⟨hv, _⟩ | ⟨g', cap', cur, hv, hb, hg, _⟩
  · cases hv
  · cases hv
    exact (Array.getElem?_eq_some_iff.1 hg).1

/-- The list may be lengthened by what is not learnt, as far as it has room. -/
structure RoomN (w : World) (g n cap : Nat) (L : List Int) : Prop where
  own : w.ownsRow 0 3 1 (.slice (some ⟨g, 0, none⟩) n cap) n (ixs L)
theorem RoomN.lt {w : World} {g n cap : Nat} {L : List Int} (h : RoomN w g n cap L) : g < w.heap.size := own_lt h.own
theorem RoomN.kept {w w' : World} {g n cap : Nat} {L : List Int} {row : Option Nat} (h : RoomN w g n cap L) (hg : w.grownBy w' row) (hne : some g ≠ row) : RoomN w' g n cap L := ⟨h.own.kept hg (.inr hne)⟩
theorem RoomN.below {w w' : World} {g n cap : Nat} {L : List Int} (h : RoomN w g n cap L) (hb : Below w.heap.size w w') : RoomN w' g n cap L :=
  ⟨h.own.kept (row := none) ⟨hb.os, hb.tape, hb.output, hb.size, fun k hk _ => hb.block k hk⟩ (.inr (by simp [Value.ownBlock]))⟩
theorem RoomN.alloc {w : World} {g n cap : Nat} {L : List Int} (h : RoomN w g n cap L) (o : Obj) : RoomN (w.alloc o) g n cap L := ⟨h.own.alloc o⟩
theorem RoomN.len {w : World} {g n cap : Nat} {L : List Int} (h : RoomN w g n cap L) : L.length = n := by have := h.own.1; rw [ixs_len] at this; omega
theorem RoomN.cap {w : World} {g n cap : Nat} {L : List Int} (h : RoomN w g n cap L) : n ≤ cap := by
  rcases h.own.2 with ⟨hv, _⟩ | ⟨g', cap', cur, hv, hb, hg, hn, _⟩
  · cases hv
  · cases hv; exact hn
theorem RoomN.out {w : World} {g n cap : Nat} {L : List Int} (h : RoomN w g n cap L) : OutN w g n n L := own_outN h.own h.len

theorem wpList_appFits {ops : Array Oper} {rest : List Oper} {o : Oper} {a : Act} {w : World} {Q : Exit → Act → World → Prop} (hgd : o.guard = none) (s x : Operand)
    (ho : o.op = .call { callee := .builtin .append, args := #[s, x], argTypes := #[35, 35] })
    (g n cap : Nat) (L : List Int) (hs : a.eval s = .slice (some ⟨g, 0, none⟩) n cap) (hR : RoomN w g n cap L) (ad : Addr) (c : Nat) (y : Int) (hx : a.eval x = .slice (some ad) 1 c) (hc : w.cell? ad = some (.int .i64 y)) (hroom : n + 1 ≤ cap)
    (h : ∀ w', RoomN w' g (n + 1) cap (L ++ [y]) → w.grownBy w' (some g) → wpList Tryz.prog ops Q rest (a.put o.dst (.slice (some ⟨g, 0, none⟩) (n + 1) cap)) w') :
    wpList Tryz.prog ops Q (o :: rest) a w := by
  obtain ⟨i, hi, hz0, hz1, hz2⟩ := info_parts infoN
  refine wpList_append_fits w hgd s x _ ho 0 3 i 1 Tryz.underlying35 hi hz1 g n cap _ hs hR.own ad 1 c [.int .i64 y] hx rfl (fun j u hj => ?_) (fun u hu => by simp at hu; subst hu; rfl) hroom ?_
  · match j, hj with
    | 0, hj =>
      simp at hj
      subst hj
      have e : ad.add 0 = ad := by simp [Addr.add]
      rw [e]
      exact hc
  · intro w' hown hgrow
    exact h w' ⟨by rw [ixs_app]; exact hown⟩ hgrow

set_option maxHeartbeats 2000000 in
theorem unlearnt_any (g n cap p : Nat) (L : List Int) (w : World) (hn : n ≤ p) (hp : p ≤ cap) (hc : p ≤ 1048576) (hR : RoomN w g n cap L) :
    Calls Tryz.prog 115 #[.slice (some ⟨g, 0, none⟩) n cap, .int .i64 (p : Int)] w fun e w' => e = .returned (.slice (some ⟨g, 0, none⟩) p cap) ∧ RoomN w' g p cap (L ++ List.replicate (p - n) (-1)) ∧ w.grownBy w' (some g) := by
  have R : Hid (RoomN w g n cap L) := hR
  clear hR
  go_enter Tryz.func115, Tryz.ntmps115
  go_wp2
  go_loopw [0] (fun c wr => ∃ k : Nat, n ≤ k ∧ k ≤ p ∧ c = .slice (some ⟨g, 0, none⟩) k cap ∧ Hid (RoomN wr g k cap (L ++ List.replicate (k - n) (-1))) ∧ Hid (w.grownBy wr (some g))) (fun c _ => p - lnV c)
  case atStart => exact ⟨n, Nat.le_refl _, hn, rfl, by rw [Nat.sub_self, List.replicate_zero, List.append_nil]; exact R.out, World.grownBy.refl _ _⟩
  case round =>
    obtain ⟨k, hk0, hk, rfl, A, B⟩ := hrel
    by_cases hlt : k < p
    · go_wp2_with (at_builtin; refine wpList_appFits rfl _ _ rfl g k cap _ rfl (A.out.alloc _) ⟨wr.heap.size, 0, none⟩ 1 (-1) rfl (by simp) (by omega) ?_; intro w1 hR1 hg1)
      go_roundw
      case rel =>
        refine ⟨k + 1, by omega, hlt, rfl, ?_, ?_⟩
        · have e : L ++ List.replicate (k + 1 - n) (-1) = (L ++ List.replicate (k - n) (-1)) ++ [-1] := by
            rw [show k + 1 - n = (k - n) + 1 by omega, List.replicate_succ', List.append_assoc]
          rw [e]
          exact hR1
        · exact (B.out.andThen (World.grownBy_alloc _ _ none) (fun j hj => by cases hj)).andThen hg1 (fun j hj => .inr hj)
      case measure => simp [lnV]; omega
    · obtain rfl : k = p := by omega
      go_wp2
      go_ret
      exact ⟨rfl, A.out, B.out⟩
end Go.Proofs.YtneohabkoighcaaGreat

namespace Go.Proofs.YtneohabkoighcaaGreat
open Go.ChangeShapes Go.WideShapes Go.ChangeAt Go.RowKit Go.Maps Go.Sort Go.Shelf
set_option maxRecDepth 100000

/-- A map in a block. -/
def ownF (b n : Nat) (D : DataW Unit) : Fct where
  S := fun k => k = b
  p := fun w => w.ownsMap Tryz.prog 3 (plainElem Tryz.prog 3) b n D
  keep := fun w w' h _ hb => by
    have hlt := h.lt
    obtain ⟨es, clock, hm, r⟩ := h
    exact ⟨es, clock, (hb b hlt rfl).trans hm, r⟩
theorem Hold.own {w0 w : World} {fs : List Fct} (h : Hold w0 w fs) {b n : Nat} {D : DataW Unit} (hm : ownF b n D ∈ fs) : w.ownsMap Tryz.prog 3 (plainElem Tryz.prog 3) b n D := h.at hm
theorem RoomN.ofBlock {w w' : World} {g n cap : Nat} {L : List Int} (h : RoomN w g n cap L) (e : w'.heap[g]? = w.heap[g]?) : RoomN w' g n cap L := by
  refine ⟨h.own.1, ?_⟩
  rcases h.own.2 with ⟨hv, _⟩ | ⟨g', cap', cur, hv, hb, hg, r⟩
  · cases hv
  · cases hv
    exact .inr ⟨g, cap, cur, rfl, hb, e.trans hg, r⟩
/-- A list of ints of a call's own, with room. -/
def roomF (g n cap : Nat) (L : List Int) : Fct where
  S := fun k => k = g
  p := fun w => RoomN w g n cap L
  keep := fun _ _ h _ hb => h.ofBlock (hb g h.lt rfl)
theorem Hold.room {w0 w : World} {fs : List Fct} (h : Hold w0 w fs) {g n cap : Nat} {L : List Int} (hm : roomF g n cap L ∈ fs) : RoomN w g n cap L := h.at hm
/-- A list of ints that is read alone. -/
def sloF (a : Option Addr) (n : Nat) (L : List Int) : Fct where
  S := fun k => On a k
  p := fun w => SliceN w.heap.size w a n L
  keep := fun w w' h hs hb => by
    refine ⟨h.1, h.2.1, ?_⟩
    rcases h.2.2 with h0 | ⟨k, o, ha, hk, hc⟩
    · exact .inl h0
    · exact .inr ⟨k, o, ha, by omega, fun j x hj => (World.cell?_of_block (hb k hk ⟨_, ha, rfl⟩)).trans (hc j x hj)⟩
theorem Hold.slo {w0 w : World} {fs : List Fct} (h : Hold w0 w fs) {a : Option Addr} {n : Nat} {L : List Int} (hm : sloF a n L ∈ fs) : SliceN w.heap.size w a n L := h.at hm
theorem KeptS.ofGrown {q : Nat} {w w' : World} (h : w.grownBy w' (some q)) : KeptS (fun k => k = q) w w' := ⟨h.os, h.tape, h.output, h.size, fun k hk ht => h.block k hk fun e => ht (by injection e)⟩

theorem makeMap_hint (w : World) (n : Int) : (Instr.makeMap 147 (some (.int .i64 n))).run Tryz.prog w = .ok (.map (some w.heap.size)) (w.alloc (.map #[] 0)) := by
  simp [Instr.makeMap, run_underlying Tryz.underlying147, asInt, asIntOf, Result.andThen]

end Go.Proofs.YtneohabkoighcaaGreat

namespace Go.Proofs.YtneohabkoighcaaGreat
open Go.ChangeShapes Go.WideShapes Go.ChangeAt Go.RowKit Go.Maps Go.Sort Go.Shelf
set_option maxRecDepth 100000

/-- slices.Sort at ints. -/
theorem sortsA (m : Nat) : AnyZI.SortsIn Tryz.prog Tryz.sortedA_ren Fence.wide m :=
  ⟨fun blk off cap ss W hH hblk hsz => callsIn_wide.2 (AnyM.slices_Sort_int Tryz.sortA blk off cap ss W hH hblk hsz),
   fun p cap W => callsIn_wide.2 (AnyM.slices_Sort_int_none Tryz.sortA p cap W)⟩
theorem keys_call (mb : Option Nat) (W : World) : Calls Tryz.prog 114 #[.map mb] W fun e w' => e = .returned (.func (.func 140) #[] #[.pointer (some ⟨W.heap.size, 0, none⟩)]) ∧ w' = W.alloc (.cells #[.map mb] 147) :=
  callsIn_wide.1 (AnyZI.keys_in Tryz.keysA Fence.wide 5 trivial rfl mb W)
/-- A list of ints that a call has answered, or nil. -/
theorem slo_of {w : World} {base n : Nat} {v : Value} {K : List Int} (h : w.ownsRow base 3 1 v n (ixs K)) : ∃ a cap, v = .slice a n cap ∧ SliceN w.heap.size w a n K ∧ ∀ k, On a k → base ≤ k := by
  have hl := h.1
  rw [ixs_len, Nat.mul_one] at hl
  rcases h.2 with ⟨rfl, rfl⟩ | ⟨g, cap, cur, rfl, hb, hg, hn, hm, _⟩
  · have hk : K = [] := List.eq_nil_of_length_eq_zero hl
    subst hk
    exact ⟨none, 0, rfl, ⟨by unfold maxLen; omega, rfl, .inl rfl⟩, fun k hk => absurd hk (on_none k)⟩
  · have hO := own_outN h hl
    exact ⟨_, cap, rfl, hO.slice hl (by omega), fun k hk => by rw [← (on_some g k).1 hk]; exact hb⟩
theorem sorted_some (b nn : Nat) (D0 : DataW Unit) (g : Int → Option Int) (w : World) (hown : w.ownsMap Tryz.prog 3 (plainElem Tryz.prog 3) b nn D0) (hg : MapG D0 g) (hn : nn ≤ 2097152) :
    Calls Tryz.prog 113 #[.func (.func 140) #[] #[.pointer (some ⟨w.heap.size, 0, none⟩)]] (w.alloc (.cells #[.map (some b)] 147)) fun e w' => ∃ a nk cap K, e = .returned (.slice a nk cap) ∧ KeysG g K ∧ SliceN w'.heap.size w' a nk K ∧ nk ≤ 2097152 ∧ (∀ k, On a k → w.heap.size + 1 ≤ k) ∧ Below (w.heap.size + 1) (w.alloc (.cells #[.map (some b)] 147)) w' := by
  have hbl := hown.lt
  have hsz := hown.size_le
  have hmax : Maps.size D0 ≤ maxLen := by unfold maxLen; omega
  have hseq : SeqGives Fence.wide 2 Tryz.prog 140 #[.pointer (some ⟨w.heap.size, 0, none⟩)] encZ (fun ss => ss.Perm (intKeys D0)) (Maps.size D0) (w.alloc (.cells #[.map (some b)] 147)) :=
    AnyZI.keys_gives (ρ := Tryz.keysA_ren) { Tryz.keysA with } Fence.wide _ trivial rfl (by omega) w.heap.size b nn D0 _ (by simp) (by simp) (by
      obtain ⟨es, clock, hb, Ft, hs, hD⟩ := hown
      exact ⟨es, clock, (Below.heap_alloc _ _ b hbl).trans hb, Ft, hs, hD⟩)
  have cS := AnyZI.sorted_in Tryz.sortedA Fence.wide 5 trivial trivial trivial trivial rfl (by omega) (sortsA _) (enters_of Tryz.func139 (by kernel_rfl) rfl) 140 #[.pointer (some ⟨w.heap.size, 0, none⟩)] trivial (enters_of Tryz.func140 (by kernel_rfl) rfl) _ _ hmax (by omega) _ hseq
  change CallsIn _ _ Tryz.prog 113 _ _ _ at cS
  refine (callsIn_wide.1 cS).mono ?_
  rintro e w' ⟨v, ss, rfl, hS, hrow, hnil, hb⟩
  have hz : (w.alloc (.cells #[.map (some b)] 147)).heap.size = w.heap.size + 1 := by simp
  rw [hz] at hrow hb
  obtain ⟨a, cap, rfl, hsl, hon⟩ := slo_of (K := ss.mergeSort leI) hrow
  refine ⟨a, _, cap, ss.mergeSort leI, rfl, keysG hown lawI Tryz.underlying3 hg hS, hsl, ?_, hon, hb⟩
  rw [← List.length_mergeSort (le := leI) ss, keys_len hS hg.isMap]
  omega
theorem sorted_nil (w : World) :
    Calls Tryz.prog 113 #[.func (.func 140) #[] #[.pointer (some ⟨w.heap.size, 0, none⟩)]] (w.alloc (.cells #[.map none] 147)) fun e w' => e = .returned (.slice none 0 0) ∧ Below (w.heap.size + 1) (w.alloc (.cells #[.map none] 147)) w' := by
  have hseq : SeqGives Fence.wide 2 Tryz.prog 140 #[.pointer (some ⟨w.heap.size, 0, none⟩)] encZ (fun ss : List Int => ss = []) 0 (w.alloc (.cells #[.map none] 147)) :=
    AnyZI.keys_gives_nil (ρ := Tryz.keysA_ren) { Tryz.keysA with } Fence.wide _ trivial rfl w.heap.size _ (by simp) (by simp)
  have cS := AnyZI.sorted_in Tryz.sortedA Fence.wide 5 trivial trivial trivial trivial rfl (by omega) (sortsA _) (enters_of Tryz.func139 (by kernel_rfl) rfl) 140 #[.pointer (some ⟨w.heap.size, 0, none⟩)] trivial (enters_of Tryz.func140 (by kernel_rfl) rfl) _ 0 (Nat.zero_le _) (by omega) _ hseq
  change CallsIn _ _ Tryz.prog 113 _ _ _ at cS
  refine (callsIn_wide.1 cS).mono ?_
  rintro e w' ⟨v, ss, rfl, hS, hrow, hnil, hb⟩
  have hz : (w.alloc (.cells #[.map none] 147)).heap.size = w.heap.size + 1 := by simp
  rw [hz] at hb
  exact ⟨by rw [hnil.2 hS], hb⟩

theorem look_run {W : World} {b n : Nat} {D : DataW Unit} {g : Int → Option Int} {x v : Int} (hown : W.ownsMap Tryz.prog 3 (plainElem Tryz.prog 3) b n D) (hg : MapG D g) (hx : (Lit.int .i64 x).wf = true) (hv : g x = some v) :
    (Instr.lookup 147 (.map (some b)) (.int .i64 x) false).run Tryz.prog W = .ok (.int .i64 v) W := by
  obtain ⟨c, hrun, hat, _⟩ := hown.lookup_int lawI Tryz.underlying147 Tryz.underlying3 (by kernel_rfl) (keyOf_int_mk Tryz.underlying3 hx)
  rw [hg.at_ x v hv] at hat
  have : kI v = kI c := by injection hat
  have : v = c := by injection this
  rw [this]
  exact hrun

/-- append of one int within the room, as one step of a region that draws. -/
theorem step_appFits {ops : Array Oper} {o : Oper} {a : Act} {w : World} {K : Act → World → Prop} {Q : Exit → Act → World → Prop} {E : Prop} (hgd : o.guard = none) (s x : Operand)
    (ho : o.op = .call { callee := .builtin .append, args := #[s, x], argTypes := #[35, 35] })
    (g n cap : Nat) (L : List Int) (hs : a.eval s = .slice (some ⟨g, 0, none⟩) n cap) (hR : RoomN w g n cap L) (ad : Addr) (c : Nat) (y : Int) (hx : a.eval x = .slice (some ad) 1 c) (hc : w.cell? ad = some (.int .i64 y)) (hroom : n + 1 ≤ cap)
    (h : ∀ w', RoomN w' g (n + 1) cap (L ++ [y]) → w.grownBy w' (some g) → K (a.put o.dst (.slice (some ⟨g, 0, none⟩) (n + 1) cap)) w') :
    if Region.wanted o (yielded ops a.tmps) = true then Oper.wp Tryz.prog o a w K Q else E := by
  have hw : Region.wanted o (yielded ops a.tmps) = true := by simp [Region.wanted, hgd]
  rw [if_pos hw]
  obtain ⟨i, hi, hz0, hz1, hz2⟩ := info_parts infoN
  obtain ⟨w', hrun, hown', hgrow⟩ := run_append_fits (P := Tryz.prog) w 0 35 o.type 3 i 1 Tryz.underlying35 hi hz1 g n cap (ixs L) hR.own ad 1 c [.int .i64 y] rfl (fun j u hj => by
    match j, hj with
    | 0, hj =>
      simp at hj
      subst hj
      have e : ad.add 0 = ad := by simp [Addr.add]
      rw [e]
      exact hc) (fun u hu => by simp at hu; subst hu; rfl) hroom
  unfold Oper.wp
  simp [execOp, ho, resolve, invoke, builtin, hs, hx, hrun, Result.andThen]
  exact h w' ⟨by rw [ixs_app]; exact hown'⟩ hgrow
end Go.Proofs.YtneohabkoighcaaGreat

namespace Go.Proofs.YtneohabkoighcaaGreat
open Go.ChangeShapes Go.WideShapes Go.ChangeAt Go.RowKit Go.Maps Go.Sort Go.Shelf
set_option maxRecDepth 100000

theorem Hold.grow {w0 w w' : World} {g n cap n' : Nat} {L L' : List Int} {fs : List Fct} (h : Hold w0 w (roomF g n cap L :: fs)) (hg : w.grownBy w' (some g)) (hR : RoomN w' g n' cap L') (h0 : w0.heap.size ≤ g) (hd : ∀ f ∈ fs, ¬ f.S g) : Hold w0 w' (roomF g n' cap L' :: fs) :=
  (h.tail.wrote (KeptS.ofGrown hg) (fun k hk => by subst hk; exact h0) (fun f hf k hk e => by subst e; exact hd f hf hk)).push _ hR

set_option maxHeartbeats 8000000 in
theorem told_some (b nn : Nat) (D : DataW Unit) (gg : Int → Option Int) (count : Nat) (w : World) (hc : count ≤ 1048576) (hn : nn ≤ 2097152) (hown : w.ownsMap Tryz.prog 3 (plainElem Tryz.prog 3) b nn D) (hg : MapG D gg) (hk : ∀ x, (gg x).isSome = true → 0 ≤ x ∧ x < (count : Int)) :
    Calls Tryz.prog 83 #[.map (some b), .int .i64 (count : Int)] w fun e w' => ∃ q, e = .returned (.slice (some ⟨q, 0, none⟩) count count) ∧ w.heap.size ≤ q ∧ RoomN w' q count count (toldL gg count) ∧ Below w.heap.size w w' := by
  have hbl := hown.lt
  have O := hid_mk hown
  have G := hid_mk hg
  have HK := hid_mk hk
  clear hown hg hk
  obtain ⟨i0, hi, hz0, hz1, hz2⟩ := info_parts infoN
  go_enter Tryz.func83, Tryz.ntmps83
  go_wp2_with (at_make; refine wpList_make_own _ rfl _ _ 35 rfl 0 3 i0 _ 1 Tryz.underlying35 hi hz0 hz1 _ _ _ count rfl rfl (by rfl) (by rw [hz2]; omega) (by unfold maxLen; omega) (Nat.zero_le _) ?_; intro w1 hown1 hgrow1)
  obtain ⟨q, hq⟩ : ∃ q, q = w.heap.size := ⟨_, rfl⟩
  rw [← hq] at hown1 ⊢
  have H := hid_mk ((((Hold.new w).push (ownF b nn D) O.out).next (⟨hgrow1.os, hgrow1.tape, hgrow1.output, hgrow1.size, fun k hk => hgrow1.block k hk (by simp)⟩ : Below w.heap.size w w1)).push (roomF q 0 count []) ⟨hown1⟩)
  clear hown1 hgrow1 O
  have hqb : q ≠ b := by omega
  have hq1 : q < w1.heap.size := (H.out.room (.head _)).lt
  have hq0 : w.heap.size ≤ q := by omega
  clear hq hbl
  have S1 := hid_mk (sorted_some b nn D gg w1 (H.out.own (.tail _ (.head _))) G.out hn)
  go_wp2_with fail
  refine (keys_call _ _).mono ?_
  rintro e w2 ⟨rfl, rfl⟩
  go_wp2_with fail
  refine S1.out.mono ?_
  rintro e w3 ⟨a, nk, cap, K, rfl, hK, hS, hnk, hon, hb⟩
  replace H := hid_mk (((H.out.alloc (.cells #[.map (some b)] 147)).next (hb.mono (by simp))).push (sloF a nk K) hS)
  have hlK := hS.2.1
  have KG := hid_mk hK
  have hon1 : Hid (∀ k, On a k → k ≠ q) := fun k hk e => by have := hon k hk; omega
  clear hb hS hK hon S1
  generalize w3 = w4 at H
  go_wp2
  go_loopw [5, 14] (fun l c wr => ∃ j m : Nat, j ≤ nk ∧ m ≤ count ∧ l = .slice (some ⟨q, 0, none⟩) m count ∧ c = .int .i64 j ∧ Hid (∀ i u, i < j → K[i]? = some u → u < (m : Int)) ∧ Hid (∀ i u, j ≤ i → K[i]? = some u → (m : Int) ≤ u) ∧ Hid (Hold w wr [roomF q m count (toldL gg m), sloF a nk K, ownF b nn D])) (fun _ c _ => nk - (RowKit.intOf c).toNat)
  case atStart =>
    refine ⟨0, 0, Nat.zero_le _, Nat.zero_le _, rfl, rfl, fun i u hi => absurd hi (Nat.not_lt_zero _), fun i u _ hu => ?_, H.out.sub fun f hf => ?_⟩
    · have := (HK.out u ((KG.out.mem u).1 (List.mem_of_getElem? hu))).1
      omega
    · simp only [List.mem_cons, List.not_mem_nil, or_false] at hf ⊢
      rcases hf with rfl | rfl | rfl
      · exact .inr (.inl rfl)
      · exact .inl rfl
      · exact .inr (.inr rfl)
  case round =>
    clear H
    obtain ⟨j, m, hj, hm, rfl, rfl, A, B, H⟩ := hrel
    have DD : Hid (∀ f ∈ [sloF a nk K, ownF b nn D], ¬ f.S q) := fun f hf hs => by
      simp only [List.mem_cons, List.not_mem_nil, or_false] at hf
      rcases hf with rfl | rfl
      · exact hon1.out q hs rfl
      · simp only [ownF] at hs; omega
    by_cases hlt : j < nk
    · obtain ⟨kb, o, x, rfl, hkb, hx, d0⟩ := (H.out.slo (.tail _ (.head _))).at hlt
      have HX := hid_mk hx
      clear hx
      obtain ⟨v, hv⟩ := Option.isSome_iff_exists.1 ((KG.out.mem x).1 (List.mem_of_getElem? HX.out))
      have hxr := HK.out x (by rw [hv]; rfl)
      obtain ⟨p, rfl⟩ : ∃ p : Nat, x = (p : Int) := ⟨x.toNat, by omega⟩
      have hpm := B.out j _ (Nat.le_refl _) HX.out
      have hmp : m ≤ p := by omega
      have hpc : p < count := by omega
      have HV := hid_mk hv
      have hwx : (Lit.int .i64 (p : Int)).wf = true := WalkArith.wf_i64 (by omega)
      clear hv hxr hpm
      go_upto_region 5 with fail
      have D0 := hid_mk H.out.drew
      refine wp_region_held_drew (S := fun w' => w'.ownsMap Tryz.prog 3 (plainElem Tryz.prog 3) b nn D) (by kernel_rfl) (D0.out.own (.tail _ (.tail _ (.head _)))) (fun hHeld => ?_)
      generalize wr.drew = wd at D0 hHeld ⊢
      clear H
      refine take_on (i := 0) (d := 18) (v := .slice (some ⟨q, 0, none⟩) m count) rfl rfl (by kernel_rfl) (by kernel_rfl) (by kernel_rfl) (fun _ _ _ h => h) (by rfl) ?_ hHeld ?_
      · (intro w' hSw; go_simp)
      simp only [Act.put, List.setIfInBounds_toArray, List.set_cons_zero, List.set_cons_succ]
      refine take_on (i := 1) (d := 19) (v := .int .i64 (p : Int)) rfl rfl (by kernel_rfl) (by kernel_rfl) (by kernel_rfl) (fun _ _ _ h => h) (by rfl) ?_ hHeld ?_
      · (intro w' hSw; go_simp)
      simp only [Act.put, List.setIfInBounds_toArray, List.set_cons_zero, List.set_cons_succ]
      refine take_on (i := 3) (d := 21) (v := .map (some b)) rfl rfl (by kernel_rfl) (by kernel_rfl) (by kernel_rfl) (fun _ _ _ h => h) (by rfl) ?_ hHeld ?_
      · (intro w' hSw; go_simp)
      simp only [Act.put, List.setIfInBounds_toArray, List.set_cons_zero, List.set_cons_succ]
      refine take_on (i := 4) (d := 22) (v := .int .i64 (p : Int)) rfl rfl (by kernel_rfl) (by kernel_rfl) (by kernel_rfl) (fun _ _ _ h => h) (by rfl) ?_ hHeld ?_
      · (intro w' hSw; go_simp)
      simp only [Act.put, List.setIfInBounds_toArray, List.set_cons_zero, List.set_cons_succ]
      refine take_on (i := 5) (d := 23) (v := .int .i64 v) rfl rfl (by kernel_rfl) (by kernel_rfl) (by kernel_rfl) (fun _ _ _ h => h) (by rfl) ?_ hHeld ?_
      · (intro w' hSw; have e0 := look_run hSw G.out hwx HV.out; go_simp)
      simp only [Act.put, List.setIfInBounds_toArray, List.set_cons_zero, List.set_cons_succ]
      refine wpAnyH_ready (rs := [2, 6]) (by kernel_rfl) (by simp) ?_
      refine AllReadyH.cons rfl (fun K1 hK => ?_) (AllReadyH.cons rfl (fun K1 hK => ?_) AllReadyH.nil)
      · go_simp
        refine (unlearnt_any q m count p (toldL gg m) _ hmp (by omega) (by omega) (D0.out.room (.head _))).mono ?_
        rintro e v1 ⟨rfl, hR, hgr⟩
        rw [told_fill hmp (fun y h1 h2 => KG.out.gap HX.out A.out h1 h2)] at hR
        have J1 := hid_mk (D0.out.grow hgr hR hq0 DD.out)
        clear hR hgr
        refine hK.out _ _ (J1.out.own (.tail _ (.tail _ (.head _)))) (fun hHeld => ?_)
        clear hK K1
        (try simp only [Act.put]); (try simp only [List.setIfInBounds_toArray]); (try simp only [List.set_cons_succ]); (try simp only [List.set_cons_zero]); (try simp only [List.set_cons_succ]); (try simp only [List.set_cons_zero]); (try simp only [Nat.zero_add])
        refine wpAnyH_ready (rs := [6]) (by kernel_rfl) (by simp) ?_
        refine AllReadyH.cons rfl (fun K1 hK => ?_) AllReadyH.nil
        go_simp
        have JX := hid_mk (J1.out.alloc (.cells #[.int .i64 v] 3))
        have HC : Hid ((v1.alloc (.cells #[.int .i64 v] 3)).cell? ⟨v1.heap.size, 0, none⟩ = some (.int .i64 v)) := by simp [Hid]
        refine hK.out _ _ (JX.out.own (.tail _ (.tail _ (.head _)))) (fun hHeld => ?_)
        clear hK K1
        (try simp only [Act.put]); (try simp only [List.setIfInBounds_toArray]); (try simp only [List.set_cons_succ]); (try simp only [List.set_cons_zero]); (try simp only [List.set_cons_succ]); (try simp only [List.set_cons_zero]); (try simp only [Nat.zero_add])
        have RX := hid_mk (JX.out.room (.head _))
        generalize v1.heap.size = ab at HC ⊢
        generalize v1.alloc (.cells #[.int .i64 v] 3) = v2 at JX HC RX hHeld ⊢
        refine wpAnyH_ready (rs := [7]) (by kernel_rfl) (by simp) ?_
        refine AllReadyH.cons rfl (fun K1 hK => ?_) AllReadyH.nil
        refine step_appFits rfl _ _ rfl q p count (toldL gg p) rfl RX.out ⟨ab, 0, none⟩ 1 v rfl HC.out (by omega) ?_
        intro v3 hR hgr
        rw [told_one HV.out] at hR
        have J3 := hid_mk (JX.out.grow hgr hR hq0 DD.out)
        clear hR hgr
        refine hK.out _ _ (J3.out.own (.tail _ (.tail _ (.head _)))) (fun hHeld => ?_)
        clear hK K1
        (try simp only [Act.put]); (try simp only [List.setIfInBounds_toArray]); (try simp only [List.set_cons_succ]); (try simp only [List.set_cons_zero]); (try simp only [List.set_cons_succ]); (try simp only [List.set_cons_zero]); (try simp only [Nat.zero_add])
        refine take_on (i := 8) (d := 5) (v := .slice (some ⟨q, 0, none⟩) (p + 1) count) rfl rfl (by kernel_rfl) (by kernel_rfl) (by kernel_rfl) (fun _ _ _ h => h) (by rfl) ?_ hHeld ?_
        · (intro w' hSw; go_simp)
        (try simp only [Act.put]); (try simp only [List.setIfInBounds_toArray]); (try simp only [List.set_cons_succ]); (try simp only [List.set_cons_zero]); (try simp only [List.set_cons_succ]); (try simp only [List.set_cons_zero]); (try simp only [Nat.zero_add])
        refine wpAnyH_done (by kernel_rfl) ?_ _
        clear hHeld
        try dsimp only
        have A3 : Hid (∀ i u, i < j + 1 → K[i]? = some u → u < ((p + 1 : Nat) : Int)) := fun i u hi hu => by have := KG.out.next HX.out i u hi hu; omega
        have B3 : Hid (∀ i u, j + 1 ≤ i → K[i]? = some u → ((p + 1 : Nat) : Int) ≤ u) := fun i u hi hu => by have := KG.out.above HX.out (i := i) (by omega) hu; omega
        go_wp2
        go_roundw
        case rel => exact ⟨j + 1, p + 1, hlt, by omega, rfl, by go_num, A3.out, B3.out, J3.out⟩
        case measure => simp [RowKit.intOf]; omega
      · go_simp
        have J1 := hid_mk (D0.out.alloc (.cells #[.int .i64 v] 3))
        have HC1 : Hid ((wd.alloc (.cells #[.int .i64 v] 3)).cell? ⟨wd.heap.size, 0, none⟩ = some (.int .i64 v)) := by simp [Hid]
        have hab : wd.heap.size < (wd.alloc (.cells #[.int .i64 v] 3)).heap.size := by simp
        have hqw : q ≠ wd.heap.size := by have := (D0.out.room (.head _)).lt; omega
        refine hK.out _ _ (J1.out.own (.tail _ (.tail _ (.head _)))) (fun hHeld => ?_)
        clear hK K1
        (try simp only [Act.put]); (try simp only [List.setIfInBounds_toArray]); (try simp only [List.set_cons_succ]); (try simp only [List.set_cons_zero]); (try simp only [List.set_cons_succ]); (try simp only [List.set_cons_zero]); (try simp only [Nat.zero_add])
        generalize wd.heap.size = ab at HC1 hab hqw ⊢
        generalize wd.alloc (.cells #[.int .i64 v] 3) = v1 at J1 HC1 hab hHeld ⊢
        refine wpAnyH_ready (rs := [2]) (by kernel_rfl) (by simp) ?_
        refine AllReadyH.cons rfl (fun K1 hK => ?_) AllReadyH.nil
        go_simp
        refine (unlearnt_any q m count p (toldL gg m) _ hmp (by omega) (by omega) (J1.out.room (.head _))).mono ?_
        rintro e v2 ⟨rfl, hR, hgr⟩
        rw [told_fill hmp (fun y h1 h2 => KG.out.gap HX.out A.out h1 h2)] at hR
        have JX := hid_mk (J1.out.grow hgr hR hq0 DD.out)
        have HC : Hid (v2.cell? ⟨ab, 0, none⟩ = some (.int .i64 v)) := (World.cell?_of_block (hgr.block ab hab (by intro e; injection e with e; exact hqw e.symm))).trans HC1.out
        clear hR hgr
        refine hK.out _ _ (JX.out.own (.tail _ (.tail _ (.head _)))) (fun hHeld => ?_)
        clear hK K1
        (try simp only [Act.put]); (try simp only [List.setIfInBounds_toArray]); (try simp only [List.set_cons_succ]); (try simp only [List.set_cons_zero]); (try simp only [List.set_cons_succ]); (try simp only [List.set_cons_zero]); (try simp only [Nat.zero_add])
        have RX := hid_mk (JX.out.room (.head _))
        refine wpAnyH_ready (rs := [7]) (by kernel_rfl) (by simp) ?_
        refine AllReadyH.cons rfl (fun K1 hK => ?_) AllReadyH.nil
        refine step_appFits rfl _ _ rfl q p count (toldL gg p) rfl RX.out ⟨ab, 0, none⟩ 1 v rfl HC.out (by omega) ?_
        intro v3 hR hgr
        rw [told_one HV.out] at hR
        have J3 := hid_mk (JX.out.grow hgr hR hq0 DD.out)
        clear hR hgr
        refine hK.out _ _ (J3.out.own (.tail _ (.tail _ (.head _)))) (fun hHeld => ?_)
        clear hK K1
        (try simp only [Act.put]); (try simp only [List.setIfInBounds_toArray]); (try simp only [List.set_cons_succ]); (try simp only [List.set_cons_zero]); (try simp only [List.set_cons_succ]); (try simp only [List.set_cons_zero]); (try simp only [Nat.zero_add])
        refine take_on (i := 8) (d := 5) (v := .slice (some ⟨q, 0, none⟩) (p + 1) count) rfl rfl (by kernel_rfl) (by kernel_rfl) (by kernel_rfl) (fun _ _ _ h => h) (by rfl) ?_ hHeld ?_
        · (intro w' hSw; go_simp)
        (try simp only [Act.put]); (try simp only [List.setIfInBounds_toArray]); (try simp only [List.set_cons_succ]); (try simp only [List.set_cons_zero]); (try simp only [List.set_cons_succ]); (try simp only [List.set_cons_zero]); (try simp only [Nat.zero_add])
        refine wpAnyH_done (by kernel_rfl) ?_ _
        clear hHeld
        try dsimp only
        have A3 : Hid (∀ i u, i < j + 1 → K[i]? = some u → u < ((p + 1 : Nat) : Int)) := fun i u hi hu => by have := KG.out.next HX.out i u hi hu; omega
        have B3 : Hid (∀ i u, j + 1 ≤ i → K[i]? = some u → ((p + 1 : Nat) : Int) ≤ u) := fun i u hi hu => by have := KG.out.above HX.out (i := i) (by omega) hu; omega
        go_wp2
        go_roundw
        case rel => exact ⟨j + 1, p + 1, hlt, by omega, rfl, by go_num, A3.out, B3.out, J3.out⟩
        case measure => simp [RowKit.intOf]; omega
    · obtain rfl : j = nk := by omega
      have U := hid_mk (unlearnt_any q m count count (toldL gg m) wr hm (Nat.le_refl _) hc (H.out.room (.head _)))
      go_wp2_with fail
      refine U.out.mono ?_
      rintro e w5 ⟨rfl, hR, hgr⟩
      rw [told_fill hm (fun y h1 _ => KG.out.tail (fun u hu => by
        obtain ⟨i, hi⟩ := List.getElem?_of_mem hu
        have hil := (List.getElem?_eq_some_iff.1 hi).1
        exact A.out i u (by omega) hi) h1)] at hR
      have H2 := hid_mk (H.out.grow hgr hR hq0 DD.out)
      clear hR hgr
      go_wp2
      go_ret
      exact ⟨q, rfl, hq0, H2.out.room (.head _), H2.out.bel⟩
end Go.Proofs.YtneohabkoighcaaGreat

namespace Go.Proofs.YtneohabkoighcaaGreat
open Go.ChangeShapes Go.WideShapes Go.ChangeAt Go.RowKit Go.Maps Go.Sort Go.Shelf
set_option maxRecDepth 100000

set_option maxHeartbeats 4000000 in
theorem told_none (count : Nat) (w : World) (hc : count ≤ 1048576) :
    Calls Tryz.prog 83 #[.map none, .int .i64 (count : Int)] w fun e w' => ∃ q, e = .returned (.slice (some ⟨q, 0, none⟩) count count) ∧ w.heap.size ≤ q ∧ RoomN w' q count count (List.replicate count (-1)) ∧ Below w.heap.size w w' := by
  obtain ⟨i0, hi, hz0, hz1, hz2⟩ := info_parts infoN
  go_enter Tryz.func83, Tryz.ntmps83
  go_wp2_with (at_make; refine wpList_make_own _ rfl _ _ 35 rfl 0 3 i0 _ 1 Tryz.underlying35 hi hz0 hz1 _ _ _ count rfl rfl (by rfl) (by rw [hz2]; omega) (by unfold maxLen; omega) (Nat.zero_le _) ?_; intro w1 hown1 hgrow1)
  obtain ⟨q, hq⟩ : ∃ q, q = w.heap.size := ⟨_, rfl⟩
  rw [← hq] at hown1 ⊢
  have H := hid_mk (((Hold.new w).next (⟨hgrow1.os, hgrow1.tape, hgrow1.output, hgrow1.size, fun k hk => hgrow1.block k hk (by simp)⟩ : Below w.heap.size w w1)).push (roomF q 0 count []) ⟨hown1⟩)
  clear hown1 hgrow1
  have hq0 : w.heap.size ≤ q := by omega
  clear hq
  have S1 := hid_mk (sorted_nil w1)
  go_wp2_with fail
  refine (keys_call _ _).mono ?_
  rintro e w2 ⟨rfl, rfl⟩
  go_wp2_with fail
  refine S1.out.mono ?_
  rintro e w3 ⟨rfl, hb⟩
  replace H := hid_mk ((H.out.alloc (.cells #[.map none] 147)).next (hb.mono (by simp)))
  clear hb S1
  generalize w3 = w4 at H
  go_wp2
  refine wp_loop_rounds 1 ?_
  rw [rounds_succ]
  have U := hid_mk (unlearnt_any q 0 count count [] w4 (Nat.zero_le _) (Nat.le_refl _) hc (H.out.room (.head _)))
  go_wp2_with fail
  refine U.out.mono ?_
  rintro e w5 ⟨rfl, hR, hgr⟩
  rw [Nat.sub_zero, List.nil_append] at hR
  have H2 := hid_mk (H.out.grow hgr hR hq0 (fun f hf => by cases hf))
  clear hR hgr
  go_wp2
  go_ret
  exact ⟨q, rfl, hq0, H2.out.room (.head _), H2.out.bel⟩

set_option maxHeartbeats 1000000 in
theorem implGuessNew_any (w : World) :
    Calls Tryz.prog 40 #[] w fun e w' => ∃ q, e = .returned (.slice (some ⟨q, 0, none⟩) 48 48) ∧ w.heap.size ≤ q ∧ RoomN w' q 48 48 (List.replicate 48 (-1)) ∧ Below w.heap.size w w' := by
  have U := hid_mk (told_none 48 w (by omega))
  go_enter Tryz.func40, Tryz.ntmps40
  go_wp2_with fail
  refine U.out.mono ?_
  rintro e w5 ⟨q, rfl, hq, hR, hb⟩
  have R := hid_mk hR
  clear hR U
  go_wp2
  go_ret
  exact ⟨q, rfl, hq, R.out, hb⟩
end Go.Proofs.YtneohabkoighcaaGreat

namespace Go.Proofs.YtneohabkoighcaaGreat
open Go.ChangeShapes Go.WideShapes Go.ChangeAt Go.RowKit Go.Maps
set_option maxRecDepth 100000

theorem own_empty (w : World) (base : Nat) (hb : base ≤ w.heap.size) (T : TypeId) (s : Nat) : (w.alloc (.cells #[] T)).ownsRow base T s (.slice (some ⟨w.heap.size, 0, none⟩) 0 0) 0 [] :=
  ⟨by simp, .inr ⟨w.heap.size, 0, #[], rfl, hb, World.alloc_heap_new w _, Nat.le_refl _, by unfold maxLen; omega, by simp, by simp⟩⟩

/-- append of ints to a row that is not nil. -/
theorem wpList_appN {ops : Array Oper} {rest : List Oper} {o : Oper} {a : Act} {w : World} {Q : Exit → Act → World → Prop} (hgd : o.guard = none) (s x : Operand)
    (ho : o.op = .call { callee := .builtin .append, args := #[s, x], argTypes := #[35, 35] })
    (base g n cap : Nat) (L : List Int) (hs : a.eval s = .slice (some ⟨g, 0, none⟩) n cap) (hown : w.ownsRow base 3 1 (.slice (some ⟨g, 0, none⟩) n cap) n (ixs L)) (ad : Addr) (m c : Nat) (M : List Int) (hx : a.eval x = .slice (some ad) m c) (hM : M.length = m) (hc : ∀ j y, M[j]? = some y → w.cell? (ad.add j) = some (.int .i64 y)) (hb : n + m ≤ 2097152) (hbase : base ≤ w.heap.size)
    (h : ∀ g' cap' w', w'.ownsRow base 3 1 (.slice (some ⟨g', 0, none⟩) (n + m) cap') (n + m) (ixs (L ++ M)) → w.grownBy w' (some g) → wpList Tryz.prog ops Q rest (a.put o.dst (.slice (some ⟨g', 0, none⟩) (n + m) cap')) w') :
    wpList Tryz.prog ops Q (o :: rest) a w := by
  obtain ⟨i, hi, hz0, hz1, hz2⟩ := info_parts infoN
  refine wpList_append_own_at w hgd s x _ ho base 3 i _ 1 8 Tryz.underlying35 hi hz0 hz1 hz2 rfl (by decide) _ n (ixs L) hs hown ad m c (ixs M) hx (by rw [ixs_len, hM, Nat.mul_one]) (fun j u hj => ?_) (ixs_one M) (by unfold maxLen; omega) (by omega) hbase ?_
  · obtain ⟨y, hy, rfl⟩ := ixs_at hj
    exact hc j y hy
  · intro v' w' hown' hgrow hnil _
    rw [← ixs_app] at hown'
    rcases hown'.2 with ⟨hv, _⟩ | ⟨g', cap', cur, hv, _⟩
    · have := hnil.1 hv
      cases this.1
    · subst hv
      exact h g' cap' w' hown' hgrow

set_option maxHeartbeats 2000000 in
theorem specGuessNew_any (w : World) :
    Calls Tryz.prog 54 #[] w fun e w' => ∃ g cap, e = .returned (.slice (some ⟨g, 0, none⟩) 48 cap) ∧ w.heap.size ≤ g ∧ (intF g 48 (List.replicate 48 (-1))).p w' ∧ Below w.heap.size w w' := by
  go_enter Tryz.func54, Tryz.ntmps54
  go_wp2
  go_loopw [1, 2] (fun v c wr => ∃ k g cap : Nat, k ≤ 48 ∧ v = .slice (some ⟨g, 0, none⟩) k cap ∧ c = .int .i64 k ∧ w.heap.size ≤ g ∧ Hid (wr.ownsRow w.heap.size 3 1 (.slice (some ⟨g, 0, none⟩) k cap) k (ixs (List.replicate k (-1)))) ∧ Hid (Below w.heap.size w wr)) (fun _ c _ => 48 - (RowKit.intOf c).toNat)
  case atStart => exact ⟨0, w.heap.size, 0, Nat.zero_le _, rfl, rfl, Nat.le_refl _, own_empty w _ (Nat.le_refl _) _ _, (Below.refl _ _).alloc (Nat.le_refl _) _⟩
  case round =>
    obtain ⟨k, g, cap, hk, rfl, rfl, hg, O, B⟩ := hrel
    have hsz := B.out.size
    by_cases hlt : k < 48
    · go_wp2_with (at_builtin; refine wpList_appN rfl _ _ rfl w.heap.size g k cap _ rfl (O.out.alloc _) ⟨wr.heap.size, 0, none⟩ 1 1 [-1] rfl rfl (fun j y hj => by match j, hj with | 0, hj => (simp at hj; subst hj; simp [Addr.add])) (by omega) (by simp; omega) ?_; intro g' cap' w1 hO1 hg1)
      have hg' : w.heap.size ≤ g' := by
        rcases hO1.2 with ⟨hv, _⟩ | ⟨g2, cap2, cur, hv, hb2, _⟩
        · cases hv
        · cases hv; exact hb2
      go_roundw
      case rel =>
        refine ⟨k + 1, g', cap', hlt, rfl, by go_num, hg', ?_, ?_⟩
        · rw [List.replicate_succ']
          exact hO1
        · exact (B.out.alloc hsz _).grown hg1 (by simp; omega) (fun j hj => by cases hj; exact hg)
      case measure => simp [RowKit.intOf]; omega
    · obtain rfl : k = 48 := by omega
      go_wp2
      go_ret
      exact ⟨g, cap, rfl, hg, ⟨own_outN O.out (by simp), by simp⟩, B.out⟩
end Go.Proofs.YtneohabkoighcaaGreat
