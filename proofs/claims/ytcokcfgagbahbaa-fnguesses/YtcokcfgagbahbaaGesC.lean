/- The keys of a map, sorted, by the library's contracts; the list that told makes of a map. No condition but that there are no more places than a list of the laws may have. -/
import Derived.Test.YtcokcfgagbahbaaGesB
namespace Go.Proofs.Ytcokcfgagbahbaa
open Go.ChangeShapes Go.WideShapes Go.ChangeAt Go.RowKit Go.Maps Go.Sort Go.Shelf
set_option maxRecDepth 100000

/-- slices.Sort at ints. -/
theorem sortsA (m : Nat) : AnyZI.SortsIn Try.prog Try.sortedA_ren Fence.wide m :=
  ⟨fun blk off cap ss W hH hblk hsz => callsIn_wide.2 (AnyM.slices_Sort_int Try.sortA blk off cap ss W hH hblk hsz),
   fun p cap W => callsIn_wide.2 (AnyM.slices_Sort_int_none Try.sortA p cap W)⟩
theorem keys_call (mb : Option Nat) (W : World) : Calls Try.prog 47 #[.map mb] W fun e w' => e = .returned (.func (.func 57) #[] #[.pointer (some ⟨W.heap.size, 0, none⟩)]) ∧ w' = W.alloc (.cells #[.map mb] 54) :=
  callsIn_wide.1 (AnyZI.keys_in Try.keysA Fence.wide 5 trivial rfl mb W)
/-- A list of ints that a call has answered, or nil. -/
theorem slo_of {w : World} {base n : Nat} {v : Value} {K : List Int} (h : w.ownsRow base 3 1 v n (ixs K)) : ∃ a cap, v = .slice a n cap ∧ SliceN w.heap.size w a n K ∧ ∀ k, On a k → base ≤ k := by
  have hl := h.1
  rw [ixs_len, Nat.mul_one] at hl
  rcases h.2 with ⟨rfl, rfl⟩ | ⟨g, cap, cur, rfl, hb, hg, hn, hm, _⟩
  · have hk : K = [] := List.eq_nil_of_length_eq_zero hl
    subst hk
    exact ⟨none, 0, rfl, ⟨by unfold maxLen; omega, rfl, .inl rfl⟩, fun k hk => absurd hk (on_none k)⟩
  · have hO := own_outN h hl
    exact ⟨_, cap, rfl, hO.slice hl (by omega), fun k hk => by rw [← (on_some g k).1 hk]; exact hb⟩
theorem sorted_some (b nn : Nat) (D0 : DataW Unit) (g : Int → Option Int) (w : World) (hown : w.ownsMap Try.prog 3 (plainElem Try.prog 3) b nn D0) (hg : MapG D0 g) (hn : nn ≤ 2097152) :
    Calls Try.prog 46 #[.func (.func 57) #[] #[.pointer (some ⟨w.heap.size, 0, none⟩)]] (w.alloc (.cells #[.map (some b)] 54)) fun e w' => ∃ a nk cap K, e = .returned (.slice a nk cap) ∧ KeysG g K ∧ SliceN w'.heap.size w' a nk K ∧ nk ≤ 2097152 ∧ (∀ k, On a k → w.heap.size + 1 ≤ k) ∧ Below (w.heap.size + 1) (w.alloc (.cells #[.map (some b)] 54)) w' := by
  have hbl := hown.lt
  have hsz := hown.size_le
  have hmax : Maps.size D0 ≤ maxLen := by unfold maxLen; omega
  have hseq : SeqGives Fence.wide 2 Try.prog 57 #[.pointer (some ⟨w.heap.size, 0, none⟩)] encZ (fun ss => ss.Perm (intKeys D0)) (Maps.size D0) (w.alloc (.cells #[.map (some b)] 54)) :=
    AnyZI.keys_gives (ρ := Try.keysA_ren) { Try.keysA with } Fence.wide _ trivial rfl (by omega) w.heap.size b nn D0 _ (by simp) (by simp) (by
      obtain ⟨es, clock, hb, Ft, hs, hD⟩ := hown
      exact ⟨es, clock, (Below.heap_alloc _ _ b hbl).trans hb, Ft, hs, hD⟩)
  have cS := AnyZI.sorted_in Try.sortedA Fence.wide 5 trivial trivial trivial trivial rfl (by omega) (sortsA _) (enters_of Try.func56 (by kernel_rfl) rfl) 57 #[.pointer (some ⟨w.heap.size, 0, none⟩)] trivial (enters_of Try.func57 (by kernel_rfl) rfl) _ _ hmax (by omega) _ hseq
  change CallsIn _ _ Try.prog 46 _ _ _ at cS
  refine (callsIn_wide.1 cS).mono ?_
  rintro e w' ⟨v, ss, rfl, hS, hrow, hnil, hb⟩
  have hz : (w.alloc (.cells #[.map (some b)] 54)).heap.size = w.heap.size + 1 := by simp
  rw [hz] at hrow hb
  obtain ⟨a, cap, rfl, hsl, hon⟩ := slo_of (K := ss.mergeSort leI) hrow
  refine ⟨a, _, cap, ss.mergeSort leI, rfl, keysG hown lawI Try.underlying3 hg hS, hsl, ?_, hon, hb⟩
  rw [← List.length_mergeSort (le := leI) ss, keys_len hS hg.isMap]
  omega
theorem sorted_nil (w : World) :
    Calls Try.prog 46 #[.func (.func 57) #[] #[.pointer (some ⟨w.heap.size, 0, none⟩)]] (w.alloc (.cells #[.map none] 54)) fun e w' => e = .returned (.slice none 0 0) ∧ Below (w.heap.size + 1) (w.alloc (.cells #[.map none] 54)) w' := by
  have hseq : SeqGives Fence.wide 2 Try.prog 57 #[.pointer (some ⟨w.heap.size, 0, none⟩)] encZ (fun ss : List Int => ss = []) 0 (w.alloc (.cells #[.map none] 54)) :=
    AnyZI.keys_gives_nil (ρ := Try.keysA_ren) { Try.keysA with } Fence.wide _ trivial rfl w.heap.size _ (by simp) (by simp)
  have cS := AnyZI.sorted_in Try.sortedA Fence.wide 5 trivial trivial trivial trivial rfl (by omega) (sortsA _) (enters_of Try.func56 (by kernel_rfl) rfl) 57 #[.pointer (some ⟨w.heap.size, 0, none⟩)] trivial (enters_of Try.func57 (by kernel_rfl) rfl) _ 0 (Nat.zero_le _) (by omega) _ hseq
  change CallsIn _ _ Try.prog 46 _ _ _ at cS
  refine (callsIn_wide.1 cS).mono ?_
  rintro e w' ⟨v, ss, rfl, hS, hrow, hnil, hb⟩
  have hz : (w.alloc (.cells #[.map none] 54)).heap.size = w.heap.size + 1 := by simp
  rw [hz] at hb
  exact ⟨by rw [hnil.2 hS], hb⟩

theorem look_run {W : World} {b n : Nat} {D : DataW Unit} {g : Int → Option Int} {x v : Int} (hown : W.ownsMap Try.prog 3 (plainElem Try.prog 3) b n D) (hg : MapG D g) (hx : (Lit.int .i64 x).wf = true) (hv : g x = some v) :
    (Instr.lookup 54 (.map (some b)) (.int .i64 x) false).run Try.prog W = .ok (.int .i64 v) W := by
  obtain ⟨c, hrun, hat, _⟩ := hown.lookup_int lawI Try.underlying54 Try.underlying3 (by kernel_rfl) (keyOf_int_mk Try.underlying3 hx)
  rw [hg.at_ x v hv] at hat
  have : kI v = kI c := by injection hat
  have : v = c := by injection this
  rw [this]
  exact hrun

/-- append of one int within the room, as one step of a region that draws. -/
theorem step_appFits {ops : Array Oper} {o : Oper} {a : Act} {w : World} {K : Act → World → Prop} {Q : Exit → Act → World → Prop} {E : Prop} (hgd : o.guard = none) (s x : Operand)
    (ho : o.op = .call { callee := .builtin .append, args := #[s, x], argTypes := #[24, 24] })
    (g n cap : Nat) (L : List Int) (hs : a.eval s = .slice (some ⟨g, 0, none⟩) n cap) (hR : RoomN w g n cap L) (ad : Addr) (c : Nat) (y : Int) (hx : a.eval x = .slice (some ad) 1 c) (hc : w.cell? ad = some (.int .i64 y)) (hroom : n + 1 ≤ cap)
    (h : ∀ w', RoomN w' g (n + 1) cap (L ++ [y]) → w.grownBy w' (some g) → K (a.put o.dst (.slice (some ⟨g, 0, none⟩) (n + 1) cap)) w') :
    if Region.wanted o (yielded ops a.tmps) = true then Oper.wp Try.prog o a w K Q else E := by
  have hw : Region.wanted o (yielded ops a.tmps) = true := by simp [Region.wanted, hgd]
  rw [if_pos hw]
  obtain ⟨i, hi, hz0, hz1, hz2⟩ := info_parts infoN
  obtain ⟨w', hrun, hown', hgrow⟩ := run_append_fits (P := Try.prog) w 0 24 o.type 3 i 1 Try.underlying24 hi hz1 g n cap (ixs L) hR.own ad 1 c [.int .i64 y] rfl (fun j u hj => by
    match j, hj with
    | 0, hj =>
      simp at hj
      subst hj
      have e : ad.add 0 = ad := by simp [Addr.add]
      rw [e]
      exact hc) (fun u hu => by simp at hu; subst hu; rfl) hroom
  unfold Oper.wp
  simp [execOp, ho, resolve, invoke, builtin, hs, hx, hrun, Result.andThen]
  exact h w' ⟨by rw [ixs_app]; exact hown'⟩ hgrow
end Go.Proofs.Ytcokcfgagbahbaa
