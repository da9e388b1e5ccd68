/- Maps of ints as read: what they hold key by key, as a function; their keys in order; the list that is told of one. No program, no condition. -/
import Derived.Lib.SlKeysI
import Derived.Maps.OwnSet
import Derived.Maps.Range
namespace Go.Proofs.YtpkhnajhamnggaaGreatDoor
open Go.Maps

/-- A number as a key. -/
abbrev kI (x : Int) : Lit := .int .i64 x
theorem kI_ne {x y : Int} (h : x ≠ y) : kI x ≠ kI y := fun e => h (by injection e)

/-- D holds just what g says. -/
structure MapG (D : DataW Unit) (g : Int → Option Int) : Prop where
  isMap : IsMap D
  has : ∀ x, has D (kI x) = (g x).isSome
  at_ : ∀ x v, g x = some v → ∀ z, D.atKey (kI x) z = .lit (kI v)
theorem MapG.empty : MapG (.map []) fun _ => none := ⟨isMap_empty, fun _ => rfl, fun _ _ h => by cases h⟩
theorem MapG.put {D : DataW Unit} {g : Int → Option Int} (h : MapG D g) (x v : Int) : MapG (D.put (kI x) (.lit (kI v))) fun y => if y = x then some v else g y := by
  refine ⟨h.isMap.put _ _, fun y => ?_, fun y u hy z => ?_⟩
  · by_cases e : y = x
    · subst e; simp [has_put_same h.isMap (k := kI y) trivial]
    · simp only [e, if_false]; rw [has_put_other (kI_ne e)]; exact h.has y
  · by_cases e : y = x
    · subst e
      simp only [if_true, Option.some.injEq] at hy
      subst hy
      exact atKey_put_same h.isMap (k := kI y) trivial _ _
    · simp only [e, if_false] at hy
      rw [atKey_put_other (kI_ne e)]
      exact h.at_ y u hy z
theorem MapG.del {D : DataW Unit} {g : Int → Option Int} (h : MapG D g) (x : Int) : MapG (D.del (kI x)) fun y => if y = x then none else g y := by
  refine ⟨h.isMap.del _, fun y => ?_, fun y u hy z => ?_⟩
  · by_cases e : y = x
    · subst e; simp [has_del_same]
    · simp only [e, if_false]; rw [has_del_other (kI_ne e)]; exact h.has y
  · by_cases e : y = x
    · subst e; simp at hy
    · simp only [e, if_false] at hy
      rw [atKey_del_other (kI_ne e)]
      exact h.at_ y u hy z
theorem MapG.congr {D : DataW Unit} {g g' : Int → Option Int} (h : MapG D g) (e : ∀ x, g x = g' x) : MapG D g' := by
  obtain rfl : g = g' := funext e
  exact h

/-- The first k of L, by their places. -/
def gK (L : List Int) (k : Nat) (x : Int) : Option Int := if 0 ≤ x ∧ x < (k : Int) then L[x.toNat]? else none
theorem gK_step {L : List Int} {k : Nat} {v : Int} (hv : L[k]? = some v) (y : Int) : (if y = (k : Int) then some v else gK L k y) = gK L (k + 1) y := by
  unfold gK
  by_cases e : y = (k : Int)
  · subst e
    have h1 : (0 : Int) ≤ (k : Int) ∧ (k : Int) < ((k + 1 : Nat) : Int) := by omega
    simp only [if_true, h1, and_self]
    simp [hv]
  · simp only [e, if_false]
    by_cases h : 0 ≤ y ∧ y < (k : Int)
    · have h1 : 0 ≤ y ∧ y < ((k + 1 : Nat) : Int) := by omega
      simp only [h, h1, and_self, if_true]
    · have h1 : ¬ (0 ≤ y ∧ y < ((k + 1 : Nat) : Int)) := by omega
      simp only [h, h1, if_false]

/-- While what is not learnt is being forgotten. -/
def gS (L : List Int) (left : Lit → Bool) (x : Int) : Option Int :=
  match gK L L.length x with
  | some v => if v = -1 ∧ left (kI x) = false then none else some v
  | none => none
/-- What was learnt. -/
def gE (L : List Int) (x : Int) : Option Int :=
  match gK L L.length x with
  | some v => if v = -1 then none else some v
  | none => none
theorem gS_start {L : List Int} {D : DataW Unit} (h : MapG D (gK L L.length)) (x : Int) : gK L L.length x = gS L (has D) x := by
  unfold gS
  cases e : gK L L.length x with
  | none => rfl
  | some v =>
    have : has D (kI x) = true := by rw [h.has x, e]; rfl
    simp [this]
theorem gS_at {L : List Int} {left : Lit → Bool} {D : DataW Unit} (h : MapG D (gS L left)) (hl : ∀ x, left (kI x) = true → (gK L L.length x).isSome = true) {x c : Int} (hx : left (kI x) = true) (hat : ∀ zd, D.atKey (kI x) zd = .lit (kI c)) : gK L L.length x = some c := by
  obtain ⟨v, e⟩ := Option.isSome_iff_exists.1 (hl x hx)
  have hg : gS L left x = some v := by unfold gS; rw [e]; simp [hx]
  have h1 := h.at_ x v hg (.lit (kI 0))
  rw [hat] at h1
  rw [e]
  have : kI c = kI v := by injection h1
  have : c = v := by injection this
  rw [this]
theorem gS_struck {L : List Int} {left : Lit → Bool} {x : Int} (hx : gK L L.length x = some (-1)) (y : Int) : (if y = x then none else gS L left y) = gS L (fun z => left z && !z.sameKey (kI x)) y := by
  unfold gS
  by_cases e : y = x
  · subst e; simp [hx, Lit.sameKey]
  · have : (kI y).sameKey (kI x) = false := by simp [Lit.sameKey, e]
    simp [e, this]
theorem gS_stays {L : List Int} {left : Lit → Bool} {x c : Int} (hx : gK L L.length x = some c) (hc : c ≠ -1) (y : Int) : gS L left y = gS L (fun z => left z && !z.sameKey (kI x)) y := by
  unfold gS
  by_cases e : y = x
  · subst e; simp [hx, hc]
  · have : (kI y).sameKey (kI x) = false := by simp [Lit.sameKey, e]
    simp [this]
theorem gS_end {L : List Int} {left : Lit → Bool} (hl : ∀ z, left z = false) (x : Int) : gS L left x = gE L x := by
  unfold gS gE
  simp [hl]

/-- The list of so many places that is told of g. -/
def toldL (g : Int → Option Int) (n : Nat) : List Int := (List.range n).map fun i : Nat => (g (i : Int)).getD (-1)
theorem toldL_len (g : Int → Option Int) (n : Nat) : (toldL g n).length = n := by simp [toldL]
theorem toldL_at {g : Int → Option Int} {n i : Nat} (h : i < n) : (toldL g n)[i]? = some ((g (i : Int)).getD (-1)) := by simp [toldL, h]
theorem gE_at {L : List Int} {i : Nat} {v : Int} (h : L[i]? = some v) : gE L (i : Int) = if v = -1 then none else some v := by
  have hi := (List.getElem?_eq_some_iff.1 h).1
  unfold gE gK
  have h1 : (0 : Int) ≤ (i : Int) ∧ (i : Int) < (L.length : Int) := by omega
  simp only [h1, and_self, if_true]
  simp [h]
theorem gE_out {L : List Int} {x : Int} (h : ¬ (0 ≤ x ∧ x < (L.length : Int))) : gE L x = none := by
  unfold gE gK
  simp only [h, if_false]
theorem told_gE (L : List Int) : toldL (gE L) L.length = L := by
  apply List.ext_getElem?
  intro i
  by_cases h : i < L.length
  · rw [toldL_at h, gE_at (List.getElem?_eq_getElem h), List.getElem?_eq_getElem h]
    split
    · rename_i e; simp [e]
    · simp
  · rw [List.getElem?_eq_none (by rw [toldL_len]; omega), List.getElem?_eq_none (by omega)]
theorem told_put (L : List Int) (k : Nat) (m : Int) (hk : k < L.length) : toldL (fun y => if y = (k : Int) then some m else gE L y) L.length = L.set k m := by
  apply List.ext_getElem?
  intro i
  by_cases h : i < L.length
  · rw [toldL_at h]
    by_cases e : i = k
    · subst e; simp [h]
    · have e1 : ¬ ((i : Int) = (k : Int)) := by omega
      have e2 : ¬ (k = i) := by omega
      simp only [e1, if_false]
      rw [gE_at (List.getElem?_eq_getElem h), List.getElem?_set_ne e2, List.getElem?_eq_getElem h]
      split
      · rename_i e; simp [e]
      · simp
  · rw [List.getElem?_eq_none (by rw [toldL_len]; omega), List.getElem?_eq_none (by rw [List.length_set]; omega)]
theorem told_nil (n : Nat) : toldL (fun _ => none) n = List.replicate n (-1) := by
  apply List.ext_getElem?
  intro i
  by_cases h : i < n
  · rw [toldL_at h]; simp [h]
  · rw [List.getElem?_eq_none (by rw [toldL_len]; omega), List.getElem?_eq_none (by simp; omega)]

/-- A map's keys, sorted: rising, and just those that g has. -/
structure KeysG (g : Int → Option Int) (K : List Int) : Prop where
  up : K.Pairwise (· < ·)
  mem : ∀ x, x ∈ K ↔ (g x).isSome = true
section
variable {P : Program} {k : TypeId} {R : Value → Option (DataW Unit × List MemPlace)} {w : World} {b n : Nat} {D : DataW Unit} {g : Int → Option Int}
theorem keysG (hown : w.ownsMap P k R b n D) (K : Keyed P k) (hk : P.underlying k = some (.int .i64)) (hg : MapG D g) {ss : List Int} (hp : ss.Perm (intKeys D)) : KeysG g (ss.mergeSort leI) := by
  obtain ⟨es, hD, hpw, _⟩ := hown.entries K
  obtain ⟨es', hD', hko⟩ := hown.keysOf
  obtain rfl : es = es' := by rw [hD] at hD'; simpa using hD'
  subst hD
  have hints : ∀ p ∈ es, ∃ x, p.1 = .int .i64 x := fun p hp => by
    obtain ⟨v, hv⟩ := hko p hp
    obtain ⟨x, _, hx, _⟩ := Maps.keyOf_i64 hk hv
    exact ⟨x, hx⟩
  have hnd : (intKeys (.map es)).Nodup := by
    show (es.map fun p => Go.intOf p.1).Nodup
    refine List.pairwise_map.2 (hpw.imp_of_mem fun {p q} hp' hq' hne e => hne ?_)
    obtain ⟨a, ha⟩ := hints p hp'
    obtain ⟨c, hc⟩ := hints q hq'
    rw [ha, hc] at e ⊢
    exact congrArg _ e
  have hmem : ∀ x, x ∈ intKeys (.map es) ↔ (g x).isSome = true := fun x => by
    rw [← hg.has x, has_eq, List.any_eq_true]
    show x ∈ es.map (fun p => Go.intOf p.1) ↔ _
    rw [List.mem_map]
    constructor
    · rintro ⟨p, hp', rfl⟩
      obtain ⟨a, ha⟩ := hints p hp'
      exact ⟨p, hp', by rw [ha]; simp [Lit.sameKey, Go.intOf]⟩
    · rintro ⟨p, hp', hs⟩
      obtain ⟨a, ha⟩ := hints p hp'
      rw [ha] at hs
      exact ⟨p, hp', by rw [ha]; simpa [Lit.sameKey, Go.intOf] using hs⟩
  have tr : ∀ a b c : Int, leI a b = true → leI b c = true → leI a c = true := fun a b c h1 h2 => by simp only [leI, decide_eq_true_eq] at *; exact Int.le_trans h1 h2
  have to : ∀ a b : Int, (leI a b || leI b a) = true := fun a b => by simp only [leI, Bool.or_eq_true, decide_eq_true_eq]; exact Int.le_total a b
  have hs := List.pairwise_mergeSort tr to ss
  have hperm := (List.mergeSort_perm ss leI).trans hp
  have hnd2 : (ss.mergeSort leI).Nodup := hperm.nodup_iff.2 hnd
  refine ⟨?_, fun x => (hperm.mem_iff).trans (hmem x)⟩
  have both := hs.and hnd2
  refine both.imp fun {a c} h => ?_
  have h1 : a ≤ c := by simpa [leI] using h.1
  have h2 : a ≠ c := h.2
  omega
theorem keys_len {ss : List Int} (hp : ss.Perm (intKeys D)) (hD : IsMap D) : (ss.mergeSort leI).length = Maps.size D := by
  rw [List.length_mergeSort, hp.length_eq]
  obtain ⟨es, rfl⟩ := hD
  simp [intKeys, Maps.size]
end

/-- Between two keys there is none. -/
theorem KeysG.gap {g : Int → Option Int} {K : List Int} (h : KeysG g K) {j : Nat} {m x y : Int} (hx : K[j]? = some x) (hm : ∀ i u, i < j → K[i]? = some u → u < m) (h1 : m ≤ y) (h2 : y < x) : g y = none := by
  cases e : g y with
  | none => rfl
  | some v =>
    exfalso
    obtain ⟨i, hi⟩ := List.getElem?_of_mem ((h.mem y).2 (by rw [e]; rfl))
    by_cases hij : i < j
    · have := hm i y hij hi; omega
    · by_cases hji : j = i
      · subst hji; rw [hx] at hi; cases hi; omega
      · obtain ⟨hj', hjx⟩ := List.getElem?_eq_some_iff.1 hx
        obtain ⟨hi', hix⟩ := List.getElem?_eq_some_iff.1 hi
        have := (List.pairwise_iff_getElem.1 h.up) j i hj' hi' (by omega)
        rw [hjx, hix] at this
        omega
/-- Behind the last key there is none. -/
theorem KeysG.tail {g : Int → Option Int} {K : List Int} (h : KeysG g K) {m y : Int} (hm : ∀ u, u ∈ K → u < m) (h1 : m ≤ y) : g y = none := by
  cases e : g y with
  | none => rfl
  | some v =>
    have := hm y ((h.mem y).2 (by rw [e]; rfl))
    omega
theorem KeysG.next {g : Int → Option Int} {K : List Int} (h : KeysG g K) {j : Nat} {x : Int} (hx : K[j]? = some x) : (∀ i u, i < j + 1 → K[i]? = some u → u < x + 1) := by
  intro i u hi hu
  by_cases e : i = j
  · subst e; rw [hx] at hu; cases hu; omega
  · obtain ⟨hj', hjx⟩ := List.getElem?_eq_some_iff.1 hx
    obtain ⟨hi', hiu⟩ := List.getElem?_eq_some_iff.1 hu
    have := (List.pairwise_iff_getElem.1 h.up) i j hi' hj' (by omega)
    rw [hjx, hiu] at this
    omega
theorem KeysG.above {g : Int → Option Int} {K : List Int} (h : KeysG g K) {i j : Nat} {x u : Int} (hx : K[j]? = some x) (hij : j < i) (hu : K[i]? = some u) : x < u := by
  obtain ⟨hj', hjx⟩ := List.getElem?_eq_some_iff.1 hx
  obtain ⟨hi', hiu⟩ := List.getElem?_eq_some_iff.1 hu
  have := (List.pairwise_iff_getElem.1 h.up) j i hj' hi' hij
  rwa [hjx, hiu] at this
/-- The told list up to a key, from what was told up to m. -/
theorem told_fill {g : Int → Option Int} {m n : Nat} (hmn : m ≤ n) (h : ∀ y : Int, (m : Int) ≤ y → y < (n : Int) → g y = none) : toldL g m ++ List.replicate (n - m) (-1) = toldL g n := by
  apply List.ext_getElem?
  intro i
  by_cases hi : i < m
  · rw [List.getElem?_append_left (by rw [toldL_len]; exact hi), toldL_at hi, toldL_at (by omega)]
  · rw [List.getElem?_append_right (by rw [toldL_len]; omega), toldL_len]
    by_cases hin : i < n
    · rw [toldL_at hin, h i (by omega) (by omega)]
      simp only [Option.getD_none]
      rw [List.getElem?_replicate, if_pos (by omega)]
    · rw [List.getElem?_eq_none (by simp; omega), List.getElem?_eq_none (by rw [toldL_len]; omega)]
theorem told_one {g : Int → Option Int} {m : Nat} {v : Int} (h : g (m : Int) = some v) : toldL g m ++ [v] = toldL g (m + 1) := by
  unfold toldL
  rw [List.range_succ, List.map_append]
  simp [h]
end Go.Proofs.YtpkhnajhamnggaaGreatDoor
