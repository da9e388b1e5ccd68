/- A list of facts while a word's block is laid and filled. No condition. · Which entry sets a register, as data; Source of the specification at all cores. No condition. · The ring of the program: leftBy, ringOf, back, item at a slice of entries; registerOf. The place is within the ring. · Source of the program at all cores. No condition but that the row's room is no less than its length. · Value of the specification and of the program at all cores. No condition but, for the program, that the rows' room is no less than their lengths. -/
import Derived.Test.YtneohabkoighcaaFct
import Derived.Test.YtneohabkoighcaaQE
import Derived.Test.YtneohabkoighcaaInsS
import Derived.Test.YtneohabkoighcaaInsI
import Derived.Test.YtneohabkoighcaaQD
import Derived.Deep.CutBlock
import Derived.Test.YtneohabkoighcaaInsP
namespace Go.Proofs.Ytneohabkoighcaa
open Go.ChangeShapes Go.WideShapes Go.ChangeAt Go.RowKit
set_option maxRecDepth 100000

theorem Hold.boxG {w0 w : World} {fs : List Fct} (h : Hold w0 w fs) (vs : List Value) (T : TypeId) (r : Nat) (hr : r = w.heap.size) : Hold w0 (w.alloc (.cells vs.toArray T)) (celF r vs :: fs) := by
  subst hr
  exact (h.alloc _).push (celF w.heap.size vs) (Cel.new w vs T)
theorem Hold.setcG {w0 w : World} {fs : List Fct} {r : Nat} {vs : List Value} (h : Hold w0 w (celF r vs :: fs)) (h0 : w0.heap.size ≤ r) (hd : ∀ f ∈ fs, ¬ f.S r) (i : Nat) (v : Value) : Hold w0 (w.setCell ⟨r, i, none⟩ v) (celF r (vs.set i v) :: fs) :=
  ((h.tail).wrote (T := fun k => k = r) (KeptS.ofBut ((KeepBut.refl r w).setCell i v) rfl) (fun k e => by omega) (fun f hf k hk e => by subst e; exact hd f hf hk)).push (celF r (vs.set i v)) ((h.cel (.head _)).set i v)
theorem Hold.set6 {w0 w : World} {fs : List Fct} {r : Nat} {v0 v1 v2 v3 v4 v5 : Value} (h : Hold w0 w (celF r [v0, v1, v2, v3, v4, v5] :: fs)) (h0 : w0.heap.size ≤ r) (hd : ∀ f ∈ fs, ¬ f.S r) (u0 u1 u2 u3 u4 u5 : Value) :
    Hold w0 ((((((w.setCell ⟨r, 0, none⟩ u0).setCell ⟨r, 1, none⟩ u1).setCell ⟨r, 2, none⟩ u2).setCell ⟨r, 3, none⟩ u3).setCell ⟨r, 4, none⟩ u4).setCell ⟨r, 5, none⟩ u5) (celF r [u0, u1, u2, u3, u4, u5] :: fs) :=
  (((((h.setcG h0 hd 0 u0).setcG h0 hd 1 u1).setcG h0 hd 2 u2).setcG h0 hd 3 u3).setcG h0 hd 4 u4).setcG h0 hd 5 u5
end Go.Proofs.Ytneohabkoighcaa

namespace Go.Proofs.Ytneohabkoighcaa
open Go.ChangeShapes Go.WideShapes Go.ChangeAt Go.RowKit
set_option maxRecDepth 100000

/-- Which register an entry sets: by what it did, or will do. -/
def regZ (y : En) : Int := if y.d = true then y.e.r else setZ y.x.o y.x.r
/-- The last one ahead of k that sets n. -/
def lastZ (E : List En) (n : Int) : Nat → Int
  | 0 => -1
  | k + 1 => match E[k]? with
    | some y => if regZ y = n then (k : Int) else lastZ E n k
    | none => lastZ E n k
/-- What Source answers. -/
def srcZ (E : List En) (i n : Int) : Int := if n < 0 ∨ i < 0 then -1 else lastZ E n (min i.toNat E.length)
theorem last_hit {E : List En} {n : Int} {k : Nat} {y : En} (h : E[k]? = some y) (hr : regZ y = n) : lastZ E n (k + 1) = (k : Int) := by
  rw [lastZ, h]; simp [hr]
theorem last_miss {E : List En} {n : Int} {k : Nat} {y : En} (h : E[k]? = some y) (hr : regZ y ≠ n) : lastZ E n (k + 1) = lastZ E n k := by
  rw [lastZ, h]; simp [hr]
theorem last_lt {E : List En} {n : Int} : ∀ {k : Nat}, lastZ E n k = -1 ∨ (0 ≤ lastZ E n k ∧ lastZ E n k < (k : Int) ∧ lastZ E n k < (E.length : Int))
  | 0 => .inl rfl
  | k + 1 => by
    have ih := last_lt (E := E) (n := n) (k := k)
    unfold lastZ
    cases h : E[k]? with
    | none => simp only; omega
    | some y =>
      have hk := (List.getElem?_eq_some_iff.1 h).1
      by_cases hr : regZ y = n
      · simp only [hr, if_true]; omega
      · simp only [hr, if_false]; omega
theorem src_lt (E : List En) (i n : Int) : srcZ E i n = -1 ∨ (0 ≤ srcZ E i n ∧ srcZ E i n < (E.length : Int)) := by
  unfold srcZ
  split
  · exact .inl rfl
  · have := last_lt (E := E) (n := n) (k := min i.toNat E.length)
    omega

set_option maxHeartbeats 4000000 in
theorem specSource_any (v : Cv) (a : Ca) (r : Cr) (i n : Int) (hi : -9223372036854775808 ≤ i ∧ i ≤ 9223372036854775807) (w : World) (hS : CoS w v a r) :
    Calls Try.prog 11 #[.agg (col v a).toArray, .int .i64 i, .int .i64 n] w fun e w' => e = .returned (.int .i64 (srcZ r.E i n)) ∧ Below w.heap.size w w' := by
  have H : Hid (Hold w (w.alloc (.cells (col v a).toArray 48)) [celF w.heap.size (col v a), argCF w.heap.size v a r]) := ((Hold.new w).push (argCF w.heap.size v a r) hS.arg).box (col v a) 48 w.heap.size rfl
  have hlE := hid_mk hS.es.2.1
  have hm := hS.es.1
  unfold maxLen at hm
  clear hS
  obtain ⟨z, Z⟩ : ∃ z, Hid (z = srcZ r.E i n) := ⟨_, rfl⟩
  rw [← Z.out]
  generalize hw1 : w.alloc (.cells (col v a).toArray 48) = w1 at H
  go_enter Try.func11, Try.ntmps11
  go_upto_region 1 with fail
  clear hw1
  by_cases hn : n < 0
  · obtain rfl : z = -1 := by rw [Z.out, srcZ, if_pos (.inl hn)]
    have B := hid_mk H.out.bel
    clear H
    go_wp2
    go_ret
    exact ⟨rfl, B.out⟩
  · by_cases hi0 : i < 0
    · obtain rfl : z = -1 := by rw [Z.out, srcZ, if_pos (.inr hi0)]
      have B := hid_mk H.out.bel
      clear H
      go_wp2
      go_ret
      exact ⟨rfl, B.out⟩
    · obtain ⟨m, hm0⟩ : ∃ m : Nat, m = min i.toNat v.en := ⟨_, rfl⟩
      have Z1 : Hid (z = lastZ r.E n m) := by
        have e := hlE.out
        rw [Z.out, srcZ, if_neg (by omega), e, ← hm0]; exact hid_mk rfl
      have hmE : m ≤ v.en := by omega
      have hmi : min i (v.en : Int) = (m : Int) := by omega
      have s1 := min_any i (v.en : Int)
      rw [hmi] at s1
      have S1 := hid_mk s1
      have c10 := (H.out.cel (.head _)).c 10 _ rfl
      clear s1 hmi hm0 Z
      go_upto_region 4 with (go_at_call 34; refine (S1.out _).mono ?_; rintro e w2 ⟨rfl, rfl⟩)
      clear c10
      go_loopw [7] (fun cc wr => ∃ k : Nat, k ≤ m ∧ cc = .int .i64 ((k : Int) - 1) ∧ Hid (z = lastZ r.E n k) ∧ Hid (Hold w wr [celF w.heap.size (col v a), argCF w.heap.size v a r])) (fun cc _ => ((intOf cc) + 1).toNat)
      case atStart => exact ⟨m, Nat.le_refl _, by first | rfl | (simp; done) | (congr 1; go_num), Z1.out, H.out⟩
      case round =>
        clear H Z1
        obtain ⟨k, hk, rfl, Z1, H⟩ := hrel
        cases k with
        | zero =>
          obtain rfl : z = -1 := Z1.out
          have B := hid_mk H.out.bel
          clear H
          go_wp2
          go_ret
          exact ⟨rfl, B.out⟩
        | succ k =>
          have hlt : k < v.en := by omega
          have ek : ((k + 1 : Nat) : Int) - 1 = (k : Int) := by omega
          rw [ek]
          obtain ⟨kb, o, x, hea, hkb, hx, hat⟩ := (H.out.argC (.tail _ (.head _))).es.at hlt
          have HX := hid_mk hx
          have RS := hid_mk hat
          have c10 := (H.out.cel (.head _)).c 10 _ rfl
          rw [hea] at c10
          have dd := ent_c RS.out 11 _ rfl
          have dr := ent_c RS.out 13 _ rfl
          have d6 := ent_c RS.out 6 _ rfl
          have d7 := ent_c RS.out 7 _ rfl
          have d8 := ent_c RS.out 8 _ rfl
          have d9 := ent_c RS.out 9 _ rfl
          have dx := ent_c RS.out 10 _ rfl
          have s2 := specSets_any x.x.o x.x.r x.x.a x.x.b x.x.n
          have S2 := hid_mk s2
          clear hx hat s2 ek hea
          cases hd : x.d with
          | true =>
            rw [hd] at dd
            have hr : Hid (regZ x = x.e.r) := by simp [Hid, regZ, hd]
            generalize x.e.r = q at hr dr
            clear hd d6 d7 d8 d9 dx S2 RS
            by_cases he : q = n
            · subst he
              obtain rfl : z = (k : Int) := Z1.out.trans (last_hit HX.out hr.out)
              have hqq : (q == q) = true := by simp
              have B := hid_mk H.out.bel
              clear H
              go_wp2
              go_ret
              exact ⟨rfl, B.out⟩
            · have Z2 : Hid (z = lastZ r.E n k) := Z1.out.trans (last_miss HX.out (by rw [hr.out]; exact he))
              have hqq : (q == n) = false := by simpa using he
              clear Z1 HX hr he
              go_wp2
              go_roundw
              case rel => exact ⟨k, by omega, by go_num, Z2.out, H.out⟩
              case measure => (simp [intOf]; try omega)
          | false =>
            rw [hd] at dd
            have hr : Hid (regZ x = setZ x.x.o x.x.r) := by simp [Hid, regZ, hd]
            generalize setZ x.x.o x.x.r = q at hr S2
            clear hd RS
            go_wp2_with (go_at_call 35; refine (S2.out _).mono ?_; rintro e w3 ⟨rfl, hb⟩; refine Hid.out ?_)
            refine Lib.hid ?_
            replace H := hid_mk (H.out.next hb)
            clear hb c10 dd dr d6 d7 d8 d9 dx S2
            by_cases he : q = n
            · subst he
              obtain rfl : z = (k : Int) := Z1.out.trans (last_hit HX.out hr.out)
              have hqq : (q == q) = true := by simp
              have B := hid_mk H.out.bel
              clear H
              go_wp2
              go_ret
              exact ⟨rfl, B.out⟩
            · have Z2 : Hid (z = lastZ r.E n k) := Z1.out.trans (last_miss HX.out (by rw [hr.out]; exact he))
              have hqq : (q == n) = false := by simpa using he
              clear Z1 HX hr he
              go_wp2
              go_roundw
              case rel => exact ⟨k, by omega, by go_num, Z2.out, H.out⟩
              case measure => (simp [intOf]; try omega)
end Go.Proofs.Ytneohabkoighcaa

namespace Go.Proofs.Ytneohabkoighcaa
open Go.ChangeShapes Go.WideShapes Go.ChangeAt Go.RowKit
set_option maxRecDepth 100000

theorem left_up (m n : Int) (h0 : 0 ≤ m) (h1 : m < n) (hn : n ≤ 4611686018427387904) : (wrap64 (m % n + n)).tmod n = m := by
  rw [Int.emod_eq_of_lt h0 h1, IntWalk.wrap64_in _ (by omega)]
  rw [Int.tmod_eq_emod_of_nonneg (by omega), Int.add_emod_right, Int.emod_eq_of_lt h0 h1]
theorem left_down (n : Int) (h1 : 0 < n) (hn : n ≤ 4611686018427387904) : (wrap64 (-(1 % n) + n)).tmod n = n - 1 := by
  by_cases e : n = 1
  · subst e
    have h : (1 : Int) % 1 = 0 := by omega
    rw [h, IntWalk.wrap64_in _ (by omega)]
    decide
  · have h : (1 : Int) % n = 1 := Int.emod_eq_of_lt (by omega) (by omega)
    rw [h, IntWalk.wrap64_in _ (by omega), Int.tmod_eq_of_lt (by omega) (by omega)]
    omega
set_option maxHeartbeats 1000000 in
theorem leftIn_any (m n : Int) (h0 : -1 ≤ m) (h1 : m < n) (h2 : 0 < n) (hn : n ≤ 4611686018427387904) (w : World) :
    Calls Try.prog 62 #[.int .i64 m, .int .i64 n] w fun e w' => e = .returned (.int .i64 (if m = -1 then n - 1 else m)) ∧ w' = w := by
  have hne : n ≠ 0 := by omega
  by_cases hm : m = -1
  · subst hm
    rw [if_pos rfl]
    have E := hid_mk (left_down n h2 hn)
    go_enter Try.func62, Try.ntmps62
    go_wp2
    go_ret
    exact ⟨by show Ending.returned (Value.int IntKind.i64 ((wrap64 (-(1 % n) + n)).tmod n)) = _; rw [E.out], rfl⟩
  · rw [if_neg hm]
    have E := hid_mk (left_up m n (by omega) h1 hn)
    go_enter Try.func62, Try.ntmps62
    go_wp2
    go_ret
    exact ⟨by show Ending.returned (Value.int IntKind.i64 ((wrap64 (m % n + n)).tmod n)) = _; rw [E.out], rfl⟩

theorem ringOf_any (s : Option Addr) (n c : Nat) (w : World) :
    Calls Try.prog 36 #[.slice s n c] w fun e w' => e = .returned (.agg #[.slice s n c, .int .i64 0]) ∧ Below w.heap.size w w' := by
  have H : Hid (Hold w (w.alloc (.cells ([.slice none 0 0, .int .i64 0] : List Value).toArray 80)) [celF w.heap.size [.slice none 0 0, .int .i64 0]]) := (Hold.new w).box [.slice none 0 0, .int .i64 0] 80 w.heap.size rfl
  generalize hw1 : w.alloc (.cells ([.slice none 0 0, .int .i64 0] : List Value).toArray 80) = w1 at H
  go_enter Try.func36, Try.ntmps36
  go_upto_region 1 with fail
  clear hw1
  have z0 := (H.out.cel (.head _)).c 0 _ rfl
  have z1 := (H.out.cel (.head _)).c 1 _ rfl
  have f0 := (H.out.cel (.head _)).f 0 (by simp)
  have f1 := (H.out.cel (.head _)).f 1 (by simp)
  go_wp2
  refine bodyPost_ret (v := .agg #[.slice s n c, .int .i64 0]) (by simp [results, Try.results36, go_sem, z0, z1]) rfl ⟨rfl, ?_⟩
  exact (H.out.bel.setCell (Nat.le_refl _) _).setCell (Nat.le_refl _) _
/-- One back: from the first item to the last one. -/
def bckN (p n : Nat) : Nat := if p = 0 then n - 1 else p - 1
set_option maxHeartbeats 2000000 in
theorem back_any (s : Option Addr) (n c p : Nat) (hp : p < n) (hn : n ≤ 9223372036854775807 / 2) (w : World) :
    Calls Try.prog 37 #[.agg #[.slice s n c, .int .i64 (p : Int)]] w fun e w' => e = .returned (.agg #[.slice s n c, .int .i64 (bckN p n : Int)]) ∧ Below w.heap.size w w' := by
  have H : Hid (Hold w ((w.alloc (.cells ([.slice s n c, .int .i64 (p : Int)] : List Value).toArray 80)).alloc (.cells ([.slice none 0 0, .int .i64 0] : List Value).toArray 80)) [celF (w.heap.size + 1) [.slice none 0 0, .int .i64 0], celF w.heap.size [.slice s n c, .int .i64 (p : Int)]]) :=
    ((Hold.new w).box [.slice s n c, .int .i64 (p : Int)] 80 w.heap.size rfl).box [.slice none 0 0, .int .i64 0] 80 (w.heap.size + 1) (by simp)
  have e1 : (if (p : Int) - 1 = -1 then (n : Int) - 1 else (p : Int) - 1) = (bckN p n : Int) := by unfold bckN; split <;> split <;> omega
  have s1 := leftIn_any ((p : Int) - 1) n (by omega) (by omega) (by omega) (by omega)
  rw [e1] at s1
  obtain ⟨b, hb⟩ : ∃ b : Nat, b = bckN p n := ⟨_, rfl⟩
  rw [← hb] at s1 ⊢
  have S1 := hid_mk s1
  clear e1 s1 hb
  generalize hw1 : (w.alloc (.cells ([.slice s n c, .int .i64 (p : Int)] : List Value).toArray 80)).alloc (.cells ([.slice none 0 0, .int .i64 0] : List Value).toArray 80) = w1 at H
  go_enter Try.func37, Try.ntmps37
  go_upto_region 1 with fail
  clear hw1
  have D0 := hid_mk H.out.drew
  refine wp_region_held_drew (S := fun w' => Hold w w' [celF w.heap.size [.slice s n c, .int .i64 (p : Int)]]) (by kernel_rfl) D0.out.tail (fun hHeld => ?_)
  generalize w1.drew = wd at D0 hHeld ⊢
  clear H
  refine take_on (i := 0) (d := 3) (v := .pointer (some ⟨w.heap.size, 0, none⟩)) rfl rfl (by kernel_rfl) (by kernel_rfl) (by kernel_rfl) (fun _ _ _ h => h) (by rfl) ?_ hHeld ?_
  · (intro w' hSw; go_simp)
  (try simp only [Act.put]); (try simp only [List.setIfInBounds_toArray]); (try simp only [List.set_cons_succ]); (try simp only [List.set_cons_zero]); (try simp only [List.set_cons_succ]); (try simp only [List.set_cons_zero]); (try simp only [Nat.zero_add])
  refine take_on (i := 1) (d := 4) (v := .slice s n c) rfl rfl (by kernel_rfl) (by kernel_rfl) (by kernel_rfl) (fun _ _ _ h => h) (by rfl) ?_ hHeld ?_
  · (intro w' hSw; have c0 := ((show Hold w w' [celF w.heap.size [.slice s n c, .int .i64 (p : Int)]] from hSw).cel (.head _)).c 0 _ rfl; go_simp)
  (try simp only [Act.put]); (try simp only [List.setIfInBounds_toArray]); (try simp only [List.set_cons_succ]); (try simp only [List.set_cons_zero]); (try simp only [List.set_cons_succ]); (try simp only [List.set_cons_zero]); (try simp only [Nat.zero_add])
  refine take_on (i := 2) (d := 5) (v := .pointer (some ⟨w.heap.size, 1, none⟩)) rfl rfl (by kernel_rfl) (by kernel_rfl) (by kernel_rfl) (fun _ _ _ h => h) (by rfl) ?_ hHeld ?_
  · (intro w' hSw; go_simp)
  (try simp only [Act.put]); (try simp only [List.setIfInBounds_toArray]); (try simp only [List.set_cons_succ]); (try simp only [List.set_cons_zero]); (try simp only [List.set_cons_succ]); (try simp only [List.set_cons_zero]); (try simp only [Nat.zero_add])
  refine take_on (i := 3) (d := 6) (v := .int .i64 (p : Int)) rfl rfl (by kernel_rfl) (by kernel_rfl) (by kernel_rfl) (fun _ _ _ h => h) (by rfl) ?_ hHeld ?_
  · (intro w' hSw; have c0 := ((show Hold w w' [celF w.heap.size [.slice s n c, .int .i64 (p : Int)]] from hSw).cel (.head _)).c 1 _ rfl; go_simp)
  (try simp only [Act.put]); (try simp only [List.setIfInBounds_toArray]); (try simp only [List.set_cons_succ]); (try simp only [List.set_cons_zero]); (try simp only [List.set_cons_succ]); (try simp only [List.set_cons_zero]); (try simp only [Nat.zero_add])
  refine take_on (i := 4) (d := 7) (v := .int .i64 ((p : Int) - 1)) rfl rfl (by kernel_rfl) (by kernel_rfl) (by kernel_rfl) (fun _ _ _ h => h) (by rfl) ?_ hHeld ?_
  · (intro w' hSw; go_simp; rw [IntWalk.i64_left, IntWalk.wrap64_in _ (by omega)])
  (try simp only [Act.put]); (try simp only [List.setIfInBounds_toArray]); (try simp only [List.set_cons_succ]); (try simp only [List.set_cons_zero]); (try simp only [List.set_cons_succ]); (try simp only [List.set_cons_zero]); (try simp only [Nat.zero_add])
  refine take_on (i := 5) (d := 8) (v := .pointer (some ⟨w.heap.size, 0, none⟩)) rfl rfl (by kernel_rfl) (by kernel_rfl) (by kernel_rfl) (fun _ _ _ h => h) (by rfl) ?_ hHeld ?_
  · (intro w' hSw; go_simp)
  (try simp only [Act.put]); (try simp only [List.setIfInBounds_toArray]); (try simp only [List.set_cons_succ]); (try simp only [List.set_cons_zero]); (try simp only [List.set_cons_succ]); (try simp only [List.set_cons_zero]); (try simp only [Nat.zero_add])
  refine take_on (i := 6) (d := 9) (v := .slice s n c) rfl rfl (by kernel_rfl) (by kernel_rfl) (by kernel_rfl) (fun _ _ _ h => h) (by rfl) ?_ hHeld ?_
  · (intro w' hSw; have c0 := ((show Hold w w' [celF w.heap.size [.slice s n c, .int .i64 (p : Int)]] from hSw).cel (.head _)).c 0 _ rfl; go_simp)
  (try simp only [Act.put]); (try simp only [List.setIfInBounds_toArray]); (try simp only [List.set_cons_succ]); (try simp only [List.set_cons_zero]); (try simp only [List.set_cons_succ]); (try simp only [List.set_cons_zero]); (try simp only [Nat.zero_add])
  refine take_on (i := 7) (d := 10) (v := .int .i64 (n : Int)) rfl rfl (by kernel_rfl) (by kernel_rfl) (by kernel_rfl) (fun _ _ _ h => h) (by rfl) ?_ hHeld ?_
  · (intro w' hSw; go_simp)
  (try simp only [Act.put]); (try simp only [List.setIfInBounds_toArray]); (try simp only [List.set_cons_succ]); (try simp only [List.set_cons_zero]); (try simp only [List.set_cons_succ]); (try simp only [List.set_cons_zero]); (try simp only [Nat.zero_add])
  refine wpAnyH_ready (rs := [8]) (by kernel_rfl) (by simp) ?_
  refine AllReadyH.cons rfl (fun K hK => ?_) AllReadyH.nil
  go_simp
  refine (S1.out _).mono ?_
  rintro e w9 ⟨rfl, rfl⟩
  refine hK.out _ _ D0.out.tail (fun hHeld => ?_)
  clear hK K
  (try simp only [Act.put]); (try simp only [List.setIfInBounds_toArray]); (try simp only [List.set_cons_succ]); (try simp only [List.set_cons_zero]); (try simp only [List.set_cons_succ]); (try simp only [List.set_cons_zero]); (try simp only [Nat.zero_add])
  refine take_on (i := 9) (d := 12) (v := .agg #[.slice s n c, .int .i64 (b : Int)]) rfl rfl (by kernel_rfl) (by kernel_rfl) (by kernel_rfl) (fun _ _ _ h => h) (by rfl) ?_ hHeld ?_
  · (intro w' hSw; go_simp)
  (try simp only [Act.put]); (try simp only [List.setIfInBounds_toArray]); (try simp only [List.set_cons_succ]); (try simp only [List.set_cons_zero]); (try simp only [List.set_cons_succ]); (try simp only [List.set_cons_zero]); (try simp only [Nat.zero_add])
  have z0 := (D0.out.cel (.head _)).c 0 _ rfl
  have z1 := (D0.out.cel (.head _)).c 1 _ rfl
  have C9 := hid_mk (D0.out.cel (.head _))
  have C2 := hid_mk (C9.out.sets (us := [.slice s n c, .int .i64 (b : Int)]) rfl)
  have B2 := hid_mk (below_sets [.slice s n c, .int .i64 (b : Int)] D0.out.bel (r := w.heap.size + 1) (by omega))
  have G2 := hid_mk (D0.out.tail.wrote (T := fun k => k = w.heap.size + 1) (KeptS.ofBut (KeepBut.setCells (b := w.heap.size + 1) [.slice s n c, .int .i64 (b : Int)] 0 w9) rfl) (fun k e => by omega) (fun f hf k hk e => by
    simp only [List.mem_cons, List.not_mem_nil, or_false] at hf
    subst hf
    simp only [celF] at hk; omega))
  refine wpAnyH_ready (rs := [10]) (by kernel_rfl) (by simp) ?_
  refine AllReadyH.cons rfl (fun K hK => ?_) AllReadyH.nil
  refine step_stm (by rfl) 80 _ _ (by rfl) (w.heap.size + 1) 0 #[.slice s n c, .int .i64 (b : Int)] (by rfl) (by rfl) C9.out.there (by kernel_rfl) (all_oneCell_toArray (cs := [.slice s n c, .int .i64 (b : Int)]) fun v hv => by simp only [List.mem_cons, List.not_mem_nil, or_false] at hv; rcases hv with rfl | rfl <;> rfl) ?_
  refine hK.out _ _ G2.out (fun hHeld => ?_)
  clear hK K
  refine wpAnyH_done (by kernel_rfl) ?_ _
  have hlv := hid_mk (run_loadVar_mid (P := Try.prog) (w9.setCells (w.heap.size + 1) 0 [.slice s n c, .int .i64 (b : Int)]) (w.heap.size + 1) 0 80 [.slice s n c, .int .i64 (b : Int)] _ C2.out.range Try.underlying80 rfl (by kernel_rfl))
  clear hHeld G2 C2 C9 D0 z0 z1
  go_wp2
  refine bodyPost_ret (v := .agg #[.slice s n c, .int .i64 (b : Int)]) (results_cell1 Try.results37 (by rfl) hlv.out) rfl ⟨rfl, B2.out⟩
set_option maxHeartbeats 2000000 in
theorem item_any (kb o n c p : Nat) (L : List En) (x : En) (hp : p < n) (hx : L[p]? = some x) (w : World) (hS : SliceV 40 enl w.heap.size w (some ⟨kb, o, none⟩) n L) :
    Calls Try.prog 39 #[.agg #[.slice (some ⟨kb, o, none⟩) n c, .int .i64 (p : Int)]] w fun e w' => e = .returned (.agg (enl x).toArray) ∧ Below w.heap.size w w' := by
  have H : Hid (Hold w ((w.alloc (.cells ([.slice (some ⟨kb, o, none⟩) n c, .int .i64 (p : Int)] : List Value).toArray 80)).alloc (.cells ([.int .i64 0, .bool false, .int .i64 0, .int .i64 0, .int .i64 0, .int .i64 0, .int .i64 0, .int .i64 0, .int .i64 0, .int .i64 0, .int .i64 0, .bool false, .int .i64 0, .int .i64 0, .int .i64 0, .bool false, .int .i64 0, .int .i64 0, .int .i64 0, .int .i64 0, .int .i64 0, .bool false, .int .i64 0, .int .i64 0, .int .i64 0, .int .i64 0, .int .i64 0, .int .i64 0, .bool false, .int .i64 0, .int .i64 0, .int .i64 0, .int .i64 0, .int .i64 0, .int .i64 0, .bool false, .int .i64 0, .int .i64 0, .int .i64 0, .int .i64 0] : List Value).toArray 66)) [celF (w.heap.size + 1) [.int .i64 0, .bool false, .int .i64 0, .int .i64 0, .int .i64 0, .int .i64 0, .int .i64 0, .int .i64 0, .int .i64 0, .int .i64 0, .int .i64 0, .bool false, .int .i64 0, .int .i64 0, .int .i64 0, .bool false, .int .i64 0, .int .i64 0, .int .i64 0, .int .i64 0, .int .i64 0, .bool false, .int .i64 0, .int .i64 0, .int .i64 0, .int .i64 0, .int .i64 0, .int .i64 0, .bool false, .int .i64 0, .int .i64 0, .int .i64 0, .int .i64 0, .int .i64 0, .int .i64 0, .bool false, .int .i64 0, .int .i64 0, .int .i64 0, .int .i64 0], celF w.heap.size [.slice (some ⟨kb, o, none⟩) n c, .int .i64 (p : Int)], sevF 40 enl w.heap.size (some ⟨kb, o, none⟩) n L]) :=
    (((Hold.new w).push (sevF 40 enl w.heap.size (some ⟨kb, o, none⟩) n L) ⟨hS, Nat.le_refl _⟩).box [.slice (some ⟨kb, o, none⟩) n c, .int .i64 (p : Int)] 80 w.heap.size rfl).box [.int .i64 0, .bool false, .int .i64 0, .int .i64 0, .int .i64 0, .int .i64 0, .int .i64 0, .int .i64 0, .int .i64 0, .int .i64 0, .int .i64 0, .bool false, .int .i64 0, .int .i64 0, .int .i64 0, .bool false, .int .i64 0, .int .i64 0, .int .i64 0, .int .i64 0, .int .i64 0, .bool false, .int .i64 0, .int .i64 0, .int .i64 0, .int .i64 0, .int .i64 0, .int .i64 0, .bool false, .int .i64 0, .int .i64 0, .int .i64 0, .int .i64 0, .int .i64 0, .int .i64 0, .bool false, .int .i64 0, .int .i64 0, .int .i64 0, .int .i64 0] 66 (w.heap.size + 1) (by simp)
  have hm := hS.1
  unfold maxLen at hm
  clear hS
  generalize hw1 : (w.alloc (.cells ([.slice (some ⟨kb, o, none⟩) n c, .int .i64 (p : Int)] : List Value).toArray 80)).alloc (.cells ([.int .i64 0, .bool false, .int .i64 0, .int .i64 0, .int .i64 0, .int .i64 0, .int .i64 0, .int .i64 0, .int .i64 0, .int .i64 0, .int .i64 0, .bool false, .int .i64 0, .int .i64 0, .int .i64 0, .bool false, .int .i64 0, .int .i64 0, .int .i64 0, .int .i64 0, .int .i64 0, .bool false, .int .i64 0, .int .i64 0, .int .i64 0, .int .i64 0, .int .i64 0, .int .i64 0, .bool false, .int .i64 0, .int .i64 0, .int .i64 0, .int .i64 0, .int .i64 0, .int .i64 0, .bool false, .int .i64 0, .int .i64 0, .int .i64 0, .int .i64 0] : List Value).toArray 66) = w1 at H
  go_enter Try.func39, Try.ntmps39
  go_upto_region 1 with fail
  clear hw1
  have c0 := (H.out.cel (.tail _ (.head _))).c 0 _ rfl
  have c1 := (H.out.cel (.tail _ (.head _))).c 1 _ rfl
  have RS := hid_mk ((H.out.sev (.tail _ (.tail _ (.head _)))).range hp hx)
  have C9 := hid_mk (H.out.cel (.head _))
  have C2 := hid_mk (C9.out.sets (us := enl x) rfl)
  have B2 := hid_mk (below_sets (enl x) H.out.bel (r := w.heap.size + 1) (by omega))
  have hlv := hid_mk (lv_ent C2.out.range)
  clear H hx
  go_wp2_with (first | (refine wpList_load_mid (by rfl) 66 _ (by rfl) kb (o + p * 40) (by rfl) (enl x) _ RS.out Try.underlying66 rfl sizeEnt ?_) | (refine wpList_store_mid (by rfl) 66 _ _ (by rfl) (w.heap.size + 1) 0 (enl x).toArray (by rfl) (by rfl) C9.out.there sizeEnt (enl_one x) ?_))
  refine bodyPost_ret (v := .agg (enl x).toArray) (results_cell1 Try.results39 (by rfl) hlv.out) rfl ⟨rfl, B2.out⟩
set_option maxHeartbeats 2000000 in
theorem registerOf_any (y : En) (w : World) :
    Calls Try.prog 38 #[.agg (enl y).toArray] w fun e w' => e = .returned (.int .i64 (regZ y)) ∧ Below w.heap.size w w' := by
  have H : Hid (Hold w (w.alloc (.cells (enl y).toArray 66)) [celF w.heap.size (enl y)]) := (Hold.new w).box (enl y) 66 w.heap.size rfl
  obtain ⟨z, Z⟩ : ∃ z, Hid (z = regZ y) := ⟨_, rfl⟩
  rw [← Z.out]
  generalize hw1 : w.alloc (.cells (enl y).toArray 66) = w1 at H
  go_enter Try.func38, Try.ntmps38
  go_upto_region 1 with fail
  clear hw1
  have c11 := (H.out.cel (.head _)).c 11 _ rfl
  cases hd : y.d with
  | true =>
    rw [hd] at c11
    have c13 := (H.out.cel (.head _)).c 13 _ rfl
    have hz : z = y.e.r := by rw [Z.out, regZ, hd]; rfl
    rw [← hz] at c13
    have B := hid_mk H.out.bel
    clear H hd hz Z
    go_wp2
    go_ret
    exact ⟨rfl, B.out⟩
  | false =>
    rw [hd] at c11
    have c6 := (H.out.cel (.head _)).c 6 _ rfl
    have c7 := (H.out.cel (.head _)).c 7 _ rfl
    have c8 := (H.out.cel (.head _)).c 8 _ rfl
    have c9 := (H.out.cel (.head _)).c 9 _ rfl
    have c10 := (H.out.cel (.head _)).c 10 _ rfl
    have hz : z = setZ y.x.o y.x.r := by rw [Z.out, regZ, hd]; rfl
    have s1 := implSets_any y.x.o y.x.r y.x.a y.x.b y.x.n
    rw [← hz] at s1
    have S1 := hid_mk s1
    clear hd hz Z s1
    go_wp2_with (go_at_call 63; refine (S1.out _).mono ?_; rintro e w2 ⟨rfl, hb⟩; refine Hid.out ?_)
    refine Lib.hid ?_
    have B := hid_mk (H.out.next hb).bel
    clear hb H c6 c7 c8 c9 c10 c11
    go_wp2
    go_ret
    exact ⟨rfl, B.out⟩
end Go.Proofs.Ytneohabkoighcaa

namespace Go.Proofs.Ytneohabkoighcaa
open Go.ChangeShapes Go.WideShapes Go.ChangeAt Go.RowKit
set_option maxRecDepth 100000

set_option maxHeartbeats 4000000 in
theorem implSource_any (v : Cv) (a : Ca) (r : Cr) (i n : Int) (hi : -9223372036854775808 ≤ i ∧ i ≤ 9223372036854775807) (w : World) (hS : CoS w v a r) (hC : CapC v a) (hv : v.en ≤ 1048576) :
    Calls Try.prog 12 #[.agg (col v a).toArray, .int .i64 i, .int .i64 n] w fun e w' => e = .returned (.int .i64 (srcZ r.E i n)) ∧ Below w.heap.size w w' := by
  have H : Hid (Hold w (w.alloc (.cells (col v a).toArray 48)) [celF w.heap.size (col v a), argCF w.heap.size v a r]) := ((Hold.new w).push (argCF w.heap.size v a r) hS.arg).box (col v a) 48 w.heap.size rfl
  have hlE := hid_mk hS.es.2.1
  have hm := hS.es.1
  unfold maxLen at hm
  have hec := hC.e
  have hen := hC.n
  clear hS hC
  obtain ⟨z, Z⟩ : ∃ z, Hid (z = srcZ r.E i n) := ⟨_, rfl⟩
  rw [← Z.out]
  generalize hw1 : w.alloc (.cells (col v a).toArray 48) = w1 at H
  go_enter Try.func12, Try.ntmps12
  go_upto_region 1 with fail
  clear hw1
  by_cases hn : n < 0
  · obtain rfl : z = -1 := by rw [Z.out, srcZ, if_pos (.inl hn)]
    have B := hid_mk H.out.bel
    clear H
    go_wp2
    go_ret
    exact ⟨rfl, B.out⟩
  · obtain ⟨m, hm0⟩ : ∃ m : Nat, m = min i.toNat v.en := ⟨_, rfl⟩
    have Z1 : Hid (z = lastZ r.E n m) := by
      have e := hlE.out
      rw [Z.out, srcZ, e, ← hm0]
      split
      · rename_i h
        have : m = 0 := by omega
        rw [this]
        exact hid_mk rfl
      · exact hid_mk rfl
    have hmE : m ≤ v.en := by omega
    have hmi : min (max i 0) (v.en : Int) = (m : Int) := by omega
    have c10 := (H.out.cel (.head _)).c 10 _ rfl
    obtain ⟨ea, HE⟩ : ∃ ea, Hid (a.ea = ea) := ⟨_, rfl⟩
    rw [HE.out] at c10
    clear Z
    go_upto_region 3 with fail
    go_cut [7] (fun c wx => ∃ rb, c = .pointer (some ⟨rb, 0, none⟩) ∧ w.heap.size < rb ∧ Hid (Hold w wx [celF rb [.slice ea m a.ec, .int .i64 0], celF w.heap.size (col v a), argCF w.heap.size v a r]))
    case first =>
      by_cases h0 : i < 0
      · have e0 : m = 0 := by omega
        subst e0
        clear hm0 hmi Z1
        go_wp2_with (go_at_call 36; refine (ringOf_any _ _ _ _).mono ?_; rintro e w2 ⟨rfl, hb⟩; refine Hid.out ?_)
        refine Lib.hid ?_
        have H2 := hid_mk ((H.out.next hb).box [.slice ea 0 a.ec, .int .i64 0] 80 w2.heap.size rfl)
        have hr2 := Nat.lt_of_lt_of_le (H.out.cel (.head _)).lt hb.size
        clear hb H c10
        go_wp2
        go_meet
        case rel => exact ⟨w2.heap.size, rfl, hr2, H2.out⟩
      · by_cases h1 : (v.en : Int) < i
        · have e0 : m = v.en := by omega
          subst e0
          have e1 : ((v.en : Int)).toNat = v.en := by omega
          clear hm0 hmi Z1
          go_wp2_with (go_at_call 36; refine (ringOf_any _ _ _ _).mono ?_; rintro e w2 ⟨rfl, hb⟩; refine Hid.out ?_)
          refine Lib.hid ?_
          have H2 := hid_mk ((H.out.next hb).box [.slice ea v.en a.ec, .int .i64 0] 80 w2.heap.size rfl)
          have hr2 := Nat.lt_of_lt_of_le (H.out.cel (.head _)).lt hb.size
          clear hb H c10
          go_wp2
          go_meet
          case rel => exact ⟨w2.heap.size, rfl, hr2, H2.out⟩
        · have e0 : i.toNat = m := by omega
          subst e0
          clear hm0 hmi Z1
          go_wp2_with (go_at_call 36; refine (ringOf_any _ _ _ _).mono ?_; rintro e w2 ⟨rfl, hb⟩; refine Hid.out ?_)
          refine Lib.hid ?_
          have H2 := hid_mk ((H.out.next hb).box [.slice ea i.toNat a.ec, .int .i64 0] 80 w2.heap.size rfl)
          have hr2 := Nat.lt_of_lt_of_le (H.out.cel (.head _)).lt hb.size
          clear hb H c10
          go_wp2
          go_meet
          case rel => exact ⟨w2.heap.size, rfl, hr2, H2.out⟩
    case rest =>
      obtain ⟨rb, rfl, hrb, H⟩ := hcut
      have DD : Hid (∀ f ∈ [celF w.heap.size (col v a), argCF w.heap.size v a r], ¬ f.S rb) := fun f hf hs => by
        simp only [List.mem_cons, List.not_mem_nil, or_false] at hf
        rcases hf with rfl | rfl
        · simp only [celF] at hs; omega
        · simp only [argCF] at hs; omega
      have hr0 : w.heap.size ≤ rb := by omega
      clear hmi hm0 hec hen c10 hn hi
      have c0 := (H.out.cel (.head _)).c 0 _ rfl
      go_wp2
      clear c0
      go_loopw [23] (fun cc wr => ∃ j : Nat, j ≤ m ∧ cc = .int .i64 (j : Int) ∧ Hid (z = lastZ r.E n (m - j)) ∧ Hid (Hold w wr [celF rb [.slice ea m a.ec, .int .i64 ((if j = 0 then 0 else m - j : Nat) : Int)], celF w.heap.size (col v a), argCF w.heap.size v a r])) (fun cc _ => m - (intOf cc).toNat)
      case atStart => exact ⟨0, Nat.zero_le _, rfl, Z1.out, H.out⟩
      case round =>
        clear H Z1
        obtain ⟨j, hj, rfl, Z1, H⟩ := hrel
        by_cases hlt : j < m
        · obtain ⟨p, hp⟩ : ∃ p : Nat, p = (if j = 0 then 0 else m - j) := ⟨_, rfl⟩
          rw [← hp] at H
          have hpm : p < m := by rw [hp]; split <;> omega
          obtain ⟨q, hq⟩ : ∃ q : Nat, q = m - (j + 1) := ⟨_, rfl⟩
          have hqm : q < m := by omega
          have hbq : bckN p m = q := by unfold bckN; rw [hp, hq]; split <;> split <;> omega
          have hmj : m - j = q + 1 := by omega
          rw [hmj] at Z1
          obtain ⟨kb, o, x, hea, hkb, hx, hat⟩ := ((H.out.argC (.tail _ (.tail _ (.head _)))).es.take hmE).at hqm
          have he := HE.out.symm.trans hea
          subst he
          have HX := hid_mk hx
          have HE2 : Hid (r.E[q]? = some x) := by
            rw [List.getElem?_take_of_lt hqm] at hx
            exact hx
          have s1 := back_any (some ⟨kb, o, none⟩) m a.ec p hpm (by omega)
          rw [hbq] at s1
          have S1 := hid_mk s1
          have s2 := registerOf_any x
          obtain ⟨g, hg⟩ : ∃ g, Hid (g = regZ x) := ⟨_, rfl⟩
          rw [← hg.out] at s2
          have S2 := hid_mk s2
          have HQ := hid_mk hq
          clear s1 s2 hx hat hea hp hq hbq hmj
          have c0 := (H.out.cel (.head _)).c 0 _ rfl
          have c1 := (H.out.cel (.head _)).c 1 _ rfl
          go_upto_region 7 with (go_at_call 37; refine (S1.out _).mono ?_; rintro e w2 ⟨rfl, hb⟩; replace H := hid_mk (H.out.next hb); clear hb c0 c1; have c0 := (H.out.cel (.head _)).c 0 _ rfl; have c1 := (H.out.cel (.head _)).c 1 _ rfl; have f0 := (H.out.cel (.head _)).f 0 (by simp); have f1 := (H.out.cel (.head _)).f 1 (by simp))
          clear c0 c1 f0 f1 S1
          replace H : Hid (Hold w ((w2.setCell ⟨rb, 0, none⟩ (.slice (some ⟨kb, o, none⟩) m a.ec)).setCell ⟨rb, 1, none⟩ (.int .i64 (q : Int))) [celF rb [.slice (some ⟨kb, o, none⟩) m a.ec, .int .i64 (q : Int)], celF w.heap.size (col v a), argCF w.heap.size v a r]) := (H.out.setcG hr0 DD.out 0 _).setcG hr0 DD.out 1 _
          generalize (w2.setCell ⟨rb, 0, none⟩ (.slice (some ⟨kb, o, none⟩) m a.ec)).setCell ⟨rb, 1, none⟩ (.int .i64 (q : Int)) = w3 at H ⊢
          have c0 := (H.out.cel (.head _)).c 0 _ rfl
          have c1 := (H.out.cel (.head _)).c 1 _ rfl
          have s3 := item_any kb o m a.ec q (r.E.take m) x hqm HX.out w3 (by have h := (H.out.argC (.tail _ (.tail _ (.head _)))).es.take hmE; rwa [HE.out] at h)
          have S3 := hid_mk s3
          clear s3
          go_wp2_with fail
          refine S3.out.mono ?_
          rintro e w4 ⟨rfl, hb⟩
          replace H := hid_mk (H.out.next hb)
          clear hb c0 c1 S3
          go_wp2_with fail
          refine (S2.out _).mono ?_
          rintro e w5 ⟨rfl, hb⟩
          replace H := hid_mk (H.out.next hb)
          clear hb S2
          by_cases he : g = n
          · subst he
            obtain rfl : z = (q : Int) := Z1.out.trans (last_hit HE2.out hg.out.symm)
            have hqq : (g == g) = true := by simp
            have c1 := (H.out.cel (.head _)).c 1 _ rfl
            have B := hid_mk H.out.bel
            clear H
            go_wp2
            go_ret
            exact ⟨rfl, B.out⟩
          · have Z2 : Hid (z = lastZ r.E n q) := Z1.out.trans (last_miss HE2.out (by rw [← hg.out]; exact he))
            have hqq : (g == n) = false := by simpa using he
            obtain ⟨q2, hq2⟩ : ∃ q2 : Nat, Hid (q = m - (j + 1)) := ⟨0, HQ.out⟩
            clear Z1 HX HE2 hg he q2
            go_wp2
            go_roundw
            case rel => exact ⟨j + 1, hlt, by go_num, by rw [← hq2.out]; exact Z2.out, by rw [if_neg (Nat.succ_ne_zero j), ← hq2.out]; exact H.out⟩
            case measure => (simp [intOf]; try omega)
        · obtain rfl : j = m := by omega
          obtain rfl : z = -1 := by rw [Z1.out, Nat.sub_self]; rfl
          have B := hid_mk H.out.bel
          clear H
          go_wp2
          go_ret
          exact ⟨rfl, B.out⟩
end Go.Proofs.Ytneohabkoighcaa

namespace Go.Proofs.Ytneohabkoighcaa
open Go.ChangeShapes Go.WideShapes Go.ChangeAt Go.RowKit
set_option maxRecDepth 100000

/-- What register n has for entry i, of a core that is right. -/
def valW (r : Cr) (i n : Int) : Wd := if srcZ r.E i n < 0 then r.R.getD n.toNat wd0 else match r.E[(srcZ r.E i n).toNat]? with
  | some y => if y.d = true then y.e.v else wd0
  | none => wd0
/-- Whether it is there. -/
def valO (r : Cr) (i n : Int) : Bool := if srcZ r.E i n < 0 then true else match r.E[(srcZ r.E i n).toNat]? with
  | some y => y.d
  | none => false
/-- What Value answers. -/
def vlW (v : Cv) (r : Cr) (i n : Int) : Wd := if (0 ≤ n ∧ n ≤ 7) ∧ cokC v r = true then valW r i n else wd0
def vlO (v : Cv) (r : Cr) (i n : Int) : Bool := decide (0 ≤ n ∧ n ≤ 7) && (cokC v r && valO r i n)
theorem cok_parts {v : Cv} {r : Cr} (h : cokC v r = true) : r.R.length = 8 ∧ v.en ≤ 6 := by
  unfold cokC at h
  simp only [Bool.and_eq_true, decide_eq_true_eq] at h
  exact ⟨(sok_parts h.2.1).1, h.2.2.1⟩

set_option maxHeartbeats 4000000 in
theorem l12Value_any (v : Cv) (a : Ca) (r : Cr) (i n : Int) (hi : -9223372036854775808 ≤ i ∧ i ≤ 9223372036854775807) (w : World) (hS : CoS w v a r) (hn : 0 ≤ n ∧ n ≤ 7) (hR : v.rn = 8) :
    Calls Try.prog 41 #[.agg (col v a).toArray, .int .i64 i, .int .i64 n] w fun e w' => e = .returned (.tuple #[wdV (valW r i n), .bool (valO r i n)]) ∧ Below w.heap.size w w' := by
  have H : Hid (Hold w ((w.alloc (.cells (col v a).toArray 48)).alloc (.cells ([.int .i64 0, .bool false, .int .i64 0, .int .i64 0, .int .i64 0, .int .i64 0] : List Value).toArray 41)) [celF (w.heap.size + 1) [.int .i64 0, .bool false, .int .i64 0, .int .i64 0, .int .i64 0, .int .i64 0], celF w.heap.size (col v a), argCF w.heap.size v a r]) := (((Hold.new w).push (argCF w.heap.size v a r) hS.arg).box (col v a) 48 w.heap.size rfl).box [.int .i64 0, .bool false, .int .i64 0, .int .i64 0, .int .i64 0, .int .i64 0] 41 (w.heap.size + 1) (by simp)
  have hlE := hid_mk hS.es.2.1
  have hm := hS.es.1
  unfold maxLen at hm
  clear hS
  obtain ⟨y, YW⟩ : ∃ y, Hid (y = valW r i n) := ⟨_, rfl⟩
  obtain ⟨u, YO⟩ : ∃ u, Hid (u = valO r i n) := ⟨_, rfl⟩
  rw [← YW.out, ← YO.out]
  generalize hw1 : (w.alloc (.cells (col v a).toArray 48)).alloc (.cells ([.int .i64 0, .bool false, .int .i64 0, .int .i64 0, .int .i64 0, .int .i64 0] : List Value).toArray 41) = w1 at H
  go_enter Try.func41, Try.ntmps41
  go_upto_region 1 with fail
  clear hw1
  obtain ⟨j, rfl⟩ : ∃ j : Nat, n = (j : Int) := ⟨n.toNat, by omega⟩
  have hj8 : j < v.rn := by omega
  have s1 := fun w h => specSource_any v a r i (j : Int) hi w h
  obtain ⟨k, KZ⟩ : ∃ k, Hid (k = srcZ r.E i (j : Int)) := ⟨_, rfl⟩
  rw [← KZ.out] at s1
  have S1 := hid_mk s1
  have RC := hid_mk (H.out.cel (.tail _ (.head _))).range
  clear s1 hn
  go_upto_region 2 with (first | (refine wpList_load_mid (by rfl) 48 _ (by rfl) w.heap.size 0 (by rfl) (col v a) _ RC.out Try.underlying48 rfl sizeCor ?_) | (go_at_call 11; refine (S1.out _ (H.out.argC (.tail _ (.tail _ (.head _))))).mono ?_; rintro e w2 ⟨rfl, hb⟩))
  replace H := hid_mk (H.out.next hb)
  clear hb RC S1
  rcases src_lt r.E i (j : Int) with h1 | ⟨h0, h1⟩
  · obtain rfl : k = -1 := KZ.out.trans h1
    obtain ⟨kb, o, x, hra, hkb, hx, hat⟩ := (H.out.argC (.tail _ (.tail _ (.head _)))).st.rs.at (j := j) (by omega)
    have hy : y = x := by rw [YW.out, valW, if_pos (by omega)]; simp [List.getD, hx]
    have hu : u = true := by rw [YO.out, valO, if_pos (by omega)]
    subst hy hu
    obtain ⟨d0, d1, d2, d3, d4, d5⟩ := hat
    have c0 := (H.out.cel (.tail _ (.head _))).c 0 _ rfl
    rw [hra] at c0
    clear hra hx KZ YW YO h1
    have z0 := (H.out.cel (.head _)).c 0 _ rfl
    have f0 := (H.out.cel (.head _)).f 0 (by simp)
    have z1 := (H.out.cel (.head _)).c 1 _ rfl
    have f1 := (H.out.cel (.head _)).f 1 (by simp)
    have z2 := (H.out.cel (.head _)).c 2 _ rfl
    have f2 := (H.out.cel (.head _)).f 2 (by simp)
    have z3 := (H.out.cel (.head _)).c 3 _ rfl
    have f3 := (H.out.cel (.head _)).f 3 (by simp)
    have z4 := (H.out.cel (.head _)).c 4 _ rfl
    have f4 := (H.out.cel (.head _)).f 4 (by simp)
    have z5 := (H.out.cel (.head _)).c 5 _ rfl
    have f5 := (H.out.cel (.head _)).f 5 (by simp)
    have B := hid_mk H.out.bel
    clear H
    have ej : ((j : Int)).toNat = j := by omega
    go_wp2
    refine bodyPost_ret (v := .tuple #[.agg #[.int .i64 y.n, .bool y.i, .int .i64 y.b, .int .i64 y.t, .int .i64 y.p, .int .i64 y.s], .bool true]) (by simp [results, Try.results41, go_sem, z0, z1, z2, z3, z4, z5]) rfl ⟨rfl, ?_⟩
    exact six_done B.out _ (by omega) _ _ _ _ _ _
  · obtain ⟨q, hq⟩ : ∃ q : Nat, k = (q : Int) := ⟨k.toNat, by have := KZ.out; omega⟩
    have hsq : srcZ r.E i (j : Int) = (q : Int) := KZ.out.symm.trans hq
    subst hq
    have hql : q < v.en := by have := hlE.out; omega
    obtain ⟨kb, o, x, hea, hkb, hx, hat⟩ := (H.out.argC (.tail _ (.tail _ (.head _)))).es.at hql
    have RS := hid_mk hat
    have c10 := (H.out.cel (.tail _ (.head _))).c 10 _ rfl
    rw [hea] at c10
    have dd := ent_c RS.out 11 _ rfl
    have e1 : ¬ srcZ r.E i (j : Int) < 0 := by omega
    have e2 : (srcZ r.E i (j : Int)).toNat = q := by omega
    have eq : ((q : Int)).toNat = q := by omega
    cases hd : x.d with
    | false =>
      rw [hd] at dd
      have hy : y = wd0 := by rw [YW.out, valW, if_neg e1, e2, hx]; simp [hd]
      have hu : u = false := by rw [YO.out, valO, if_neg e1, e2, hx]; simp [hd]
      subst hy hu
      clear hea hx hat KZ YW YO e1 e2 hsq h0 h1 RS hd
      have z0 := (H.out.cel (.head _)).c 0 _ rfl
      have f0 := (H.out.cel (.head _)).f 0 (by simp)
      have z1 := (H.out.cel (.head _)).c 1 _ rfl
      have f1 := (H.out.cel (.head _)).f 1 (by simp)
      have z2 := (H.out.cel (.head _)).c 2 _ rfl
      have f2 := (H.out.cel (.head _)).f 2 (by simp)
      have z3 := (H.out.cel (.head _)).c 3 _ rfl
      have f3 := (H.out.cel (.head _)).f 3 (by simp)
      have z4 := (H.out.cel (.head _)).c 4 _ rfl
      have f4 := (H.out.cel (.head _)).f 4 (by simp)
      have z5 := (H.out.cel (.head _)).c 5 _ rfl
      have f5 := (H.out.cel (.head _)).f 5 (by simp)
      have B := hid_mk H.out.bel
      clear H
      go_wp2
      refine bodyPost_ret (v := .tuple #[.agg #[.int .i64 0, .bool false, .int .i64 0, .int .i64 0, .int .i64 0, .int .i64 0], .bool false]) (by simp [results, Try.results41, go_sem, z0, z1, z2, z3, z4, z5]) rfl ⟨rfl, ?_⟩
      exact six_done B.out _ (by omega) _ _ _ _ _ _
    | true =>
      rw [hd] at dd
      have hy : y = x.e.v := by rw [YW.out, valW, if_neg e1, e2, hx]; simp [hd]
      have hu : u = true := by rw [YO.out, valO, if_neg e1, e2, hx]; simp [hd]
      have d0 := ent_c RS.out 14 _ rfl
      have d1 := ent_c RS.out 15 _ rfl
      have d2 := ent_c RS.out 16 _ rfl
      have d3 := ent_c RS.out 17 _ rfl
      have d4 := ent_c RS.out 18 _ rfl
      have d5 := ent_c RS.out 19 _ rfl
      rw [← hy] at d0 d1 d2 d3 d4 d5
      subst hu
      clear hea hx hat KZ YW YO e1 e2 hsq h0 h1 RS hd hy
      have z0 := (H.out.cel (.head _)).c 0 _ rfl
      have f0 := (H.out.cel (.head _)).f 0 (by simp)
      have z1 := (H.out.cel (.head _)).c 1 _ rfl
      have f1 := (H.out.cel (.head _)).f 1 (by simp)
      have z2 := (H.out.cel (.head _)).c 2 _ rfl
      have f2 := (H.out.cel (.head _)).f 2 (by simp)
      have z3 := (H.out.cel (.head _)).c 3 _ rfl
      have f3 := (H.out.cel (.head _)).f 3 (by simp)
      have z4 := (H.out.cel (.head _)).c 4 _ rfl
      have f4 := (H.out.cel (.head _)).f 4 (by simp)
      have z5 := (H.out.cel (.head _)).c 5 _ rfl
      have f5 := (H.out.cel (.head _)).f 5 (by simp)
      have B := hid_mk H.out.bel
      clear H
      go_wp2
      refine bodyPost_ret (v := .tuple #[.agg #[.int .i64 y.n, .bool y.i, .int .i64 y.b, .int .i64 y.t, .int .i64 y.p, .int .i64 y.s], .bool true]) (by simp [results, Try.results41, go_sem, z0, z1, z2, z3, z4, z5]) rfl ⟨rfl, ?_⟩
      exact six_done B.out _ (by omega) _ _ _ _ _ _

set_option maxHeartbeats 4000000 in
theorem specValue_any (v : Cv) (a : Ca) (r : Cr) (i n : Int) (hi : -9223372036854775808 ≤ i ∧ i ≤ 9223372036854775807) (w : World) (hS : CoS w v a r) :
    Calls Try.prog 13 #[.agg (col v a).toArray, .int .i64 i, .int .i64 n] w fun e w' => e = .returned (.tuple #[wdV (vlW v r i n), .bool (vlO v r i n)]) ∧ Below w.heap.size w w' := by
  have H : Hid (Hold w ((w.alloc (.cells (col v a).toArray 48)).alloc (.cells ([.int .i64 0, .bool false, .int .i64 0, .int .i64 0, .int .i64 0, .int .i64 0] : List Value).toArray 41)) [celF (w.heap.size + 1) [.int .i64 0, .bool false, .int .i64 0, .int .i64 0, .int .i64 0, .int .i64 0], celF w.heap.size (col v a), argCF w.heap.size v a r]) := (((Hold.new w).push (argCF w.heap.size v a r) hS.arg).box (col v a) 48 w.heap.size rfl).box [.int .i64 0, .bool false, .int .i64 0, .int .i64 0, .int .i64 0, .int .i64 0] 41 (w.heap.size + 1) (by simp)
  have hlE := hid_mk hS.es.2.1
  have hm := hS.es.1
  unfold maxLen at hm
  clear hS
  obtain ⟨y, YW⟩ : ∃ y, Hid (y = vlW v r i n) := ⟨_, rfl⟩
  obtain ⟨u, YO⟩ : ∃ u, Hid (u = vlO v r i n) := ⟨_, rfl⟩
  rw [← YW.out, ← YO.out]
  generalize hw1 : (w.alloc (.cells (col v a).toArray 48)).alloc (.cells ([.int .i64 0, .bool false, .int .i64 0, .int .i64 0, .int .i64 0, .int .i64 0] : List Value).toArray 41) = w1 at H
  go_enter Try.func13, Try.ntmps13
  go_upto_region 1 with fail
  clear hw1
  have s0 := in_any n 0 7
  have s1 := fun w h => specCoreOk_any v a r w h
  have RC := hid_mk (H.out.cel (.tail _ (.head _))).range
  by_cases hn : 0 ≤ n ∧ n ≤ 7
  · rw [decide_eq_true hn] at s0
    have S0 := hid_mk s0
    obtain ⟨g, hg⟩ : ∃ g, Hid (cokC v r = g) := ⟨_, rfl⟩
    rw [hg.out] at s1
    have S1 := hid_mk s1
    clear s0 s1
    cases g
    · have hy : y = wd0 := by rw [YW.out, vlW, if_neg (by rw [hg.out]; simp)]
      have hu : u = false := by rw [YO.out, vlO, hg.out]; simp
      subst hy hu
      clear YW YO hg
      go_upto_region 2 with (first | (refine wpList_load_on (by rfl) 48 _ (by rfl) w.heap.size 0 (by rfl) (col v a) _ RC.out Try.underlying48 rfl sizeCor ?_) | (go_at_call 40; refine (S0.out _).mono ?_; rintro e w' ⟨rfl, rfl⟩) | (go_at_call 7; refine (S1.out _ (H.out.argC (.tail _ (.tail _ (.head _))))).mono ?_; rintro e w2 ⟨rfl, hb⟩))
      replace H := hid_mk (H.out.next hb)
      clear hb RC S0 S1
      have z0 := (H.out.cel (.head _)).c 0 _ rfl
      have f0 := (H.out.cel (.head _)).f 0 (by simp)
      have z1 := (H.out.cel (.head _)).c 1 _ rfl
      have f1 := (H.out.cel (.head _)).f 1 (by simp)
      have z2 := (H.out.cel (.head _)).c 2 _ rfl
      have f2 := (H.out.cel (.head _)).f 2 (by simp)
      have z3 := (H.out.cel (.head _)).c 3 _ rfl
      have f3 := (H.out.cel (.head _)).f 3 (by simp)
      have z4 := (H.out.cel (.head _)).c 4 _ rfl
      have f4 := (H.out.cel (.head _)).f 4 (by simp)
      have z5 := (H.out.cel (.head _)).c 5 _ rfl
      have f5 := (H.out.cel (.head _)).f 5 (by simp)
      have B := hid_mk H.out.bel
      clear H
      go_wp2
      refine bodyPost_ret (v := .tuple #[.agg #[.int .i64 0, .bool false, .int .i64 0, .int .i64 0, .int .i64 0, .int .i64 0], .bool false]) (by simp [results, Try.results13, go_sem, z0, z1, z2, z3, z4, z5]) rfl ⟨rfl, ?_⟩
      exact six_done B.out _ (by omega) _ _ _ _ _ _
    · have hW : y = valW r i n := by rw [YW.out, vlW, if_pos ⟨hn, hg.out⟩]
      have hO : u = valO r i n := by rw [YO.out, vlO, hg.out, decide_eq_true hn]; simp
      have hR : v.rn = 8 := by
        have h1 := (cok_parts hg.out).1
        have h2 := (H.out.argC (.tail _ (.tail _ (.head _)))).st.rs.2.1
        omega
      clear YW YO hg
      have YW := hid_mk hW
      have YO := hid_mk hO
      clear hW hO
      go_upto_region 3 with (first | (refine wpList_load_on (by rfl) 48 _ (by rfl) w.heap.size 0 (by rfl) (col v a) _ RC.out Try.underlying48 rfl sizeCor ?_) | (go_at_call 40; refine (S0.out _).mono ?_; rintro e w' ⟨rfl, rfl⟩) | (go_at_call 7; refine (S1.out _ (H.out.argC (.tail _ (.tail _ (.head _))))).mono ?_; rintro e w2 ⟨rfl, hb⟩))
      replace H := hid_mk (H.out.next hb)
      clear hb RC S0 S1
      have RC := hid_mk (H.out.cel (.tail _ (.head _))).range
      have s1 := fun w h => l12Value_any v a r i n hi w h hn hR
      rw [← YW.out, ← YO.out] at s1
      simp only [wdV] at s1
      have S1 := hid_mk s1
      clear s1 YW YO hn hR
      go_upto_region 4 with (first | (refine wpList_load_mid (by rfl) 48 _ (by rfl) w.heap.size 0 (by rfl) (col v a) _ RC.out Try.underlying48 rfl sizeCor ?_) | (go_at_call 41; refine (S1.out _ (H.out.argC (.tail _ (.tail _ (.head _))))).mono ?_; rintro e w3 ⟨rfl, hb⟩))
      replace H := hid_mk ((H.out.next hb).box [.int .i64 y.n, .bool y.i, .int .i64 y.b, .int .i64 y.t, .int .i64 y.p, .int .i64 y.s] 41 w3.heap.size rfl)
      clear hb RC S1
      generalize w3.alloc (.cells ([.int .i64 y.n, .bool y.i, .int .i64 y.b, .int .i64 y.t, .int .i64 y.p, .int .i64 y.s] : List Value).toArray 41) = w4 at H ⊢
      generalize w3.heap.size = r4 at H ⊢
      obtain ⟨d0, d1, d2, d3, d4, d5⟩ := (H.out.cel (.head _)).c6
      have z0 := (H.out.cel (.tail _ (.head _))).c 0 _ rfl
      have f0 := (H.out.cel (.tail _ (.head _))).f 0 (by simp)
      have z1 := (H.out.cel (.tail _ (.head _))).c 1 _ rfl
      have f1 := (H.out.cel (.tail _ (.head _))).f 1 (by simp)
      have z2 := (H.out.cel (.tail _ (.head _))).c 2 _ rfl
      have f2 := (H.out.cel (.tail _ (.head _))).f 2 (by simp)
      have z3 := (H.out.cel (.tail _ (.head _))).c 3 _ rfl
      have f3 := (H.out.cel (.tail _ (.head _))).f 3 (by simp)
      have z4 := (H.out.cel (.tail _ (.head _))).c 4 _ rfl
      have f4 := (H.out.cel (.tail _ (.head _))).f 4 (by simp)
      have z5 := (H.out.cel (.tail _ (.head _))).c 5 _ rfl
      have f5 := (H.out.cel (.tail _ (.head _))).f 5 (by simp)
      have B := hid_mk H.out.bel
      clear H
      go_wp2
      refine bodyPost_ret (v := .tuple #[.agg #[.int .i64 y.n, .bool y.i, .int .i64 y.b, .int .i64 y.t, .int .i64 y.p, .int .i64 y.s], .bool u]) (by simp [results, Try.results13, go_sem, z0, z1, z2, z3, z4, z5]) rfl ⟨rfl, ?_⟩
      exact six_done B.out _ (by omega) _ _ _ _ _ _
  · rw [decide_eq_false hn] at s0
    have S0 := hid_mk s0
    have hy : y = wd0 := by rw [YW.out, vlW, if_neg (fun h => hn h.1)]
    have hu : u = false := by rw [YO.out, vlO, decide_eq_false hn]; rfl
    subst hy hu
    clear YW YO s0 s1 hn
    go_upto_region 2 with (go_at_call 40; refine (S0.out _).mono ?_; rintro e w' ⟨rfl, rfl⟩)
    have z0 := (H.out.cel (.head _)).c 0 _ rfl
    have f0 := (H.out.cel (.head _)).f 0 (by simp)
    have z1 := (H.out.cel (.head _)).c 1 _ rfl
    have f1 := (H.out.cel (.head _)).f 1 (by simp)
    have z2 := (H.out.cel (.head _)).c 2 _ rfl
    have f2 := (H.out.cel (.head _)).f 2 (by simp)
    have z3 := (H.out.cel (.head _)).c 3 _ rfl
    have f3 := (H.out.cel (.head _)).f 3 (by simp)
    have z4 := (H.out.cel (.head _)).c 4 _ rfl
    have f4 := (H.out.cel (.head _)).f 4 (by simp)
    have z5 := (H.out.cel (.head _)).c 5 _ rfl
    have f5 := (H.out.cel (.head _)).f 5 (by simp)
    have B := hid_mk H.out.bel
    clear H
    go_wp2
    refine bodyPost_ret (v := .tuple #[.agg #[.int .i64 0, .bool false, .int .i64 0, .int .i64 0, .int .i64 0, .int .i64 0], .bool false]) (by simp [results, Try.results13, go_sem, z0, z1, z2, z3, z4, z5]) rfl ⟨rfl, ?_⟩
    exact six_done B.out _ (by omega) _ _ _ _ _ _

set_option maxHeartbeats 4000000 in
theorem implValue_any (v : Cv) (a : Ca) (r : Cr) (i n : Int) (hi : -9223372036854775808 ≤ i ∧ i ≤ 9223372036854775807) (w : World) (hS : CoS w v a r) (hC : CapC v a) (hv : v.en ≤ 1048576) :
    Calls Try.prog 14 #[.agg (col v a).toArray, .int .i64 i, .int .i64 n] w fun e w' => e = .returned (.tuple #[wdV (vlW v r i n), .bool (vlO v r i n)]) ∧ Below w.heap.size w w' := by
  have H : Hid (Hold w ((w.alloc (.cells (col v a).toArray 48)).alloc (.cells ([.int .i64 0, .bool false, .int .i64 0, .int .i64 0, .int .i64 0, .int .i64 0] : List Value).toArray 41)) [celF (w.heap.size + 1) [.int .i64 0, .bool false, .int .i64 0, .int .i64 0, .int .i64 0, .int .i64 0], celF w.heap.size (col v a), argCF w.heap.size v a r]) := (((Hold.new w).push (argCF w.heap.size v a r) hS.arg).box (col v a) 48 w.heap.size rfl).box [.int .i64 0, .bool false, .int .i64 0, .int .i64 0, .int .i64 0, .int .i64 0] 41 (w.heap.size + 1) (by simp)
  have hlE := hid_mk hS.es.2.1
  have hm := hS.es.1
  unfold maxLen at hm
  clear hS
  obtain ⟨y, YW⟩ : ∃ y, Hid (y = vlW v r i n) := ⟨_, rfl⟩
  obtain ⟨u, YO⟩ : ∃ u, Hid (u = vlO v r i n) := ⟨_, rfl⟩
  rw [← YW.out, ← YO.out]
  generalize hw1 : (w.alloc (.cells (col v a).toArray 48)).alloc (.cells ([.int .i64 0, .bool false, .int .i64 0, .int .i64 0, .int .i64 0, .int .i64 0] : List Value).toArray 41) = w1 at H
  go_enter Try.func14, Try.ntmps14
  go_upto_region 1 with fail
  clear hw1
  have s0 := isReg_any n
  have s1 := fun w h => implCoreOk_any v a r w h
  have RC := hid_mk (H.out.cel (.tail _ (.head _))).range
  by_cases hn : 0 ≤ n ∧ n ≤ 7
  · rw [decide_eq_true hn] at s0
    have S0 := hid_mk s0
    obtain ⟨g, hg⟩ : ∃ g, Hid (cokC v r = g) := ⟨_, rfl⟩
    rw [hg.out] at s1
    have S1 := hid_mk s1
    clear s0 s1
    cases g
    · have hy : y = wd0 := by rw [YW.out, vlW, if_neg (by rw [hg.out]; simp)]
      have hu : u = false := by rw [YO.out, vlO, hg.out]; simp
      subst hy hu
      clear YW YO hg
      go_upto_region 2 with (first | (refine wpList_load_on (by rfl) 48 _ (by rfl) w.heap.size 0 (by rfl) (col v a) _ RC.out Try.underlying48 rfl sizeCor ?_) | (go_at_call 42; refine (S0.out _).mono ?_; rintro e w' ⟨rfl, rfl⟩) | (go_at_call 9; refine (S1.out _ (H.out.argC (.tail _ (.tail _ (.head _))))).mono ?_; rintro e w2 ⟨rfl, hb⟩))
      replace H := hid_mk (H.out.next hb)
      clear hb RC S0 S1
      have z0 := (H.out.cel (.head _)).c 0 _ rfl
      have f0 := (H.out.cel (.head _)).f 0 (by simp)
      have z1 := (H.out.cel (.head _)).c 1 _ rfl
      have f1 := (H.out.cel (.head _)).f 1 (by simp)
      have z2 := (H.out.cel (.head _)).c 2 _ rfl
      have f2 := (H.out.cel (.head _)).f 2 (by simp)
      have z3 := (H.out.cel (.head _)).c 3 _ rfl
      have f3 := (H.out.cel (.head _)).f 3 (by simp)
      have z4 := (H.out.cel (.head _)).c 4 _ rfl
      have f4 := (H.out.cel (.head _)).f 4 (by simp)
      have z5 := (H.out.cel (.head _)).c 5 _ rfl
      have f5 := (H.out.cel (.head _)).f 5 (by simp)
      have B := hid_mk H.out.bel
      clear H
      go_wp2
      refine bodyPost_ret (v := .tuple #[.agg #[.int .i64 0, .bool false, .int .i64 0, .int .i64 0, .int .i64 0, .int .i64 0], .bool false]) (by simp [results, Try.results14, go_sem, z0, z1, z2, z3, z4, z5]) rfl ⟨rfl, ?_⟩
      exact six_done B.out _ (by omega) _ _ _ _ _ _
    · have hW : y = valW r i n := by rw [YW.out, vlW, if_pos ⟨hn, hg.out⟩]
      have hO : u = valO r i n := by rw [YO.out, vlO, hg.out, decide_eq_true hn]; simp
      have hR : v.rn = 8 := by
        have h1 := (cok_parts hg.out).1
        have h2 := (H.out.argC (.tail _ (.tail _ (.head _)))).st.rs.2.1
        omega
      clear YW YO hg
      have YW := hid_mk hW
      have YO := hid_mk hO
      clear hW hO
      go_upto_region 3 with (first | (refine wpList_load_on (by rfl) 48 _ (by rfl) w.heap.size 0 (by rfl) (col v a) _ RC.out Try.underlying48 rfl sizeCor ?_) | (go_at_call 42; refine (S0.out _).mono ?_; rintro e w' ⟨rfl, rfl⟩) | (go_at_call 9; refine (S1.out _ (H.out.argC (.tail _ (.tail _ (.head _))))).mono ?_; rintro e w2 ⟨rfl, hb⟩))
      replace H := hid_mk (H.out.next hb)
      clear hb RC S0 S1
      have RC := hid_mk (H.out.cel (.tail _ (.head _))).range
      obtain ⟨j, rfl⟩ : ∃ j : Nat, n = (j : Int) := ⟨n.toNat, by omega⟩
      have hj8 : j < v.rn := by omega
      have s1 := fun w h => implSource_any v a r i (j : Int) hi w h hC hv
      obtain ⟨k, KZ⟩ : ∃ k, Hid (k = srcZ r.E i (j : Int)) := ⟨_, rfl⟩
      rw [← KZ.out] at s1
      have S1 := hid_mk s1
      clear s1 hn
      go_upto_region 4 with (first | (refine wpList_load_mid (by rfl) 48 _ (by rfl) w.heap.size 0 (by rfl) (col v a) _ RC.out Try.underlying48 rfl sizeCor ?_) | (go_at_call 12; refine (S1.out _ (H.out.argC (.tail _ (.tail _ (.head _))))).mono ?_; rintro e w3 ⟨rfl, hb⟩))
      replace H := hid_mk (H.out.next hb)
      clear hb RC S1
      rcases src_lt r.E i (j : Int) with h1 | ⟨h0, h1⟩
      · obtain rfl : k = -1 := KZ.out.trans h1
        obtain ⟨kb, o, x, hra, hkb, hx, hat⟩ := (H.out.argC (.tail _ (.tail _ (.head _)))).st.rs.at (j := j) (by omega)
        have hy : y = x := by rw [YW.out, valW, if_pos (by omega)]; simp [List.getD, hx]
        have hu : u = true := by rw [YO.out, valO, if_pos (by omega)]
        subst hy hu
        obtain ⟨d0, d1, d2, d3, d4, d5⟩ := hat
        have c0 := (H.out.cel (.tail _ (.head _))).c 0 _ rfl
        rw [hra] at c0
        clear hra hx KZ YW YO h1
        have z0 := (H.out.cel (.head _)).c 0 _ rfl
        have f0 := (H.out.cel (.head _)).f 0 (by simp)
        have z1 := (H.out.cel (.head _)).c 1 _ rfl
        have f1 := (H.out.cel (.head _)).f 1 (by simp)
        have z2 := (H.out.cel (.head _)).c 2 _ rfl
        have f2 := (H.out.cel (.head _)).f 2 (by simp)
        have z3 := (H.out.cel (.head _)).c 3 _ rfl
        have f3 := (H.out.cel (.head _)).f 3 (by simp)
        have z4 := (H.out.cel (.head _)).c 4 _ rfl
        have f4 := (H.out.cel (.head _)).f 4 (by simp)
        have z5 := (H.out.cel (.head _)).c 5 _ rfl
        have f5 := (H.out.cel (.head _)).f 5 (by simp)
        have B := hid_mk H.out.bel
        clear H
        have ej : ((j : Int)).toNat = j := by omega
        go_wp2
        refine bodyPost_ret (v := .tuple #[.agg #[.int .i64 y.n, .bool y.i, .int .i64 y.b, .int .i64 y.t, .int .i64 y.p, .int .i64 y.s], .bool true]) (by simp [results, Try.results14, go_sem, z0, z1, z2, z3, z4, z5]) rfl ⟨rfl, ?_⟩
        exact six_done B.out _ (by omega) _ _ _ _ _ _
      · obtain ⟨q, hq⟩ : ∃ q : Nat, k = (q : Int) := ⟨k.toNat, by have := KZ.out; omega⟩
        have hsq : srcZ r.E i (j : Int) = (q : Int) := KZ.out.symm.trans hq
        subst hq
        have hql : q < v.en := by have := hlE.out; omega
        obtain ⟨kb, o, x, hea, hkb, hx, hat⟩ := (H.out.argC (.tail _ (.tail _ (.head _)))).es.at hql
        have RS := hid_mk hat
        have c10 := (H.out.cel (.tail _ (.head _))).c 10 _ rfl
        rw [hea] at c10
        have dd := ent_c RS.out 11 _ rfl
        have e1 : ¬ srcZ r.E i (j : Int) < 0 := by omega
        have e2 : (srcZ r.E i (j : Int)).toNat = q := by omega
        have eq : ((q : Int)).toNat = q := by omega
        cases hd : x.d with
        | false =>
          rw [hd] at dd
          have hy : y = wd0 := by rw [YW.out, valW, if_neg e1, e2, hx]; simp [hd]
          have hu : u = false := by rw [YO.out, valO, if_neg e1, e2, hx]; simp [hd]
          subst hy hu
          clear hea hx hat KZ YW YO e1 e2 hsq h0 h1 RS hd
          have z0 := (H.out.cel (.head _)).c 0 _ rfl
          have f0 := (H.out.cel (.head _)).f 0 (by simp)
          have z1 := (H.out.cel (.head _)).c 1 _ rfl
          have f1 := (H.out.cel (.head _)).f 1 (by simp)
          have z2 := (H.out.cel (.head _)).c 2 _ rfl
          have f2 := (H.out.cel (.head _)).f 2 (by simp)
          have z3 := (H.out.cel (.head _)).c 3 _ rfl
          have f3 := (H.out.cel (.head _)).f 3 (by simp)
          have z4 := (H.out.cel (.head _)).c 4 _ rfl
          have f4 := (H.out.cel (.head _)).f 4 (by simp)
          have z5 := (H.out.cel (.head _)).c 5 _ rfl
          have f5 := (H.out.cel (.head _)).f 5 (by simp)
          have B := hid_mk H.out.bel
          clear H
          go_wp2
          refine bodyPost_ret (v := .tuple #[.agg #[.int .i64 0, .bool false, .int .i64 0, .int .i64 0, .int .i64 0, .int .i64 0], .bool false]) (by simp [results, Try.results14, go_sem, z0, z1, z2, z3, z4, z5]) rfl ⟨rfl, ?_⟩
          exact six_done B.out _ (by omega) _ _ _ _ _ _
        | true =>
          rw [hd] at dd
          have hy : y = x.e.v := by rw [YW.out, valW, if_neg e1, e2, hx]; simp [hd]
          have hu : u = true := by rw [YO.out, valO, if_neg e1, e2, hx]; simp [hd]
          have d0 := ent_c RS.out 14 _ rfl
          have d1 := ent_c RS.out 15 _ rfl
          have d2 := ent_c RS.out 16 _ rfl
          have d3 := ent_c RS.out 17 _ rfl
          have d4 := ent_c RS.out 18 _ rfl
          have d5 := ent_c RS.out 19 _ rfl
          rw [← hy] at d0 d1 d2 d3 d4 d5
          subst hu
          clear hea hx hat KZ YW YO e1 e2 hsq h0 h1 RS hd hy
          have z0 := (H.out.cel (.head _)).c 0 _ rfl
          have f0 := (H.out.cel (.head _)).f 0 (by simp)
          have z1 := (H.out.cel (.head _)).c 1 _ rfl
          have f1 := (H.out.cel (.head _)).f 1 (by simp)
          have z2 := (H.out.cel (.head _)).c 2 _ rfl
          have f2 := (H.out.cel (.head _)).f 2 (by simp)
          have z3 := (H.out.cel (.head _)).c 3 _ rfl
          have f3 := (H.out.cel (.head _)).f 3 (by simp)
          have z4 := (H.out.cel (.head _)).c 4 _ rfl
          have f4 := (H.out.cel (.head _)).f 4 (by simp)
          have z5 := (H.out.cel (.head _)).c 5 _ rfl
          have f5 := (H.out.cel (.head _)).f 5 (by simp)
          have B := hid_mk H.out.bel
          clear H
          go_wp2
          refine bodyPost_ret (v := .tuple #[.agg #[.int .i64 y.n, .bool y.i, .int .i64 y.b, .int .i64 y.t, .int .i64 y.p, .int .i64 y.s], .bool true]) (by simp [results, Try.results14, go_sem, z0, z1, z2, z3, z4, z5]) rfl ⟨rfl, ?_⟩
          exact six_done B.out _ (by omega) _ _ _ _ _ _
  · rw [decide_eq_false hn] at s0
    have S0 := hid_mk s0
    have hy : y = wd0 := by rw [YW.out, vlW, if_neg (fun h => hn h.1)]
    have hu : u = false := by rw [YO.out, vlO, decide_eq_false hn]; rfl
    subst hy hu
    clear YW YO s0 s1 hn
    go_upto_region 2 with (go_at_call 42; refine (S0.out _).mono ?_; rintro e w' ⟨rfl, rfl⟩)
    have z0 := (H.out.cel (.head _)).c 0 _ rfl
    have f0 := (H.out.cel (.head _)).f 0 (by simp)
    have z1 := (H.out.cel (.head _)).c 1 _ rfl
    have f1 := (H.out.cel (.head _)).f 1 (by simp)
    have z2 := (H.out.cel (.head _)).c 2 _ rfl
    have f2 := (H.out.cel (.head _)).f 2 (by simp)
    have z3 := (H.out.cel (.head _)).c 3 _ rfl
    have f3 := (H.out.cel (.head _)).f 3 (by simp)
    have z4 := (H.out.cel (.head _)).c 4 _ rfl
    have f4 := (H.out.cel (.head _)).f 4 (by simp)
    have z5 := (H.out.cel (.head _)).c 5 _ rfl
    have f5 := (H.out.cel (.head _)).f 5 (by simp)
    have B := hid_mk H.out.bel
    clear H
    go_wp2
    refine bodyPost_ret (v := .tuple #[.agg #[.int .i64 0, .bool false, .int .i64 0, .int .i64 0, .int .i64 0, .int .i64 0], .bool false]) (by simp [results, Try.results14, go_sem, z0, z1, z2, z3, z4, z5]) rfl ⟨rfl, ?_⟩
    exact six_done B.out _ (by omega) _ _ _ _ _ _
end Go.Proofs.Ytneohabkoighcaa
