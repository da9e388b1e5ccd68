/- What is gone copied as an array, and handed out as a slice: goneIn and list of the program. No condition but that 24 are there. · The program's asItWas: a memory of its own, like the one that it was given. No condition but that 24 of both are there. · The specification's l8Copy: a memory of its own, like the one that it was given. No condition but that 24 of both are there. · States as wholes; l9Copy of the specification, slices.Clone at words, stateAsItWas of the program: a state of its own, like the one that it was given. No condition but that 8, 24 and 24 are there. -/
import Derived.Test.YtneohabkoighcaaGreatQA
import Derived.Test.YtneohabkoighcaaGreatEffL
import Derived.Deep.RegionHeld3
import Derived.Laws.CopyOwn
import Derived.Deep.MidRow
import Derived.Deep.RegionLawGrows
import Derived.Test.YtneohabkoighcaaGreatQB
import Derived.Test.YtneohabkoighcaaGreatQD
import Derived.ArgAppend
import Derived.Lib.BufferMore
namespace Go.Proofs.YtneohabkoighcaaGreat
open Go.ChangeShapes Go.WideShapes Go.ChangeAt Go.RowKit
set_option maxRecDepth 100000

/-- copy into cells that may be written, as one step of a region that draws. -/
theorem step_copy_cells {P : Program} {ops : Array Oper} {o : Oper} {a : Act} {w : World} {K : Act → World → Prop} {Q : Exit → Act → World → Prop} {E : Prop} (hgd : o.guard = none) (d s : Operand) (dT sT : TypeId)
    (ho : o.op = .call { callee := .builtin .copy, args := #[d, s], argTypes := #[dT, sT] }) (elem : TypeId) (hu : P.underlying dT = some (.slice elem)) (hsz : (P.info? elem).map (·.size) = some 1)
    (b off dLen dCap : Nat) (ad : Addr) (sLen sCap : Nat) (hd : a.eval d = .slice (some ⟨b, off, none⟩) dLen dCap) (hs : a.eval s = .slice (some ad) sLen sCap) (cs : List Value) (hn : cs.length = Nat.min sLen dLen)
    (hsrc : ∀ j v, cs[j]? = some v → w.cell? (ad.add j) = some v) (hc : ∀ j, j < cs.length → (w.cell? ⟨b, off + j, none⟩).isSome = true) (hf : ∀ j, j < cs.length → w.frozen? ⟨b, off + j, none⟩ = false) (h1 : ∀ v ∈ cs, v.oneCell' = true)
    (h : K (a.put o.dst (goInt cs.length)) (w.setCells b off cs)) :
    if Region.wanted o (yielded ops a.tmps) = true then Oper.wp P o a w K Q else E := by
  have hw : Region.wanted o (yielded ops a.tmps) = true := by simp [Region.wanted, hgd]
  rw [if_pos hw]
  have hrun := run_copy_cells (P := P) w dT sT o.type elem b off dLen dCap ad sLen sCap cs hu hsz hn hsrc hc hf h1
  unfold Oper.wp
  simp [execOp, ho, resolve, invoke, builtin, hd, hs, hrun, Result.andThen]
  exact h

theorem bls_len (G : List Bool) : (bls G).length = G.length := by simp [bls]
theorem sizeBool : (Tryz.prog.info? 4).map (·.size) = some 1 := by kernel_rfl
theorem sizeGone : (Tryz.prog.info? 144).map (·.size) = some 24 := by kernel_rfl
/-- Twenty-four cells that may be written. -/
def zs24 : Array Value := #[.bool false, .bool false, .bool false, .bool false, .bool false, .bool false, .bool false, .bool false, .bool false, .bool false, .bool false, .bool false, .bool false, .bool false, .bool false, .bool false, .bool false, .bool false, .bool false, .bool false, .bool false, .bool false, .bool false, .bool false]
theorem there_new (w : World) (T : TypeId) : (w.alloc (.cells zs24 T)).there w.heap.size 0 24 := fun j hj => by
  refine ⟨?_, by simp⟩
  rw [Nat.zero_add, World.cell?_alloc_new]
  have : j < zs24.size := hj
  simp [this]
theorem there_below {w w' : World} {b o n : Nat} (h : w.there b o n) (hb : b < w.heap.size) (k : Below w.heap.size w w') : w'.there b o n := fun j hj =>
  ⟨by rw [k.cell (p := ⟨b, o + j, none⟩) hb]; exact (h j hj).1, by rw [k.frozen (p := ⟨b, o + j, none⟩) hb]; exact (h j hj).2⟩

set_option maxHeartbeats 4000000 in
theorem goneIn_any (v0 : Value) (a' : Option Addr) (c' : Nat) (G : List Bool) (w : World) (hG : SliceB w.heap.size w a' 24 G) :
    Calls Tryz.prog 111 #[.agg #[v0, .slice a' 24 c']] w fun e w' => e = .returned (.agg (bls G).toArray) ∧ Below w.heap.size w w' := by
  have hlg := hG.2.1
  obtain ⟨kb, o, g, rfl, hkb, _, _⟩ := hG.at (j := 0) (by omega)
  have hbl : (bls G).length = 24 := by rw [bls_len]; exact hlg
  have M := hid_mk (((Duo.new w v0 (.slice (some ⟨kb, o, none⟩) 24 c') 31).alloc (.cells zs24 144)).alloc (.cells zs24 144))
  have B := hid_mk ((((Below.refl _ w).alloc (Nat.le_refl _) (.cells #[v0, .slice (some ⟨kb, o, none⟩) 24 c'] 31)).alloc (by simp) (.cells zs24 144)).alloc (by simp; omega) (.cells zs24 144))
  have T0 : Hid (((((w.alloc (.cells #[v0, .slice (some ⟨kb, o, none⟩) 24 c'] 31)).alloc (.cells zs24 144)).alloc (.cells zs24 144))).there (w.heap.size + 1) 0 24) := by
    have h := there_new (w.alloc (.cells #[v0, .slice (some ⟨kb, o, none⟩) 24 c'] 31)) 144
    rw [World.size_alloc] at h
    exact there_below h (by simp) ((Below.refl _ _).alloc (Nat.le_refl _) _)
  have T1 : Hid (((((w.alloc (.cells #[v0, .slice (some ⟨kb, o, none⟩) 24 c'] 31)).alloc (.cells zs24 144)).alloc (.cells zs24 144))).there (w.heap.size + 1 + 1) 0 24) := by
    have h := there_new ((w.alloc (.cells #[v0, .slice (some ⟨kb, o, none⟩) 24 c'] 31)).alloc (.cells zs24 144)) 144
    rw [World.size_alloc, World.size_alloc] at h
    exact h
  have hsz : w.heap.size + 1 + 1 < ((((w.alloc (.cells #[v0, .slice (some ⟨kb, o, none⟩) 24 c'] 31)).alloc (.cells zs24 144)).alloc (.cells zs24 144))).heap.size := by simp
  have HSZ := hid_mk hsz
  clear hsz
  go_enter Tryz.func111, Tryz.ntmps111
  go_upto_region 2 with fail
  rw [show (#[.bool false, .bool false, .bool false, .bool false, .bool false, .bool false, .bool false, .bool false, .bool false, .bool false, .bool false, .bool false, .bool false, .bool false, .bool false, .bool false, .bool false, .bool false, .bool false, .bool false, .bool false, .bool false, .bool false, .bool false] : Array Value) = zs24 from rfl]
  generalize ((w.alloc (.cells #[v0, .slice (some ⟨kb, o, none⟩) 24 c'] 31)).alloc (.cells zs24 144)).alloc (.cells zs24 144) = W at M B T0 T1 HSZ ⊢
  obtain ⟨_, m0, m1, _, _⟩ := M.out
  have FL := hid_mk ((hG.keep B.out).keep ((Below.refl w.heap.size W).drew)).flat
  have TD := hid_mk (fun j (hj : j < (bls G).length) => (World.there_drew W (w.heap.size + 1 + 1) 0 24).2 T1.out j (by rw [hbl] at hj; exact hj))
  go_region_law ((refine step_copy_cells (by rfl) _ _ _ _ (by rfl) 4 Tryz.underlying29 sizeBool (w.heap.size + 1 + 1) 0 24 24 ⟨kb, o, none⟩ 24 c' (by rfl) (by rfl) (bls G) (by rw [hbl]; rfl) FL.out (fun j hj => (TD.out j hj).1) (fun j hj => (TD.out j hj).2) (bls_one G) ?_))
  have K := hid_mk (KeepBut.setCells (b := w.heap.size + 1 + 1) (bls G) 0 W.drew)
  have B2 : Hid (Below w.heap.size w (W.drew.setCells (w.heap.size + 1 + 1) 0 (bls G))) := B.out.drew.trans (K.out.below (by omega) (by have := HSZ.out; show _ ≤ W.heap.size; omega))
  have R2 := hid_mk (World.rangeAt_setCells_same W.drew (w.heap.size + 1 + 1) 0 (bls G) (by rw [hbl]; exact (World.there_drew W (w.heap.size + 1 + 1) 0 24).2 T1.out))
  have T2 := hid_mk (World.there_setCells ((World.there_drew W (w.heap.size + 1) 0 24).2 T0.out) (w.heap.size + 1 + 1) 0 (bls G))
  generalize W.drew.setCells (w.heap.size + 1 + 1) 0 (bls G) = W2 at B2 R2 T2 ⊢
  clear K TD FL m0 m1 M B T0 T1 hG
  have hbs : (bls G).toArray.size = 24 := by simp [hbl]
  go_upto_region 3 with fail
  refine wp_region_list ?_
  refine wpList_load_mid (by rfl) 144 _ (by rfl) (w.heap.size + 1 + 1) 0 (by rfl) (bls G) _ R2.out Tryz.underlying144 rfl (by rw [hbl]; exact sizeGone) ?_
  refine wpList_store_mid (by rfl) 144 _ _ (by rfl) (w.heap.size + 1) 0 (bls G).toArray (by rfl) (by rfl) (by rw [hbs]; exact T2.out) (by rw [hbs]; exact sizeGone) (all_oneCell_toArray (bls_one G)) ?_
  refine wpList_nil ?_
  have R3 := hid_mk (World.rangeAt_setCells_same W2 (w.heap.size + 1) 0 (bls G) (by rw [hbl]; exact T2.out))
  have B3 : Hid (Below w.heap.size w (W2.setCells (w.heap.size + 1) 0 (bls G))) := B2.out.trans ((KeepBut.setCells (b := w.heap.size + 1) (bls G) 0 W2).below (by omega) (B2.out.size))
  have hlv := run_loadVar_mid (P := Tryz.prog) (W2.setCells (w.heap.size + 1) 0 (bls G)) (w.heap.size + 1) 0 144 (bls G) _ R3.out Tryz.underlying144 rfl (by rw [hbl]; exact sizeGone)
  go_wp2
  refine bodyPost_ret (v := .agg (bls G).toArray) (results_cell1 Tryz.results111 (by rfl) hlv) rfl ⟨rfl, B3.out⟩
end Go.Proofs.YtneohabkoighcaaGreat

namespace Go.Proofs.YtneohabkoighcaaGreat
open Go.ChangeShapes Go.WideShapes Go.ChangeAt Go.RowKit
set_option maxRecDepth 100000

/-- Two cells that may be written, whatever they hold. -/
def spotF (r : Nat) : Fct where
  S := fun k => k = r
  p := fun w => ∃ v0 v1, Duo w r v0 v1
  keep := fun w w' ⟨v0, v1, h⟩ hs hb => ⟨v0, v1, (duoF r v0 v1).keep w w' h hs hb⟩
theorem Hold.spot {w0 w : World} {fs : List Fct} {r : Nat} (h : Hold w0 w fs) (hm : spotF r ∈ fs) : ∃ v0 v1, Duo w r v0 v1 := h.at hm
theorem Hold.store2 {w0 w : World} {fs : List Fct} {r : Nat} (h : Hold w0 w (spotF r :: fs)) (h0 : w0.heap.size ≤ r) (hd : ∀ f ∈ fs, ∀ k, f.S k → k ≠ r) (u0 u1 : Value) : Hold w0 ((w.setCell ⟨r, 0, none⟩ u0).setCell ⟨r, 1, none⟩ u1) (spotF r :: fs) := by
  obtain ⟨v0, v1, D⟩ := h.spot (.head _)
  exact (h.tail.wrote (T := fun k => k = r) (KeptS.ofBut (((KeepBut.refl r w).setCell 0 u0).setCell 1 u1) rfl) (fun k e => by omega) hd).push (spotF r) ⟨_, _, (D.set0 u0).set1 u1⟩

set_option maxHeartbeats 1000000 in
theorem list_any (G : List Bool) (hG : G.length = 24) (w : World) :
    Calls Tryz.prog 112 #[.agg (bls G).toArray] w fun e w' => ∃ q, e = .returned (.slice (some ⟨q, 0, none⟩) 24 24) ∧ w.heap.size ≤ q ∧ OutB w' q 24 24 G ∧ Below w.heap.size w w' := by
  have B := hid_mk ((Below.refl _ w).alloc (Nat.le_refl _) (.cells (bls G).toArray 144))
  have O : Hid (OutB (w.alloc (.cells (bls G).toArray 144)) w.heap.size 24 24 G) := by
    refine ⟨by simp, fun i hi => ?_, fun i _ => by simp, fun j x _ hx => ?_⟩
    · rw [World.cell?_alloc_new]
      have : i < (bls G).length := by rw [bls_len, hG]; exact hi
      simp [this]
    · rw [World.cell?_alloc_new]
      simp [bls, hx]
  go_enter Tryz.func112, Tryz.ntmps112
  go_wp2
  go_ret
  exact ⟨_, rfl, Nat.le_refl _, O.out, B.out⟩

/-- append of words onto a slice that is full, as one step of a region that draws: a row of its own. -/
theorem step_appW {ops : Array Oper} {o : Oper} {a : Act} {w : World} {K : Act → World → Prop} {Q : Exit → Act → World → Prop} {E : Prop} (hgd : o.guard = none) (s x : Operand)
    (ho : o.op = .call { callee := .builtin .append, args := #[s, x], argTypes := #[24, 24] })
    (b : Addr) (n cap : Nat) (X : List Wd) (hs : a.eval s = .slice (some b) n cap) (hX : X.length = n) (holds : ∀ j u, (X.flatMap Wd.vs)[j]? = some u → w.cell? (b.add j) = some u)
    (ad : Addr) (m c : Nat) (Y : List Wd) (hx : a.eval x = .slice (some ad) m c) (hY : Y.length = m) (hc : ∀ j u, (Y.flatMap Wd.vs)[j]? = some u → w.cell? (ad.add j) = some u) (hfull : cap < n + m) (hb : n + m ≤ 1048576)
    (h : ∀ g cp w', w'.ownsRow w.heap.size 28 6 (.slice (some ⟨g, 0, none⟩) (n + m) cp) (n + m) ((X ++ Y).flatMap Wd.vs) → OutW w' g (n + m) (n + m) (X ++ Y) → w.heap.size ≤ g → n + m ≤ cp → Below w.heap.size w w' → K (a.put o.dst (.slice (some ⟨g, 0, none⟩) (n + m) cp)) w') :
    if Region.wanted o (yielded ops a.tmps) = true then Oper.wp Tryz.prog o a w K Q else E := by
  obtain ⟨i, hi, hz0, hz1, hz2⟩ := info_parts infoW
  refine step_append_grows hgd s x _ ho 28 i _ 6 48 Tryz.underlying24 hi hz0 hz1 hz2 rfl (by decide) (some b) n cap (X.flatMap Wd.vs) hs (fun e => by cases e) (by rw [flatW_len, hX]) (fun b' e => by cases e; exact holds) ad m c (Y.flatMap Wd.vs) hx (by rw [flatW_len, hY]) hc (flatW_one Y) hfull (by unfold maxLen; omega) (by omega) ?_
  intro v' w' hown hgrow
  have hl : (X ++ Y).length = n + m := by rw [List.length_append, hX, hY]
  rw [← List.flatMap_append, ← hl] at hown
  obtain ⟨g, cp, rfl, hg, hcp, hO⟩ := own_outW hown (by omega)
  rw [hl] at hO hcp hown ⊢
  exact h g cp w' hown hO hg hcp ((Below.refl _ _).grown hgrow (Nat.le_refl _) fun k hk => by cases hk)
theorem step_appB {ops : Array Oper} {o : Oper} {a : Act} {w : World} {K : Act → World → Prop} {Q : Exit → Act → World → Prop} {E : Prop} (hgd : o.guard = none) (s x : Operand)
    (ho : o.op = .call { callee := .builtin .append, args := #[s, x], argTypes := #[29, 29] })
    (b : Addr) (cap : Nat) (hs : a.eval s = .slice (some b) 0 cap)
    (ad : Addr) (m c : Nat) (Y : List Bool) (hx : a.eval x = .slice (some ad) m c) (hY : Y.length = m) (hc : ∀ j u, (bls Y)[j]? = some u → w.cell? (ad.add j) = some u) (hfull : cap < m) (hb : m ≤ 1048576)
    (h : ∀ g cp w', OutB w' g m m Y → w.heap.size ≤ g → m ≤ cp → Below w.heap.size w w' → K (a.put o.dst (.slice (some ⟨g, 0, none⟩) m cp)) w') :
    if Region.wanted o (yielded ops a.tmps) = true then Oper.wp Tryz.prog o a w K Q else E := by
  obtain ⟨i, hi, hz0, hz1, hz2⟩ := info_parts infoB
  refine step_append_grows hgd s x _ ho 4 i _ 1 1 Tryz.underlying29 hi hz0 hz1 hz2 rfl (by decide) (some b) 0 cap [] hs (fun e => by cases e) rfl (fun b' _ j u e => by cases e) ad m c (bls Y) hx (by rw [bls_len, hY, Nat.mul_one]) hc (bls_one Y) (by omega) (by unfold maxLen; omega) (by omega) ?_
  intro v' w' hown hgrow
  rw [List.nil_append, Nat.zero_add, ← hY] at hown
  obtain ⟨g, cp, rfl, hg, hcp, hO⟩ := own_outB hown (by omega)
  rw [hY] at hcp ⊢
  exact h g cp w' (hY ▸ hO) hg hcp ((Below.refl _ _).grown hgrow (Nat.le_refl _) fun k hk => by cases hk)

theorem OutW.app_nil {w : World} {q n : Nat} {L : List Wd} (h : OutW w q (0 + n) (0 + n) ([] ++ L)) : OutW w q n n L := by
  rw [Nat.zero_add, List.nil_append] at h
  exact h
theorem OutB.to {w w' : World} {q n : Nat} {G : List Bool} (h : OutB w q n n G) (hb : Below w.heap.size w w') : OutB w' q n n G := h.below hb

set_option maxHeartbeats 8000000 in
theorem asItWas_any (a : Option Addr) (c : Nat) (a' : Option Addr) (c' : Nat) (L : List Wd) (G : List Bool) (w : World) (hM : MemS w a 24 a' 24 L G) :
    Calls Tryz.prog 82 #[.agg #[.slice a 24 c, .slice a' 24 c']] w fun e w' => ∃ b d b', e = .returned (.agg #[.slice b 24 d, .slice b' 24 24]) ∧ 24 ≤ d ∧ AnsM b b' 24 24 L G w' ∧ (∀ k, On b k ∨ On b' k → w.heap.size ≤ k) ∧ Below w.heap.size w w' := by
  have hlw := hM.ws.2.1
  have hlg := hM.gs.2.1
  obtain ⟨kb, o, _, rfl, _, _, _⟩ := hM.ws.at (j := 0) (by omega)
  have H := hid_mk (((((Hold.new w).push (argF w.heap.size (some ⟨kb, o, none⟩) 24 a' 24 L G) hM.arg).alloc (.cells #[.slice (some ⟨kb, o, none⟩) 24 c, .slice a' 24 c'] 31)).push (duoF w.heap.size (.slice (some ⟨kb, o, none⟩) 24 c) (.slice a' 24 c')) (Duo.new w _ _ _)).alloc (.cells #[.slice none 0 0, .slice none 0 0] 31))
  have S0 : Hid (Duo ((w.alloc (.cells #[.slice (some ⟨kb, o, none⟩) 24 c, .slice a' 24 c'] 31)).alloc (.cells #[.slice none 0 0, .slice none 0 0] 31)) (w.heap.size + 1) (.slice none 0 0) (.slice none 0 0)) := by
    have h := Duo.new (w.alloc (.cells #[.slice (some ⟨kb, o, none⟩) 24 c, .slice a' 24 c'] 31)) (.slice none 0 0) (.slice none 0 0) 31
    rw [World.size_alloc] at h
    exact h
  clear hM
  go_enter Tryz.func82, Tryz.ntmps82
  go_upto_region 1 with fail
  generalize (w.alloc (.cells #[.slice (some ⟨kb, o, none⟩) 24 c, .slice a' 24 c'] 31)).alloc (.cells #[.slice none 0 0, .slice none 0 0] 31) = W at H S0 ⊢
  replace H := hid_mk (H.out.push (spotF (w.heap.size + 1)) ⟨_, _, S0.out⟩)
  clear S0
  have ALL : Hid (∀ w', Hold w w' [spotF (w.heap.size + 1), duoF w.heap.size (.slice (some ⟨kb, o, none⟩) 24 c) (.slice a' 24 c'), argF w.heap.size (some ⟨kb, o, none⟩) 24 a' 24 L G] → (w'.cell? ⟨w.heap.size, 0, none⟩ = some (.slice (some ⟨kb, o, none⟩) 24 c) ∧ w'.cell? ⟨w.heap.size, 1, none⟩ = some (.slice a' 24 c') ∧ Hid (Hold w w' [spotF (w.heap.size + 1), duoF w.heap.size (.slice (some ⟨kb, o, none⟩) 24 c) (.slice a' 24 c'), argF w.heap.size (some ⟨kb, o, none⟩) 24 a' 24 L G]))) := fun w' h => by
    have h1 := h.duo (.tail _ (.head _))
    exact ⟨h1.c0, h1.c1, h⟩
  have GET : Hid (∀ w', (w'.cell? ⟨w.heap.size, 0, none⟩ = some (.slice (some ⟨kb, o, none⟩) 24 c) ∧ w'.cell? ⟨w.heap.size, 1, none⟩ = some (.slice a' 24 c') ∧ Hid (Hold w w' [spotF (w.heap.size + 1), duoF w.heap.size (.slice (some ⟨kb, o, none⟩) 24 c) (.slice a' 24 c'), argF w.heap.size (some ⟨kb, o, none⟩) 24 a' 24 L G])) → Hold w w' [spotF (w.heap.size + 1), duoF w.heap.size (.slice (some ⟨kb, o, none⟩) 24 c) (.slice a' 24 c'), argF w.heap.size (some ⟨kb, o, none⟩) 24 a' 24 L G]) := fun w' h => h.2.2
  have F0 := hid_mk H.out.drew
  clear H
  go_region_held3 (fun w' => w'.cell? ⟨w.heap.size, 0, none⟩ = some (.slice (some ⟨kb, o, none⟩) 24 c) ∧ w'.cell? ⟨w.heap.size, 1, none⟩ = some (.slice a' 24 c') ∧ Hid (Hold w w' [spotF (w.heap.size + 1), duoF w.heap.size (.slice (some ⟨kb, o, none⟩) 24 c) (.slice a' 24 c'), argF w.heap.size (some ⟨kb, o, none⟩) 24 a' 24 L G]))
    (first | (with_reducible assumption) | (((with_reducible refine ALL.out _ ?_); (first | (with_reducible exact F0.out) | ((with_reducible apply Hold.next ?_ KA.out); (with_reducible exact GET.out _ (by with_reducible assumption))) | ((with_reducible apply Hold.next ?_ KG.out); (with_reducible exact GET.out _ (by with_reducible assumption))) | ((with_reducible apply Hold.next ?_ KL.out); (with_reducible exact GET.out _ (by with_reducible assumption))) | ((with_reducible apply Hold.store2 (GET.out _ (by with_reducible assumption)) (by omega)); (intro f hf k hk; simp only [List.mem_cons, List.not_mem_nil, or_false] at hf; rcases hf with rfl | rfl; (simp only [duoF] at hk; omega); (simp only [argF] at hk; omega))) | fail))))
    (first
      | ((refine step_appW (by rfl) _ _ (by rfl) ⟨kb, o, none⟩ 0 0 [] (by rfl) rfl (fun j u hj => by cases hj) ⟨kb, o, none⟩ 24 c L (by rfl) hlw ((GET.out _ (by with_reducible assumption)).arg (.tail _ (.tail _ (.head _)))).ws.flat (by omega) (by omega) ?_); intro g cp wA _ hOA hgA hcA hbA; have KA := hid_mk hbA; have RA := hid_mk hOA.app_nil; have lA := hgA; have uA := RA.out.lt; have zA := hbA.size; (first | (have RB := hid_mk (RB.out.to hbA)) | skip); (obtain ⟨u0, u1, hsp, q0, q1, q2, q3⟩ := ((GET.out _ (by with_reducible assumption)).next hbA).spot (.head _)); clear hbA hOA hgA)
      | (go_at_call 111; refine (goneIn_any _ a' c' G _ ((GET.out _ (by with_reducible assumption)).arg (.tail _ (.tail _ (.head _)))).gs).mono ?_; rintro e wG ⟨rfl, hbG⟩; have KG := hid_mk hbG; have zG := hbG.size; (first | (have RA := hid_mk (RA.out.below hbG)) | skip); (obtain ⟨u0, u1, hsp, q0, q1, q2, q3⟩ := ((GET.out _ (by with_reducible assumption)).next hbG).spot (.head _)); clear hbG)
      | (go_at_call 112; refine (list_any G hlg _).mono ?_; rintro e wL ⟨gb, rfl, hgL, hOL, hbL⟩; have KL := hid_mk hbL; have RB := hid_mk hOL; have lB := hgL; have uB := hOL.lt; have zL := hbL.size; (first | (have RA := hid_mk (RA.out.below hbL)) | skip); (obtain ⟨u0, u1, hsp, q0, q1, q2, q3⟩ := ((GET.out _ (by with_reducible assumption)).next hbL).spot (.head _)); clear hbL hOL hgL))
  all_goals
    have HE := hid_mk (GET.out _ (by with_reducible assumption))
    obtain ⟨_, _, hs0, _, _, _, _⟩ := F0.out.spot (.head _)
    have hne : g ≠ gb := by omega
    have hg1 : w.heap.size + 1 < g := by omega
    have hg2 : w.heap.size + 1 < gb := by omega
    clear ALL GET F0
    go_wp2
    refine bodyPost_ret (v := .agg #[.slice (some ⟨g, 0, none⟩) 24 cp, .slice (some ⟨gb, 0, none⟩) 24 24]) (by simp [results, Tryz.results82, go_sem, q0, q1]) rfl ⟨_, _, _, rfl, by omega, ?_, ?_, HE.out.bel⟩
    · exact ⟨.inr ⟨g, rfl, hlw, RA.out.keepB (((KeepBut.refl (w.heap.size + 1) _).setCell 0 _).setCell 1 _) (by omega)⟩, .inr ⟨gb, rfl, hlg, RB.out.keepB (((KeepBut.refl (w.heap.size + 1) _).setCell 0 _).setCell 1 _) (by omega)⟩, fun k h1 h2 => hne (((on_some g k).1 h1).trans ((on_some gb k).1 h2).symm)⟩
    · rintro k (hk | hk)
      · have := (on_some g k).1 hk; omega
      · have := (on_some gb k).1 hk; omega
end Go.Proofs.YtneohabkoighcaaGreat

namespace Go.Proofs.YtneohabkoighcaaGreat
open Go.ChangeShapes Go.WideShapes Go.ChangeAt Go.RowKit
set_option maxRecDepth 100000

set_option maxHeartbeats 8000000 in
theorem l8Copy_any (a : Option Addr) (c : Nat) (a' : Option Addr) (c' : Nat) (L : List Wd) (G : List Bool) (w : World) (hM : MemS w a 24 a' 24 L G) :
    Calls Tryz.prog 90 #[.agg #[.slice a 24 c, .slice a' 24 c']] w fun e w' => ∃ b d b' d', e = .returned (.agg #[.slice b 24 d, .slice b' 24 d']) ∧ 24 ≤ d ∧ AnsM b b' 24 24 L G w' ∧ (∀ k, On b k ∨ On b' k → w.heap.size ≤ k) ∧ Below w.heap.size w w' := by
  have hlw := hM.ws.2.1
  have hlg := hM.gs.2.1
  obtain ⟨kb, o, _, rfl, _, _, _⟩ := hM.ws.at (j := 0) (by omega)
  obtain ⟨kg, og, _, rfl, _, _, _⟩ := hM.gs.at (j := 0) (by omega)
  have H := hid_mk (((((Hold.new w).push (argF w.heap.size (some ⟨kb, o, none⟩) 24 (some ⟨kg, og, none⟩) 24 L G) hM.arg).alloc (.cells #[.slice (some ⟨kb, o, none⟩) 24 c, .slice (some ⟨kg, og, none⟩) 24 c'] 31)).push (duoF w.heap.size (.slice (some ⟨kb, o, none⟩) 24 c) (.slice (some ⟨kg, og, none⟩) 24 c')) (Duo.new w _ _ _)).alloc (.cells #[.slice none 0 0, .slice none 0 0] 31))
  have S0 : Hid (Duo ((w.alloc (.cells #[.slice (some ⟨kb, o, none⟩) 24 c, .slice (some ⟨kg, og, none⟩) 24 c'] 31)).alloc (.cells #[.slice none 0 0, .slice none 0 0] 31)) (w.heap.size + 1) (.slice none 0 0) (.slice none 0 0)) := by
    have h := Duo.new (w.alloc (.cells #[.slice (some ⟨kb, o, none⟩) 24 c, .slice (some ⟨kg, og, none⟩) 24 c'] 31)) (.slice none 0 0) (.slice none 0 0) 31
    rw [World.size_alloc] at h
    exact h
  clear hM
  go_enter Tryz.func90, Tryz.ntmps90
  go_upto_region 1 with fail
  generalize (w.alloc (.cells #[.slice (some ⟨kb, o, none⟩) 24 c, .slice (some ⟨kg, og, none⟩) 24 c'] 31)).alloc (.cells #[.slice none 0 0, .slice none 0 0] 31) = W at H S0 ⊢
  replace H := hid_mk (H.out.push (spotF (w.heap.size + 1)) ⟨_, _, S0.out⟩)
  clear S0
  have ALL : Hid (∀ w', Hold w w' [spotF (w.heap.size + 1), duoF w.heap.size (.slice (some ⟨kb, o, none⟩) 24 c) (.slice (some ⟨kg, og, none⟩) 24 c'), argF w.heap.size (some ⟨kb, o, none⟩) 24 (some ⟨kg, og, none⟩) 24 L G] → (w'.cell? ⟨w.heap.size, 0, none⟩ = some (.slice (some ⟨kb, o, none⟩) 24 c) ∧ w'.cell? ⟨w.heap.size, 1, none⟩ = some (.slice (some ⟨kg, og, none⟩) 24 c') ∧ Hid (Hold w w' [spotF (w.heap.size + 1), duoF w.heap.size (.slice (some ⟨kb, o, none⟩) 24 c) (.slice (some ⟨kg, og, none⟩) 24 c'), argF w.heap.size (some ⟨kb, o, none⟩) 24 (some ⟨kg, og, none⟩) 24 L G]))) := fun w' h => by
    have h1 := h.duo (.tail _ (.head _))
    exact ⟨h1.c0, h1.c1, h⟩
  have GET : Hid (∀ w', (w'.cell? ⟨w.heap.size, 0, none⟩ = some (.slice (some ⟨kb, o, none⟩) 24 c) ∧ w'.cell? ⟨w.heap.size, 1, none⟩ = some (.slice (some ⟨kg, og, none⟩) 24 c') ∧ Hid (Hold w w' [spotF (w.heap.size + 1), duoF w.heap.size (.slice (some ⟨kb, o, none⟩) 24 c) (.slice (some ⟨kg, og, none⟩) 24 c'), argF w.heap.size (some ⟨kb, o, none⟩) 24 (some ⟨kg, og, none⟩) 24 L G])) → Hold w w' [spotF (w.heap.size + 1), duoF w.heap.size (.slice (some ⟨kb, o, none⟩) 24 c) (.slice (some ⟨kg, og, none⟩) 24 c'), argF w.heap.size (some ⟨kb, o, none⟩) 24 (some ⟨kg, og, none⟩) 24 L G]) := fun w' h => h.2.2
  have ST : Hid (∀ w1 u0 u1, Hold w w1 [spotF (w.heap.size + 1), duoF w.heap.size (.slice (some ⟨kb, o, none⟩) 24 c) (.slice (some ⟨kg, og, none⟩) 24 c'), argF w.heap.size (some ⟨kb, o, none⟩) 24 (some ⟨kg, og, none⟩) 24 L G] → Hold w ((w1.setCell ⟨w.heap.size + 1, 0, none⟩ u0).setCell ⟨w.heap.size + 1, 1, none⟩ u1) [spotF (w.heap.size + 1), duoF w.heap.size (.slice (some ⟨kb, o, none⟩) 24 c) (.slice (some ⟨kg, og, none⟩) 24 c'), argF w.heap.size (some ⟨kb, o, none⟩) 24 (some ⟨kg, og, none⟩) 24 L G]) := fun w1 u0 u1 h => h.store2 (by omega) (fun f hf k hk => by
    simp only [List.mem_cons, List.not_mem_nil, or_false] at hf
    rcases hf with rfl | rfl
    · simp only [duoF] at hk; omega
    · simp only [argF] at hk; omega) u0 u1
  obtain ⟨_, _, hsW, _, _, _, _⟩ := H.out.spot (.head _)
  go_region_held3 (fun w' => w'.cell? ⟨w.heap.size, 0, none⟩ = some (.slice (some ⟨kb, o, none⟩) 24 c) ∧ w'.cell? ⟨w.heap.size, 1, none⟩ = some (.slice (some ⟨kg, og, none⟩) 24 c') ∧ Hid (Hold w w' [spotF (w.heap.size + 1), duoF w.heap.size (.slice (some ⟨kb, o, none⟩) 24 c) (.slice (some ⟨kg, og, none⟩) 24 c'), argF w.heap.size (some ⟨kb, o, none⟩) 24 (some ⟨kg, og, none⟩) 24 L G]))
    (first | (with_reducible assumption) | (((with_reducible refine ALL.out _ ?_); (first | ((with_reducible apply Hold.next ?_ KA.out); (with_reducible exact GET.out _ (by with_reducible assumption))) | ((with_reducible apply Hold.next ?_ KB.out); (with_reducible exact GET.out _ (by with_reducible assumption))) | ((with_reducible apply ST.out _ _ _ (GET.out _ (by with_reducible assumption)))) | (with_reducible exact H.out.drew) | ((with_reducible apply Hold.drew); (with_reducible apply Hold.alloc); (with_reducible exact H.out)) | ((with_reducible apply Hold.drew); (with_reducible apply Hold.alloc); (with_reducible apply Hold.alloc); (with_reducible exact H.out)) | ((with_reducible apply Hold.alloc); (with_reducible exact GET.out _ (by with_reducible assumption))) | fail))))
    (first
      | ((refine step_appW (by rfl) _ _ (by rfl) _ 0 0 [] (by rfl) rfl (fun j u hj => by cases hj) ⟨kb, o, none⟩ 24 c L (by rfl) hlw ((GET.out _ (by with_reducible assumption)).arg (.tail _ (.tail _ (.head _)))).ws.flat (by omega) (by omega) ?_); intro g cp wA _ hOA hgA hcA hbA; have KA := hid_mk hbA; have RA := hid_mk hOA.app_nil; have lA := hgA; have uA := RA.out.lt; have zA := hbA.size; (try simp at lA zA); (first | (have RB := hid_mk (RB.out.to hbA)) | (have RB := hid_mk (RB.out.to (((Below.refl _ _).alloc (Nat.le_refl _) _).trans (hbA.mono (by simp))))) | skip); (obtain ⟨u0, u1, hsp, q0, q1, q2, q3⟩ := ((GET.out _ (by with_reducible assumption)).next hbA).spot (.head _)); clear hbA hOA hgA)
      | ((refine step_appB (by rfl) _ _ (by rfl) _ 0 (by rfl) ⟨kg, og, none⟩ 24 c' G (by rfl) hlg ((GET.out _ (by with_reducible assumption)).arg (.tail _ (.tail _ (.head _)))).gs.flat (by omega) (by omega) ?_); intro gb cb wB hOB hgB hcB hbB; have KB := hid_mk hbB; have RB := hid_mk hOB; have lB := hgB; have uB := RB.out.lt; have zB := hbB.size; (try simp at lB zB); (first | (have RA := hid_mk (RA.out.below hbB)) | (have RA := hid_mk (RA.out.below (((Below.refl _ _).alloc (Nat.le_refl _) _).trans (hbB.mono (by simp))))) | skip); (obtain ⟨u0, u1, hsp, q0, q1, q2, q3⟩ := ((GET.out _ (by with_reducible assumption)).next hbB).spot (.head _)); clear hbB hOB hgB))
  all_goals
    have HE := hid_mk (GET.out _ (by with_reducible assumption))
    have hne : g ≠ gb := by omega
    have hg1 : w.heap.size + 1 < g := by omega
    have hg2 : w.heap.size + 1 < gb := by omega
    clear ALL GET H ST
    go_wp2
    refine bodyPost_ret (v := .agg #[.slice (some ⟨g, 0, none⟩) 24 cp, .slice (some ⟨gb, 0, none⟩) 24 cb]) (by simp [results, Tryz.results90, go_sem, q0, q1]) rfl ⟨_, _, _, _, rfl, by omega, ?_, ?_, HE.out.bel⟩
    · exact ⟨.inr ⟨g, rfl, hlw, RA.out.keepB (((KeepBut.refl (w.heap.size + 1) _).setCell 0 _).setCell 1 _) (by omega)⟩, .inr ⟨gb, rfl, hlg, RB.out.keepB (((KeepBut.refl (w.heap.size + 1) _).setCell 0 _).setCell 1 _) (by omega)⟩, fun k h1 h2 => hne (((on_some g k).1 h1).trans ((on_some gb k).1 h2).symm)⟩
    · rintro k (hk | hk)
      · have := (on_some g k).1 hk; omega
      · have := (on_some gb k).1 hk; omega
end Go.Proofs.YtneohabkoighcaaGreat

namespace Go.Proofs.YtneohabkoighcaaGreat
open Go.ChangeShapes Go.WideShapes Go.ChangeAt Go.RowKit
set_option maxRecDepth 100000

theorem sizeSt : (Tryz.prog.info? 33).map (·.size) = some 10 := by kernel_rfl
theorem stl_one (b : Option Addr) (n d : Nat) (x : Wd) (b1 : Option Addr) (n1 d1 : Nat) (b2 : Option Addr) (n2 d2 : Nat) (t : Int) : ((stl b n d x b1 n1 d1 b2 n2 d2 t).toArray.all (·.oneCell')) = true := all_oneCell_toArray fun v hv => by
  simp only [stl, List.mem_cons, List.not_mem_nil, or_false] at hv
  rcases hv with rfl | rfl | rfl | rfl | rfl | rfl | rfl | rfl | rfl | rfl <;> rfl
theorem lv_st {w : World} {r : Nat} {vs : List Value} (h : Cel w r vs) (hl : vs.length = 10) : (loadVar 33 ⟨r, 0, none⟩).run Tryz.prog w = .ok (.agg vs.toArray) w :=
  run_loadVar_mid w r 0 _ _ _ h.range Tryz.underlying33 rfl (by rw [hl]; exact sizeSt)
/-- A block of so many cells that may be written, whatever they hold. -/
def lenF (r n : Nat) : Fct where
  S := fun k => k = r
  p := fun w => ∃ vs : List Value, vs.length = n ∧ Cel w r vs
  keep := fun _ _ ⟨vs, hl, h⟩ hs hb => ⟨vs, hl, h.ofBlock hs (hb r h.lt rfl)⟩
theorem Hold.len {w0 w : World} {fs : List Fct} (h : Hold w0 w fs) {r n : Nat} (hm : lenF r n ∈ fs) : ∃ vs : List Value, vs.length = n ∧ Cel w r vs := h.at hm
theorem Hold.sets_len {w0 w : World} {fs : List Fct} {r n : Nat} (us : List Value) (h : Hold w0 w (lenF r n :: fs)) (h0 : w0.heap.size ≤ r) (hd : ∀ f ∈ fs, ∀ k, f.S k → k ≠ r) (hl : us.length = n) : Hold w0 (w.setCells r 0 us) (lenF r n :: fs) := by
  obtain ⟨vs, hv, C⟩ := h.len (.head _)
  exact ((h.tail).wrote (T := fun k => k = r) (KeptS.ofBut (KeepBut.setCells us 0 w) rfl) (fun k e => by omega) hd).push (lenF r n) ⟨us, hl, C.sets (by omega)⟩

theorem step_appWd {ops : Array Oper} {o : Oper} {a : Act} {w : World} {K : Act → World → Prop} {Q : Exit → Act → World → Prop} {E : Prop} (hgd : o.guard = none) (s x : Operand)
    (ho : o.op = .call { callee := .builtin .append, args := #[s, x], argTypes := #[24, 24] })
    (dd : Nat) (hdd : o.dst = some dd) (b : Addr) (n cap : Nat) (X : List Wd) (hs : a.eval s = .slice (some b) n cap) (hX : X.length = n) (holds : ∀ j u, (X.flatMap Wd.vs)[j]? = some u → w.cell? (b.add j) = some u)
    (ad : Addr) (m c : Nat) (Y : List Wd) (hx : a.eval x = .slice (some ad) m c) (hY : Y.length = m) (hc : ∀ j u, (Y.flatMap Wd.vs)[j]? = some u → w.cell? (ad.add j) = some u) (hfull : cap < n + m) (hb : n + m ≤ 1048576)
    (h : ∀ g cp w', w'.ownsRow w.heap.size 28 6 (.slice (some ⟨g, 0, none⟩) (n + m) cp) (n + m) ((X ++ Y).flatMap Wd.vs) → OutW w' g (n + m) (n + m) (X ++ Y) → w.heap.size ≤ g → n + m ≤ cp → Below w.heap.size w w' → K (a.put (some dd) (.slice (some ⟨g, 0, none⟩) (n + m) cp)) w') :
    if Region.wanted o (yielded ops a.tmps) = true then Oper.wp Tryz.prog o a w K Q else E :=
  step_appW hgd s x ho b n cap X hs hX holds ad m c Y hx hY hc hfull hb (fun g cp w' h1 h2 h3 h4 h5 => by rw [hdd]; exact h g cp w' h1 h2 h3 h4 h5)

set_option maxHeartbeats 1000000 in
theorem l9Copy_any (a : Option Addr) (c : Nat) (x : Wd) (a1 : Option Addr) (c1 : Nat) (a2 : Option Addr) (c2 : Nat) (t : Int) (R L : List Wd) (G : List Bool) (w : World) (hS : StS w a 8 a1 24 a2 24 R L G) :
    Calls Tryz.prog 53 #[.agg #[.slice a 8 c, .int .i64 x.n, .bool x.i, .int .i64 x.b, .int .i64 x.t, .int .i64 x.p, .int .i64 x.s, .slice a1 24 c1, .slice a2 24 c2, .int .i64 t]] w fun e w' => ∃ b d b1 d1 b2 d2, e = .returned (.agg #[.slice b 8 d, .int .i64 x.n, .bool x.i, .int .i64 x.b, .int .i64 x.t, .int .i64 x.p, .int .i64 x.s, .slice b1 24 d1, .slice b2 24 d2, .int .i64 t]) ∧ 24 ≤ d1 ∧ AnsS b b1 b2 8 24 24 R L G w' ∧ (∀ k, On b k ∨ On b1 k ∨ On b2 k → w.heap.size ≤ k) ∧ Below w.heap.size w w' := by
  have hlr := hS.rs.2.1
  obtain ⟨kb, o, _, rfl, _, _, _⟩ := hS.rs.at (j := 0) (by omega)
  have H : Hid (Hold w ((w.alloc (.cells (stl (some ⟨kb, o, none⟩) 8 c x a1 24 c1 a2 24 c2 t).toArray 33)).alloc (.cells ([.slice none 0 0, .int .i64 0, .bool false, .int .i64 0, .int .i64 0, .int .i64 0, .int .i64 0, .slice none 0 0, .slice none 0 0, .int .i64 0] : List Value).toArray 33)) [lenF (w.heap.size + 1) 10, celF w.heap.size (stl (some ⟨kb, o, none⟩) 8 c x a1 24 c1 a2 24 c2 t), argSF w.heap.size (some ⟨kb, o, none⟩) 8 a1 24 a2 24 R L G]) := by
    have h1 := (((Hold.new w).push (argSF w.heap.size (some ⟨kb, o, none⟩) 8 a1 24 a2 24 R L G) hS.arg).alloc (.cells (stl (some ⟨kb, o, none⟩) 8 c x a1 24 c1 a2 24 c2 t).toArray 33)).push (celF w.heap.size (stl (some ⟨kb, o, none⟩) 8 c x a1 24 c1 a2 24 c2 t)) (Cel.new w _ _)
    have g2 := Cel.new (w.alloc (.cells (stl (some ⟨kb, o, none⟩) 8 c x a1 24 c1 a2 24 c2 t).toArray 33)) [.slice none 0 0, .int .i64 0, .bool false, .int .i64 0, .int .i64 0, .int .i64 0, .int .i64 0, .slice none 0 0, .slice none 0 0, .int .i64 0] 33
    rw [World.size_alloc] at g2
    exact (h1.alloc (.cells ([.slice none 0 0, .int .i64 0, .bool false, .int .i64 0, .int .i64 0, .int .i64 0, .int .i64 0, .slice none 0 0, .slice none 0 0, .int .i64 0] : List Value).toArray 33)).push (lenF (w.heap.size + 1) 10) ⟨_, rfl, g2⟩
  clear hS
  have RZ : Hid (∀ (us : List Value) (w1 : World), us.length = 10 → Hold w w1 [lenF (w.heap.size + 1) 10, celF w.heap.size (stl (some ⟨kb, o, none⟩) 8 c x a1 24 c1 a2 24 c2 t), argSF w.heap.size (some ⟨kb, o, none⟩) 8 a1 24 a2 24 R L G] → Hold w (w1.setCells (w.heap.size + 1) 0 us) [lenF (w.heap.size + 1) 10, celF w.heap.size (stl (some ⟨kb, o, none⟩) 8 c x a1 24 c1 a2 24 c2 t), argSF w.heap.size (some ⟨kb, o, none⟩) 8 a1 24 a2 24 R L G]) := fun us w1 hl h => h.sets_len us (by omega) (fun f hf k hk => by
    simp only [List.mem_cons, List.not_mem_nil, or_false] at hf
    rcases hf with rfl | rfl
    · simp only [celF] at hk; omega
    · simp only [argSF] at hk; omega) hl
  obtain ⟨Q, HQ, HQ2⟩ : ∃ Q : Ending → World → Prop, Hid (∀ b d b1 d1 b2 d2 w', 24 ≤ d1 → AnsS b b1 b2 8 24 24 R L G w' → (∀ k, On b k ∨ On b1 k ∨ On b2 k → w.heap.size ≤ k) → Below w.heap.size w w' → Q (.returned (.agg #[.slice b 8 d, .int .i64 x.n, .bool x.i, .int .i64 x.b, .int .i64 x.t, .int .i64 x.p, .int .i64 x.s, .slice b1 24 d1, .slice b2 24 d2, .int .i64 t])) w') ∧ (∀ e w', Q e w' → ∃ b d b1 d1 b2 d2, e = .returned (.agg #[.slice b 8 d, .int .i64 x.n, .bool x.i, .int .i64 x.b, .int .i64 x.t, .int .i64 x.p, .int .i64 x.s, .slice b1 24 d1, .slice b2 24 d2, .int .i64 t]) ∧ 24 ≤ d1 ∧ AnsS b b1 b2 8 24 24 R L G w' ∧ (∀ k, On b k ∨ On b1 k ∨ On b2 k → w.heap.size ≤ k) ∧ Below w.heap.size w w') :=
    ⟨fun e w' => ∃ b d b1 d1 b2 d2, e = .returned (.agg #[.slice b 8 d, .int .i64 x.n, .bool x.i, .int .i64 x.b, .int .i64 x.t, .int .i64 x.p, .int .i64 x.s, .slice b1 24 d1, .slice b2 24 d2, .int .i64 t]) ∧ 24 ≤ d1 ∧ AnsS b b1 b2 8 24 24 R L G w' ∧ (∀ k, On b k ∨ On b1 k ∨ On b2 k → w.heap.size ≤ k) ∧ Below w.heap.size w w', fun b d b1 d1 b2 d2 w' h1 h2 h3 h4 => ⟨b, d, b1, d1, b2, d2, rfl, h1, h2, h3, h4⟩, fun _ _ h => h⟩
  refine Calls.mono (R := Q) ?_ HQ2
  clear HQ2
  generalize hw1 : (w.alloc (.cells (stl (some ⟨kb, o, none⟩) 8 c x a1 24 c1 a2 24 c2 t).toArray 33)).alloc (.cells ([.slice none 0 0, .int .i64 0, .bool false, .int .i64 0, .int .i64 0, .int .i64 0, .int .i64 0, .slice none 0 0, .slice none 0 0, .int .i64 0] : List Value).toArray 33) = w1 at H
  have hz1 : w.heap.size + 1 < w1.heap.size := by rw [← hw1]; simp
  go_enter Tryz.func53, Tryz.ntmps53
  go_upto_region 1 with fail
  clear hw1
  have D0 := hid_mk H.out.drew
  refine wp_region_held_drew (S := fun w' => Hold w w' [lenF (w.heap.size + 1) 10, celF w.heap.size (stl (some ⟨kb, o, none⟩) 8 c x a1 24 c1 a2 24 c2 t), argSF w.heap.size (some ⟨kb, o, none⟩) 8 a1 24 a2 24 R L G]) (by kernel_rfl) D0.out (fun hHeld => ?_)
  have hzd : w1.drew.heap.size = w1.heap.size := by simp
  generalize w1.drew = wd at D0 hHeld hzd ⊢
  have hzw : w.heap.size + 1 < wd.heap.size := by omega
  clear hzd H
  refine take_on (i := 1) (d := 4) (v := .pointer (some ⟨w.heap.size, 0, none⟩)) rfl rfl (by kernel_rfl) (by kernel_rfl) (by kernel_rfl) (fun _ _ _ h => h) (by rfl) ?_ hHeld ?_
  · (intro w' hSw; go_simp)
  simp only [Act.put, List.setIfInBounds_toArray, List.set_cons_zero, List.set_cons_succ]
  refine take_on (i := 2) (d := 5) (v := .slice (some ⟨kb, o, none⟩) 8 c) rfl rfl (by kernel_rfl) (by kernel_rfl) (by kernel_rfl) (fun _ _ _ h => h) (by rfl) ?_ hHeld ?_
  · (intro w' hSw; have hSx : Hold w w' [lenF (w.heap.size + 1) 10, celF w.heap.size (stl (some ⟨kb, o, none⟩) 8 c x a1 24 c1 a2 24 c2 t), argSF w.heap.size (some ⟨kb, o, none⟩) 8 a1 24 a2 24 R L G] := hSw; have c0 := (hSx.cel (.tail _ (.head _))).c 0 _ rfl; go_simp)
  simp only [Act.put, List.setIfInBounds_toArray, List.set_cons_zero, List.set_cons_succ]
  refine take_on (i := 4) (d := 7) (v := .pointer (some ⟨w.heap.size, 1, none⟩)) rfl rfl (by kernel_rfl) (by kernel_rfl) (by kernel_rfl) (fun _ _ _ h => h) (by rfl) ?_ hHeld ?_
  · (intro w' hSw; go_simp)
  simp only [Act.put, List.setIfInBounds_toArray, List.set_cons_zero, List.set_cons_succ]
  refine take_on (i := 5) (d := 8) (v := .agg #[.int .i64 x.n, .bool x.i, .int .i64 x.b, .int .i64 x.t, .int .i64 x.p, .int .i64 x.s]) rfl rfl (by kernel_rfl) (by kernel_rfl) (by kernel_rfl) (fun _ _ _ h => h) (by rfl) ?_ hHeld ?_
  · (intro w' hSw; have hSx : Hold w w' [lenF (w.heap.size + 1) 10, celF w.heap.size (stl (some ⟨kb, o, none⟩) 8 c x a1 24 c1 a2 24 c2 t), argSF w.heap.size (some ⟨kb, o, none⟩) 8 a1 24 a2 24 R L G] := hSw; have c0 := (hSx.cel (.tail _ (.head _))).c 1 _ rfl; have c1 := (hSx.cel (.tail _ (.head _))).c 2 _ rfl; have c2 := (hSx.cel (.tail _ (.head _))).c 3 _ rfl; have c3 := (hSx.cel (.tail _ (.head _))).c 4 _ rfl; have c4 := (hSx.cel (.tail _ (.head _))).c 5 _ rfl; have c5 := (hSx.cel (.tail _ (.head _))).c 6 _ rfl; go_simp)
  simp only [Act.put, List.setIfInBounds_toArray, List.set_cons_zero, List.set_cons_succ]
  refine take_on (i := 6) (d := 9) (v := .pointer (some ⟨w.heap.size, 7, none⟩)) rfl rfl (by kernel_rfl) (by kernel_rfl) (by kernel_rfl) (fun _ _ _ h => h) (by rfl) ?_ hHeld ?_
  · (intro w' hSw; go_simp)
  simp only [Act.put, List.setIfInBounds_toArray, List.set_cons_zero, List.set_cons_succ]
  refine take_on (i := 7) (d := 10) (v := .agg #[.slice a1 24 c1, .slice a2 24 c2]) rfl rfl (by kernel_rfl) (by kernel_rfl) (by kernel_rfl) (fun _ _ _ h => h) (by rfl) ?_ hHeld ?_
  · (intro w' hSw; have hSx : Hold w w' [lenF (w.heap.size + 1) 10, celF w.heap.size (stl (some ⟨kb, o, none⟩) 8 c x a1 24 c1 a2 24 c2 t), argSF w.heap.size (some ⟨kb, o, none⟩) 8 a1 24 a2 24 R L G] := hSw; have c0 := (hSx.cel (.tail _ (.head _))).c 7 _ rfl; have c1 := (hSx.cel (.tail _ (.head _))).c 8 _ rfl; go_simp)
  simp only [Act.put, List.setIfInBounds_toArray, List.set_cons_zero, List.set_cons_succ]
  refine take_on (i := 9) (d := 12) (v := .pointer (some ⟨w.heap.size, 9, none⟩)) rfl rfl (by kernel_rfl) (by kernel_rfl) (by kernel_rfl) (fun _ _ _ h => h) (by rfl) ?_ hHeld ?_
  · (intro w' hSw; go_simp)
  simp only [Act.put, List.setIfInBounds_toArray, List.set_cons_zero, List.set_cons_succ]
  refine take_on (i := 10) (d := 13) (v := .int .i64 t) rfl rfl (by kernel_rfl) (by kernel_rfl) (by kernel_rfl) (fun _ _ _ h => h) (by rfl) ?_ hHeld ?_
  · (intro w' hSw; have hSx : Hold w w' [lenF (w.heap.size + 1) 10, celF w.heap.size (stl (some ⟨kb, o, none⟩) 8 c x a1 24 c1 a2 24 c2 t), argSF w.heap.size (some ⟨kb, o, none⟩) 8 a1 24 a2 24 R L G] := hSw; have c0 := (hSx.cel (.tail _ (.head _))).c 9 _ rfl; go_simp)
  simp only [Act.put, List.setIfInBounds_toArray, List.set_cons_zero, List.set_cons_succ]
  refine wpAnyH_ready (rs := [0]) (by kernel_rfl) (by simp) ?_
  refine AllReadyH.cons rfl (fun K hK => ?_) AllReadyH.nil
  go_simp
  have H1 := hid_mk (D0.out.alloc (.cells #[] 28))
  have zwv : wd.heap.size ≤ (wd.alloc (.cells #[] 28)).heap.size := by simp
  refine hK.out _ _ H1.out (fun hHeld => ?_)
  clear hK K
  (try simp only [Act.put]); (try simp only [List.setIfInBounds_toArray]); (try simp only [List.set_cons_succ]); (try simp only [List.set_cons_zero]); (try simp only [List.set_cons_succ]); (try simp only [List.set_cons_zero]); (try simp only [Nat.zero_add])
  generalize wd.alloc (.cells #[] 28) = wv at H1 hHeld zwv ⊢
  refine wpAnyH_ready (rs := [3]) (by kernel_rfl) (by simp) ?_
  refine AllReadyH.cons rfl (fun K hK => ?_) AllReadyH.nil
  refine step_appWd (by rfl) _ _ (by rfl) 6 (by rfl) _ 0 0 [] (by rfl) rfl (fun j u hj => by cases hj) ⟨kb, o, none⟩ 8 c R (by rfl) hlr (H1.out.argS (.tail _ (.tail _ (.head _)))).rs.flat (by omega) (by omega) ?_
  intro g cp wA _ hOA hgA hcA hbA
  have lA := hgA
  have uA := hOA.lt
  have zA := hbA.size
  have H2 := hid_mk ((H1.out.next hbA).push (rowWF (some ⟨g, 0, none⟩) 8 R) (rowW_mk hOA.app_nil hlr))
  clear hbA hOA hgA
  refine hK.out _ _ H2.out.tail (fun hHeld => ?_)
  clear hK K
  (try simp only [Act.put]); (try simp only [List.setIfInBounds_toArray]); (try simp only [List.set_cons_succ]); (try simp only [List.set_cons_zero]); (try simp only [List.set_cons_succ]); (try simp only [List.set_cons_zero]); (try simp only [Nat.zero_add])
  refine wpAnyH_ready (rs := [8]) (by kernel_rfl) (by simp) ?_
  refine AllReadyH.cons rfl (fun K hK => ?_) AllReadyH.nil
  go_simp
  refine (l8Copy_any a1 c1 a2 c2 L G _ (H2.out.argS (.tail _ (.tail _ (.tail _ (.head _))))).mem).mono ?_
  rintro e wC ⟨m1, e1, m2, e2, rfl, he1, hM, hfC, hbC⟩
  have lC := hid_mk hfC
  have uC := hid_mk (fun k hk => hM.lt (k := k) hk)
  have zC := hbC.size
  have H3 := hid_mk ((H2.out.next hbC).push (ansF m1 m2 24 24 L G) hM)
  clear hbC hM hfC
  refine hK.out _ _ H3.out.tail.tail (fun hHeld => ?_)
  clear hK K
  (try simp only [Act.put]); (try simp only [List.setIfInBounds_toArray]); (try simp only [List.set_cons_succ]); (try simp only [List.set_cons_zero]); (try simp only [List.set_cons_succ]); (try simp only [List.set_cons_zero]); (try simp only [Nat.zero_add])
  refine take_on (i := 11) (d := 14) (v := .agg #[.slice (some ⟨g, 0, none⟩) 8 cp, .int .i64 x.n, .bool x.i, .int .i64 x.b, .int .i64 x.t, .int .i64 x.p, .int .i64 x.s, .slice m1 24 e1, .slice m2 24 e2, .int .i64 t]) rfl rfl (by kernel_rfl) (by kernel_rfl) (by kernel_rfl) (fun _ _ _ h => h) (by rfl) ?_ hHeld ?_
  · (intro w' hSw; go_simp)
  (try simp only [Act.put]); (try simp only [List.setIfInBounds_toArray]); (try simp only [List.set_cons_succ]); (try simp only [List.set_cons_zero]); (try simp only [List.set_cons_succ]); (try simp only [List.set_cons_zero]); (try simp only [Nat.zero_add])
  obtain ⟨vs, hvl, CZ⟩ := H3.out.len (.tail _ (.tail _ (.head _)))
  have TH := hid_mk (by have h := CZ.there; rw [hvl] at h; exact h)
  have CE := hid_mk (CZ.sets (us := stl (some ⟨g, 0, none⟩) 8 cp x m1 24 e1 m2 24 e2 t) (by rw [hvl]; rfl))
  have HR : Hid (RowWA wC (some ⟨g, 0, none⟩) 8 R) := H3.out.at (f := rowWF (some ⟨g, 0, none⟩) 8 R) (.tail _ (.head _))
  have HA := hid_mk (H3.out.ans (a := m1) (a' := m2) (.head _))
  have HB := hid_mk H3.out.bel
  clear CZ
  refine wpAnyH_ready (rs := [12]) (by kernel_rfl) (by simp) ?_
  refine AllReadyH.cons rfl (fun K hK => ?_) AllReadyH.nil
  refine step_stm (by rfl) 33 _ _ (by rfl) (w.heap.size + 1) 0 (stl (some ⟨g, 0, none⟩) 8 cp x m1 24 e1 m2 24 e2 t).toArray (by rfl) (by rfl) TH.out sizeSt (stl_one _ _ _ _ _ _ _ _ _ _ _) ?_
  refine hK.out _ _ (RZ.out (stl (some ⟨g, 0, none⟩) 8 cp x m1 24 e1 m2 24 e2 t) _ rfl H3.out.tail.tail) (fun hHeld => ?_)
  clear hK K
  refine wpAnyH_done (by kernel_rfl) ?_ _
  have K9 := hid_mk (KeepBut.setCells (b := w.heap.size + 1) (stl (some ⟨g, 0, none⟩) 8 cp x m1 24 e1 m2 24 e2 t) 0 wC)
  have hlv := hid_mk (lv_st CE.out rfl)
  have q1 : Hid (∀ k, On m1 k ∨ On m2 k → w.heap.size + 1 < k) := fun k hk => by have := lC.out k hk; omega
  have q2 : w.heap.size + 1 < g := by omega
  clear H3 hHeld RZ TH CE
  have HE1 := hid_mk he1
  clear he1
  generalize wC.setCells (w.heap.size + 1) 0 (stl (some ⟨g, 0, none⟩) 8 cp x m1 24 e1 m2 24 e2 t) = w9 at K9 hlv ⊢
  go_wp2
  refine bodyPost_ret (v := .agg (stl (some ⟨g, 0, none⟩) 8 cp x m1 24 e1 m2 24 e2 t).toArray) (results_cell1 Tryz.results53 (by first | rfl | (simp; done)) hlv.out) rfl (HQ.out _ _ _ _ _ _ _ HE1.out ⟨?_, ?_, ?_, ?_, ?_, ?_⟩ ?_ (HB.out.trans (K9.out.below (B := w.heap.size) (by omega) HB.out.size)))
  · exact HR.out.ofBlock K9.out.size fun k hk ho => K9.out.block k hk (by have := (on_some g k).1 ho; omega)
  · exact HA.out.ws.ofBlock K9.out.size fun k hk ho => K9.out.block k hk (by have := q1.out k (.inl ho); omega)
  · exact HA.out.gs.ofBlock K9.out.size fun k hk ho => K9.out.block k hk (by have := q1.out k (.inr ho); omega)
  · exact fun k h1 h2 => by have := (on_some g k).1 h1; have := lC.out k (.inl h2); have := uC.out k (.inl h2); omega
  · exact fun k h1 h2 => by have := (on_some g k).1 h1; have := lC.out k (.inr h2); have := uC.out k (.inr h2); omega
  · exact HA.out.ne
  · rintro k (hk | hk | hk)
    · have := (on_some g k).1 hk; omega
    · have := q1.out k (.inl hk); omega
    · have := q1.out k (.inr hk); omega
theorem wpList_appG {ops : Array Oper} {rest : List Oper} {o : Oper} {a : Act} {w : World} {Q : Exit → Act → World → Prop} (hgd : o.guard = none) (s x : Operand)
    (ho : o.op = .call { callee := .builtin .append, args := #[s, x], argTypes := #[24, 24] })
    (b : Addr) (n cap : Nat) (X : List Wd) (hs : a.eval s = .slice (some b) n cap) (hX : X.length = n) (holds : ∀ j u, (X.flatMap Wd.vs)[j]? = some u → w.cell? (b.add j) = some u)
    (ad : Addr) (m c : Nat) (Y : List Wd) (hx : a.eval x = .slice (some ad) m c) (hY : Y.length = m) (hc : ∀ j u, (Y.flatMap Wd.vs)[j]? = some u → w.cell? (ad.add j) = some u) (hfull : cap < n + m) (hb : n + m ≤ 1048576)
    (h : ∀ g cp w', OutW w' g (n + m) (n + m) (X ++ Y) → w.heap.size ≤ g → n + m ≤ cp → Below w.heap.size w w' → wpList Tryz.prog ops Q rest (a.put o.dst (.slice (some ⟨g, 0, none⟩) (n + m) cp)) w') :
    wpList Tryz.prog ops Q (o :: rest) a w := by
  obtain ⟨i, hi, hz0, hz1, hz2⟩ := info_parts infoW
  refine wpList_append_grows w hgd s x _ ho 28 i _ 6 48 Tryz.underlying24 hi hz0 hz1 hz2 rfl (by decide) (some b) n cap (X.flatMap Wd.vs) hs (fun e => by cases e) (by rw [flatW_len, hX]) (fun b' e => by cases e; exact holds) ad m c (Y.flatMap Wd.vs) hx (by rw [flatW_len, hY]) hc (flatW_one Y) hfull (by unfold maxLen; omega) (by omega) ?_
  intro v' w' hown hgrow
  have hl : (X ++ Y).length = n + m := by rw [List.length_append, hX, hY]
  rw [← List.flatMap_append, ← hl] at hown
  obtain ⟨g, cp, rfl, hg, hcp, hO⟩ := own_outW hown (by omega)
  rw [hl] at hO hcp hown ⊢
  exact h g cp w' hO hg hcp ((Below.refl _ _).grown hgrow (Nat.le_refl _) fun k hk => by cases hk)

set_option maxHeartbeats 1000000 in
theorem clone_any (kb o n c : Nat) (R : List Wd) (h0 : 0 < n) (hn : n ≤ 1048576) (w : World) (hS : SliceW w.heap.size w (some ⟨kb, o, none⟩) n R) :
    Calls Tryz.prog 81 #[.slice (some ⟨kb, o, none⟩) n c] w fun e w' => ∃ g cp, e = .returned (.slice (some ⟨g, 0, none⟩) n cp) ∧ RowWA w' (some ⟨g, 0, none⟩) n R ∧ w.heap.size ≤ g ∧ Below w.heap.size w w' := by
  have hlr := hid_mk hS.2.1
  have S := hid_mk hS
  clear hS
  have hnil : ∀ W, (binOp .eql 24 (.slice (some ⟨kb, o, none⟩) n c) (.slice none 0 0)).run Tryz.prog W = .ok (.bool false) W := fun W => Lib.run_eql_slice_some_nil W _ _ _ Tryz.underlying24
  go_enter Tryz.func81, Tryz.ntmps81
  go_upto_region 3 with fail
  have S2 := hid_mk ((S.out.keep ((Below.refl w.heap.size w).alloc (Nat.le_refl _) (.cells #[] 28))).mono (show w.heap.size ≤ (w.alloc (.cells #[] 28)).heap.size by simp)).flat
  go_wp2_with (at_builtin; refine wpList_appG rfl _ _ rfl _ 0 0 [] rfl rfl (fun j u hj => by cases hj) ⟨kb, o, none⟩ n c R rfl hlr.out S2.out (by omega) (by omega) ?_; intro g cp w' hO hg hcp hb)
  go_wp2
  go_ret
  rw [World.size_alloc] at hg
  refine ⟨g, cp, rfl, rowW_mk hO.app_nil hlr.out, by omega, ((Below.refl w.heap.size w).alloc (Nat.le_refl _) (.cells #[] 28)).trans (hb.mono (by simp))⟩

set_option maxHeartbeats 1000000 in
theorem stateAsItWas_any (a : Option Addr) (c : Nat) (x : Wd) (a1 : Option Addr) (c1 : Nat) (a2 : Option Addr) (c2 : Nat) (t : Int) (R L : List Wd) (G : List Bool) (w : World) (hS : StS w a 8 a1 24 a2 24 R L G) :
    Calls Tryz.prog 39 #[.agg #[.slice a 8 c, .int .i64 x.n, .bool x.i, .int .i64 x.b, .int .i64 x.t, .int .i64 x.p, .int .i64 x.s, .slice a1 24 c1, .slice a2 24 c2, .int .i64 t]] w fun e w' => ∃ b d b1 d1 b2 d2, e = .returned (.agg #[.slice b 8 d, .int .i64 x.n, .bool x.i, .int .i64 x.b, .int .i64 x.t, .int .i64 x.p, .int .i64 x.s, .slice b1 24 d1, .slice b2 24 d2, .int .i64 t]) ∧ 24 ≤ d1 ∧ AnsS b b1 b2 8 24 24 R L G w' ∧ (∀ k, On b k ∨ On b1 k ∨ On b2 k → w.heap.size ≤ k) ∧ Below w.heap.size w w' := by
  obtain ⟨kb, o, _, rfl, _, _, _⟩ := hS.rs.at (j := 0) (by omega)
  have H : Hid (Hold w ((w.alloc (.cells (stl (some ⟨kb, o, none⟩) 8 c x a1 24 c1 a2 24 c2 t).toArray 33)).alloc (.cells ([.slice none 0 0, .int .i64 0, .bool false, .int .i64 0, .int .i64 0, .int .i64 0, .int .i64 0, .slice none 0 0, .slice none 0 0, .int .i64 0] : List Value).toArray 33)) [lenF (w.heap.size + 1) 10, celF w.heap.size (stl (some ⟨kb, o, none⟩) 8 c x a1 24 c1 a2 24 c2 t), argSF w.heap.size (some ⟨kb, o, none⟩) 8 a1 24 a2 24 R L G]) := by
    have h1 := (((Hold.new w).push (argSF w.heap.size (some ⟨kb, o, none⟩) 8 a1 24 a2 24 R L G) hS.arg).alloc (.cells (stl (some ⟨kb, o, none⟩) 8 c x a1 24 c1 a2 24 c2 t).toArray 33)).push (celF w.heap.size (stl (some ⟨kb, o, none⟩) 8 c x a1 24 c1 a2 24 c2 t)) (Cel.new w _ _)
    have g2 := Cel.new (w.alloc (.cells (stl (some ⟨kb, o, none⟩) 8 c x a1 24 c1 a2 24 c2 t).toArray 33)) [.slice none 0 0, .int .i64 0, .bool false, .int .i64 0, .int .i64 0, .int .i64 0, .int .i64 0, .slice none 0 0, .slice none 0 0, .int .i64 0] 33
    rw [World.size_alloc] at g2
    exact (h1.alloc (.cells ([.slice none 0 0, .int .i64 0, .bool false, .int .i64 0, .int .i64 0, .int .i64 0, .int .i64 0, .slice none 0 0, .slice none 0 0, .int .i64 0] : List Value).toArray 33)).push (lenF (w.heap.size + 1) 10) ⟨_, rfl, g2⟩
  clear hS
  have RZ : Hid (∀ (us : List Value) (w1 : World), us.length = 10 → Hold w w1 [lenF (w.heap.size + 1) 10, celF w.heap.size (stl (some ⟨kb, o, none⟩) 8 c x a1 24 c1 a2 24 c2 t), argSF w.heap.size (some ⟨kb, o, none⟩) 8 a1 24 a2 24 R L G] → Hold w (w1.setCells (w.heap.size + 1) 0 us) [lenF (w.heap.size + 1) 10, celF w.heap.size (stl (some ⟨kb, o, none⟩) 8 c x a1 24 c1 a2 24 c2 t), argSF w.heap.size (some ⟨kb, o, none⟩) 8 a1 24 a2 24 R L G]) := fun us w1 hl h => h.sets_len us (by omega) (fun f hf k hk => by
    simp only [List.mem_cons, List.not_mem_nil, or_false] at hf
    rcases hf with rfl | rfl
    · simp only [celF] at hk; omega
    · simp only [argSF] at hk; omega) hl
  obtain ⟨Q, HQ, HQ2⟩ : ∃ Q : Ending → World → Prop, Hid (∀ b d b1 d1 b2 d2 w', 24 ≤ d1 → AnsS b b1 b2 8 24 24 R L G w' → (∀ k, On b k ∨ On b1 k ∨ On b2 k → w.heap.size ≤ k) → Below w.heap.size w w' → Q (.returned (.agg #[.slice b 8 d, .int .i64 x.n, .bool x.i, .int .i64 x.b, .int .i64 x.t, .int .i64 x.p, .int .i64 x.s, .slice b1 24 d1, .slice b2 24 d2, .int .i64 t])) w') ∧ (∀ e w', Q e w' → ∃ b d b1 d1 b2 d2, e = .returned (.agg #[.slice b 8 d, .int .i64 x.n, .bool x.i, .int .i64 x.b, .int .i64 x.t, .int .i64 x.p, .int .i64 x.s, .slice b1 24 d1, .slice b2 24 d2, .int .i64 t]) ∧ 24 ≤ d1 ∧ AnsS b b1 b2 8 24 24 R L G w' ∧ (∀ k, On b k ∨ On b1 k ∨ On b2 k → w.heap.size ≤ k) ∧ Below w.heap.size w w') :=
    ⟨fun e w' => ∃ b d b1 d1 b2 d2, e = .returned (.agg #[.slice b 8 d, .int .i64 x.n, .bool x.i, .int .i64 x.b, .int .i64 x.t, .int .i64 x.p, .int .i64 x.s, .slice b1 24 d1, .slice b2 24 d2, .int .i64 t]) ∧ 24 ≤ d1 ∧ AnsS b b1 b2 8 24 24 R L G w' ∧ (∀ k, On b k ∨ On b1 k ∨ On b2 k → w.heap.size ≤ k) ∧ Below w.heap.size w w', fun b d b1 d1 b2 d2 w' h1 h2 h3 h4 => ⟨b, d, b1, d1, b2, d2, rfl, h1, h2, h3, h4⟩, fun _ _ h => h⟩
  refine Calls.mono (R := Q) ?_ HQ2
  clear HQ2
  generalize hw1 : (w.alloc (.cells (stl (some ⟨kb, o, none⟩) 8 c x a1 24 c1 a2 24 c2 t).toArray 33)).alloc (.cells ([.slice none 0 0, .int .i64 0, .bool false, .int .i64 0, .int .i64 0, .int .i64 0, .int .i64 0, .slice none 0 0, .slice none 0 0, .int .i64 0] : List Value).toArray 33) = w1 at H
  have hz1 : w.heap.size + 1 < w1.heap.size := by rw [← hw1]; simp
  go_enter Tryz.func39, Tryz.ntmps39
  go_upto_region 1 with fail
  clear hw1
  have D0 := hid_mk H.out.drew
  refine wp_region_held_drew (S := fun w' => Hold w w' [lenF (w.heap.size + 1) 10, celF w.heap.size (stl (some ⟨kb, o, none⟩) 8 c x a1 24 c1 a2 24 c2 t), argSF w.heap.size (some ⟨kb, o, none⟩) 8 a1 24 a2 24 R L G]) (by kernel_rfl) D0.out (fun hHeld => ?_)
  have hzd : w1.drew.heap.size = w1.heap.size := by simp
  generalize w1.drew = wd at D0 hHeld hzd ⊢
  have hzw : w.heap.size + 1 < wd.heap.size := by omega
  clear hzd H
  refine take_on (i := 0) (d := 3) (v := .pointer (some ⟨w.heap.size, 0, none⟩)) rfl rfl (by kernel_rfl) (by kernel_rfl) (by kernel_rfl) (fun _ _ _ h => h) (by rfl) ?_ hHeld ?_
  · (intro w' hSw; go_simp)
  simp only [Act.put, List.setIfInBounds_toArray, List.set_cons_zero, List.set_cons_succ]
  refine take_on (i := 1) (d := 4) (v := .slice (some ⟨kb, o, none⟩) 8 c) rfl rfl (by kernel_rfl) (by kernel_rfl) (by kernel_rfl) (fun _ _ _ h => h) (by rfl) ?_ hHeld ?_
  · (intro w' hSw; have hSx : Hold w w' [lenF (w.heap.size + 1) 10, celF w.heap.size (stl (some ⟨kb, o, none⟩) 8 c x a1 24 c1 a2 24 c2 t), argSF w.heap.size (some ⟨kb, o, none⟩) 8 a1 24 a2 24 R L G] := hSw; have c0 := (hSx.cel (.tail _ (.head _))).c 0 _ rfl; go_simp)
  simp only [Act.put, List.setIfInBounds_toArray, List.set_cons_zero, List.set_cons_succ]
  refine take_on (i := 3) (d := 6) (v := .pointer (some ⟨w.heap.size, 1, none⟩)) rfl rfl (by kernel_rfl) (by kernel_rfl) (by kernel_rfl) (fun _ _ _ h => h) (by rfl) ?_ hHeld ?_
  · (intro w' hSw; go_simp)
  simp only [Act.put, List.setIfInBounds_toArray, List.set_cons_zero, List.set_cons_succ]
  refine take_on (i := 4) (d := 7) (v := .agg #[.int .i64 x.n, .bool x.i, .int .i64 x.b, .int .i64 x.t, .int .i64 x.p, .int .i64 x.s]) rfl rfl (by kernel_rfl) (by kernel_rfl) (by kernel_rfl) (fun _ _ _ h => h) (by rfl) ?_ hHeld ?_
  · (intro w' hSw; have hSx : Hold w w' [lenF (w.heap.size + 1) 10, celF w.heap.size (stl (some ⟨kb, o, none⟩) 8 c x a1 24 c1 a2 24 c2 t), argSF w.heap.size (some ⟨kb, o, none⟩) 8 a1 24 a2 24 R L G] := hSw; have c0 := (hSx.cel (.tail _ (.head _))).c 1 _ rfl; have c1 := (hSx.cel (.tail _ (.head _))).c 2 _ rfl; have c2 := (hSx.cel (.tail _ (.head _))).c 3 _ rfl; have c3 := (hSx.cel (.tail _ (.head _))).c 4 _ rfl; have c4 := (hSx.cel (.tail _ (.head _))).c 5 _ rfl; have c5 := (hSx.cel (.tail _ (.head _))).c 6 _ rfl; go_simp)
  simp only [Act.put, List.setIfInBounds_toArray, List.set_cons_zero, List.set_cons_succ]
  refine take_on (i := 5) (d := 8) (v := .pointer (some ⟨w.heap.size, 7, none⟩)) rfl rfl (by kernel_rfl) (by kernel_rfl) (by kernel_rfl) (fun _ _ _ h => h) (by rfl) ?_ hHeld ?_
  · (intro w' hSw; go_simp)
  simp only [Act.put, List.setIfInBounds_toArray, List.set_cons_zero, List.set_cons_succ]
  refine take_on (i := 6) (d := 9) (v := .agg #[.slice a1 24 c1, .slice a2 24 c2]) rfl rfl (by kernel_rfl) (by kernel_rfl) (by kernel_rfl) (fun _ _ _ h => h) (by rfl) ?_ hHeld ?_
  · (intro w' hSw; have hSx : Hold w w' [lenF (w.heap.size + 1) 10, celF w.heap.size (stl (some ⟨kb, o, none⟩) 8 c x a1 24 c1 a2 24 c2 t), argSF w.heap.size (some ⟨kb, o, none⟩) 8 a1 24 a2 24 R L G] := hSw; have c0 := (hSx.cel (.tail _ (.head _))).c 7 _ rfl; have c1 := (hSx.cel (.tail _ (.head _))).c 8 _ rfl; go_simp)
  simp only [Act.put, List.setIfInBounds_toArray, List.set_cons_zero, List.set_cons_succ]
  refine take_on (i := 8) (d := 11) (v := .pointer (some ⟨w.heap.size, 9, none⟩)) rfl rfl (by kernel_rfl) (by kernel_rfl) (by kernel_rfl) (fun _ _ _ h => h) (by rfl) ?_ hHeld ?_
  · (intro w' hSw; go_simp)
  simp only [Act.put, List.setIfInBounds_toArray, List.set_cons_zero, List.set_cons_succ]
  refine take_on (i := 9) (d := 12) (v := .int .i64 t) rfl rfl (by kernel_rfl) (by kernel_rfl) (by kernel_rfl) (fun _ _ _ h => h) (by rfl) ?_ hHeld ?_
  · (intro w' hSw; have hSx : Hold w w' [lenF (w.heap.size + 1) 10, celF w.heap.size (stl (some ⟨kb, o, none⟩) 8 c x a1 24 c1 a2 24 c2 t), argSF w.heap.size (some ⟨kb, o, none⟩) 8 a1 24 a2 24 R L G] := hSw; have c0 := (hSx.cel (.tail _ (.head _))).c 9 _ rfl; go_simp)
  simp only [Act.put, List.setIfInBounds_toArray, List.set_cons_zero, List.set_cons_succ]
  refine wpAnyH_ready (rs := [2]) (by kernel_rfl) (by simp) ?_
  refine AllReadyH.cons rfl (fun K hK => ?_) AllReadyH.nil
  go_simp
  refine (clone_any kb o 8 c R (by omega) (by omega) _ (D0.out.argS (.tail _ (.tail _ (.head _)))).rs).mono ?_
  rintro e wA ⟨g, cp, rfl, hOA, lA, hbA⟩
  have uA := hOA.lt ((on_some g g).2 rfl)
  have zA := hbA.size
  have H2 := hid_mk ((D0.out.next hbA).push (rowWF (some ⟨g, 0, none⟩) 8 R) hOA)
  clear hbA hOA
  refine hK.out _ _ H2.out.tail (fun hHeld => ?_)
  clear hK K
  (try simp only [Act.put]); (try simp only [List.setIfInBounds_toArray]); (try simp only [List.set_cons_succ]); (try simp only [List.set_cons_zero]); (try simp only [List.set_cons_succ]); (try simp only [List.set_cons_zero]); (try simp only [Nat.zero_add])
  refine wpAnyH_ready (rs := [7]) (by kernel_rfl) (by simp) ?_
  refine AllReadyH.cons rfl (fun K hK => ?_) AllReadyH.nil
  go_simp
  refine (asItWas_any a1 c1 a2 c2 L G _ (H2.out.argS (.tail _ (.tail _ (.tail _ (.head _))))).mem).mono ?_
  rintro e wC ⟨m1, e1, m2, rfl, he1, hM, hfC, hbC⟩
  have lC := hid_mk hfC
  have uC := hid_mk (fun k hk => hM.lt (k := k) hk)
  have zC := hbC.size
  have H3 := hid_mk ((H2.out.next hbC).push (ansF m1 m2 24 24 L G) hM)
  clear hbC hM hfC
  refine hK.out _ _ H3.out.tail.tail (fun hHeld => ?_)
  clear hK K
  (try simp only [Act.put]); (try simp only [List.setIfInBounds_toArray]); (try simp only [List.set_cons_succ]); (try simp only [List.set_cons_zero]); (try simp only [List.set_cons_succ]); (try simp only [List.set_cons_zero]); (try simp only [Nat.zero_add])
  refine take_on (i := 10) (d := 13) (v := .agg #[.slice (some ⟨g, 0, none⟩) 8 cp, .int .i64 x.n, .bool x.i, .int .i64 x.b, .int .i64 x.t, .int .i64 x.p, .int .i64 x.s, .slice m1 24 e1, .slice m2 24 24, .int .i64 t]) rfl rfl (by kernel_rfl) (by kernel_rfl) (by kernel_rfl) (fun _ _ _ h => h) (by rfl) ?_ hHeld ?_
  · (intro w' hSw; go_simp)
  (try simp only [Act.put]); (try simp only [List.setIfInBounds_toArray]); (try simp only [List.set_cons_succ]); (try simp only [List.set_cons_zero]); (try simp only [List.set_cons_succ]); (try simp only [List.set_cons_zero]); (try simp only [Nat.zero_add])
  obtain ⟨vs, hvl, CZ⟩ := H3.out.len (.tail _ (.tail _ (.head _)))
  have TH := hid_mk (by have h := CZ.there; rw [hvl] at h; exact h)
  have CE := hid_mk (CZ.sets (us := stl (some ⟨g, 0, none⟩) 8 cp x m1 24 e1 m2 24 24 t) (by rw [hvl]; rfl))
  have HR : Hid (RowWA wC (some ⟨g, 0, none⟩) 8 R) := H3.out.at (f := rowWF (some ⟨g, 0, none⟩) 8 R) (.tail _ (.head _))
  have HA := hid_mk (H3.out.ans (a := m1) (a' := m2) (.head _))
  have HB := hid_mk H3.out.bel
  clear CZ
  refine wpAnyH_ready (rs := [11]) (by kernel_rfl) (by simp) ?_
  refine AllReadyH.cons rfl (fun K hK => ?_) AllReadyH.nil
  refine step_stm (by rfl) 33 _ _ (by rfl) (w.heap.size + 1) 0 (stl (some ⟨g, 0, none⟩) 8 cp x m1 24 e1 m2 24 24 t).toArray (by rfl) (by rfl) TH.out sizeSt (stl_one _ _ _ _ _ _ _ _ _ _ _) ?_
  refine hK.out _ _ (RZ.out (stl (some ⟨g, 0, none⟩) 8 cp x m1 24 e1 m2 24 24 t) _ rfl H3.out.tail.tail) (fun hHeld => ?_)
  clear hK K
  refine wpAnyH_done (by kernel_rfl) ?_ _
  have K9 := hid_mk (KeepBut.setCells (b := w.heap.size + 1) (stl (some ⟨g, 0, none⟩) 8 cp x m1 24 e1 m2 24 24 t) 0 wC)
  have hlv := hid_mk (lv_st CE.out rfl)
  have q1 : Hid (∀ k, On m1 k ∨ On m2 k → w.heap.size + 1 < k) := fun k hk => by have := lC.out k hk; omega
  have q2 : w.heap.size + 1 < g := by omega
  clear H3 hHeld RZ TH CE
  have HE1 := hid_mk he1
  clear he1
  generalize wC.setCells (w.heap.size + 1) 0 (stl (some ⟨g, 0, none⟩) 8 cp x m1 24 e1 m2 24 24 t) = w9 at K9 hlv ⊢
  go_wp2
  refine bodyPost_ret (v := .agg (stl (some ⟨g, 0, none⟩) 8 cp x m1 24 e1 m2 24 24 t).toArray) (results_cell1 Tryz.results39 (by first | rfl | (simp; done)) hlv.out) rfl (HQ.out _ _ _ _ _ _ _ HE1.out ⟨?_, ?_, ?_, ?_, ?_, ?_⟩ ?_ (HB.out.trans (K9.out.below (B := w.heap.size) (by omega) HB.out.size)))
  · exact HR.out.ofBlock K9.out.size fun k hk ho => K9.out.block k hk (by have := (on_some g k).1 ho; omega)
  · exact HA.out.ws.ofBlock K9.out.size fun k hk ho => K9.out.block k hk (by have := q1.out k (.inl ho); omega)
  · exact HA.out.gs.ofBlock K9.out.size fun k hk ho => K9.out.block k hk (by have := q1.out k (.inr ho); omega)
  · exact fun k h1 h2 => by have := (on_some g k).1 h1; have := lC.out k (.inl h2); omega
  · exact fun k h1 h2 => by have := (on_some g k).1 h1; have := lC.out k (.inr h2); omega
  · exact HA.out.ne
  · rintro k (hk | hk | hk)
    · have := (on_some g k).1 hk; omega
    · have := q1.out k (.inl hk); omega
    · have := q1.out k (.inr hk); omega
end Go.Proofs.YtneohabkoighcaaGreat
