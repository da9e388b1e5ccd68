/- What is gone copied as an array, and handed out as a slice: goneIn and list of the program. No condition but that 24 are there. · The program's asItWas: a memory of its own, like the one that it was given. No condition but that 24 of both are there. · Read of the program at all memories: what it answers, in a world that holds its four errors. · The specification's l8Copy: a memory of its own, like the one that it was given. No condition but that 24 of both are there. · Drop of the specification and of the program at all memories: what they answer. No condition. · The program's withWord: a memory of its own, with a word anew. No condition but that 24 of both are there, and the word's number. · Sweep of the specification and of the program at all memories: what they answer. No condition. · Sweep of the program at all memories: what it answers. The words' room is no less than their number. · Write of the specification and of the program at all memories: what they answer; the program's in a world that holds its four errors, the words' room no less than their number. -/
import Derived.Test.YtpkhnajhamnggaaGreatDoorMemA
import Derived.Test.YtpkhnajhamnggaaGreatDoorEffL
import Derived.Deep.RegionHeld3
import Derived.Laws.CopyOwn
import Derived.Deep.MidRow
import Derived.Deep.RegionLawGrows
import Derived.Test.YtpkhnajhamnggaaGreatDoorZE
import Derived.Test.YtpkhnajhamnggaaGreatDoorZF
import Derived.Deep.AppendLies
import Derived.ChangeKeysEq
namespace Go.Proofs.YtpkhnajhamnggaaGreatDoor
open Go.ChangeShapes Go.WideShapes Go.ChangeAt Go.RowKit
set_option maxRecDepth 100000

/-- copy into cells that may be written, as one step of a region that draws. -/
theorem step_copy_cells {P : Program} {ops : Array Oper} {o : Oper} {a : Act} {w : World} {K : Act → World → Prop} {Q : Exit → Act → World → Prop} {E : Prop} (hgd : o.guard = none) (d s : Operand) (dT sT : TypeId)
    (ho : o.op = .call { callee := .builtin .copy, args := #[d, s], argTypes := #[dT, sT] }) (elem : TypeId) (hu : P.underlying dT = some (.slice elem)) (hsz : (P.info? elem).map (·.size) = some 1)
    (b off dLen dCap : Nat) (ad : Addr) (sLen sCap : Nat) (hd : a.eval d = .slice (some ⟨b, off, none⟩) dLen dCap) (hs : a.eval s = .slice (some ad) sLen sCap) (cs : List Value) (hn : cs.length = Nat.min sLen dLen)
    (hsrc : ∀ j v, cs[j]? = some v → w.cell? (ad.add j) = some v) (hc : ∀ j, j < cs.length → (w.cell? ⟨b, off + j, none⟩).isSome = true) (hf : ∀ j, j < cs.length → w.frozen? ⟨b, off + j, none⟩ = false) (h1 : ∀ v ∈ cs, v.oneCell' = true)
    (h : K (a.put o.dst (goInt cs.length)) (w.setCells b off cs)) :
    if Region.wanted o (yielded ops a.tmps) = true then Oper.wp P o a w K Q else E := by
  have hw : Region.wanted o (yielded ops a.tmps) = true := by simp [Region.wanted, hgd]
  rw [if_pos hw]
  have hrun := run_copy_cells (P := P) w dT sT o.type elem b off dLen dCap ad sLen sCap cs hu hsz hn hsrc hc hf h1
  unfold Oper.wp
  simp [execOp, ho, resolve, invoke, builtin, hd, hs, hrun, Result.andThen]
  exact h

theorem bls_len (G : List Bool) : (bls G).length = G.length := by simp [bls]
theorem sizeBool : (Tryz.prog.info? 4).map (·.size) = some 1 := by kernel_rfl
theorem sizeGone : (Tryz.prog.info? 152).map (·.size) = some 24 := by kernel_rfl
/-- Twenty-four cells that may be written. -/
def zs24 : Array Value := #[.bool false, .bool false, .bool false, .bool false, .bool false, .bool false, .bool false, .bool false, .bool false, .bool false, .bool false, .bool false, .bool false, .bool false, .bool false, .bool false, .bool false, .bool false, .bool false, .bool false, .bool false, .bool false, .bool false, .bool false]
theorem there_new (w : World) (T : TypeId) : (w.alloc (.cells zs24 T)).there w.heap.size 0 24 := fun j hj => by
  refine ⟨?_, by simp⟩
  rw [Nat.zero_add, World.cell?_alloc_new]
  have : j < zs24.size := hj
  simp [this]
theorem there_below {w w' : World} {b o n : Nat} (h : w.there b o n) (hb : b < w.heap.size) (k : Below w.heap.size w w') : w'.there b o n := fun j hj =>
  ⟨by rw [k.cell (p := ⟨b, o + j, none⟩) hb]; exact (h j hj).1, by rw [k.frozen (p := ⟨b, o + j, none⟩) hb]; exact (h j hj).2⟩

set_option maxHeartbeats 4000000 in
theorem goneIn_any (v0 : Value) (a' : Option Addr) (c' : Nat) (G : List Bool) (w : World) (hG : SliceB w.heap.size w a' 24 G) :
    Calls Tryz.prog 128 #[.agg #[v0, .slice a' 24 c']] w fun e w' => e = .returned (.agg (bls G).toArray) ∧ Below w.heap.size w w' := by
  have hlg := hG.2.1
  obtain ⟨kb, o, g, rfl, hkb, _, _⟩ := hG.at (j := 0) (by omega)
  have hbl : (bls G).length = 24 := by rw [bls_len]; exact hlg
  have M := hid_mk (((Duo.new w v0 (.slice (some ⟨kb, o, none⟩) 24 c') 40).alloc (.cells zs24 152)).alloc (.cells zs24 152))
  have B := hid_mk ((((Below.refl _ w).alloc (Nat.le_refl _) (.cells #[v0, .slice (some ⟨kb, o, none⟩) 24 c'] 40)).alloc (by simp) (.cells zs24 152)).alloc (by simp; omega) (.cells zs24 152))
  have T0 : Hid (((((w.alloc (.cells #[v0, .slice (some ⟨kb, o, none⟩) 24 c'] 40)).alloc (.cells zs24 152)).alloc (.cells zs24 152))).there (w.heap.size + 1) 0 24) := by
    have h := there_new (w.alloc (.cells #[v0, .slice (some ⟨kb, o, none⟩) 24 c'] 40)) 152
    rw [World.size_alloc] at h
    exact there_below h (by simp) ((Below.refl _ _).alloc (Nat.le_refl _) _)
  have T1 : Hid (((((w.alloc (.cells #[v0, .slice (some ⟨kb, o, none⟩) 24 c'] 40)).alloc (.cells zs24 152)).alloc (.cells zs24 152))).there (w.heap.size + 1 + 1) 0 24) := by
    have h := there_new ((w.alloc (.cells #[v0, .slice (some ⟨kb, o, none⟩) 24 c'] 40)).alloc (.cells zs24 152)) 152
    rw [World.size_alloc, World.size_alloc] at h
    exact h
  have hsz : w.heap.size + 1 + 1 < ((((w.alloc (.cells #[v0, .slice (some ⟨kb, o, none⟩) 24 c'] 40)).alloc (.cells zs24 152)).alloc (.cells zs24 152))).heap.size := by simp
  have HSZ := hid_mk hsz
  clear hsz
  go_enter Tryz.func128, Tryz.ntmps128
  go_upto_region 2 with fail
  rw [show (#[.bool false, .bool false, .bool false, .bool false, .bool false, .bool false, .bool false, .bool false, .bool false, .bool false, .bool false, .bool false, .bool false, .bool false, .bool false, .bool false, .bool false, .bool false, .bool false, .bool false, .bool false, .bool false, .bool false, .bool false] : Array Value) = zs24 from rfl]
  generalize ((w.alloc (.cells #[v0, .slice (some ⟨kb, o, none⟩) 24 c'] 40)).alloc (.cells zs24 152)).alloc (.cells zs24 152) = W at M B T0 T1 HSZ ⊢
  obtain ⟨_, m0, m1, _, _⟩ := M.out
  have FL := hid_mk ((hG.keep B.out).keep ((Below.refl w.heap.size W).drew)).flat
  have TD := hid_mk (fun j (hj : j < (bls G).length) => (World.there_drew W (w.heap.size + 1 + 1) 0 24).2 T1.out j (by rw [hbl] at hj; exact hj))
  go_region_law ((refine step_copy_cells (by rfl) _ _ _ _ (by rfl) 4 Tryz.underlying28 sizeBool (w.heap.size + 1 + 1) 0 24 24 ⟨kb, o, none⟩ 24 c' (by rfl) (by rfl) (bls G) (by rw [hbl]; rfl) FL.out (fun j hj => (TD.out j hj).1) (fun j hj => (TD.out j hj).2) (bls_one G) ?_))
  have K := hid_mk (KeepBut.setCells (b := w.heap.size + 1 + 1) (bls G) 0 W.drew)
  have B2 : Hid (Below w.heap.size w (W.drew.setCells (w.heap.size + 1 + 1) 0 (bls G))) := B.out.drew.trans (K.out.below (by omega) (by have := HSZ.out; show _ ≤ W.heap.size; omega))
  have R2 := hid_mk (World.rangeAt_setCells_same W.drew (w.heap.size + 1 + 1) 0 (bls G) (by rw [hbl]; exact (World.there_drew W (w.heap.size + 1 + 1) 0 24).2 T1.out))
  have T2 := hid_mk (World.there_setCells ((World.there_drew W (w.heap.size + 1) 0 24).2 T0.out) (w.heap.size + 1 + 1) 0 (bls G))
  generalize W.drew.setCells (w.heap.size + 1 + 1) 0 (bls G) = W2 at B2 R2 T2 ⊢
  clear K TD FL m0 m1 M B T0 T1 hG
  have hbs : (bls G).toArray.size = 24 := by simp [hbl]
  go_upto_region 3 with fail
  refine wp_region_list ?_
  refine wpList_load_mid (by rfl) 152 _ (by rfl) (w.heap.size + 1 + 1) 0 (by rfl) (bls G) _ R2.out Tryz.underlying152 rfl (by rw [hbl]; exact sizeGone) ?_
  refine wpList_store_mid (by rfl) 152 _ _ (by rfl) (w.heap.size + 1) 0 (bls G).toArray (by rfl) (by rfl) (by rw [hbs]; exact T2.out) (by rw [hbs]; exact sizeGone) (all_oneCell_toArray (bls_one G)) ?_
  refine wpList_nil ?_
  have R3 := hid_mk (World.rangeAt_setCells_same W2 (w.heap.size + 1) 0 (bls G) (by rw [hbl]; exact T2.out))
  have B3 : Hid (Below w.heap.size w (W2.setCells (w.heap.size + 1) 0 (bls G))) := B2.out.trans ((KeepBut.setCells (b := w.heap.size + 1) (bls G) 0 W2).below (by omega) (B2.out.size))
  have hlv := run_loadVar_mid (P := Tryz.prog) (W2.setCells (w.heap.size + 1) 0 (bls G)) (w.heap.size + 1) 0 152 (bls G) _ R3.out Tryz.underlying152 rfl (by rw [hbl]; exact sizeGone)
  go_wp2
  refine bodyPost_ret (v := .agg (bls G).toArray) (results_cell1 Tryz.results128 (by rfl) hlv) rfl ⟨rfl, B3.out⟩
end Go.Proofs.YtpkhnajhamnggaaGreatDoor

namespace Go.Proofs.YtpkhnajhamnggaaGreatDoor
open Go.ChangeShapes Go.WideShapes Go.ChangeAt Go.RowKit
set_option maxRecDepth 100000

/-- Two cells that may be written, whatever they hold. -/
def spotF (r : Nat) : Fct where
  S := fun k => k = r
  p := fun w => ∃ v0 v1, Duo w r v0 v1
  keep := fun w w' ⟨v0, v1, h⟩ hs hb => ⟨v0, v1, (duoF r v0 v1).keep w w' h hs hb⟩
theorem Hold.spot {w0 w : World} {fs : List Fct} {r : Nat} (h : Hold w0 w fs) (hm : spotF r ∈ fs) : ∃ v0 v1, Duo w r v0 v1 := h.at hm
theorem Hold.store2 {w0 w : World} {fs : List Fct} {r : Nat} (h : Hold w0 w (spotF r :: fs)) (h0 : w0.heap.size ≤ r) (hd : ∀ f ∈ fs, ∀ k, f.S k → k ≠ r) (u0 u1 : Value) : Hold w0 ((w.setCell ⟨r, 0, none⟩ u0).setCell ⟨r, 1, none⟩ u1) (spotF r :: fs) := by
  obtain ⟨v0, v1, D⟩ := h.spot (.head _)
  exact (h.tail.wrote (T := fun k => k = r) (KeptS.ofBut (((KeepBut.refl r w).setCell 0 u0).setCell 1 u1) rfl) (fun k e => by omega) hd).push (spotF r) ⟨_, _, (D.set0 u0).set1 u1⟩

set_option maxHeartbeats 1000000 in
theorem list_any (G : List Bool) (hG : G.length = 24) (w : World) :
    Calls Tryz.prog 129 #[.agg (bls G).toArray] w fun e w' => ∃ q, e = .returned (.slice (some ⟨q, 0, none⟩) 24 24) ∧ w.heap.size ≤ q ∧ OutB w' q 24 24 G ∧ Below w.heap.size w w' := by
  have B := hid_mk ((Below.refl _ w).alloc (Nat.le_refl _) (.cells (bls G).toArray 152))
  have O : Hid (OutB (w.alloc (.cells (bls G).toArray 152)) w.heap.size 24 24 G) := by
    refine ⟨by simp, fun i hi => ?_, fun i _ => by simp, fun j x _ hx => ?_⟩
    · rw [World.cell?_alloc_new]
      have : i < (bls G).length := by rw [bls_len, hG]; exact hi
      simp [this]
    · rw [World.cell?_alloc_new]
      simp [bls, hx]
  go_enter Tryz.func129, Tryz.ntmps129
  go_wp2
  go_ret
  exact ⟨_, rfl, Nat.le_refl _, O.out, B.out⟩

/-- append of words onto a slice that is full, as one step of a region that draws: a row of its own. -/
theorem step_appW {ops : Array Oper} {o : Oper} {a : Act} {w : World} {K : Act → World → Prop} {Q : Exit → Act → World → Prop} {E : Prop} (hgd : o.guard = none) (s x : Operand)
    (ho : o.op = .call { callee := .builtin .append, args := #[s, x], argTypes := #[35, 35] })
    (b : Addr) (n cap : Nat) (X : List Wd) (hs : a.eval s = .slice (some b) n cap) (hX : X.length = n) (holds : ∀ j u, (X.flatMap Wd.vs)[j]? = some u → w.cell? (b.add j) = some u)
    (ad : Addr) (m c : Nat) (Y : List Wd) (hx : a.eval x = .slice (some ad) m c) (hY : Y.length = m) (hc : ∀ j u, (Y.flatMap Wd.vs)[j]? = some u → w.cell? (ad.add j) = some u) (hfull : cap < n + m) (hb : n + m ≤ 1048576)
    (h : ∀ g cp w', w'.ownsRow w.heap.size 38 6 (.slice (some ⟨g, 0, none⟩) (n + m) cp) (n + m) ((X ++ Y).flatMap Wd.vs) → OutW w' g (n + m) (n + m) (X ++ Y) → w.heap.size ≤ g → n + m ≤ cp → Below w.heap.size w w' → K (a.put o.dst (.slice (some ⟨g, 0, none⟩) (n + m) cp)) w') :
    if Region.wanted o (yielded ops a.tmps) = true then Oper.wp Tryz.prog o a w K Q else E := by
  obtain ⟨i, hi, hz0, hz1, hz2⟩ := info_parts infoW
  refine step_append_grows hgd s x _ ho 38 i _ 6 48 Tryz.underlying35 hi hz0 hz1 hz2 rfl (by decide) (some b) n cap (X.flatMap Wd.vs) hs (fun e => by cases e) (by rw [flatW_len, hX]) (fun b' e => by cases e; exact holds) ad m c (Y.flatMap Wd.vs) hx (by rw [flatW_len, hY]) hc (flatW_one Y) hfull (by unfold maxLen; omega) (by omega) ?_
  intro v' w' hown hgrow
  have hl : (X ++ Y).length = n + m := by rw [List.length_append, hX, hY]
  rw [← List.flatMap_append, ← hl] at hown
  obtain ⟨g, cp, rfl, hg, hcp, hO⟩ := own_outW hown (by omega)
  rw [hl] at hO hcp hown ⊢
  exact h g cp w' hown hO hg hcp ((Below.refl _ _).grown hgrow (Nat.le_refl _) fun k hk => by cases hk)
theorem step_appB {ops : Array Oper} {o : Oper} {a : Act} {w : World} {K : Act → World → Prop} {Q : Exit → Act → World → Prop} {E : Prop} (hgd : o.guard = none) (s x : Operand)
    (ho : o.op = .call { callee := .builtin .append, args := #[s, x], argTypes := #[28, 28] })
    (b : Addr) (cap : Nat) (hs : a.eval s = .slice (some b) 0 cap)
    (ad : Addr) (m c : Nat) (Y : List Bool) (hx : a.eval x = .slice (some ad) m c) (hY : Y.length = m) (hc : ∀ j u, (bls Y)[j]? = some u → w.cell? (ad.add j) = some u) (hfull : cap < m) (hb : m ≤ 1048576)
    (h : ∀ g cp w', OutB w' g m m Y → w.heap.size ≤ g → m ≤ cp → Below w.heap.size w w' → K (a.put o.dst (.slice (some ⟨g, 0, none⟩) m cp)) w') :
    if Region.wanted o (yielded ops a.tmps) = true then Oper.wp Tryz.prog o a w K Q else E := by
  obtain ⟨i, hi, hz0, hz1, hz2⟩ := info_parts infoB
  refine step_append_grows hgd s x _ ho 4 i _ 1 1 Tryz.underlying28 hi hz0 hz1 hz2 rfl (by decide) (some b) 0 cap [] hs (fun e => by cases e) rfl (fun b' _ j u e => by cases e) ad m c (bls Y) hx (by rw [bls_len, hY, Nat.mul_one]) hc (bls_one Y) (by omega) (by unfold maxLen; omega) (by omega) ?_
  intro v' w' hown hgrow
  rw [List.nil_append, Nat.zero_add, ← hY] at hown
  obtain ⟨g, cp, rfl, hg, hcp, hO⟩ := own_outB hown (by omega)
  rw [hY] at hcp ⊢
  exact h g cp w' (hY ▸ hO) hg hcp ((Below.refl _ _).grown hgrow (Nat.le_refl _) fun k hk => by cases hk)

theorem OutW.app_nil {w : World} {q n : Nat} {L : List Wd} (h : OutW w q (0 + n) (0 + n) ([] ++ L)) : OutW w q n n L := by
  rw [Nat.zero_add, List.nil_append] at h
  exact h
theorem OutB.to {w w' : World} {q n : Nat} {G : List Bool} (h : OutB w q n n G) (hb : Below w.heap.size w w') : OutB w' q n n G := h.below hb

set_option maxHeartbeats 8000000 in
theorem asItWas_any (a : Option Addr) (c : Nat) (a' : Option Addr) (c' : Nat) (L : List Wd) (G : List Bool) (w : World) (hM : MemS w a 24 a' 24 L G) :
    Calls Tryz.prog 102 #[.agg #[.slice a 24 c, .slice a' 24 c']] w fun e w' => ∃ b d b', e = .returned (.agg #[.slice b 24 d, .slice b' 24 24]) ∧ 24 ≤ d ∧ AnsM b b' 24 24 L G w' ∧ (∀ k, On b k ∨ On b' k → w.heap.size ≤ k) ∧ Below w.heap.size w w' := by
  have hlw := hM.ws.2.1
  have hlg := hM.gs.2.1
  obtain ⟨kb, o, _, rfl, _, _, _⟩ := hM.ws.at (j := 0) (by omega)
  have H := hid_mk (((((Hold.new w).push (argF w.heap.size (some ⟨kb, o, none⟩) 24 a' 24 L G) hM.arg).alloc (.cells #[.slice (some ⟨kb, o, none⟩) 24 c, .slice a' 24 c'] 40)).push (duoF w.heap.size (.slice (some ⟨kb, o, none⟩) 24 c) (.slice a' 24 c')) (Duo.new w _ _ _)).alloc (.cells #[.slice none 0 0, .slice none 0 0] 40))
  have S0 : Hid (Duo ((w.alloc (.cells #[.slice (some ⟨kb, o, none⟩) 24 c, .slice a' 24 c'] 40)).alloc (.cells #[.slice none 0 0, .slice none 0 0] 40)) (w.heap.size + 1) (.slice none 0 0) (.slice none 0 0)) := by
    have h := Duo.new (w.alloc (.cells #[.slice (some ⟨kb, o, none⟩) 24 c, .slice a' 24 c'] 40)) (.slice none 0 0) (.slice none 0 0) 40
    rw [World.size_alloc] at h
    exact h
  clear hM
  go_enter Tryz.func102, Tryz.ntmps102
  go_upto_region 1 with fail
  generalize (w.alloc (.cells #[.slice (some ⟨kb, o, none⟩) 24 c, .slice a' 24 c'] 40)).alloc (.cells #[.slice none 0 0, .slice none 0 0] 40) = W at H S0 ⊢
  replace H := hid_mk (H.out.push (spotF (w.heap.size + 1)) ⟨_, _, S0.out⟩)
  clear S0
  have ALL : Hid (∀ w', Hold w w' [spotF (w.heap.size + 1), duoF w.heap.size (.slice (some ⟨kb, o, none⟩) 24 c) (.slice a' 24 c'), argF w.heap.size (some ⟨kb, o, none⟩) 24 a' 24 L G] → (w'.cell? ⟨w.heap.size, 0, none⟩ = some (.slice (some ⟨kb, o, none⟩) 24 c) ∧ w'.cell? ⟨w.heap.size, 1, none⟩ = some (.slice a' 24 c') ∧ Hid (Hold w w' [spotF (w.heap.size + 1), duoF w.heap.size (.slice (some ⟨kb, o, none⟩) 24 c) (.slice a' 24 c'), argF w.heap.size (some ⟨kb, o, none⟩) 24 a' 24 L G]))) := fun w' h => by
    have h1 := h.duo (.tail _ (.head _))
    exact ⟨h1.c0, h1.c1, h⟩
  have GET : Hid (∀ w', (w'.cell? ⟨w.heap.size, 0, none⟩ = some (.slice (some ⟨kb, o, none⟩) 24 c) ∧ w'.cell? ⟨w.heap.size, 1, none⟩ = some (.slice a' 24 c') ∧ Hid (Hold w w' [spotF (w.heap.size + 1), duoF w.heap.size (.slice (some ⟨kb, o, none⟩) 24 c) (.slice a' 24 c'), argF w.heap.size (some ⟨kb, o, none⟩) 24 a' 24 L G])) → Hold w w' [spotF (w.heap.size + 1), duoF w.heap.size (.slice (some ⟨kb, o, none⟩) 24 c) (.slice a' 24 c'), argF w.heap.size (some ⟨kb, o, none⟩) 24 a' 24 L G]) := fun w' h => h.2.2
  have F0 := hid_mk H.out.drew
  clear H
  go_region_held3 (fun w' => w'.cell? ⟨w.heap.size, 0, none⟩ = some (.slice (some ⟨kb, o, none⟩) 24 c) ∧ w'.cell? ⟨w.heap.size, 1, none⟩ = some (.slice a' 24 c') ∧ Hid (Hold w w' [spotF (w.heap.size + 1), duoF w.heap.size (.slice (some ⟨kb, o, none⟩) 24 c) (.slice a' 24 c'), argF w.heap.size (some ⟨kb, o, none⟩) 24 a' 24 L G]))
    (first | (with_reducible assumption) | (((with_reducible refine ALL.out _ ?_); (first | (with_reducible exact F0.out) | ((with_reducible apply Hold.next ?_ KA.out); (with_reducible exact GET.out _ (by with_reducible assumption))) | ((with_reducible apply Hold.next ?_ KG.out); (with_reducible exact GET.out _ (by with_reducible assumption))) | ((with_reducible apply Hold.next ?_ KL.out); (with_reducible exact GET.out _ (by with_reducible assumption))) | ((with_reducible apply Hold.store2 (GET.out _ (by with_reducible assumption)) (by omega)); (intro f hf k hk; simp only [List.mem_cons, List.not_mem_nil, or_false] at hf; rcases hf with rfl | rfl; (simp only [duoF] at hk; omega); (simp only [argF] at hk; omega))) | fail))))
    (first
      | ((refine step_appW (by rfl) _ _ (by rfl) ⟨kb, o, none⟩ 0 0 [] (by rfl) rfl (fun j u hj => by cases hj) ⟨kb, o, none⟩ 24 c L (by rfl) hlw ((GET.out _ (by with_reducible assumption)).arg (.tail _ (.tail _ (.head _)))).ws.flat (by omega) (by omega) ?_); intro g cp wA _ hOA hgA hcA hbA; have KA := hid_mk hbA; have RA := hid_mk hOA.app_nil; have lA := hgA; have uA := RA.out.lt; have zA := hbA.size; (first | (have RB := hid_mk (RB.out.to hbA)) | skip); (obtain ⟨u0, u1, hsp, q0, q1, q2, q3⟩ := ((GET.out _ (by with_reducible assumption)).next hbA).spot (.head _)); clear hbA hOA hgA)
      | (go_at_call 128; refine (goneIn_any _ a' c' G _ ((GET.out _ (by with_reducible assumption)).arg (.tail _ (.tail _ (.head _)))).gs).mono ?_; rintro e wG ⟨rfl, hbG⟩; have KG := hid_mk hbG; have zG := hbG.size; (first | (have RA := hid_mk (RA.out.below hbG)) | skip); (obtain ⟨u0, u1, hsp, q0, q1, q2, q3⟩ := ((GET.out _ (by with_reducible assumption)).next hbG).spot (.head _)); clear hbG)
      | (go_at_call 129; refine (list_any G hlg _).mono ?_; rintro e wL ⟨gb, rfl, hgL, hOL, hbL⟩; have KL := hid_mk hbL; have RB := hid_mk hOL; have lB := hgL; have uB := hOL.lt; have zL := hbL.size; (first | (have RA := hid_mk (RA.out.below hbL)) | skip); (obtain ⟨u0, u1, hsp, q0, q1, q2, q3⟩ := ((GET.out _ (by with_reducible assumption)).next hbL).spot (.head _)); clear hbL hOL hgL))
  all_goals
    have HE := hid_mk (GET.out _ (by with_reducible assumption))
    obtain ⟨_, _, hs0, _, _, _, _⟩ := F0.out.spot (.head _)
    have hne : g ≠ gb := by omega
    have hg1 : w.heap.size + 1 < g := by omega
    have hg2 : w.heap.size + 1 < gb := by omega
    clear ALL GET F0
    go_wp2
    refine bodyPost_ret (v := .agg #[.slice (some ⟨g, 0, none⟩) 24 cp, .slice (some ⟨gb, 0, none⟩) 24 24]) (by simp [results, Tryz.results102, go_sem, q0, q1]) rfl ⟨_, _, _, rfl, by omega, ?_, ?_, HE.out.bel⟩
    · exact ⟨.inr ⟨g, rfl, hlw, RA.out.keepB (((KeepBut.refl (w.heap.size + 1) _).setCell 0 _).setCell 1 _) (by omega)⟩, .inr ⟨gb, rfl, hlg, RB.out.keepB (((KeepBut.refl (w.heap.size + 1) _).setCell 0 _).setCell 1 _) (by omega)⟩, fun k h1 h2 => hne (((on_some g k).1 h1).trans ((on_some gb k).1 h2).symm)⟩
    · rintro k (hk | hk)
      · have := (on_some g k).1 hk; omega
      · have := (on_some gb k).1 hk; omega
end Go.Proofs.YtpkhnajhamnggaaGreatDoor

namespace Go.Proofs.YtpkhnajhamnggaaGreatDoor
open Go.ChangeShapes Go.WideShapes Go.ChangeAt Go.RowKit
set_option maxRecDepth 100000

/-- The trap of an access. -/
def trpZ (n : Nat) (y : Wd) (m q : Int) : Int :=
  bif tryZ y.n y.i y.b y.t y.p y.s m q == 0 then (bif inB m n then 0 else 4) else tryZ y.n y.i y.b y.t y.p y.s m q
theorem trp_in {n : Nat} {y : Wd} {m q : Int} (h : trpZ n y m q = 0) : 0 ≤ m ∧ m ≤ (n : Int) - 1 := by
  unfold trpZ inB at h
  by_cases hi : 0 ≤ m ∧ m ≤ (n : Int) - 1
  · exact hi
  · rw [decide_eq_false hi] at h
    cases ht : (tryZ y.n y.i y.b y.t y.p y.s m q == 0) with
    | true => rw [ht] at h; simp at h
    | false =>
      rw [ht] at h
      have h2 : tryZ y.n y.i y.b y.t y.p y.s m q = 0 := h
      rw [h2] at ht
      simp at ht

set_option maxHeartbeats 4000000 in
theorem trapAt_any (a0 a1 a2 a3 : Addr) (a : Option Addr) (n c : Nat) (v1 : Value) (y : Wd) (m q : Int) (w : World) (hE : Errs a0 a1 a2 a3 w) :
    Calls Tryz.prog 149 #[.agg #[.slice a n c, v1], .agg #[.int .i64 y.n, .bool y.i, .int .i64 y.b, .int .i64 y.t, .int .i64 y.p, .int .i64 y.s], .int .i64 m, .int .i64 q] w fun e w' => e = .returned (.int .i64 (trpZ n y m q)) ∧ Below w.heap.size w w' := by
  have H := hid_mk ((((Hold.new w).alloc (.cells #[.slice a n c, v1] 40)).push (duoF w.heap.size (.slice a n c) v1) (Duo.new w _ _ _)).alloc (.cells #[.int .i64 y.n, .bool y.i, .int .i64 y.b, .int .i64 y.t, .int .i64 y.p, .int .i64 y.s] 38) |>.push (sixF (w.heap.size + 1) y) (Six.second w _ _ _ _ _ _ _ _))
  have E0 := hid_mk hE
  have s1 := implTry_any a0 a1 a2 a3 y.n y.i y.b y.t y.p y.s m q
  unfold trpZ
  generalize tryZ y.n y.i y.b y.t y.p y.s m q = t at s1 ⊢
  have S1 := hid_mk s1
  clear hE s1
  generalize hw1 : (w.alloc (.cells #[.slice a n c, v1] 40)).alloc (.cells #[.int .i64 y.n, .bool y.i, .int .i64 y.b, .int .i64 y.t, .int .i64 y.p, .int .i64 y.s] 38) = w1 at H
  by_cases ht : t = 0
  · subst ht
    have s2 := isNumber_any m (n : Int)
    unfold inB
    generalize decide (0 ≤ m ∧ m ≤ (n : Int) - 1) = z at s2 ⊢
    have S2 := hid_mk s2
    clear s2
    go_enter Tryz.func149, Tryz.ntmps149
    go_upto_region 1 with fail
    clear hw1
    obtain ⟨_, x0, x1, x2, x3, x4, x5, _, _, _, _, _, _⟩ := H.out.six (.head _)
    go_wp2_with fail
    refine (S1.out _ (E0.out.below H.out.bel)).mono ?_
    rintro e w2 ⟨rfl, hb2⟩
    replace H := hid_mk (H.out.next hb2)
    clear hb2 x0 x1 x2 x3 x4 x5
    obtain ⟨_, m0, m1, _, _⟩ := H.out.duo (.tail _ (.head _))
    go_wp2_with fail
    refine (S2.out _).mono ?_
    rintro e w' ⟨rfl, hw'⟩
    subst w'
    cases z
    · go_wp2
      go_ret
      exact ⟨rfl, H.out.bel⟩
    · go_wp2
      go_ret
      exact ⟨rfl, H.out.bel⟩
  · have htb : (t == 0) = false := by simpa using ht
    rw [htb]
    go_enter Tryz.func149, Tryz.ntmps149
    go_upto_region 1 with fail
    clear hw1
    obtain ⟨_, x0, x1, x2, x3, x4, x5, _, _, _, _, _, _⟩ := H.out.six (.head _)
    go_wp2_with fail
    refine (S1.out _ (E0.out.below H.out.bel)).mono ?_
    rintro e w2 ⟨rfl, hb2⟩
    replace H := hid_mk (H.out.next hb2)
    clear hb2 x0 x1 x2 x3 x4 x5
    go_wp2
    go_ret
    exact ⟨rfl, H.out.bel⟩

/-- A word's six cells that may be written, whatever they hold. -/
def spot6F (r : Nat) : Fct where
  S := fun k => k = r
  p := fun w => ∃ x : Wd, Six w r x.n x.i x.b x.t x.p x.s
  keep := fun w w' ⟨x, h⟩ hs hb => ⟨x, (sixF r x).keep w w' h hs hb⟩
theorem Hold.spot6 {w0 w : World} {fs : List Fct} {r : Nat} (h : Hold w0 w fs) (hm : spot6F r ∈ fs) : ∃ x : Wd, Six w r x.n x.i x.b x.t x.p x.s := h.at hm
theorem Six.put {w : World} {r : Nat} {n : Int} {i : Bool} {b t p s : Int} (h : Six w r n i b t p s) (x : Wd) : Six ((((((w.setCell ⟨r, 0, none⟩ (.int .i64 x.n)).setCell ⟨r, 1, none⟩ (.bool x.i)).setCell ⟨r, 2, none⟩ (.int .i64 x.b)).setCell ⟨r, 3, none⟩ (.int .i64 x.t)).setCell ⟨r, 4, none⟩ (.int .i64 x.p)).setCell ⟨r, 5, none⟩ (.int .i64 x.s)) r x.n x.i x.b x.t x.p x.s := by
  obtain ⟨l, c0, c1, c2, c3, c4, c5, f0, f1, f2, f3, f4, f5⟩ := h
  exact ⟨by simpa [World.size_setCell] using l, by go_simp, by go_simp, by go_simp, by go_simp, by go_simp, by go_simp, by go_simp, by go_simp, by go_simp, by go_simp, by go_simp, by go_simp⟩
theorem Hold.store6 {w0 w : World} {fs : List Fct} {r : Nat} (h : Hold w0 w (spot6F r :: fs)) (h0 : w0.heap.size ≤ r) (hd : ∀ f ∈ fs, ∀ k, f.S k → k ≠ r) (x : Wd) :
    Hold w0 ((((((w.setCell ⟨r, 0, none⟩ (.int .i64 x.n)).setCell ⟨r, 1, none⟩ (.bool x.i)).setCell ⟨r, 2, none⟩ (.int .i64 x.b)).setCell ⟨r, 3, none⟩ (.int .i64 x.t)).setCell ⟨r, 4, none⟩ (.int .i64 x.p)).setCell ⟨r, 5, none⟩ (.int .i64 x.s)) (spot6F r :: fs) := by
  obtain ⟨x', D⟩ := h.spot6 (.head _)
  exact (h.tail.six6 h0 hd _ _ _ _ _ _).push (spot6F r) ⟨x, D.put x⟩

set_option maxHeartbeats 8000000 in
theorem implRead_any (a0 a1 a2 a3 : Addr) (a : Option Addr) (n c : Nat) (a' : Option Addr) (n' c' : Nat) (L : List Wd) (G : List Bool) (y : Wd) (m : Int) (w : World) (hM : MemS w a n a' n' L G) (hE : Errs a0 a1 a2 a3 w) :
    Calls Tryz.prog 130 #[.agg #[.slice a n c, .slice a' n' c'], .agg #[.int .i64 y.n, .bool y.i, .int .i64 y.b, .int .i64 y.t, .int .i64 y.p, .int .i64 y.s], .int .i64 m] w fun e w' => e = .returned (.tuple #[wdV (rdW L G y m), .int .i64 (rdZ L y m)]) ∧ Below w.heap.size w w' := by
  have H := hid_mk (((((Hold.new w).push (argF w.heap.size a n a' n' L G) hM.arg).alloc (.cells #[.slice a n c, .slice a' n' c'] 40)).push (duoF w.heap.size (.slice a n c) (.slice a' n' c')) (Duo.new w _ _ _)).alloc (.cells #[.int .i64 y.n, .bool y.i, .int .i64 y.b, .int .i64 y.t, .int .i64 y.p, .int .i64 y.s] 38) |>.push (sixF (w.heap.size + 1) y) (Six.second w _ _ _ _ _ _ _ _) |>.alloc (.cells #[.int .i64 0, .bool false, .int .i64 0, .int .i64 0, .int .i64 0, .int .i64 0] 38) |>.push (spot6F (w.heap.size + 1 + 1)) ⟨wd0, Six.third w _ _ 0 false 0 0 0 0 _⟩)
  have E0 := hid_mk hE
  have hn := hM.ws.2.1
  have hm := hM.ws.1
  have s1 := fun w hE => trapAt_any a0 a1 a2 a3 a n c (.slice a' n' c') y m 1 w hE
  obtain ⟨z, Z⟩ : ∃ z, Hid (z = rdZ L y m) := ⟨_, rfl⟩
  obtain ⟨x, X⟩ : ∃ x, Hid (x = rdW L G y m) := ⟨_, rfl⟩
  rw [← Z.out, ← X.out]
  have XZ : Hid (x = bif z == 0 then filW G (takW y (L.getD m.toNat wd0)) else wd0) := by rw [X.out, Z.out]; exact hid_mk rfl
  have hZT : trpZ n y m 1 = z := by rw [Z.out, rdZ, hn]; rfl
  have HIN : Hid (z = 0 → 0 ≤ m ∧ m ≤ (n : Int) - 1) := fun h => trp_in (hZT.trans h)
  simp only [hZT] at s1
  have S1 := hid_mk s1
  unfold maxLen at hm
  clear s1 X Z hZT hM hE
  generalize hw1 : ((w.alloc (.cells #[.slice a n c, .slice a' n' c'] 40)).alloc (.cells #[.int .i64 y.n, .bool y.i, .int .i64 y.b, .int .i64 y.t, .int .i64 y.p, .int .i64 y.s] 38)).alloc (.cells #[.int .i64 0, .bool false, .int .i64 0, .int .i64 0, .int .i64 0, .int .i64 0] 38) = w1 at H
  by_cases hz : z = 0
  · subst hz
    obtain ⟨hi0, hi1⟩ := HIN.out rfl
    have XX : Hid (x = filW G (takW y (L.getD m.toNat wd0))) := XZ.out
    obtain ⟨k, hk⟩ : ∃ k : Nat, m.toNat = k := ⟨_, rfl⟩
    have hkn : k < n := by omega
    have hmk : m = (k : Int) := by omega
    obtain ⟨kb, o, u, rfl, hkb, hu, _⟩ := (H.out.arg (.tail _ (.tail _ (.tail _ (.head _))))).ws.at hkn
    have hgu : L.getD m.toNat wd0 = u := by rw [hk]; simp [List.getD, hu]
    rw [hgu] at XX
    have s3 := implTaken_any y.n y.i y.b y.t y.p y.s u.n u.i u.b u.t u.p u.s
    rw [takW_V] at s3
    generalize takW y u = v at s3 XX
    have s4 := fun w hG => implFilter_any (.slice (some ⟨kb, o, none⟩) n c) a' n' c' G v w hG
    rw [← XX.out] at s4
    simp only [wdV] at s3 s4
    have S3 := hid_mk s3
    have S4 := hid_mk s4
    subst hmk
    have hi2 : (k : Int) < (n : Int) := by omega
    clear s3 s4 hgu XZ HIN XX hi1 hk
    go_enter Tryz.func130, Tryz.ntmps130
    go_upto_region 1 with fail
    clear hw1
    obtain ⟨_, m0, m1, _, _⟩ := H.out.duo (.tail _ (.tail _ (.head _)))
    obtain ⟨_, x0, x1, x2, x3, x4, x5, _, _, _, _, _, _⟩ := H.out.six (.tail _ (.head _))
    go_wp2_with fail
    refine (S1.out _ (E0.out.below H.out.bel)).mono ?_
    rintro e w2 ⟨rfl, hb2⟩
    replace H := hid_mk (H.out.next hb2)
    clear hb2 m0 m1 x0 x1 x2 x3 x4 x5
    have ALL : Hid (∀ w', Hold w w' [spot6F (w.heap.size + 1 + 1), sixF (w.heap.size + 1) y, duoF w.heap.size (.slice (some ⟨kb, o, none⟩) n c) (.slice a' n' c'), argF w.heap.size (some ⟨kb, o, none⟩) n a' n' L G] → (w'.cell? ⟨w.heap.size, 0, none⟩ = some (.slice (some ⟨kb, o, none⟩) n c) ∧ w'.cell? ⟨w.heap.size, 1, none⟩ = some (.slice a' n' c') ∧ w'.cell? ⟨w.heap.size + 1, 0, none⟩ = some (.int .i64 y.n) ∧ w'.cell? ⟨w.heap.size + 1, 1, none⟩ = some (.bool y.i) ∧ w'.cell? ⟨w.heap.size + 1, 2, none⟩ = some (.int .i64 y.b) ∧ w'.cell? ⟨w.heap.size + 1, 3, none⟩ = some (.int .i64 y.t) ∧ w'.cell? ⟨w.heap.size + 1, 4, none⟩ = some (.int .i64 y.p) ∧ w'.cell? ⟨w.heap.size + 1, 5, none⟩ = some (.int .i64 y.s) ∧ w'.cell? ⟨kb, o + k * 6, none⟩ = some (.int .i64 u.n) ∧ w'.cell? ⟨kb, o + k * 6 + 1, none⟩ = some (.bool u.i) ∧ w'.cell? ⟨kb, o + k * 6 + 2, none⟩ = some (.int .i64 u.b) ∧ w'.cell? ⟨kb, o + k * 6 + 3, none⟩ = some (.int .i64 u.t) ∧ w'.cell? ⟨kb, o + k * 6 + 4, none⟩ = some (.int .i64 u.p) ∧ w'.cell? ⟨kb, o + k * 6 + 5, none⟩ = some (.int .i64 u.s) ∧ Hid (Hold w w' [spot6F (w.heap.size + 1 + 1), sixF (w.heap.size + 1) y, duoF w.heap.size (.slice (some ⟨kb, o, none⟩) n c) (.slice a' n' c'), argF w.heap.size (some ⟨kb, o, none⟩) n a' n' L G]))) := fun w' h => by
      have h1 := h.duo (.tail _ (.tail _ (.head _)))
      have h2 := h.six (.tail _ (.head _))
      obtain ⟨kb2, o2, u2, e2, _, hu2, hat2⟩ := (h.arg (.tail _ (.tail _ (.tail _ (.head _))))).ws.at hkn
      rw [hu] at hu2
      obtain rfl := Option.some.inj hu2
      simp only [Option.some.injEq, Addr.mk.injEq, and_true] at e2
      obtain ⟨rfl, rfl⟩ := e2
      obtain ⟨d0, d1, d2, d3, d4, d5⟩ := hat2
      exact ⟨h1.c0, h1.c1, h2.c0, h2.c1, h2.c2, h2.c3, h2.c4, h2.c5, d0, d1, d2, d3, d4, d5, h⟩
    have GET : Hid (∀ w', (w'.cell? ⟨w.heap.size, 0, none⟩ = some (.slice (some ⟨kb, o, none⟩) n c) ∧ w'.cell? ⟨w.heap.size, 1, none⟩ = some (.slice a' n' c') ∧ w'.cell? ⟨w.heap.size + 1, 0, none⟩ = some (.int .i64 y.n) ∧ w'.cell? ⟨w.heap.size + 1, 1, none⟩ = some (.bool y.i) ∧ w'.cell? ⟨w.heap.size + 1, 2, none⟩ = some (.int .i64 y.b) ∧ w'.cell? ⟨w.heap.size + 1, 3, none⟩ = some (.int .i64 y.t) ∧ w'.cell? ⟨w.heap.size + 1, 4, none⟩ = some (.int .i64 y.p) ∧ w'.cell? ⟨w.heap.size + 1, 5, none⟩ = some (.int .i64 y.s) ∧ w'.cell? ⟨kb, o + k * 6, none⟩ = some (.int .i64 u.n) ∧ w'.cell? ⟨kb, o + k * 6 + 1, none⟩ = some (.bool u.i) ∧ w'.cell? ⟨kb, o + k * 6 + 2, none⟩ = some (.int .i64 u.b) ∧ w'.cell? ⟨kb, o + k * 6 + 3, none⟩ = some (.int .i64 u.t) ∧ w'.cell? ⟨kb, o + k * 6 + 4, none⟩ = some (.int .i64 u.p) ∧ w'.cell? ⟨kb, o + k * 6 + 5, none⟩ = some (.int .i64 u.s) ∧ Hid (Hold w w' [spot6F (w.heap.size + 1 + 1), sixF (w.heap.size + 1) y, duoF w.heap.size (.slice (some ⟨kb, o, none⟩) n c) (.slice a' n' c'), argF w.heap.size (some ⟨kb, o, none⟩) n a' n' L G])) → Hold w w' [spot6F (w.heap.size + 1 + 1), sixF (w.heap.size + 1) y, duoF w.heap.size (.slice (some ⟨kb, o, none⟩) n c) (.slice a' n' c'), argF w.heap.size (some ⟨kb, o, none⟩) n a' n' L G]) := fun w' h => h.2.2.2.2.2.2.2.2.2.2.2.2.2.2
    have ST : Hid (∀ (w1 : World) (x : Wd), Hold w w1 [spot6F (w.heap.size + 1 + 1), sixF (w.heap.size + 1) y, duoF w.heap.size (.slice (some ⟨kb, o, none⟩) n c) (.slice a' n' c'), argF w.heap.size (some ⟨kb, o, none⟩) n a' n' L G] → Hold w ((((((w1.setCell ⟨w.heap.size + 1 + 1, 0, none⟩ (.int .i64 x.n)).setCell ⟨w.heap.size + 1 + 1, 1, none⟩ (.bool x.i)).setCell ⟨w.heap.size + 1 + 1, 2, none⟩ (.int .i64 x.b)).setCell ⟨w.heap.size + 1 + 1, 3, none⟩ (.int .i64 x.t)).setCell ⟨w.heap.size + 1 + 1, 4, none⟩ (.int .i64 x.p)).setCell ⟨w.heap.size + 1 + 1, 5, none⟩ (.int .i64 x.s)) [spot6F (w.heap.size + 1 + 1), sixF (w.heap.size + 1) y, duoF w.heap.size (.slice (some ⟨kb, o, none⟩) n c) (.slice a' n' c'), argF w.heap.size (some ⟨kb, o, none⟩) n a' n' L G]) := fun w1 x h => h.store6 (by omega) (fun f hf k hk => by
      simp only [List.mem_cons, List.not_mem_nil, or_false] at hf
      rcases hf with rfl | rfl | rfl
      · simp only [sixF] at hk; omega
      · simp only [duoF] at hk; omega
      · simp only [argF] at hk; omega) x
    clear hu
    go_upto_region 4 with fail
    have F0 := hid_mk H.out.drew
    clear H S1
    go_region_held3 (fun w' => w'.cell? ⟨w.heap.size, 0, none⟩ = some (.slice (some ⟨kb, o, none⟩) n c) ∧ w'.cell? ⟨w.heap.size, 1, none⟩ = some (.slice a' n' c') ∧ w'.cell? ⟨w.heap.size + 1, 0, none⟩ = some (.int .i64 y.n) ∧ w'.cell? ⟨w.heap.size + 1, 1, none⟩ = some (.bool y.i) ∧ w'.cell? ⟨w.heap.size + 1, 2, none⟩ = some (.int .i64 y.b) ∧ w'.cell? ⟨w.heap.size + 1, 3, none⟩ = some (.int .i64 y.t) ∧ w'.cell? ⟨w.heap.size + 1, 4, none⟩ = some (.int .i64 y.p) ∧ w'.cell? ⟨w.heap.size + 1, 5, none⟩ = some (.int .i64 y.s) ∧ w'.cell? ⟨kb, o + k * 6, none⟩ = some (.int .i64 u.n) ∧ w'.cell? ⟨kb, o + k * 6 + 1, none⟩ = some (.bool u.i) ∧ w'.cell? ⟨kb, o + k * 6 + 2, none⟩ = some (.int .i64 u.b) ∧ w'.cell? ⟨kb, o + k * 6 + 3, none⟩ = some (.int .i64 u.t) ∧ w'.cell? ⟨kb, o + k * 6 + 4, none⟩ = some (.int .i64 u.p) ∧ w'.cell? ⟨kb, o + k * 6 + 5, none⟩ = some (.int .i64 u.s) ∧ Hid (Hold w w' [spot6F (w.heap.size + 1 + 1), sixF (w.heap.size + 1) y, duoF w.heap.size (.slice (some ⟨kb, o, none⟩) n c) (.slice a' n' c'), argF w.heap.size (some ⟨kb, o, none⟩) n a' n' L G]))
      (first | (with_reducible assumption) | (((with_reducible refine ALL.out _ ?_); (first | (with_reducible exact F0.out) | ((with_reducible apply Hold.next ?_ KT.out); (with_reducible exact GET.out _ (by with_reducible assumption))) | ((with_reducible apply Hold.next ?_ KF.out); (with_reducible exact GET.out _ (by with_reducible assumption))) | (with_reducible exact ST.out _ _ (GET.out _ (by with_reducible assumption))) | fail))))
      (first
        | (go_at_call 150; refine (S3.out _).mono ?_; rintro e wT ⟨rfl, hbT⟩; have KT := hid_mk hbT; clear hbT)
        | (go_at_call 135; refine (S4.out _ ((GET.out _ (by with_reducible assumption)).arg (.tail _ (.tail _ (.tail _ (.head _))))).gs).mono ?_; rintro e wF ⟨rfl, hbF⟩; have KF := hid_mk hbF; (obtain ⟨xs, _, z0, z1, z2, z3, z4, z5, f0, f1, f2, f3, f4, f5⟩ := ((GET.out _ (by with_reducible assumption)).next hbF).spot6 (.head _)); clear hbF))
    have HE := hid_mk (GET.out _ (by with_reducible assumption))
    clear ALL GET ST F0
    go_wp2
    refine bodyPost_ret (v := .tuple #[wdV x, .int .i64 0]) (by simp [results, Tryz.results130, go_sem, z0, z1, z2, z3, z4, z5, wdV]) rfl ⟨rfl, HE.out.bel⟩
  · have hx : x = wd0 := by
      rw [XZ.out, show (z == 0) = false by simpa using hz]; rfl
    subst hx
    have htn : (z != 0) = true := by simpa using hz
    clear XZ HIN
    go_enter Tryz.func130, Tryz.ntmps130
    go_upto_region 1 with fail
    clear hw1
    obtain ⟨_, m0, m1, _, _⟩ := H.out.duo (.tail _ (.tail _ (.head _)))
    obtain ⟨_, x0, x1, x2, x3, x4, x5, _, _, _, _, _, _⟩ := H.out.six (.tail _ (.head _))
    go_wp2_with fail
    refine (S1.out _ (E0.out.below H.out.bel)).mono ?_
    rintro e w2 ⟨rfl, hb2⟩
    replace H := hid_mk (H.out.next hb2)
    clear hb2 m0 m1 x0 x1 x2 x3 x4 x5
    obtain ⟨xs, _, z0, z1, z2, z3, z4, z5, f0, f1, f2, f3, f4, f5⟩ := H.out.spot6 (.head _)
    go_wp2
    refine bodyPost_ret (v := .tuple #[wdV wd0, .int .i64 z]) (by simp [results, Tryz.results130, go_sem, z0, z1, z2, z3, z4, z5, wdV, wd0]) rfl ⟨rfl, six_done H.out.bel _ (by omega) _ _ _ _ _ _⟩
end Go.Proofs.YtpkhnajhamnggaaGreatDoor

namespace Go.Proofs.YtpkhnajhamnggaaGreatDoor
open Go.ChangeShapes Go.WideShapes Go.ChangeAt Go.RowKit
set_option maxRecDepth 100000

set_option maxHeartbeats 8000000 in
theorem l8Copy_any (a : Option Addr) (c : Nat) (a' : Option Addr) (c' : Nat) (L : List Wd) (G : List Bool) (w : World) (hM : MemS w a 24 a' 24 L G) :
    Calls Tryz.prog 75 #[.agg #[.slice a 24 c, .slice a' 24 c']] w fun e w' => ∃ b d b' d', e = .returned (.agg #[.slice b 24 d, .slice b' 24 d']) ∧ 24 ≤ d ∧ AnsM b b' 24 24 L G w' ∧ (∀ k, On b k ∨ On b' k → w.heap.size ≤ k) ∧ Below w.heap.size w w' := by
  have hlw := hM.ws.2.1
  have hlg := hM.gs.2.1
  obtain ⟨kb, o, _, rfl, _, _, _⟩ := hM.ws.at (j := 0) (by omega)
  obtain ⟨kg, og, _, rfl, _, _, _⟩ := hM.gs.at (j := 0) (by omega)
  have H := hid_mk (((((Hold.new w).push (argF w.heap.size (some ⟨kb, o, none⟩) 24 (some ⟨kg, og, none⟩) 24 L G) hM.arg).alloc (.cells #[.slice (some ⟨kb, o, none⟩) 24 c, .slice (some ⟨kg, og, none⟩) 24 c'] 40)).push (duoF w.heap.size (.slice (some ⟨kb, o, none⟩) 24 c) (.slice (some ⟨kg, og, none⟩) 24 c')) (Duo.new w _ _ _)).alloc (.cells #[.slice none 0 0, .slice none 0 0] 40))
  have S0 : Hid (Duo ((w.alloc (.cells #[.slice (some ⟨kb, o, none⟩) 24 c, .slice (some ⟨kg, og, none⟩) 24 c'] 40)).alloc (.cells #[.slice none 0 0, .slice none 0 0] 40)) (w.heap.size + 1) (.slice none 0 0) (.slice none 0 0)) := by
    have h := Duo.new (w.alloc (.cells #[.slice (some ⟨kb, o, none⟩) 24 c, .slice (some ⟨kg, og, none⟩) 24 c'] 40)) (.slice none 0 0) (.slice none 0 0) 40
    rw [World.size_alloc] at h
    exact h
  clear hM
  go_enter Tryz.func75, Tryz.ntmps75
  go_upto_region 1 with fail
  generalize (w.alloc (.cells #[.slice (some ⟨kb, o, none⟩) 24 c, .slice (some ⟨kg, og, none⟩) 24 c'] 40)).alloc (.cells #[.slice none 0 0, .slice none 0 0] 40) = W at H S0 ⊢
  replace H := hid_mk (H.out.push (spotF (w.heap.size + 1)) ⟨_, _, S0.out⟩)
  clear S0
  have ALL : Hid (∀ w', Hold w w' [spotF (w.heap.size + 1), duoF w.heap.size (.slice (some ⟨kb, o, none⟩) 24 c) (.slice (some ⟨kg, og, none⟩) 24 c'), argF w.heap.size (some ⟨kb, o, none⟩) 24 (some ⟨kg, og, none⟩) 24 L G] → (w'.cell? ⟨w.heap.size, 0, none⟩ = some (.slice (some ⟨kb, o, none⟩) 24 c) ∧ w'.cell? ⟨w.heap.size, 1, none⟩ = some (.slice (some ⟨kg, og, none⟩) 24 c') ∧ Hid (Hold w w' [spotF (w.heap.size + 1), duoF w.heap.size (.slice (some ⟨kb, o, none⟩) 24 c) (.slice (some ⟨kg, og, none⟩) 24 c'), argF w.heap.size (some ⟨kb, o, none⟩) 24 (some ⟨kg, og, none⟩) 24 L G]))) := fun w' h => by
    have h1 := h.duo (.tail _ (.head _))
    exact ⟨h1.c0, h1.c1, h⟩
  have GET : Hid (∀ w', (w'.cell? ⟨w.heap.size, 0, none⟩ = some (.slice (some ⟨kb, o, none⟩) 24 c) ∧ w'.cell? ⟨w.heap.size, 1, none⟩ = some (.slice (some ⟨kg, og, none⟩) 24 c') ∧ Hid (Hold w w' [spotF (w.heap.size + 1), duoF w.heap.size (.slice (some ⟨kb, o, none⟩) 24 c) (.slice (some ⟨kg, og, none⟩) 24 c'), argF w.heap.size (some ⟨kb, o, none⟩) 24 (some ⟨kg, og, none⟩) 24 L G])) → Hold w w' [spotF (w.heap.size + 1), duoF w.heap.size (.slice (some ⟨kb, o, none⟩) 24 c) (.slice (some ⟨kg, og, none⟩) 24 c'), argF w.heap.size (some ⟨kb, o, none⟩) 24 (some ⟨kg, og, none⟩) 24 L G]) := fun w' h => h.2.2
  have ST : Hid (∀ w1 u0 u1, Hold w w1 [spotF (w.heap.size + 1), duoF w.heap.size (.slice (some ⟨kb, o, none⟩) 24 c) (.slice (some ⟨kg, og, none⟩) 24 c'), argF w.heap.size (some ⟨kb, o, none⟩) 24 (some ⟨kg, og, none⟩) 24 L G] → Hold w ((w1.setCell ⟨w.heap.size + 1, 0, none⟩ u0).setCell ⟨w.heap.size + 1, 1, none⟩ u1) [spotF (w.heap.size + 1), duoF w.heap.size (.slice (some ⟨kb, o, none⟩) 24 c) (.slice (some ⟨kg, og, none⟩) 24 c'), argF w.heap.size (some ⟨kb, o, none⟩) 24 (some ⟨kg, og, none⟩) 24 L G]) := fun w1 u0 u1 h => h.store2 (by omega) (fun f hf k hk => by
    simp only [List.mem_cons, List.not_mem_nil, or_false] at hf
    rcases hf with rfl | rfl
    · simp only [duoF] at hk; omega
    · simp only [argF] at hk; omega) u0 u1
  obtain ⟨_, _, hsW, _, _, _, _⟩ := H.out.spot (.head _)
  go_region_held3 (fun w' => w'.cell? ⟨w.heap.size, 0, none⟩ = some (.slice (some ⟨kb, o, none⟩) 24 c) ∧ w'.cell? ⟨w.heap.size, 1, none⟩ = some (.slice (some ⟨kg, og, none⟩) 24 c') ∧ Hid (Hold w w' [spotF (w.heap.size + 1), duoF w.heap.size (.slice (some ⟨kb, o, none⟩) 24 c) (.slice (some ⟨kg, og, none⟩) 24 c'), argF w.heap.size (some ⟨kb, o, none⟩) 24 (some ⟨kg, og, none⟩) 24 L G]))
    (first | (with_reducible assumption) | (((with_reducible refine ALL.out _ ?_); (first | ((with_reducible apply Hold.next ?_ KA.out); (with_reducible exact GET.out _ (by with_reducible assumption))) | ((with_reducible apply Hold.next ?_ KB.out); (with_reducible exact GET.out _ (by with_reducible assumption))) | ((with_reducible apply ST.out _ _ _ (GET.out _ (by with_reducible assumption)))) | (with_reducible exact H.out.drew) | ((with_reducible apply Hold.drew); (with_reducible apply Hold.alloc); (with_reducible exact H.out)) | ((with_reducible apply Hold.drew); (with_reducible apply Hold.alloc); (with_reducible apply Hold.alloc); (with_reducible exact H.out)) | ((with_reducible apply Hold.alloc); (with_reducible exact GET.out _ (by with_reducible assumption))) | fail))))
    (first
      | ((refine step_appW (by rfl) _ _ (by rfl) _ 0 0 [] (by rfl) rfl (fun j u hj => by cases hj) ⟨kb, o, none⟩ 24 c L (by rfl) hlw ((GET.out _ (by with_reducible assumption)).arg (.tail _ (.tail _ (.head _)))).ws.flat (by omega) (by omega) ?_); intro g cp wA _ hOA hgA hcA hbA; have KA := hid_mk hbA; have RA := hid_mk hOA.app_nil; have lA := hgA; have uA := RA.out.lt; have zA := hbA.size; (try simp at lA zA); (first | (have RB := hid_mk (RB.out.to hbA)) | (have RB := hid_mk (RB.out.to (((Below.refl _ _).alloc (Nat.le_refl _) _).trans (hbA.mono (by simp))))) | skip); (obtain ⟨u0, u1, hsp, q0, q1, q2, q3⟩ := ((GET.out _ (by with_reducible assumption)).next hbA).spot (.head _)); clear hbA hOA hgA)
      | ((refine step_appB (by rfl) _ _ (by rfl) _ 0 (by rfl) ⟨kg, og, none⟩ 24 c' G (by rfl) hlg ((GET.out _ (by with_reducible assumption)).arg (.tail _ (.tail _ (.head _)))).gs.flat (by omega) (by omega) ?_); intro gb cb wB hOB hgB hcB hbB; have KB := hid_mk hbB; have RB := hid_mk hOB; have lB := hgB; have uB := RB.out.lt; have zB := hbB.size; (try simp at lB zB); (first | (have RA := hid_mk (RA.out.below hbB)) | (have RA := hid_mk (RA.out.below (((Below.refl _ _).alloc (Nat.le_refl _) _).trans (hbB.mono (by simp))))) | skip); (obtain ⟨u0, u1, hsp, q0, q1, q2, q3⟩ := ((GET.out _ (by with_reducible assumption)).next hbB).spot (.head _)); clear hbB hOB hgB))
  all_goals
    have HE := hid_mk (GET.out _ (by with_reducible assumption))
    have hne : g ≠ gb := by omega
    have hg1 : w.heap.size + 1 < g := by omega
    have hg2 : w.heap.size + 1 < gb := by omega
    clear ALL GET H ST
    go_wp2
    refine bodyPost_ret (v := .agg #[.slice (some ⟨g, 0, none⟩) 24 cp, .slice (some ⟨gb, 0, none⟩) 24 cb]) (by simp [results, Tryz.results75, go_sem, q0, q1]) rfl ⟨_, _, _, _, rfl, by omega, ?_, ?_, HE.out.bel⟩
    · exact ⟨.inr ⟨g, rfl, hlw, RA.out.keepB (((KeepBut.refl (w.heap.size + 1) _).setCell 0 _).setCell 1 _) (by omega)⟩, .inr ⟨gb, rfl, hlg, RB.out.keepB (((KeepBut.refl (w.heap.size + 1) _).setCell 0 _).setCell 1 _) (by omega)⟩, fun k h1 h2 => hne (((on_some g k).1 h1).trans ((on_some gb k).1 h2).symm)⟩
    · rintro k (hk | hk)
      · have := (on_some g k).1 hk; omega
      · have := (on_some gb k).1 hk; omega
end Go.Proofs.YtpkhnajhamnggaaGreatDoor

namespace Go.Proofs.YtpkhnajhamnggaaGreatDoor
open Go.ChangeShapes Go.WideShapes Go.ChangeAt Go.RowKit
set_option maxRecDepth 100000

theorem asItWas_c (a : Option Addr) (c : Nat) (a' : Option Addr) (c' : Nat) (L : List Wd) (G : List Bool) (w : World) (hM : MemS w a 24 a' 24 L G) :
    Calls Tryz.prog 102 #[.agg #[.slice a 24 c, .slice a' 24 c']] w fun e w' => ∃ b d b' d', e = .returned (.agg #[.slice b 24 d, .slice b' 24 d']) ∧ 24 ≤ d ∧ AnsM b b' 24 24 L G w' ∧ (∀ k, On b k ∨ On b' k → w.heap.size ≤ k) ∧ Below w.heap.size w w' := by
  refine (asItWas_any a c a' c' L G w hM).mono ?_
  rintro e w' ⟨b, d, b', rfl, hd, hA, hf, hb⟩
  exact ⟨b, d, b', 24, rfl, hd, hA, hf, hb⟩
theorem keep_none {L : List Wd} {G : List Bool} (h : mokB L G = false) : keepL L G = [] := by simp [keepL, h]
theorem keep_some {L : List Wd} {G : List Bool} (h : mokB L G = true) : keepL L G = L := by simp [keepL, h]
theorem drop_none {L : List Wd} {G : List Bool} (h : mokB L G = false) (m : Int) : dropG L G m = [] := by simp [dropG, h]
theorem drop_out {L : List Wd} {G : List Bool} (h : mokB L G = true) {m : Int} (hm : ¬ (0 ≤ m ∧ m ≤ 23)) : dropG L G m = G := by unfold dropG inB; rw [h, decide_eq_false (by omega)]; rfl
theorem drop_in {L : List Wd} {G : List Bool} (h : mokB L G = true) {m : Int} (hm : 0 ≤ m ∧ m ≤ 23) : dropG L G m = G.set m.toNat true := by unfold dropG inB; rw [h, decide_eq_true (by omega)]; rfl
theorem below_two {w0 w : World} (hb : Below w0.heap.size w0 w) {r : Nat} (hr : w0.heap.size ≤ r) (u0 u1 : Value) : Below w0.heap.size w0 ((w.setCell ⟨r, 0, none⟩ u0).setCell ⟨r, 1, none⟩ u1) := Below.setCell (Below.setCell hb hr _) hr _
theorem AnsM.two {w : World} {a a' : Option Addr} {n n' : Nat} {L : List Wd} {G : List Bool} (h : AnsM a a' n n' L G w) {r : Nat} (hr : ∀ k, On a k ∨ On a' k → k ≠ r) (u0 u1 : Value) : AnsM a a' n n' L G ((w.setCell ⟨r, 0, none⟩ u0).setCell ⟨r, 1, none⟩ u1) :=
  (ansF a a' n n' L G).keep _ _ h (by rw [World.size_setCell, World.size_setCell]; exact Nat.le_refl _) fun k hk ho => (((KeepBut.refl r w).setCell 0 u0).setCell 1 u1).block k hk (hr k ho)

set_option maxHeartbeats 8000000 in
theorem implDrop_any (a : Option Addr) (n0 c : Nat) (a' : Option Addr) (n0' c' : Nat) (L : List Wd) (G : List Bool) (m : Int) (w : World) (hM : MemS w a n0 a' n0' L G) :
    Calls Tryz.prog 92 #[.agg #[.slice a n0 c, .slice a' n0' c'], .int .i64 m] w fun e w' => ∃ b d b' d', e = .returned (.agg #[.slice b (keepL L G).length d, .slice b' (dropG L G m).length d']) ∧ AnsM b b' (keepL L G).length (dropG L G m).length (keepL L G) (dropG L G m) w' ∧ (∀ k, On b k ∨ On b' k → w.heap.size ≤ k) ∧ Below w.heap.size w w' := by
  have H := hid_mk ((((((Hold.new w).push (argF w.heap.size a n0 a' n0' L G) hM.arg).alloc (.cells #[.slice a n0 c, .slice a' n0' c'] 40)).push (duoF w.heap.size (.slice a n0 c) (.slice a' n0' c')) (Duo.new w _ _ _)).alloc (.cells #[.slice none 0 0, .slice none 0 0] 40)).push (duoF (w.heap.size + 1) (.slice none 0 0) (.slice none 0 0)) (by
    have h := Duo.new (w.alloc (.cells #[.slice a n0 c, .slice a' n0' c'] 40)) (.slice none 0 0) (.slice none 0 0) 40
    rw [World.size_alloc] at h
    exact h))
  have s1 := implMemoryOk_any a n0 c a' n0' c' L G
  have hlw := hM.ws.2.1
  have hlg := hM.gs.2.1
  clear hM
  generalize hw1 : (w.alloc (.cells #[.slice a n0 c, .slice a' n0' c'] 40)).alloc (.cells #[.slice none 0 0, .slice none 0 0] 40) = w1 at H
  cases hk : mokB L G with
  | false =>
    rw [keep_none hk, drop_none hk, List.length_nil, List.length_nil]
    rw [hk] at s1
    have S1 := hid_mk s1
    clear s1 hk
    go_enter Tryz.func92, Tryz.ntmps92
    go_upto_region 1 with fail
    clear hw1
    obtain ⟨_, m0, m1, _, _⟩ := H.out.duo (.tail _ (.head _))
    go_wp2_with fail
    refine (S1.out _ (H.out.arg (.tail _ (.tail _ (.head _))))).mono ?_
    rintro e w2 ⟨rfl, hb2⟩
    replace H := hid_mk (H.out.next hb2)
    clear hb2 m0 m1 S1
    obtain ⟨_, r0, r1, f0, f1⟩ := H.out.duo (.head _)
    go_wp2
    refine bodyPost_ret (v := .agg #[.slice none 0 0, .slice none 0 0]) (by simp [results, Tryz.results92, go_sem, r0, r1]) rfl ⟨none, 0, none, 0, rfl, AnsM.nil _, fun k hk => ?_, below_two H.out.bel (by omega) _ _⟩
    rcases hk with hk | hk
    · exact absurd hk (on_none k)
    · exact absurd hk (on_none k)
  | true =>
    obtain ⟨h24, h24', _⟩ := mok_parts hk
    have e1 : n0 = 24 := by omega
    have e2 : n0' = 24 := by omega
    subst e1 e2
    rw [keep_some hk]
    obtain ⟨D, hD⟩ : ∃ D, Hid (D = dropG L G m) := ⟨_, rfl⟩
    rw [← hD.out]
    have hDl : D.length = 24 := by
      rw [hD.out]
      by_cases hi : 0 ≤ m ∧ m ≤ 23
      · rw [drop_in hk hi, List.length_set]; exact h24'
      · rw [drop_out hk hi]; exact h24'
    rw [h24, hDl]
    rw [hk] at s1
    have S1 := hid_mk s1
    have s2 := isNumber_any m 24
    simp only [show (24 : Int) - 1 = 23 from rfl] at s2
    have HK := hid_mk hk
    clear s1 hk
    go_enter Tryz.func92, Tryz.ntmps92
    go_upto_region 1 with fail
    clear hw1
    obtain ⟨_, m0, m1, _, _⟩ := H.out.duo (.tail _ (.head _))
    go_wp2_with fail
    refine (S1.out _ (H.out.arg (.tail _ (.tail _ (.head _))))).mono ?_
    rintro e w2 ⟨rfl, hb2⟩
    replace H := hid_mk (H.out.next hb2)
    clear hb2 m0 m1 S1
    obtain ⟨_, m0, m1, _, _⟩ := H.out.duo (.tail _ (.head _))
    go_wp2_with fail
    refine (asItWas_c _ c _ c' L G _ (H.out.arg (.tail _ (.tail _ (.head _))))).mono ?_
    rintro e w3 ⟨b, d, b', d', rfl, hd, A3, hf3, hb3⟩
    have hlo : ∀ k, On b k ∨ On b' k → w.heap.size + 1 < k := fun k hk => by
      have h1 := hf3 k hk
      have h2 := (H.out.duo (.head _)).lt
      omega
    have hup : ∀ k, On b k ∨ On b' k → k < w3.heap.size := fun k hk => A3.lt hk
    have hlt : w.heap.size + 1 < w3.heap.size := Nat.lt_of_lt_of_le (H.out.duo (.head _)).lt hb3.size
    replace H := hid_mk ((((H.out.next hb3).push (ansF b b' 24 24 L G) A3).alloc (.cells #[.slice b 24 d, .slice b' 24 d'] 40)).push (duoF w3.heap.size (.slice b 24 d) (.slice b' 24 d')) (Duo.new _ _ _ _))
    clear hb3 m0 m1 hf3 A3
    go_upto_region 4 with fail
    generalize w3.alloc (.cells #[.slice b 24 d, .slice b' 24 d'] 40) = w4 at H ⊢
    generalize w3.heap.size = ro at H hup hlt ⊢
    have HLO := hid_mk hlo
    have HUP := hid_mk hup
    clear hlo hup
    by_cases hi : 0 ≤ m ∧ m ≤ 23
    · have hDD := hD.out.trans (drop_in HK.out hi)
      rw [decide_eq_true hi] at s2
      have S2 := hid_mk s2
      obtain ⟨hi0, hi1⟩ := hi
      obtain ⟨k, hkm⟩ : ∃ k : Nat, m.toNat = k := ⟨_, rfl⟩
      have hk24 : k < 24 := by omega
      have hmk : m = (k : Int) := by omega
      have A4 := hid_mk (H.out.ans (.tail _ (.head _)))
      obtain ⟨q, rfl, _, hOw⟩ : ∃ q, b = some ⟨q, 0, none⟩ ∧ L.length = 24 ∧ OutW w4 q 24 24 L := by
        rcases A4.out.ws with ⟨_, h0, _⟩ | h
        · omega
        · exact h
      obtain ⟨q', rfl, _, hO⟩ : ∃ q, b' = some ⟨q, 0, none⟩ ∧ G.length = 24 ∧ OutB w4 q 24 24 G := by
        rcases A4.out.gs with ⟨_, h0, _⟩ | h
        · omega
        · exact h
      obtain ⟨_, o0, o1, _, _⟩ := H.out.duo (.head _)
      obtain ⟨g0, hg0⟩ := Option.isSome_iff_exists.1 (hO.has k hk24)
      have hgf := hO.fr k hk24
      have hql := HLO.out q' (.inr ((on_some q' q').2 rfl))
      have hqu := HUP.out q' (.inr ((on_some q' q').2 rfl))
      have O5 := hid_mk (hO.put h24' hk24 true)
      have K5 := hid_mk ((KeepBut.refl q' w4).setCell k (.bool true))
      have A5 : Hid (AnsM (some ⟨q, 0, none⟩) (some ⟨q', 0, none⟩) 24 24 L (G.set k true) (w4.setCell ⟨q', k, none⟩ (.bool true))) := by
        have hne : q ≠ q' := fun e => A4.out.ne q ((on_some q q).2 rfl) ((on_some q' q).2 e.symm)
        exact ⟨.inr ⟨q, rfl, h24, hOw.keepB K5.out hne⟩, .inr ⟨q', rfl, by rw [List.length_set]; exact h24', O5.out⟩, A4.out.ne⟩
      have D5 := hid_mk ((H.out.duo (.head _)).keep K5.out (by omega))
      have R5 := hid_mk ((H.out.duo (.tail _ (.tail _ (.head _)))).keep K5.out (by omega))
      have B5 := hid_mk (H.out.bel.trans (K5.out.below (by omega) H.out.bel.size))
      clear hO hOw A4 H
      subst hmk
      go_wp2_with fail
      refine (S2.out _).mono ?_
      rintro e w' ⟨rfl, hw'⟩
      subst w'
      go_upto_region 6 with fail
      clear o0 o1 hg0 hgf
      rw [hkm] at hDD
      subst hDD
      generalize w4.setCell ⟨q', k, none⟩ (.bool true) = w5 at A5 D5 R5 B5 ⊢
      obtain ⟨_, o0, o1, _, _⟩ := D5.out
      obtain ⟨_, r0, r1, f0, f1⟩ := R5.out
      go_wp2
      refine bodyPost_ret (v := .agg #[.slice (some ⟨q, 0, none⟩) 24 d, .slice (some ⟨q', 0, none⟩) 24 d']) (by simp [results, Tryz.results92, go_sem, r0, r1]) rfl ⟨_, d, _, d', rfl, ?_, fun k hk => ?_, below_two B5.out (by omega) _ _⟩
      · exact A5.out.two (fun k hk => by have := HLO.out k hk; omega) _ _
      · have := HLO.out k hk; omega
    · have hDD := hD.out.trans (drop_out HK.out hi)
      subst hDD
      rw [decide_eq_false hi] at s2
      have S2 := hid_mk s2
      obtain ⟨_, o0, o1, _, _⟩ := H.out.duo (.head _)
      obtain ⟨_, r0, r1, f0, f1⟩ := H.out.duo (.tail _ (.tail _ (.head _)))
      clear s2
      go_wp2_with fail
      refine (S2.out _).mono ?_
      rintro e w' ⟨rfl, hw'⟩
      subst w'
      go_wp2
      refine bodyPost_ret (v := .agg #[.slice b 24 d, .slice b' 24 d']) (by simp [results, Tryz.results92, go_sem, r0, r1]) rfl ⟨b, d, b', d', rfl, ?_, fun k hk => ?_, below_two H.out.bel (by omega) _ _⟩
      · exact (H.out.ans (.tail _ (.head _))).two (fun k hk => by have := HLO.out k hk; omega) _ _
      · have := HLO.out k hk; omega
end Go.Proofs.YtpkhnajhamnggaaGreatDoor

namespace Go.Proofs.YtpkhnajhamnggaaGreatDoor
open Go.ChangeShapes Go.WideShapes Go.ChangeAt Go.RowKit
set_option maxRecDepth 100000

theorem own_next {w w' : World} {base n g cp : Nat} {xs : List Value} {T : TypeId} {size : Nat} (h : w.ownsRow base T size (.slice (some ⟨g, 0, none⟩) n cp) n xs) (hb : Below w.heap.size w w') : w'.ownsRow base T size (.slice (some ⟨g, 0, none⟩) n cp) n xs :=
  h.kept (row := none) ⟨hb.os, hb.tape, hb.output, hb.size, fun k hk _ => hb.block k hk⟩ (.inr (by simp [Value.ownBlock]))
/-- append of words onto a row that is owned, as one step of a region that draws. -/
theorem step_ownW {ops : Array Oper} {o : Oper} {a : Act} {w : World} {K : Act → World → Prop} {Q : Exit → Act → World → Prop} {E : Prop} (hgd : o.guard = none) (s x : Operand)
    (ho : o.op = .call { callee := .builtin .append, args := #[s, x], argTypes := #[35, 35] })
    (base g0 n cap : Nat) (X : List Wd) (hs : a.eval s = .slice (some ⟨g0, 0, none⟩) n cap) (hX : X.length = n) (hown : w.ownsRow base 38 6 (.slice (some ⟨g0, 0, none⟩) n cap) n (X.flatMap Wd.vs))
    (ad : Addr) (m c : Nat) (Y : List Wd) (hx : a.eval x = .slice (some ad) m c) (hY : Y.length = m) (hc : ∀ j u, (Y.flatMap Wd.vs)[j]? = some u → w.cell? (ad.add j) = some u) (t : Nat) (ht : n + m = t) (h0 : 0 < t) (hb : t ≤ 1048576) (hbase : base ≤ w.heap.size)
    (h : ∀ g cp w', OutW w' g t t (X ++ Y) → base ≤ g → g < w'.heap.size → g = g0 ∨ w.heap.size ≤ g → t ≤ cp → KeepBut g0 w w' → K (a.put o.dst (.slice (some ⟨g, 0, none⟩) t cp)) w') :
    if Region.wanted o (yielded ops a.tmps) = true then Oper.wp Tryz.prog o a w K Q else E := by
  have hw : Region.wanted o (yielded ops a.tmps) = true := by simp [Region.wanted, hgd]
  rw [if_pos hw]
  subst ht
  obtain ⟨i, hi, hz0, hz1, hz2⟩ := info_parts infoW
  obtain ⟨v', w', hrun, hown', hgrow, _, hlies⟩ := run_append_own_at (P := Tryz.prog) w base 35 o.type 38 i _ 6 48 Tryz.underlying35 hi hz0 hz1 hz2 rfl (by decide) _ n (X.flatMap Wd.vs) hown ad m c (Y.flatMap Wd.vs) (by rw [flatW_len, hY]) hc (flatW_one Y) (by unfold maxLen; omega) (by omega) hbase
  have hl : (X ++ Y).length = n + m := by rw [List.length_append, hX, hY]
  rw [← List.flatMap_append, ← hl] at hown'
  obtain ⟨g, cp, rfl, hg, hcp, hO⟩ := own_outW hown' (by omega)
  rw [hl] at hO hcp hrun hlies
  unfold Oper.wp
  simp [execOp, ho, resolve, invoke, builtin, hs, hx, hrun, Result.andThen]
  have hk := h g cp w' hO hg hO.lt (by
    rcases hlies with e | e
    · left; simpa [Value.ownBlock] using e
    · right; have : g = w.heap.size := by simpa [Value.ownBlock] using e
      omega) hcp ⟨hgrow.os, hgrow.tape, hgrow.output, hgrow.size, fun k hk hne => hgrow.block k hk (by simp [Value.ownBlock]; exact hne)⟩
  exact hk

theorem drop_cells {B : Nat} {w : World} {kb o len k : Nat} {L : List Wd} (h : SliceW B w (some ⟨kb, o, none⟩) len L) : ∀ j u, ((L.drop k).flatMap Wd.vs)[j]? = some u → w.cell? ((⟨kb, o + k * 6, none⟩ : Addr).add j) = some u := by
  intro j u hj
  rw [Go.WideShapes.add_plain, Nat.add_assoc]
  by_cases hk : k ≤ L.length
  · have e : (L.flatMap Wd.vs)[k * 6 + j]? = some u := by
      have h1 : L.flatMap Wd.vs = (L.take k).flatMap Wd.vs ++ (L.drop k).flatMap Wd.vs := by rw [← List.flatMap_append, List.take_append_drop]
      have h2 : ((L.take k).flatMap Wd.vs).length = k * 6 := by rw [flatW_len, List.length_take]; omega
      rw [h1, List.getElem?_append_right (by omega), h2, show k * 6 + j - k * 6 = j by omega]
      exact hj
    have := h.flat _ _ e
    rwa [Go.WideShapes.add_plain] at this
  · rw [List.drop_of_length_le (by omega)] at hj
    cases hj
theorem set_row {L : List Wd} {n k : Nat} {x : Wd} (hk : k = n + 1) (hn : n < L.length) : L.take n ++ [x] ++ L.drop k = L.set n x := by
  subst hk
  rw [List.set_eq_take_append_cons_drop, if_pos hn]
  simp
theorem flatW_pre : ∀ {L M : List Wd} {j : Nat} {u : Value}, (L.flatMap Wd.vs)[j]? = some u → ((L ++ M).flatMap Wd.vs)[j]? = some u := fun {L M j u} h => by
  rw [List.flatMap_append, List.getElem?_append_left (List.getElem?_eq_some_iff.1 h).1]
  exact h
theorem take_flat {L : List Wd} {n j : Nat} {u : Value} (h : ((L.take n).flatMap Wd.vs)[j]? = some u) : (L.flatMap Wd.vs)[j]? = some u := by
  have := flatW_pre (M := L.drop n) h
  rwa [List.take_append_drop] at this

set_option maxHeartbeats 8000000 in
theorem withWord_any (a : Option Addr) (c : Nat) (a' : Option Addr) (c' : Nat) (L : List Wd) (G : List Bool) (n : Nat) (hn : n < 24) (hcap : 24 ≤ c) (x : Wd) (w : World) (hM : MemS w a 24 a' 24 L G) :
    Calls Tryz.prog 91 #[.agg #[.slice a 24 c, .slice a' 24 c'], .int .i64 (n : Int), .agg #[.int .i64 x.n, .bool x.i, .int .i64 x.b, .int .i64 x.t, .int .i64 x.p, .int .i64 x.s]] w fun e w' => ∃ b d b', e = .returned (.agg #[.slice b 24 d, .slice b' 24 24]) ∧ 24 ≤ d ∧ AnsM b b' 24 24 (L.set n x) G w' ∧ (∀ k, On b k ∨ On b' k → w.heap.size ≤ k) ∧ Below w.heap.size w w' := by
  have hlw := hM.ws.2.1
  have hlg := hM.gs.2.1
  obtain ⟨kb, o, _, rfl, _, _, _⟩ := hM.ws.at (j := 0) (by omega)
  have hn0 : (0 : Int) ≤ (n : Int) := Int.natCast_nonneg _
  have hn1 : (n : Int) < 24 := by omega
  have hnc : (n : Int) ≤ (c : Int) := by omega
  have H := hid_mk (((((Hold.new w).push (argF w.heap.size (some ⟨kb, o, none⟩) 24 a' 24 L G) hM.arg).alloc (.cells #[.slice (some ⟨kb, o, none⟩) 24 c, .slice a' 24 c'] 40)).push (duoF w.heap.size (.slice (some ⟨kb, o, none⟩) 24 c) (.slice a' 24 c')) (Duo.new w _ _ _)).alloc (.cells #[.int .i64 x.n, .bool x.i, .int .i64 x.b, .int .i64 x.t, .int .i64 x.p, .int .i64 x.s] 38))
  have X0 := hid_mk (Six.second w (.cells #[.slice (some ⟨kb, o, none⟩) 24 c, .slice a' 24 c'] 40) x.n x.i x.b x.t x.p x.s 38)
  replace H := hid_mk ((H.out.push (sixF (w.heap.size + 1) x) X0.out).alloc (.cells #[.slice none 0 0, .slice none 0 0] 40))
  have S0 : Hid (Duo (((w.alloc (.cells #[.slice (some ⟨kb, o, none⟩) 24 c, .slice a' 24 c'] 40)).alloc (.cells #[.int .i64 x.n, .bool x.i, .int .i64 x.b, .int .i64 x.t, .int .i64 x.p, .int .i64 x.s] 38)).alloc (.cells #[.slice none 0 0, .slice none 0 0] 40)) (w.heap.size + 1 + 1) (.slice none 0 0) (.slice none 0 0)) := by
    have h := Duo.new ((w.alloc (.cells #[.slice (some ⟨kb, o, none⟩) 24 c, .slice a' 24 c'] 40)).alloc (.cells #[.int .i64 x.n, .bool x.i, .int .i64 x.b, .int .i64 x.t, .int .i64 x.p, .int .i64 x.s] 38)) (.slice none 0 0) (.slice none 0 0) 40
    rw [World.size_alloc, World.size_alloc] at h
    exact h
  clear hM X0
  go_enter Tryz.func91, Tryz.ntmps91
  go_upto_region 1 with fail
  generalize ((w.alloc (.cells #[.slice (some ⟨kb, o, none⟩) 24 c, .slice a' 24 c'] 40)).alloc (.cells #[.int .i64 x.n, .bool x.i, .int .i64 x.b, .int .i64 x.t, .int .i64 x.p, .int .i64 x.s] 38)).alloc (.cells #[.slice none 0 0, .slice none 0 0] 40) = W at H S0 ⊢
  replace H := hid_mk (H.out.push (spotF (w.heap.size + 1 + 1)) ⟨_, _, S0.out⟩)
  clear S0
  have ALL : Hid (∀ w', Hold w w' [spotF (w.heap.size + 1 + 1), sixF (w.heap.size + 1) x, duoF w.heap.size (.slice (some ⟨kb, o, none⟩) 24 c) (.slice a' 24 c'), argF w.heap.size (some ⟨kb, o, none⟩) 24 a' 24 L G] → (w'.cell? ⟨w.heap.size, 0, none⟩ = some (.slice (some ⟨kb, o, none⟩) 24 c) ∧ w'.cell? ⟨w.heap.size, 1, none⟩ = some (.slice a' 24 c') ∧ w'.cell? ⟨w.heap.size + 1, 0, none⟩ = some (.int .i64 x.n) ∧ w'.cell? ⟨w.heap.size + 1, 1, none⟩ = some (.bool x.i) ∧ w'.cell? ⟨w.heap.size + 1, 2, none⟩ = some (.int .i64 x.b) ∧ w'.cell? ⟨w.heap.size + 1, 3, none⟩ = some (.int .i64 x.t) ∧ w'.cell? ⟨w.heap.size + 1, 4, none⟩ = some (.int .i64 x.p) ∧ w'.cell? ⟨w.heap.size + 1, 5, none⟩ = some (.int .i64 x.s) ∧ Hid (Hold w w' [spotF (w.heap.size + 1 + 1), sixF (w.heap.size + 1) x, duoF w.heap.size (.slice (some ⟨kb, o, none⟩) 24 c) (.slice a' 24 c'), argF w.heap.size (some ⟨kb, o, none⟩) 24 a' 24 L G]))) := fun w' h => by
    have h1 := h.duo (.tail _ (.tail _ (.head _)))
    have h2 := h.six (.tail _ (.head _))
    exact ⟨h1.c0, h1.c1, h2.c0, h2.c1, h2.c2, h2.c3, h2.c4, h2.c5, h⟩
  have GET : Hid (∀ w', (w'.cell? ⟨w.heap.size, 0, none⟩ = some (.slice (some ⟨kb, o, none⟩) 24 c) ∧ w'.cell? ⟨w.heap.size, 1, none⟩ = some (.slice a' 24 c') ∧ w'.cell? ⟨w.heap.size + 1, 0, none⟩ = some (.int .i64 x.n) ∧ w'.cell? ⟨w.heap.size + 1, 1, none⟩ = some (.bool x.i) ∧ w'.cell? ⟨w.heap.size + 1, 2, none⟩ = some (.int .i64 x.b) ∧ w'.cell? ⟨w.heap.size + 1, 3, none⟩ = some (.int .i64 x.t) ∧ w'.cell? ⟨w.heap.size + 1, 4, none⟩ = some (.int .i64 x.p) ∧ w'.cell? ⟨w.heap.size + 1, 5, none⟩ = some (.int .i64 x.s) ∧ Hid (Hold w w' [spotF (w.heap.size + 1 + 1), sixF (w.heap.size + 1) x, duoF w.heap.size (.slice (some ⟨kb, o, none⟩) 24 c) (.slice a' 24 c'), argF w.heap.size (some ⟨kb, o, none⟩) 24 a' 24 L G])) → Hold w w' [spotF (w.heap.size + 1 + 1), sixF (w.heap.size + 1) x, duoF w.heap.size (.slice (some ⟨kb, o, none⟩) 24 c) (.slice a' 24 c'), argF w.heap.size (some ⟨kb, o, none⟩) 24 a' 24 L G]) := fun w' h => h.2.2.2.2.2.2.2.2
  have F0 := hid_mk H.out.drew
  have FA := hid_mk (H.out.alloc (.cells #[.int .i64 x.n, .bool x.i, .int .i64 x.b, .int .i64 x.t, .int .i64 x.p, .int .i64 x.s] 38)).drew
  have hd : Hid (∀ f ∈ [spotF (w.heap.size + 1 + 1), sixF (w.heap.size + 1) x, duoF w.heap.size (.slice (some ⟨kb, o, none⟩) 24 c) (.slice a' 24 c'), argF w.heap.size (some ⟨kb, o, none⟩) 24 a' 24 L G], ∀ k, f.S k → k < w.heap.size + 1 + 1 + 1) := fun f hf k hk => by
    simp only [List.mem_cons, List.not_mem_nil, or_false] at hf
    rcases hf with rfl | rfl | rfl | rfl
    · simp only [spotF] at hk; omega
    · simp only [sixF] at hk; omega
    · simp only [duoF] at hk; omega
    · simp only [argF] at hk; omega
  obtain ⟨_, _, hsW, _, _, _, _⟩ := H.out.spot (.head _)
  clear H
  go_region_held3 (fun w' => w'.cell? ⟨w.heap.size, 0, none⟩ = some (.slice (some ⟨kb, o, none⟩) 24 c) ∧ w'.cell? ⟨w.heap.size, 1, none⟩ = some (.slice a' 24 c') ∧ w'.cell? ⟨w.heap.size + 1, 0, none⟩ = some (.int .i64 x.n) ∧ w'.cell? ⟨w.heap.size + 1, 1, none⟩ = some (.bool x.i) ∧ w'.cell? ⟨w.heap.size + 1, 2, none⟩ = some (.int .i64 x.b) ∧ w'.cell? ⟨w.heap.size + 1, 3, none⟩ = some (.int .i64 x.t) ∧ w'.cell? ⟨w.heap.size + 1, 4, none⟩ = some (.int .i64 x.p) ∧ w'.cell? ⟨w.heap.size + 1, 5, none⟩ = some (.int .i64 x.s) ∧ Hid (Hold w w' [spotF (w.heap.size + 1 + 1), sixF (w.heap.size + 1) x, duoF w.heap.size (.slice (some ⟨kb, o, none⟩) 24 c) (.slice a' 24 c'), argF w.heap.size (some ⟨kb, o, none⟩) 24 a' 24 L G]))
    (first | (with_reducible assumption) | (((with_reducible refine ALL.out _ ?_); (first | (with_reducible exact F0.out) | (with_reducible exact FA.out) | ((with_reducible apply Hold.next ?_ KA.out); (with_reducible exact GET.out _ (by with_reducible assumption))) | fail))))
    (first
      | ((refine step_appW (by rfl) _ _ (by rfl) ⟨kb, o, none⟩ n n (L.take n) (by rfl) (by rw [List.length_take]; omega) (fun j u hj => ((GET.out _ (by with_reducible assumption)).arg (.tail _ (.tail _ (.tail _ (.head _))))).ws.flat j u (take_flat hj)) ⟨W.heap.size, 0, none⟩ 1 1 [x] (by rfl) rfl (World.news_of_block (cs := #[.int .i64 x.n, .bool x.i, .int .i64 x.b, .int .i64 x.t, .int .i64 x.p, .int .i64 x.s]) (t := 38) (fr := (0, 0)) (heap_alloc_new W _)) (by omega) (by omega) ?_); intro g cp wA hnA hOA hgA hcA hbA; have KA := hid_mk hbA; have NA := hid_mk hnA; have lA := hgA; have uA := hOA.lt; clear hbA hOA hgA hnA))
  have HE := hid_mk (GET.out _ (by with_reducible assumption))
  have hz : ((W.alloc (.cells #[.int .i64 x.n, .bool x.i, .int .i64 x.b, .int .i64 x.t, .int .i64 x.p, .int .i64 x.s] 38)).drew).heap.size = W.heap.size + 1 := by simp
  rw [hz] at NA lA
  clear ALL GET F0 FA KA hz
  go_upto_region 2 with fail
  have hg0 : w.heap.size + 1 + 1 + 1 ≤ g := by omega
  have ALL : Hid (∀ w', Hold w w' [spotF (w.heap.size + 1 + 1), sixF (w.heap.size + 1) x, duoF w.heap.size (.slice (some ⟨kb, o, none⟩) 24 c) (.slice a' 24 c'), argF w.heap.size (some ⟨kb, o, none⟩) 24 a' 24 L G] → (w'.cell? ⟨w.heap.size, 0, none⟩ = some (.slice (some ⟨kb, o, none⟩) 24 c) ∧ w'.cell? ⟨w.heap.size, 1, none⟩ = some (.slice a' 24 c') ∧ Hid (Hold w w' [spotF (w.heap.size + 1 + 1), sixF (w.heap.size + 1) x, duoF w.heap.size (.slice (some ⟨kb, o, none⟩) 24 c) (.slice a' 24 c'), argF w.heap.size (some ⟨kb, o, none⟩) 24 a' 24 L G]))) := fun w' h => by
    have h1 := h.duo (.tail _ (.tail _ (.head _)))
    exact ⟨h1.c0, h1.c1, h⟩
  have GET : Hid (∀ w', (w'.cell? ⟨w.heap.size, 0, none⟩ = some (.slice (some ⟨kb, o, none⟩) 24 c) ∧ w'.cell? ⟨w.heap.size, 1, none⟩ = some (.slice a' 24 c') ∧ Hid (Hold w w' [spotF (w.heap.size + 1 + 1), sixF (w.heap.size + 1) x, duoF w.heap.size (.slice (some ⟨kb, o, none⟩) 24 c) (.slice a' 24 c'), argF w.heap.size (some ⟨kb, o, none⟩) 24 a' 24 L G])) → Hold w w' [spotF (w.heap.size + 1 + 1), sixF (w.heap.size + 1) x, duoF w.heap.size (.slice (some ⟨kb, o, none⟩) 24 c) (.slice a' 24 c'), argF w.heap.size (some ⟨kb, o, none⟩) 24 a' 24 L G]) := fun w' h => h.2.2
  have WR : Hid (∀ w1 w2, Hold w w1 [spotF (w.heap.size + 1 + 1), sixF (w.heap.size + 1) x, duoF w.heap.size (.slice (some ⟨kb, o, none⟩) 24 c) (.slice a' 24 c'), argF w.heap.size (some ⟨kb, o, none⟩) 24 a' 24 L G] → KeepBut g w1 w2 → Hold w w2 [spotF (w.heap.size + 1 + 1), sixF (w.heap.size + 1) x, duoF w.heap.size (.slice (some ⟨kb, o, none⟩) 24 c) (.slice a' 24 c'), argF w.heap.size (some ⟨kb, o, none⟩) 24 a' 24 L G]) := fun w1 w2 h k => h.wrote (T := fun k => k = g) (KeptS.ofBut k rfl) (fun k e => by omega) (fun f hf k hk e => by have := hd.out f hf k hk; omega)
  have ST : Hid (∀ w1 u0 u1, Hold w w1 [spotF (w.heap.size + 1 + 1), sixF (w.heap.size + 1) x, duoF w.heap.size (.slice (some ⟨kb, o, none⟩) 24 c) (.slice a' 24 c'), argF w.heap.size (some ⟨kb, o, none⟩) 24 a' 24 L G] → Hold w ((w1.setCell ⟨w.heap.size + 1 + 1, 0, none⟩ u0).setCell ⟨w.heap.size + 1 + 1, 1, none⟩ u1) [spotF (w.heap.size + 1 + 1), sixF (w.heap.size + 1) x, duoF w.heap.size (.slice (some ⟨kb, o, none⟩) 24 c) (.slice a' 24 c'), argF w.heap.size (some ⟨kb, o, none⟩) 24 a' 24 L G]) := fun w1 u0 u1 h => h.store2 (by omega) (fun f hf k hk => by
    simp only [List.mem_cons, List.not_mem_nil, or_false] at hf
    rcases hf with rfl | rfl | rfl
    · simp only [sixF] at hk; omega
    · simp only [duoF] at hk; omega
    · simp only [argF] at hk; omega) u0 u1
  have F0 := hid_mk HE.out.drew
  have hsz : wA.drew.heap.size = wA.heap.size := by simp
  replace NA := hid_mk NA.out.drew
  clear HE hd
  obtain ⟨k, hk⟩ : ∃ k : Nat, k = n + 1 := ⟨_, rfl⟩
  have hwr : IntKind.i64.wrap ((n : Int) + 1) = (k : Int) := by
    rw [wrap_small _ (by omega) (by omega)]; omega
  have hk0 : (0 : Int) ≤ (k : Int) := Int.natCast_nonneg _
  have hk1 : (k : Int) ≤ 24 := by omega
  have hkc : (k : Int) ≤ (c : Int) := by omega
  have HK := hid_mk hk
  have HTA : Hid ((L.take n ++ [x]).length = n + 1) := hid_mk (by rw [List.length_append, List.length_take, List.length_singleton]; omega)
  have HTD : Hid ((L.drop k).length = 24 - k) := hid_mk (by rw [List.length_drop, hlw])
  have HKN : Hid (n + 1 + (24 - k) = 24) := hid_mk (by omega)
  clear hk
  have hnl : n < L.length := by omega
  have hbs : W.heap.size + 1 ≤ wA.drew.heap.size := by omega
  by_cases hck : c = k
  · have hck24 : k = 24 := by omega
    subst hck24 hck
    go_region_held3 (fun w' => w'.cell? ⟨w.heap.size, 0, none⟩ = some (.slice (some ⟨kb, o, none⟩) 24 24) ∧ w'.cell? ⟨w.heap.size, 1, none⟩ = some (.slice a' 24 c') ∧ Hid (Hold w w' [spotF (w.heap.size + 1 + 1), sixF (w.heap.size + 1) x, duoF w.heap.size (.slice (some ⟨kb, o, none⟩) 24 24) (.slice a' 24 c'), argF w.heap.size (some ⟨kb, o, none⟩) 24 a' 24 L G]))
      (first | (with_reducible assumption) | (((with_reducible refine ALL.out _ ?_); (first | (with_reducible exact F0.out) | ((with_reducible apply WR.out _ _ ?_ KA.out); (with_reducible exact GET.out _ (by with_reducible assumption))) | ((with_reducible apply Hold.next ?_ KG.out); (with_reducible exact GET.out _ (by with_reducible assumption))) | ((with_reducible apply Hold.next ?_ KL.out); (with_reducible exact GET.out _ (by with_reducible assumption))) | ((with_reducible apply ST.out _ _ _ (GET.out _ (by with_reducible assumption)))) | fail))))
      (first
        | ((refine step_ownW (by rfl) _ _ (by rfl) (W.heap.size + 1) g (n + 1) cp (L.take n ++ [x]) (by rfl) HTA.out NA.out ⟨kb, o, none⟩ _ _ (L.drop 24) (by rfl) HTD.out (fun j u hj => by rw [List.drop_of_length_le (by omega)] at hj; cases hj) 24 HKN.out (by omega) (by omega) (by omega) ?_); intro g2 cp2 wB hOB hgB hlB hxB hcB hkB; have KA := hid_mk hkB; have RA := hid_mk (set_row HK.out hnl ▸ hOB); have zB := hkB.size; (obtain ⟨u0, u1, hsp, q0, q1, q2, q3⟩ := (WR.out _ _ (GET.out _ (by with_reducible assumption)) hkB).spot (.head _)); clear hkB hOB)
        | (go_at_call 128; refine (goneIn_any _ a' c' G _ ((GET.out _ (by with_reducible assumption)).arg (.tail _ (.tail _ (.tail _ (.head _))))).gs).mono ?_; rintro e wG ⟨rfl, hbG⟩; have KG := hid_mk hbG; have zG := hbG.size; have RA := hid_mk (RA.out.below hbG); (obtain ⟨u0, u1, hsp, q0, q1, q2, q3⟩ := ((GET.out _ (by with_reducible assumption)).next hbG).spot (.head _)); clear hbG)
        | (go_at_call 129; refine (list_any G hlg _).mono ?_; rintro e wL ⟨gb, rfl, hgL, hOL, hbL⟩; have KL := hid_mk hbL; have RB := hid_mk hOL; have lB := hgL; have uB := hOL.lt; have zL := hbL.size; have RA := hid_mk (RA.out.below hbL); (obtain ⟨u0, u1, hsp, q0, q1, q2, q3⟩ := ((GET.out _ (by with_reducible assumption)).next hbL).spot (.head _)); clear hbL hOL hgL))
    have HE := hid_mk (GET.out _ (by with_reducible assumption))
    have hne : g2 ≠ gb := by omega
    have hg1 : w.heap.size + 1 + 1 < g2 := by omega
    have hg2 : w.heap.size + 1 + 1 < gb := by omega
    clear ALL GET F0 WR ST
    go_wp2
    refine bodyPost_ret (v := .agg #[.slice (some ⟨g2, 0, none⟩) 24 cp2, .slice (some ⟨gb, 0, none⟩) 24 24]) (by simp [results, Tryz.results91, go_sem, q0, q1]) rfl ⟨_, _, _, rfl, hcB, ?_, ?_, HE.out.bel⟩
    · exact ⟨.inr ⟨g2, rfl, by rw [List.length_set]; exact hlw, RA.out.keepB (((KeepBut.refl (w.heap.size + 1 + 1) _).setCell 0 _).setCell 1 _) (by omega)⟩, .inr ⟨gb, rfl, hlg, RB.out.keepB (((KeepBut.refl (w.heap.size + 1 + 1) _).setCell 0 _).setCell 1 _) (by omega)⟩, fun k h1 h2 => hne (((on_some g2 k).1 h1).trans ((on_some gb k).1 h2).symm)⟩
    · rintro k (hk | hk)
      · have := (on_some g2 k).1 hk; omega
      · have := (on_some gb k).1 hk; omega
  · have hck' : ¬ k = c := fun e => hck e.symm
    go_region_held3 (fun w' => w'.cell? ⟨w.heap.size, 0, none⟩ = some (.slice (some ⟨kb, o, none⟩) 24 c) ∧ w'.cell? ⟨w.heap.size, 1, none⟩ = some (.slice a' 24 c') ∧ Hid (Hold w w' [spotF (w.heap.size + 1 + 1), sixF (w.heap.size + 1) x, duoF w.heap.size (.slice (some ⟨kb, o, none⟩) 24 c) (.slice a' 24 c'), argF w.heap.size (some ⟨kb, o, none⟩) 24 a' 24 L G]))
      (first | (with_reducible assumption) | (((with_reducible refine ALL.out _ ?_); (first | (with_reducible exact F0.out) | ((with_reducible apply WR.out _ _ ?_ KA.out); (with_reducible exact GET.out _ (by with_reducible assumption))) | ((with_reducible apply Hold.next ?_ KG.out); (with_reducible exact GET.out _ (by with_reducible assumption))) | ((with_reducible apply Hold.next ?_ KL.out); (with_reducible exact GET.out _ (by with_reducible assumption))) | ((with_reducible apply ST.out _ _ _ (GET.out _ (by with_reducible assumption)))) | fail))))
      (first
        | ((refine step_ownW (by rfl) _ _ (by rfl) (W.heap.size + 1) g (n + 1) cp (L.take n ++ [x]) (by rfl) HTA.out NA.out ⟨kb, o + k * 6, none⟩ (24 - k) (c - k) (L.drop k) (by rfl) HTD.out (drop_cells ((GET.out _ (by with_reducible assumption)).arg (.tail _ (.tail _ (.tail _ (.head _))))).ws) 24 HKN.out (by omega) (by omega) (by omega) ?_); intro g2 cp2 wB hOB hgB hlB hxB hcB hkB; have KA := hid_mk hkB; have RA := hid_mk (set_row HK.out hnl ▸ hOB); have zB := hkB.size; (obtain ⟨u0, u1, hsp, q0, q1, q2, q3⟩ := (WR.out _ _ (GET.out _ (by with_reducible assumption)) hkB).spot (.head _)); clear hkB hOB)
        | (go_at_call 128; refine (goneIn_any _ a' c' G _ ((GET.out _ (by with_reducible assumption)).arg (.tail _ (.tail _ (.tail _ (.head _))))).gs).mono ?_; rintro e wG ⟨rfl, hbG⟩; have KG := hid_mk hbG; have zG := hbG.size; have RA := hid_mk (RA.out.below hbG); (obtain ⟨u0, u1, hsp, q0, q1, q2, q3⟩ := ((GET.out _ (by with_reducible assumption)).next hbG).spot (.head _)); clear hbG)
        | (go_at_call 129; refine (list_any G hlg _).mono ?_; rintro e wL ⟨gb, rfl, hgL, hOL, hbL⟩; have KL := hid_mk hbL; have RB := hid_mk hOL; have lB := hgL; have uB := hOL.lt; have zL := hbL.size; have RA := hid_mk (RA.out.below hbL); (obtain ⟨u0, u1, hsp, q0, q1, q2, q3⟩ := ((GET.out _ (by with_reducible assumption)).next hbL).spot (.head _)); clear hbL hOL hgL))
    have HE := hid_mk (GET.out _ (by with_reducible assumption))
    have hne : g2 ≠ gb := by omega
    have hg1 : w.heap.size + 1 + 1 < g2 := by omega
    have hg2 : w.heap.size + 1 + 1 < gb := by omega
    clear ALL GET F0 WR ST
    go_wp2
    refine bodyPost_ret (v := .agg #[.slice (some ⟨g2, 0, none⟩) 24 cp2, .slice (some ⟨gb, 0, none⟩) 24 24]) (by simp [results, Tryz.results91, go_sem, q0, q1]) rfl ⟨_, _, _, rfl, hcB, ?_, ?_, HE.out.bel⟩
    · exact ⟨.inr ⟨g2, rfl, by rw [List.length_set]; exact hlw, RA.out.keepB (((KeepBut.refl (w.heap.size + 1 + 1) _).setCell 0 _).setCell 1 _) (by omega)⟩, .inr ⟨gb, rfl, hlg, RB.out.keepB (((KeepBut.refl (w.heap.size + 1 + 1) _).setCell 0 _).setCell 1 _) (by omega)⟩, fun k h1 h2 => hne (((on_some g2 k).1 h1).trans ((on_some gb k).1 h2).symm)⟩
    · rintro k (hk | hk)
      · have := (on_some g2 k).1 hk; omega
      · have := (on_some gb k).1 hk; omega
end Go.Proofs.YtpkhnajhamnggaaGreatDoor

namespace Go.Proofs.YtpkhnajhamnggaaGreatDoor
open Go.ChangeShapes Go.WideShapes Go.ChangeAt Go.RowKit
set_option maxRecDepth 100000

theorem swp_none {L : List Wd} {G : List Bool} (h : mokB L G = false) (m : Int) : swpL L G m = [] := by simp [swpL, h]
theorem swp_out {L : List Wd} {G : List Bool} (h : mokB L G = true) {m : Int} (hm : ¬ (0 ≤ m ∧ m ≤ 23)) : swpL L G m = L := by unfold swpL inB; rw [h, decide_eq_false (by omega)]; rfl
theorem swp_in {L : List Wd} {G : List Bool} (h : mokB L G = true) {m : Int} (hm : 0 ≤ m ∧ m ≤ 23) : swpL L G m = L.set m.toNat (filW G (L.getD m.toNat wd0)) := by unfold swpL inB; rw [h, decide_eq_true (by omega)]; rfl
theorem drop_len (L : List Wd) (G : List Bool) (m : Int) : (keepL L G).length ≤ 24 ∧ (dropG L G m).length ≤ 24 := by
  cases h : mokB L G with
  | false => rw [keep_none h, drop_none h]; exact ⟨by simp, by simp⟩
  | true =>
    obtain ⟨h0, h1, _⟩ := mok_parts h
    rw [keep_some h]
    by_cases hm : 0 ≤ m ∧ m ≤ 23
    · rw [drop_in h hm, List.length_set]; omega
    · rw [drop_out h hm]; omega
theorem keepG_none {L : List Wd} {G : List Bool} (h : mokB L G = false) : keepG L G = [] := by simp [keepG, h]
theorem keepG_some {L : List Wd} {G : List Bool} (h : mokB L G = true) : keepG L G = G := by simp [keepG, h]
theorem swp_len24 (L : List Wd) (G : List Bool) (m : Int) : (swpL L G m).length ≤ 24 ∧ (keepG L G).length ≤ 24 := by
  cases h : mokB L G with
  | false => rw [keepG_none h, swp_none h]; exact ⟨by simp, by simp⟩
  | true =>
    obtain ⟨h0, h1, _⟩ := mok_parts h
    rw [keepG_some h]
    by_cases hm : 0 ≤ m ∧ m ≤ 23
    · rw [swp_in h hm, List.length_set]; omega
    · rw [swp_out h hm]; omega
theorem OutW.put {w : World} {q len : Nat} {L : List Wd} (h : OutW w q len len L) (hl : L.length = len) {i : Nat} (hi : i < len) (x : Wd) : OutW (w.setCells q (i * 6) x.vs) q len len (L.set i x) := by
  have := (h.row.put hl hi x).out
  rwa [Nat.zero_add] at this
theorem ans_row {w : World} {q : Nat} {a' : Option Addr} {n' : Nat} {L : List Wd} {G : List Bool} (h : AnsM (some ⟨q, 0, none⟩) a' 24 n' L G w) : OutW w q 24 24 L := by
  rcases h.ws with ⟨h0, _, _⟩ | ⟨q2, h1, _, hO⟩
  · cases h0
  · cases h1; exact hO
theorem sixCells (q o : Nat) (x : Wd) (w : World) : w.setCells q o x.vs = (((((w.setCell ⟨q, o, none⟩ (.int .i64 x.n)).setCell ⟨q, o + 1, none⟩ (.bool x.i)).setCell ⟨q, o + 2, none⟩ (.int .i64 x.b)).setCell ⟨q, o + 3, none⟩ (.int .i64 x.t)).setCell ⟨q, o + 4, none⟩ (.int .i64 x.p)).setCell ⟨q, o + 5, none⟩ (.int .i64 x.s) := rfl
set_option maxHeartbeats 8000000 in
theorem specSweep_any (a : Option Addr) (n0 c : Nat) (a' : Option Addr) (n0' c' : Nat) (L : List Wd) (G : List Bool) (m : Int) (w : World) (hM : MemS w a n0 a' n0' L G) :
    Calls Tryz.prog 52 #[.agg #[.slice a n0 c, .slice a' n0' c'], .int .i64 m] w fun e w' => ∃ b d b' d', e = .returned (.agg #[.slice b (swpL L G m).length d, .slice b' (keepG L G).length d']) ∧ AnsM b b' (swpL L G m).length (keepG L G).length (swpL L G m) (keepG L G) w' ∧ (∀ k, On b k ∨ On b' k → w.heap.size ≤ k) ∧ Below w.heap.size w w' := by
  have H := hid_mk ((((((Hold.new w).push (argF w.heap.size a n0 a' n0' L G) hM.arg).alloc (.cells #[.slice a n0 c, .slice a' n0' c'] 40)).push (duoF w.heap.size (.slice a n0 c) (.slice a' n0' c')) (Duo.new w _ _ _)).alloc (.cells #[.slice none 0 0, .slice none 0 0] 40)).push (duoF (w.heap.size + 1) (.slice none 0 0) (.slice none 0 0)) (by
    have h := Duo.new (w.alloc (.cells #[.slice a n0 c, .slice a' n0' c'] 40)) (.slice none 0 0) (.slice none 0 0) 40
    rw [World.size_alloc] at h
    exact h))
  have s1 := specMemoryOk_any a n0 c a' n0' c' L G
  have hlw := hM.ws.2.1
  have hlg := hM.gs.2.1
  clear hM
  generalize hw1 : (w.alloc (.cells #[.slice a n0 c, .slice a' n0' c'] 40)).alloc (.cells #[.slice none 0 0, .slice none 0 0] 40) = w1 at H
  cases hk : mokB L G with
  | false =>
    rw [keepG_none hk, swp_none hk, List.length_nil, List.length_nil]
    rw [hk] at s1
    have S1 := hid_mk s1
    clear s1 hk
    go_enter Tryz.func52, Tryz.ntmps52
    go_upto_region 1 with fail
    clear hw1
    obtain ⟨_, m0, m1, _, _⟩ := H.out.duo (.tail _ (.head _))
    go_wp2_with fail
    refine (S1.out _ (H.out.arg (.tail _ (.tail _ (.head _))))).mono ?_
    rintro e w2 ⟨rfl, hb2⟩
    replace H := hid_mk (H.out.next hb2)
    clear hb2 m0 m1 S1
    obtain ⟨_, r0, r1, f0, f1⟩ := H.out.duo (.head _)
    go_wp2
    refine bodyPost_ret (v := .agg #[.slice none 0 0, .slice none 0 0]) (by simp [results, Tryz.results52, go_sem, r0, r1]) rfl ⟨none, 0, none, 0, rfl, AnsM.nil _, fun k hk => ?_, below_two H.out.bel (by omega) _ _⟩
    rcases hk with hk | hk
    · exact absurd hk (on_none k)
    · exact absurd hk (on_none k)
  | true =>
    obtain ⟨h24, h24', _⟩ := mok_parts hk
    have e1 : n0 = 24 := by omega
    have e2 : n0' = 24 := by omega
    subst e1 e2
    rw [keepG_some hk]
    obtain ⟨D, hD⟩ : ∃ D, Hid (D = swpL L G m) := ⟨_, rfl⟩
    rw [← hD.out]
    have hDl : D.length = 24 := by
      rw [hD.out]
      by_cases hi : 0 ≤ m ∧ m ≤ 23
      · rw [swp_in hk hi, List.length_set]; exact h24
      · rw [swp_out hk hi]; exact h24
    rw [h24', hDl]
    rw [hk] at s1
    have S1 := hid_mk s1
    have s2 := in_any m 0 23
    have HK := hid_mk hk
    clear s1 hk
    go_enter Tryz.func52, Tryz.ntmps52
    go_upto_region 1 with fail
    clear hw1
    obtain ⟨_, m0, m1, _, _⟩ := H.out.duo (.tail _ (.head _))
    go_wp2_with fail
    refine (S1.out _ (H.out.arg (.tail _ (.tail _ (.head _))))).mono ?_
    rintro e w2 ⟨rfl, hb2⟩
    replace H := hid_mk (H.out.next hb2)
    clear hb2 m0 m1 S1
    obtain ⟨_, m0, m1, _, _⟩ := H.out.duo (.tail _ (.head _))
    go_wp2_with fail
    refine (l8Copy_any _ c _ c' L G _ (H.out.arg (.tail _ (.tail _ (.head _))))).mono ?_
    rintro e w3 ⟨b, d, b', d', rfl, hd, A3, hf3, hb3⟩
    have hlo : ∀ k, On b k ∨ On b' k → w.heap.size + 1 < k := fun k hk => by
      have h1 := hf3 k hk
      have h2 := (H.out.duo (.head _)).lt
      omega
    have hup : ∀ k, On b k ∨ On b' k → k < w3.heap.size := fun k hk => A3.lt hk
    have hlt : w.heap.size + 1 < w3.heap.size := Nat.lt_of_lt_of_le (H.out.duo (.head _)).lt hb3.size
    replace H := hid_mk ((((H.out.next hb3).push (ansF b b' 24 24 L G) A3).alloc (.cells #[.slice b 24 d, .slice b' 24 d'] 40)).push (duoF w3.heap.size (.slice b 24 d) (.slice b' 24 d')) (Duo.new _ _ _ _))
    clear hb3 m0 m1 hf3 A3
    go_upto_region 4 with fail
    generalize w3.alloc (.cells #[.slice b 24 d, .slice b' 24 d'] 40) = w4 at H ⊢
    generalize w3.heap.size = ro at H hup hlt ⊢
    have HLO := hid_mk hlo
    have HUP := hid_mk hup
    clear hlo hup
    by_cases hi : 0 ≤ m ∧ m ≤ 23
    · have hDD := hD.out.trans (swp_in HK.out hi)
      rw [decide_eq_true hi] at s2
      have S2 := hid_mk s2
      obtain ⟨hi0, hi1⟩ := hi
      obtain ⟨k, hkm⟩ : ∃ k : Nat, m.toNat = k := ⟨_, rfl⟩
      have hk24 : k < 24 := by omega
      have hmk : m = (k : Int) := by omega
      have A4 := hid_mk (H.out.ans (.tail _ (.head _)))
      obtain ⟨q, rfl, _, _⟩ : ∃ q, b = some ⟨q, 0, none⟩ ∧ L.length = 24 ∧ OutW w4 q 24 24 L := by
        rcases A4.out.ws with ⟨_, h0, _⟩ | h
        · omega
        · exact h
      obtain ⟨q', rfl, _, _⟩ : ∃ q, b' = some ⟨q, 0, none⟩ ∧ G.length = 24 ∧ OutB w4 q 24 24 G := by
        rcases A4.out.gs with ⟨_, h0, _⟩ | h
        · omega
        · exact h
      clear A4
      have hql := HLO.out q (.inl ((on_some q q).2 rfl))
      have hqu := HUP.out q (.inl ((on_some q q).2 rfl))
      obtain ⟨kb, o, u, rfl, hkb, hu, _⟩ := (H.out.arg (.tail _ (.tail _ (.tail _ (.tail _ (.head _)))))).ws.at hk24
      have UAT : Hid (∀ w', Hold w w' [duoF ro (.slice (some ⟨q, 0, none⟩) 24 d) (.slice (some ⟨q', 0, none⟩) 24 d'), duoF (w.heap.size + 1) (.slice none 0 0) (.slice none 0 0), duoF w.heap.size (.slice (some ⟨kb, o, none⟩) 24 c) (.slice a' 24 c'), argF w.heap.size (some ⟨kb, o, none⟩) 24 a' 24 L G] → WordAt w' kb (o + k * 6) u) := fun w' h => by
        obtain ⟨kb2, o2, u2, e2, _, hu2, hat2⟩ := (h.arg (.tail _ (.tail _ (.tail _ (.head _))))).ws.at hk24
        rw [hu] at hu2
        obtain rfl := Option.some.inj hu2
        simp only [Option.some.injEq, Addr.mk.injEq, and_true] at e2
        obtain ⟨rfl, rfl⟩ := e2
        exact hat2
      have hgd : L.getD k wd0 = u := by simp [List.getD, hu]
      subst hmk
      rw [hkm, hgd] at hDD
      have s3 := fun w hG => specFilter_any (.slice (some ⟨kb, o, none⟩) 24 c) a' 24 c' G u w hG
      generalize filW G u = v at hDD s3
      simp only [wdV] at s3
      have hk24i : (k : Int) < 24 := by omega
      have S3 := hid_mk s3
      have HD := hid_mk hDD
      obtain ⟨_, o0, o1, _, _⟩ := H.out.duo (.head _)
      have ALL : Hid (∀ w', Hold w w' [duoF ro (.slice (some ⟨q, 0, none⟩) 24 d) (.slice (some ⟨q', 0, none⟩) 24 d'), duoF (w.heap.size + 1) (.slice none 0 0) (.slice none 0 0), duoF w.heap.size (.slice (some ⟨kb, o, none⟩) 24 c) (.slice a' 24 c'), argF w.heap.size (some ⟨kb, o, none⟩) 24 a' 24 L G] → (w'.cell? ⟨ro, 0, none⟩ = some (.slice (some ⟨q, 0, none⟩) 24 d) ∧ w'.cell? ⟨ro, 1, none⟩ = some (.slice (some ⟨q', 0, none⟩) 24 d') ∧ w'.cell? ⟨w.heap.size, 0, none⟩ = some (.slice (some ⟨kb, o, none⟩) 24 c) ∧ w'.cell? ⟨w.heap.size, 1, none⟩ = some (.slice a' 24 c') ∧ w'.cell? ⟨kb, o + k * 6, none⟩ = some (.int .i64 u.n) ∧ w'.cell? ⟨kb, o + k * 6 + 1, none⟩ = some (.bool u.i) ∧ w'.cell? ⟨kb, o + k * 6 + 2, none⟩ = some (.int .i64 u.b) ∧ w'.cell? ⟨kb, o + k * 6 + 3, none⟩ = some (.int .i64 u.t) ∧ w'.cell? ⟨kb, o + k * 6 + 4, none⟩ = some (.int .i64 u.p) ∧ w'.cell? ⟨kb, o + k * 6 + 5, none⟩ = some (.int .i64 u.s) ∧ Hid (Hold w w' [duoF ro (.slice (some ⟨q, 0, none⟩) 24 d) (.slice (some ⟨q', 0, none⟩) 24 d'), duoF (w.heap.size + 1) (.slice none 0 0) (.slice none 0 0), duoF w.heap.size (.slice (some ⟨kb, o, none⟩) 24 c) (.slice a' 24 c'), argF w.heap.size (some ⟨kb, o, none⟩) 24 a' 24 L G]))) := fun w' h => by
        have h1 := h.duo (.head _)
        have h2 := h.duo (.tail _ (.tail _ (.head _)))
        obtain ⟨d0, d1, d2, d3, d4, d5⟩ := UAT.out w' h
        exact ⟨h1.c0, h1.c1, h2.c0, h2.c1, d0, d1, d2, d3, d4, d5, h⟩
      have GET : Hid (∀ w', (w'.cell? ⟨ro, 0, none⟩ = some (.slice (some ⟨q, 0, none⟩) 24 d) ∧ w'.cell? ⟨ro, 1, none⟩ = some (.slice (some ⟨q', 0, none⟩) 24 d') ∧ w'.cell? ⟨w.heap.size, 0, none⟩ = some (.slice (some ⟨kb, o, none⟩) 24 c) ∧ w'.cell? ⟨w.heap.size, 1, none⟩ = some (.slice a' 24 c') ∧ w'.cell? ⟨kb, o + k * 6, none⟩ = some (.int .i64 u.n) ∧ w'.cell? ⟨kb, o + k * 6 + 1, none⟩ = some (.bool u.i) ∧ w'.cell? ⟨kb, o + k * 6 + 2, none⟩ = some (.int .i64 u.b) ∧ w'.cell? ⟨kb, o + k * 6 + 3, none⟩ = some (.int .i64 u.t) ∧ w'.cell? ⟨kb, o + k * 6 + 4, none⟩ = some (.int .i64 u.p) ∧ w'.cell? ⟨kb, o + k * 6 + 5, none⟩ = some (.int .i64 u.s) ∧ Hid (Hold w w' [duoF ro (.slice (some ⟨q, 0, none⟩) 24 d) (.slice (some ⟨q', 0, none⟩) 24 d'), duoF (w.heap.size + 1) (.slice none 0 0) (.slice none 0 0), duoF w.heap.size (.slice (some ⟨kb, o, none⟩) 24 c) (.slice a' 24 c'), argF w.heap.size (some ⟨kb, o, none⟩) 24 a' 24 L G])) → Hold w w' [duoF ro (.slice (some ⟨q, 0, none⟩) 24 d) (.slice (some ⟨q', 0, none⟩) 24 d'), duoF (w.heap.size + 1) (.slice none 0 0) (.slice none 0 0), duoF w.heap.size (.slice (some ⟨kb, o, none⟩) 24 c) (.slice a' 24 c'), argF w.heap.size (some ⟨kb, o, none⟩) 24 a' 24 L G]) := fun w' h => h.2.2.2.2.2.2.2.2.2.2
      clear s2 s3 hDD hu hgd
      go_wp2_with fail
      refine (S2.out _).mono ?_
      rintro e w' ⟨rfl, hw'⟩
      subst w'
      go_upto_region 5 with fail
      clear o0 o1
      have F0 : Hid (Hold w w4.drew [duoF ro (.slice (some ⟨q, 0, none⟩) 24 d) (.slice (some ⟨q', 0, none⟩) 24 d'), duoF (w.heap.size + 1) (.slice none 0 0) (.slice none 0 0), duoF w.heap.size (.slice (some ⟨kb, o, none⟩) 24 c) (.slice a' 24 c'), argF w.heap.size (some ⟨kb, o, none⟩) 24 a' 24 L G]) := hid_mk (H.out.drew.sub fun f hf => by
        simp only [List.mem_cons, List.not_mem_nil, or_false] at hf ⊢
        rcases hf with rfl | rfl | rfl | rfl
        · exact .inl rfl
        · exact .inr (.inr (.inl rfl))
        · exact .inr (.inr (.inr (.inl rfl)))
        · exact .inr (.inr (.inr (.inr rfl))))
      have FA := hid_mk (H.out.drew.ans (.tail _ (.head _)))
      have WS : Hid (∀ w1 v0 v1 v2 v3 v4 v5, Hold w w1 [duoF ro (.slice (some ⟨q, 0, none⟩) 24 d) (.slice (some ⟨q', 0, none⟩) 24 d'), duoF (w.heap.size + 1) (.slice none 0 0) (.slice none 0 0), duoF w.heap.size (.slice (some ⟨kb, o, none⟩) 24 c) (.slice a' 24 c'), argF w.heap.size (some ⟨kb, o, none⟩) 24 a' 24 L G] → Hold w ((((((w1.setCell ⟨q, k * 6, none⟩ v0).setCell ⟨q, k * 6 + 1, none⟩ v1).setCell ⟨q, k * 6 + 2, none⟩ v2).setCell ⟨q, k * 6 + 3, none⟩ v3).setCell ⟨q, k * 6 + 4, none⟩ v4).setCell ⟨q, k * 6 + 5, none⟩ v5) [duoF ro (.slice (some ⟨q, 0, none⟩) 24 d) (.slice (some ⟨q', 0, none⟩) 24 d'), duoF (w.heap.size + 1) (.slice none 0 0) (.slice none 0 0), duoF w.heap.size (.slice (some ⟨kb, o, none⟩) 24 c) (.slice a' 24 c'), argF w.heap.size (some ⟨kb, o, none⟩) 24 a' 24 L G]) := fun w1 v0 v1 v2 v3 v4 v5 h =>
        h.wrote (T := fun k => k = q) (KeptS.ofBut (((((((KeepBut.refl q w1).setCell _ v0).setCell _ v1).setCell _ v2).setCell _ v3).setCell _ v4).setCell _ v5) rfl) (fun i e => by omega) (fun f hf i hi e => by
          simp only [List.mem_cons, List.not_mem_nil, or_false] at hf
          rcases hf with rfl | rfl | rfl | rfl
          · simp only [duoF] at hi; omega
          · simp only [duoF] at hi; omega
          · simp only [duoF] at hi; omega
          · simp only [argF] at hi; omega)
      clear H
      go_region_held3 (fun w' => w'.cell? ⟨ro, 0, none⟩ = some (.slice (some ⟨q, 0, none⟩) 24 d) ∧ w'.cell? ⟨ro, 1, none⟩ = some (.slice (some ⟨q', 0, none⟩) 24 d') ∧ w'.cell? ⟨w.heap.size, 0, none⟩ = some (.slice (some ⟨kb, o, none⟩) 24 c) ∧ w'.cell? ⟨w.heap.size, 1, none⟩ = some (.slice a' 24 c') ∧ w'.cell? ⟨kb, o + k * 6, none⟩ = some (.int .i64 u.n) ∧ w'.cell? ⟨kb, o + k * 6 + 1, none⟩ = some (.bool u.i) ∧ w'.cell? ⟨kb, o + k * 6 + 2, none⟩ = some (.int .i64 u.b) ∧ w'.cell? ⟨kb, o + k * 6 + 3, none⟩ = some (.int .i64 u.t) ∧ w'.cell? ⟨kb, o + k * 6 + 4, none⟩ = some (.int .i64 u.p) ∧ w'.cell? ⟨kb, o + k * 6 + 5, none⟩ = some (.int .i64 u.s) ∧ Hid (Hold w w' [duoF ro (.slice (some ⟨q, 0, none⟩) 24 d) (.slice (some ⟨q', 0, none⟩) 24 d'), duoF (w.heap.size + 1) (.slice none 0 0) (.slice none 0 0), duoF w.heap.size (.slice (some ⟨kb, o, none⟩) 24 c) (.slice a' 24 c'), argF w.heap.size (some ⟨kb, o, none⟩) 24 a' 24 L G]))
        (first | (with_reducible assumption) | (((with_reducible refine ALL.out _ ?_); (first | (with_reducible exact F0.out) | ((with_reducible apply Hold.next ?_ KF.out); (with_reducible exact GET.out _ (by with_reducible assumption))) | (with_reducible exact WS.out _ _ _ _ _ _ _ (GET.out _ (by with_reducible assumption))) | fail))))
        (first
          | (go_at_call 100; refine (S3.out _ ((GET.out _ (by with_reducible assumption)).arg (.tail _ (.tail _ (.tail _ (.head _))))).gs).mono ?_; rintro e wF ⟨rfl, hbF⟩; have KF := hid_mk hbF; have A6 := hid_mk (FA.out.below hbF); have O6 := hid_mk (ans_row A6.out); (obtain ⟨x0, e0⟩ := Option.isSome_iff_exists.1 (O6.out.has (k * 6) (by omega))); (obtain ⟨x1, e1⟩ := Option.isSome_iff_exists.1 (O6.out.has (k * 6 + 1) (by omega))); (obtain ⟨x2, e2⟩ := Option.isSome_iff_exists.1 (O6.out.has (k * 6 + 2) (by omega))); (obtain ⟨x3, e3⟩ := Option.isSome_iff_exists.1 (O6.out.has (k * 6 + 3) (by omega))); (obtain ⟨x4, e4⟩ := Option.isSome_iff_exists.1 (O6.out.has (k * 6 + 4) (by omega))); (obtain ⟨x5, e5⟩ := Option.isSome_iff_exists.1 (O6.out.has (k * 6 + 5) (by omega))); have y0 := O6.out.fr (k * 6) (by omega); have y1 := O6.out.fr (k * 6 + 1) (by omega); have y2 := O6.out.fr (k * 6 + 2) (by omega); have y3 := O6.out.fr (k * 6 + 3) (by omega); have y4 := O6.out.fr (k * 6 + 4) (by omega); have y5 := O6.out.fr (k * 6 + 5) (by omega); clear hbF))
      have HE := hid_mk (GET.out _ (by with_reducible assumption))
      have A7 : Hid (AnsM (some ⟨q, 0, none⟩) (some ⟨q', 0, none⟩) 24 24 D G (wF.setCells q (k * 6) v.vs)) := by
        have hne : q ≠ q' := fun e => A6.out.ne q ((on_some q q).2 rfl) ((on_some q' q).2 e.symm)
        refine ⟨.inr ⟨q, rfl, hDl, ?_⟩, ?_, A6.out.ne⟩
        · rw [HD.out]; exact O6.out.put h24 hk24 v
        · exact A6.out.gs.ofBlock (by rw [size_setCells]; exact Nat.le_refl _) fun i hi ho => (KeepBut.setCells v.vs (k * 6) wF).block i hi fun e => hne (e.symm.trans ((on_some q' i).1 ho).symm)
      rw [sixCells] at A7
      clear ALL GET WS F0 FA e0 e1 e2 e3 e4 e5 y0 y1 y2 y3 y4 y5
      go_upto_region 6 with fail
      generalize (((((wF.setCell ⟨q, k * 6, none⟩ (.int .i64 v.n)).setCell ⟨q, k * 6 + 1, none⟩ (.bool v.i)).setCell ⟨q, k * 6 + 2, none⟩ (.int .i64 v.b)).setCell ⟨q, k * 6 + 3, none⟩ (.int .i64 v.t)).setCell ⟨q, k * 6 + 4, none⟩ (.int .i64 v.p)).setCell ⟨q, k * 6 + 5, none⟩ (.int .i64 v.s) = w5 at A7 HE ⊢
      obtain ⟨_, o0, o1, _, _⟩ := HE.out.duo (.head _)
      obtain ⟨_, r0, r1, f0, f1⟩ := HE.out.duo (.tail _ (.head _))
      go_wp2
      refine bodyPost_ret (v := .agg #[.slice (some ⟨q, 0, none⟩) 24 d, .slice (some ⟨q', 0, none⟩) 24 d']) (by simp [results, Tryz.results52, go_sem, r0, r1]) rfl ⟨_, d, _, d', rfl, ?_, fun k hk => ?_, below_two HE.out.bel (by omega) _ _⟩
      · exact A7.out.two (fun k hk => by have := HLO.out k hk; omega) _ _
      · have := HLO.out k hk; omega
    · have hDD := hD.out.trans (swp_out HK.out hi)
      subst hDD
      rw [decide_eq_false hi] at s2
      have S2 := hid_mk s2
      obtain ⟨_, o0, o1, _, _⟩ := H.out.duo (.head _)
      obtain ⟨_, r0, r1, f0, f1⟩ := H.out.duo (.tail _ (.tail _ (.head _)))
      clear s2
      go_wp2_with fail
      refine (S2.out _).mono ?_
      rintro e w' ⟨rfl, hw'⟩
      subst w'
      go_wp2
      refine bodyPost_ret (v := .agg #[.slice b 24 d, .slice b' 24 d']) (by simp [results, Tryz.results52, go_sem, r0, r1]) rfl ⟨b, d, b', d', rfl, ?_, fun k hk => ?_, below_two H.out.bel (by omega) _ _⟩
      · exact (H.out.ans (.tail _ (.head _))).two (fun k hk => by have := HLO.out k hk; omega) _ _
      · have := HLO.out k hk; omega

end Go.Proofs.YtpkhnajhamnggaaGreatDoor

namespace Go.Proofs.YtpkhnajhamnggaaGreatDoor
open Go.ChangeShapes Go.WideShapes Go.ChangeAt Go.RowKit
set_option maxRecDepth 100000

theorem eg_gone : Tryz.prog.eqGuardType Tryz.prog.depth 152 = false := by kernel_rfl
theorem plain_bool : Tryz.prog.plainKey 4 = true := by kernel_rfl
theorem cells_bool1 : Tryz.prog.cellsOf 4 = 1 := by kernel_rfl
theorem bls_at {G : List Bool} {i : Nat} (h : i < G.length) : (bls G).toArray[i]? = some (.bool (G.getD i false)) := by
  rw [List.getElem?_toArray, bls, List.getElem?_map, List.getElem?_eq_getElem h, List.getD_eq_getElem?_getD, List.getElem?_eq_getElem h]
  rfl
theorem items_bls (X Y : List Bool) (w : World) : ∀ is : List Nat, (∀ i ∈ is, i < X.length ∧ i < Y.length) →
    (Op.eqItems 9999 4 1 (bls X).toArray (bls Y).toArray is).run Tryz.prog w = .ok (is.all fun i => X.getD i false == Y.getD i false) w
  | [], _ => rfl
  | i :: is, h => by
    have h0 := h i (by simp)
    have ih := items_bls X Y w is fun j hj => h j (by simp [hj])
    have p1 := run_part_plain (P := Tryz.prog) w plain_bool (bls_at h0.1)
    have p2 := run_part_plain (P := Tryz.prog) w plain_bool (bls_at h0.2)
    have p3 := run_equalIn_bool (P := Tryz.prog) w 9998 4 (X.getD i false) (Y.getD i false) Tryz.underlying4
    simp only [Op.eqItems, Sem.run_bind, Nat.mul_one, p1, p2, p3, Result.andThen_ok]
    cases hx : (X.getD i false == Y.getD i false) with
    | false =>
      rw [List.all_cons, hx]
      simp only [Bool.not_false, if_true, Sem.run_pure, Bool.false_and]
    | true =>
      rw [List.all_cons, hx]
      simp only [Bool.not_true, Bool.false_eq_true, if_false, Bool.true_and]
      exact ih
/-- Whether nothing is gone. -/
def noneGone (G : List Bool) : Bool := (List.range 24).all fun i => G.getD i false == (List.replicate 24 false).getD i false
theorem eql_gone (G : List Bool) (hG : G.length = 24) (w : World) : (binOp .eql 152 (.agg (bls G).toArray) (.agg zs24)).run Tryz.prog w = .ok (.bool (noneGone G)) w := by
  obtain ⟨i, hi, _, _, _⟩ := info_parts infoB
  rw [run_eql_struct, run_equalIn_array w 9999 _ _ Tryz.underlying152 hi, cells_bool1, show zs24 = (bls (List.replicate 24 false)).toArray from rfl, items_bls G _ w _ (fun j hj => by
    have := List.mem_range.1 hj
    rw [hG, List.length_replicate]
    omega)]
  rfl
theorem gone_none {G : List Bool} (hG : G.length = 24) (h : noneGone G = true) (x : Wd) : filW G x = x := by
  have hb : goneB G x.b = false := by
    unfold goneB
    by_cases hx : 0 ≤ x.b ∧ x.b ≤ (G.length : Int) - 1
    · have := List.all_eq_true.1 h x.b.toNat (List.mem_range.2 (by omega))
      have hr : (List.replicate 24 false).getD x.b.toNat false = false := by
        rw [List.getD_eq_getElem?_getD, List.getElem?_replicate_of_lt (by omega)]
        rfl
      rw [hr] at this
      have h2 : G.getD x.b.toNat false = false := by simpa using this
      rw [h2, Bool.and_false]
    · rw [decide_eq_false hx, Bool.false_and]
  unfold filW
  rw [hb, Bool.and_false]
  rfl
theorem swp_same {L : List Wd} {G : List Bool} (h : mokB L G = true) (hG : noneGone G = true) (m : Int) : swpL L G m = L := by
  obtain ⟨h0, h1, _⟩ := mok_parts h
  by_cases hm : 0 ≤ m ∧ m ≤ 23
  · rw [swp_in h hm, gone_none h1 hG, List.getD_eq_getElem?_getD, List.getElem?_eq_getElem (by omega)]
    simp
  · exact swp_out h hm

set_option maxHeartbeats 8000000 in
theorem implSweep_any (a : Option Addr) (n0 c : Nat) (a' : Option Addr) (n0' c' : Nat) (L : List Wd) (G : List Bool) (m : Int) (hcap : n0 ≤ c) (w : World) (hM : MemS w a n0 a' n0' L G) :
    Calls Tryz.prog 103 #[.agg #[.slice a n0 c, .slice a' n0' c'], .int .i64 m] w fun e w' => ∃ b d b' d', e = .returned (.agg #[.slice b (swpL L G m).length d, .slice b' (keepG L G).length d']) ∧ AnsM b b' (swpL L G m).length (keepG L G).length (swpL L G m) (keepG L G) w' ∧ (∀ k, On b k ∨ On b' k → w.heap.size ≤ k) ∧ Below w.heap.size w w' := by
  have H := hid_mk ((((((Hold.new w).push (argF w.heap.size a n0 a' n0' L G) hM.arg).alloc (.cells #[.slice a n0 c, .slice a' n0' c'] 40)).push (duoF w.heap.size (.slice a n0 c) (.slice a' n0' c')) (Duo.new w _ _ _)).alloc (.cells #[.slice none 0 0, .slice none 0 0] 40)).push (duoF (w.heap.size + 1) (.slice none 0 0) (.slice none 0 0)) (by
    have h := Duo.new (w.alloc (.cells #[.slice a n0 c, .slice a' n0' c'] 40)) (.slice none 0 0) (.slice none 0 0) 40
    rw [World.size_alloc] at h
    exact h))
  have s1 := implMemoryOk_any a n0 c a' n0' c' L G
  have hlw := hM.ws.2.1
  have hlg := hM.gs.2.1
  clear hM
  generalize hw1 : (w.alloc (.cells #[.slice a n0 c, .slice a' n0' c'] 40)).alloc (.cells #[.slice none 0 0, .slice none 0 0] 40) = w1 at H
  cases hk : mokB L G with
  | false =>
    rw [keepG_none hk, swp_none hk, List.length_nil, List.length_nil]
    rw [hk] at s1
    have S1 := hid_mk s1
    clear s1 hk
    go_enter Tryz.func103, Tryz.ntmps103
    go_upto_region 1 with fail
    clear hw1
    obtain ⟨_, m0, m1, _, _⟩ := H.out.duo (.tail _ (.head _))
    go_wp2_with fail
    refine (S1.out _ (H.out.arg (.tail _ (.tail _ (.head _))))).mono ?_
    rintro e w2 ⟨rfl, hb2⟩
    replace H := hid_mk (H.out.next hb2)
    clear hb2 m0 m1 S1
    obtain ⟨_, r0, r1, f0, f1⟩ := H.out.duo (.head _)
    go_wp2
    refine bodyPost_ret (v := .agg #[.slice none 0 0, .slice none 0 0]) (by simp [results, Tryz.results103, go_sem, r0, r1]) rfl ⟨none, 0, none, 0, rfl, AnsM.nil _, fun k hk => ?_, below_two H.out.bel (by omega) _ _⟩
    rcases hk with hk | hk
    · exact absurd hk (on_none k)
    · exact absurd hk (on_none k)
  | true =>
    obtain ⟨h24, h24', _⟩ := mok_parts hk
    have e1 : n0 = 24 := by omega
    have e2 : n0' = 24 := by omega
    subst e1 e2
    rw [keepG_some hk]
    obtain ⟨D, hD⟩ : ∃ D, Hid (D = swpL L G m) := ⟨_, rfl⟩
    rw [← hD.out]
    have hDl : D.length = 24 := by
      rw [hD.out]
      by_cases hi : 0 ≤ m ∧ m ≤ 23
      · rw [swp_in hk hi, List.length_set]; exact h24
      · rw [swp_out hk hi]; exact h24
    rw [h24', hDl]
    rw [hk] at s1
    have S1 := hid_mk s1
    have s2 := isNumber_any m 24
    simp only [show (24 : Int) - 1 = 23 from rfl] at s2
    have HK := hid_mk hk
    clear s1 hk
    have hlt : w.heap.size + 1 < w1.heap.size := (H.out.duo (.head _)).lt
    have s4 := fun w hM => asItWas_c a c a' c' L G w hM
    have S4 := hid_mk s4
    clear s4
    go_enter Tryz.func103, Tryz.ntmps103
    go_upto_region 1 with fail
    clear hw1
    obtain ⟨_, m0, m1, _, _⟩ := H.out.duo (.tail _ (.head _))
    go_wp2_with fail
    refine (S1.out _ (H.out.arg (.tail _ (.tail _ (.head _))))).mono ?_
    rintro e w2 ⟨rfl, hb2⟩
    replace H := hid_mk (H.out.next hb2)
    have hlt2 : w.heap.size + 1 < w2.heap.size := Nat.lt_of_lt_of_le hlt hb2.size
    clear hb2 m0 m1 S1 hlt
    by_cases hi : 0 ≤ m ∧ m ≤ 23
    · rw [decide_eq_true hi] at s2
      have S2 := hid_mk s2
      clear s2
      have hDD := hD.out.trans (swp_in HK.out hi)
      obtain ⟨hi0, hi1⟩ := hi
      obtain ⟨k, hkm⟩ : ∃ k : Nat, m.toNat = k := ⟨_, rfl⟩
      have hk24 : k < 24 := by omega
      have hmk : m = (k : Int) := by omega
      have hq := eql_gone G h24'
      have eg := eg_gone
      have HN : Hid (noneGone G = true → D = L) := fun hg => hD.out.trans (swp_same HK.out hg m)
      generalize noneGone G = z at hq HN
      rw [hkm] at hDD
      subst hmk
      have hk24i : (k : Int) < 24 := by omega
      have HD := hid_mk hDD
      clear hDD
      go_wp2_with fail
      refine (S2.out _).mono ?_
      rintro e w' ⟨rfl, hw'⟩
      subst w'
      obtain ⟨_, m0, m1, _, _⟩ := H.out.duo (.tail _ (.head _))
      go_wp2_with fail
      refine (goneIn_any _ a' c' G _ (H.out.arg (.tail _ (.tail _ (.head _)))).gs).mono ?_
      rintro e w3 ⟨rfl, hb3⟩
      replace H := hid_mk (H.out.next hb3)
      have hlt3 : w.heap.size + 1 < w3.heap.size := Nat.lt_of_lt_of_le hlt2 hb3.size
      clear hb3 m0 m1 hlt2
      unfold zs24 at hq
      cases z with
      | true =>
        obtain rfl : D = L := HN.out rfl
        clear HN HD
        obtain ⟨_, m0, m1, _, _⟩ := H.out.duo (.tail _ (.head _))
        go_wp2_with fail
        refine (S4.out _ (H.out.arg (.tail _ (.tail _ (.head _))))).mono ?_
        rintro e w4 ⟨b, d, b', d', rfl, hd, A4, hf4, hb4⟩
        replace H := hid_mk (H.out.next hb4)
        have HF := hid_mk hf4
        clear hb4 m0 m1 hf4 hq
        obtain ⟨_, r0, r1, f0, f1⟩ := H.out.duo (.head _)
        go_wp2
        refine bodyPost_ret (v := .agg #[.slice b 24 d, .slice b' 24 d']) (by simp [results, Tryz.results103, go_sem, r0, r1]) rfl ⟨b, d, b', d', rfl, ?_, fun k hk => ?_, below_two H.out.bel (by omega) _ _⟩
        · exact A4.two (fun k hk => by have := HF.out k hk; omega) _ _
        · have := HF.out k hk; omega
      | false =>
        clear HN S4
        obtain ⟨kb, o, u, rfl, hkb, hu, _⟩ := (H.out.arg (.tail _ (.tail _ (.head _)))).ws.at hk24
        have hgd : L.getD k wd0 = u := by simp [List.getD, hu]
        have HD2 := HD.out
        rw [hgd] at HD2
        clear HD
        have s3 := fun w hG => implFilter_any (.slice (some ⟨kb, o, none⟩) 24 c) a' 24 c' G u w hG
        generalize filW G u = v at HD2 s3
        have HD := hid_mk HD2
        simp only [wdV] at s3
        have S3 := hid_mk s3
        clear s3 HD2 hgd
        replace H := hid_mk (H.out.tail.push (spotF (w.heap.size + 1)) ⟨_, _, H.out.duo (.head _)⟩)
        have ALL : Hid (∀ w', Hold w w' [spotF (w.heap.size + 1), duoF w.heap.size (.slice (some ⟨kb, o, none⟩) 24 c) (.slice a' 24 c'), argF w.heap.size (some ⟨kb, o, none⟩) 24 a' 24 L G] → (w'.cell? ⟨w.heap.size, 0, none⟩ = some (.slice (some ⟨kb, o, none⟩) 24 c) ∧ w'.cell? ⟨w.heap.size, 1, none⟩ = some (.slice a' 24 c') ∧ w'.cell? ⟨kb, o + k * 6, none⟩ = some (.int .i64 u.n) ∧ w'.cell? ⟨kb, o + k * 6 + 1, none⟩ = some (.bool u.i) ∧ w'.cell? ⟨kb, o + k * 6 + 2, none⟩ = some (.int .i64 u.b) ∧ w'.cell? ⟨kb, o + k * 6 + 3, none⟩ = some (.int .i64 u.t) ∧ w'.cell? ⟨kb, o + k * 6 + 4, none⟩ = some (.int .i64 u.p) ∧ w'.cell? ⟨kb, o + k * 6 + 5, none⟩ = some (.int .i64 u.s) ∧ Hid (Hold w w' [spotF (w.heap.size + 1), duoF w.heap.size (.slice (some ⟨kb, o, none⟩) 24 c) (.slice a' 24 c'), argF w.heap.size (some ⟨kb, o, none⟩) 24 a' 24 L G]))) := fun w' h => by
          have h2 := h.duo (.tail _ (.head _))
          obtain ⟨kb2, o2, u2, e2, _, hu2, hat2⟩ := (h.arg (.tail _ (.tail _ (.head _)))).ws.at hk24
          rw [hu] at hu2
          obtain rfl := Option.some.inj hu2
          simp only [Option.some.injEq, Addr.mk.injEq, and_true] at e2
          obtain ⟨rfl, rfl⟩ := e2
          obtain ⟨d0, d1, d2, d3, d4, d5⟩ := hat2
          exact ⟨h2.c0, h2.c1, d0, d1, d2, d3, d4, d5, h⟩
        have GET : Hid (∀ w', (w'.cell? ⟨w.heap.size, 0, none⟩ = some (.slice (some ⟨kb, o, none⟩) 24 c) ∧ w'.cell? ⟨w.heap.size, 1, none⟩ = some (.slice a' 24 c') ∧ w'.cell? ⟨kb, o + k * 6, none⟩ = some (.int .i64 u.n) ∧ w'.cell? ⟨kb, o + k * 6 + 1, none⟩ = some (.bool u.i) ∧ w'.cell? ⟨kb, o + k * 6 + 2, none⟩ = some (.int .i64 u.b) ∧ w'.cell? ⟨kb, o + k * 6 + 3, none⟩ = some (.int .i64 u.t) ∧ w'.cell? ⟨kb, o + k * 6 + 4, none⟩ = some (.int .i64 u.p) ∧ w'.cell? ⟨kb, o + k * 6 + 5, none⟩ = some (.int .i64 u.s) ∧ Hid (Hold w w' [spotF (w.heap.size + 1), duoF w.heap.size (.slice (some ⟨kb, o, none⟩) 24 c) (.slice a' 24 c'), argF w.heap.size (some ⟨kb, o, none⟩) 24 a' 24 L G])) → Hold w w' [spotF (w.heap.size + 1), duoF w.heap.size (.slice (some ⟨kb, o, none⟩) 24 c) (.slice a' 24 c'), argF w.heap.size (some ⟨kb, o, none⟩) 24 a' 24 L G]) := fun w' h => h.2.2.2.2.2.2.2.2
        have ST : Hid (∀ w1 u0 u1, Hold w w1 [spotF (w.heap.size + 1), duoF w.heap.size (.slice (some ⟨kb, o, none⟩) 24 c) (.slice a' 24 c'), argF w.heap.size (some ⟨kb, o, none⟩) 24 a' 24 L G] → Hold w ((w1.setCell ⟨w.heap.size + 1, 0, none⟩ u0).setCell ⟨w.heap.size + 1, 1, none⟩ u1) [spotF (w.heap.size + 1), duoF w.heap.size (.slice (some ⟨kb, o, none⟩) 24 c) (.slice a' 24 c'), argF w.heap.size (some ⟨kb, o, none⟩) 24 a' 24 L G]) := fun w1 u0 u1 h => h.store2 (by omega) (fun f hf k hk => by
          simp only [List.mem_cons, List.not_mem_nil, or_false] at hf
          rcases hf with rfl | rfl
          · simp only [duoF] at hk; omega
          · simp only [argF] at hk; omega) u0 u1
        clear hu
        go_upto_region 5 with fail
        have F0 := hid_mk H.out.drew
        have hz3 : w3.drew.heap.size = w3.heap.size := by simp
        clear H hq
        go_region_held3 (fun w' => w'.cell? ⟨w.heap.size, 0, none⟩ = some (.slice (some ⟨kb, o, none⟩) 24 c) ∧ w'.cell? ⟨w.heap.size, 1, none⟩ = some (.slice a' 24 c') ∧ w'.cell? ⟨kb, o + k * 6, none⟩ = some (.int .i64 u.n) ∧ w'.cell? ⟨kb, o + k * 6 + 1, none⟩ = some (.bool u.i) ∧ w'.cell? ⟨kb, o + k * 6 + 2, none⟩ = some (.int .i64 u.b) ∧ w'.cell? ⟨kb, o + k * 6 + 3, none⟩ = some (.int .i64 u.t) ∧ w'.cell? ⟨kb, o + k * 6 + 4, none⟩ = some (.int .i64 u.p) ∧ w'.cell? ⟨kb, o + k * 6 + 5, none⟩ = some (.int .i64 u.s) ∧ Hid (Hold w w' [spotF (w.heap.size + 1), duoF w.heap.size (.slice (some ⟨kb, o, none⟩) 24 c) (.slice a' 24 c'), argF w.heap.size (some ⟨kb, o, none⟩) 24 a' 24 L G]))
          (first | (with_reducible assumption) | (((with_reducible refine ALL.out _ ?_); (first | (with_reducible exact F0.out) | ((with_reducible apply Hold.next ?_ KF.out); (with_reducible exact GET.out _ (by with_reducible assumption))) | ((with_reducible apply Hold.next ?_ KW.out); (with_reducible exact GET.out _ (by with_reducible assumption))) | ((with_reducible apply ST.out _ _ _ (GET.out _ (by with_reducible assumption)))) | fail))))
          (first
            | (go_at_call 135; refine (S3.out _ ((GET.out _ (by with_reducible assumption)).arg (.tail _ (.tail _ (.head _)))).gs).mono ?_; rintro e wF ⟨rfl, hbF⟩; have KF := hid_mk hbF; have zF := hbF.size; clear hbF)
            | (go_at_call 91; refine (withWord_any (some ⟨kb, o, none⟩) c a' c' L G k hk24 hcap v _ ((GET.out _ (by with_reducible assumption)).arg (.tail _ (.tail _ (.head _))))).mono ?_; rintro e wW ⟨b, d, b', rfl, hd, AW, hfW, hbW⟩; have KW := hid_mk hbW; have AW := hid_mk AW; have HF := hid_mk hfW; (obtain ⟨u0, u1, hsp, q0, q1, q2, q3⟩ := ((GET.out _ (by with_reducible assumption)).next hbW).spot (.head _)); clear hbW hfW))
        have HE := hid_mk (GET.out _ (by with_reducible assumption))
        clear ALL GET ST F0
        go_wp2
        refine bodyPost_ret (v := .agg #[.slice b 24 d, .slice b' 24 24]) (by simp [results, Tryz.results103, go_sem, q0, q1]) rfl ⟨b, d, b', 24, rfl, ?_, fun k hk => ?_, HE.out.bel⟩
        · rw [HD.out]
          exact AW.out.two (fun k hk => by have := HF.out k hk; omega) _ _
        · have := HF.out k hk; omega
    · have hDD := hD.out.trans (swp_out HK.out hi)
      subst hDD
      rw [decide_eq_false hi] at s2
      have S2 := hid_mk s2
      clear s2
      go_wp2_with fail
      refine (S2.out _).mono ?_
      rintro e w' ⟨rfl, hw'⟩
      subst w'
      obtain ⟨_, m0, m1, _, _⟩ := H.out.duo (.tail _ (.head _))
      go_wp2_with fail
      refine (S4.out _ (H.out.arg (.tail _ (.tail _ (.head _))))).mono ?_
      rintro e w4 ⟨b, d, b', d', rfl, hd, A4, hf4, hb4⟩
      replace H := hid_mk (H.out.next hb4)
      have HF := hid_mk hf4
      clear hb4 m0 m1 hf4
      obtain ⟨_, r0, r1, f0, f1⟩ := H.out.duo (.head _)
      go_wp2
      refine bodyPost_ret (v := .agg #[.slice b 24 d, .slice b' 24 d']) (by simp [results, Tryz.results103, go_sem, r0, r1]) rfl ⟨b, d, b', d', rfl, ?_, fun k hk => ?_, below_two H.out.bel (by omega) _ _⟩
      · exact A4.two (fun k hk => by have := HF.out k hk; omega) _ _
      · have := HF.out k hk; omega
end Go.Proofs.YtpkhnajhamnggaaGreatDoor

namespace Go.Proofs.YtpkhnajhamnggaaGreatDoor
open Go.ChangeShapes Go.WideShapes Go.ChangeAt Go.RowKit
set_option maxRecDepth 100000

theorem wr_trp (L : List Wd) (y : Wd) (m : Int) (x : Wd) : wrZ L y m x = bif trpZ L.length y m 2 == 0 then (bif putB y.p x.i then 0 else 3) else trpZ L.length y m 2 := by
  unfold wrZ trpZ
  cases ht : (tryZ y.n y.i y.b y.t y.p y.s m 2 == 0) with
  | false => rw [cond_false, cond_false, ht]; rfl
  | true =>
    cases inB m L.length with
    | false => rfl
    | true => rfl
theorem wr_in {L : List Wd} {y : Wd} {m : Int} {x : Wd} (h : wrZ L y m x = 0) : 0 ≤ m ∧ m ≤ (L.length : Int) - 1 := by
  rw [wr_trp] at h
  cases ht : (trpZ L.length y m 2 == 0) with
  | true => exact trp_in (by simpa using ht)
  | false =>
    rw [ht] at h
    have h2 : trpZ L.length y m 2 = 0 := h
    rw [h2] at ht
    simp at ht
theorem wrl_none {L : List Wd} {G : List Bool} (h : mokB L G = false) (y : Wd) (m : Int) (x : Wd) : wrL L G y m x = [] := by simp [wrL, h]
theorem wrl_out {L : List Wd} {G : List Bool} (h : mokB L G = true) {y : Wd} {m : Int} {x : Wd} (hz : ¬ wrZ L y m x = 0) : wrL L G y m x = L := by
  unfold wrL
  rw [h, show (wrZ L y m x == 0) = false by simpa using hz]; rfl
theorem wrl_in {L : List Wd} {G : List Bool} (h : mokB L G = true) {y : Wd} {m : Int} {x : Wd} (hz : wrZ L y m x = 0) : wrL L G y m x = L.set m.toNat x := by
  unfold wrL
  rw [h, hz]; rfl
theorem wrl_len (L : List Wd) (G : List Bool) (y : Wd) (m : Int) (x : Wd) : (wrL L G y m x).length ≤ 24 ∧ (keepG L G).length ≤ 24 := by
  cases h : mokB L G with
  | false => rw [keepG_none h, wrl_none h]; exact ⟨by simp, by simp⟩
  | true =>
    obtain ⟨h0, h1, _⟩ := mok_parts h
    rw [keepG_some h]
    by_cases hz : wrZ L y m x = 0
    · rw [wrl_in h hz, List.length_set]; omega
    · rw [wrl_out h hz]; omega

set_option maxHeartbeats 4000000 in
theorem l8Write_any (a : Option Addr) (n c : Nat) (v1 : Value) (y : Wd) (m : Int) (x : Wd) (L : List Wd) (hn : L.length = n) (hm : n ≤ maxLen) (w : World) :
    Calls Tryz.prog 79 #[.agg #[.slice a n c, v1], .agg #[.int .i64 y.n, .bool y.i, .int .i64 y.b, .int .i64 y.t, .int .i64 y.p, .int .i64 y.s], .int .i64 m, .agg #[.int .i64 x.n, .bool x.i, .int .i64 x.b, .int .i64 x.t, .int .i64 x.p, .int .i64 x.s]] w fun e w' => e = .returned (.int .i64 (wrZ L y m x)) ∧ Below w.heap.size w w' := by
  have H := hid_mk (((((Hold.new w).alloc (.cells #[.slice a n c, v1] 40)).push (duoF w.heap.size (.slice a n c) v1) (Duo.new w _ _ _)).alloc (.cells #[.int .i64 y.n, .bool y.i, .int .i64 y.b, .int .i64 y.t, .int .i64 y.p, .int .i64 y.s] 38) |>.push (sixF (w.heap.size + 1) y) (Six.second w _ _ _ _ _ _ _ _)).alloc (.cells #[.int .i64 x.n, .bool x.i, .int .i64 x.b, .int .i64 x.t, .int .i64 x.p, .int .i64 x.s] 38) |>.push (sixF (w.heap.size + 1 + 1) x) (Six.third w _ _ _ _ _ _ _ _ _))
  have s1 := specTry_any y.n y.i y.b y.t y.p y.s m 2
  unfold wrZ
  rw [hn]
  generalize tryZ y.n y.i y.b y.t y.p y.s m 2 = t at s1 ⊢
  have S1 := hid_mk s1
  unfold maxLen at hm
  clear s1
  generalize hw1 : ((w.alloc (.cells #[.slice a n c, v1] 40)).alloc (.cells #[.int .i64 y.n, .bool y.i, .int .i64 y.b, .int .i64 y.t, .int .i64 y.p, .int .i64 y.s] 38)).alloc (.cells #[.int .i64 x.n, .bool x.i, .int .i64 x.b, .int .i64 x.t, .int .i64 x.p, .int .i64 x.s] 38) = w1 at H
  by_cases ht : t = 0
  · subst ht
    have s2 := in_any m 0 ((n : Int) - 1)
    have s3 := specMayPut_any y.n y.i y.b y.t y.p y.s x.n x.i x.b x.t x.p x.s
    unfold inB
    generalize decide (0 ≤ m ∧ m ≤ (n : Int) - 1) = z at s2 ⊢
    generalize putB y.p x.i = u at s3 ⊢
    have S2 := hid_mk s2
    have S3 := hid_mk s3
    clear s2 s3
    go_enter Tryz.func79, Tryz.ntmps79
    go_upto_region 1 with fail
    clear hw1
    obtain ⟨_, x0, x1, x2, x3, x4, x5, _, _, _, _, _, _⟩ := H.out.six (.tail _ (.head _))
    go_wp2_with fail
    refine (S1.out _).mono ?_
    rintro e w2 ⟨rfl, hb2⟩
    replace H := hid_mk (H.out.next hb2)
    clear hb2 x0 x1 x2 x3 x4 x5
    obtain ⟨_, m0, m1, _, _⟩ := H.out.duo (.tail _ (.tail _ (.head _)))
    go_wp2_with fail
    refine (S2.out _).mono ?_
    rintro e w' ⟨rfl, hw'⟩
    subst w'
    cases z
    · go_wp2
      go_ret
      exact ⟨rfl, H.out.bel⟩
    · obtain ⟨_, x0, x1, x2, x3, x4, x5, _, _, _, _, _, _⟩ := H.out.six (.tail _ (.head _))
      obtain ⟨_, y0, y1, y2, y3, y4, y5, _, _, _, _, _, _⟩ := H.out.six (.head _)
      go_wp2_with fail
      refine (S3.out _).mono ?_
      rintro e w3 ⟨rfl, hb3⟩
      replace H := hid_mk (H.out.next hb3)
      clear hb3 x0 x1 x2 x3 x4 x5 y0 y1 y2 y3 y4 y5
      cases u
      · go_wp2
        go_ret
        exact ⟨rfl, H.out.bel⟩
      · go_wp2
        go_ret
        exact ⟨rfl, H.out.bel⟩
  · have htb : (t == 0) = false := by simpa using ht
    have htn : (t != 0) = true := by simpa using ht
    rw [htb]
    go_enter Tryz.func79, Tryz.ntmps79
    go_upto_region 1 with fail
    clear hw1
    obtain ⟨_, x0, x1, x2, x3, x4, x5, _, _, _, _, _, _⟩ := H.out.six (.tail _ (.head _))
    go_wp2_with fail
    refine (S1.out _).mono ?_
    rintro e w2 ⟨rfl, hb2⟩
    replace H := hid_mk (H.out.next hb2)
    clear hb2 x0 x1 x2 x3 x4 x5
    go_wp2
    go_ret
    exact ⟨rfl, H.out.bel⟩

set_option maxHeartbeats 8000000 in
theorem implWrite_any (a0 a1 a2 a3 : Addr) (a : Option Addr) (n c : Nat) (a' : Option Addr) (n' c' : Nat) (L : List Wd) (G : List Bool) (y : Wd) (m : Int) (x : Wd) (hcap : n ≤ c) (w : World) (hM : MemS w a n a' n' L G) (hE : Errs a0 a1 a2 a3 w) :
    Calls Tryz.prog 131 #[.agg #[.slice a n c, .slice a' n' c'], .agg #[.int .i64 y.n, .bool y.i, .int .i64 y.b, .int .i64 y.t, .int .i64 y.p, .int .i64 y.s], .int .i64 m, .agg #[.int .i64 x.n, .bool x.i, .int .i64 x.b, .int .i64 x.t, .int .i64 x.p, .int .i64 x.s]] w fun e w' => ∃ b d b' d', e = .returned (.tuple #[.agg #[.slice b (wrL L G y m x).length d, .slice b' (keepG L G).length d'], .int .i64 (wrZ L y m x)]) ∧ AnsM b b' (wrL L G y m x).length (keepG L G).length (wrL L G y m x) (keepG L G) w' ∧ (∀ k, On b k ∨ On b' k → w.heap.size ≤ k) ∧ Below w.heap.size w w' := by
  have H := hid_mk (((((Hold.new w).push (argF w.heap.size a n a' n' L G) hM.arg).alloc (.cells #[.slice a n c, .slice a' n' c'] 40)).push (duoF w.heap.size (.slice a n c) (.slice a' n' c')) (Duo.new w _ _ _)).alloc (.cells #[.int .i64 y.n, .bool y.i, .int .i64 y.b, .int .i64 y.t, .int .i64 y.p, .int .i64 y.s] 38) |>.push (sixF (w.heap.size + 1) y) (Six.second w _ _ _ _ _ _ _ _) |>.alloc (.cells #[.int .i64 x.n, .bool x.i, .int .i64 x.b, .int .i64 x.t, .int .i64 x.p, .int .i64 x.s] 38) |>.push (sixF (w.heap.size + 1 + 1) x) (Six.third w _ _ _ _ _ _ _ _ _) |>.alloc (.cells #[.slice none 0 0, .slice none 0 0] 40) |>.push (duoF (w.heap.size + 1 + 1 + 1) (.slice none 0 0) (.slice none 0 0)) (by
    have h := Duo.new (((w.alloc (.cells #[.slice a n c, .slice a' n' c'] 40)).alloc (.cells #[.int .i64 y.n, .bool y.i, .int .i64 y.b, .int .i64 y.t, .int .i64 y.p, .int .i64 y.s] 38)).alloc (.cells #[.int .i64 x.n, .bool x.i, .int .i64 x.b, .int .i64 x.t, .int .i64 x.p, .int .i64 x.s] 38)) (.slice none 0 0) (.slice none 0 0) 40
    rw [World.size_alloc, World.size_alloc, World.size_alloc] at h
    exact h))
  have hlw := hM.ws.2.1
  have hlg := hM.gs.2.1
  have hm := hM.ws.1
  obtain ⟨z, Z⟩ : ∃ z, Hid (z = wrZ L y m x) := ⟨_, rfl⟩
  obtain ⟨D, hD⟩ : ∃ D, Hid (D = wrL L G y m x) := ⟨_, rfl⟩
  obtain ⟨GG, hG⟩ : ∃ GG, Hid (GG = keepG L G) := ⟨_, rfl⟩
  have E0 := hid_mk hE
  have s1 := fun w hE => trapAt_any a0 a1 a2 a3 a n c (.slice a' n' c') y m 2 w hE
  have s3 := implMemoryOk_any a n c a' n' c' L G
  have s4 := implMayPut_any y.n y.i y.b y.t y.p y.s x.n x.i x.b x.t x.p x.s
  have hzt := Z.out.trans (wr_trp L y m x)
  rw [← Z.out, ← hD.out, ← hG.out]
  rw [hlw] at hzt
  generalize trpZ n y m 2 = t at s1 hzt
  generalize putB y.p x.i = u at s4 hzt
  have S1 := hid_mk s1
  have S4 := hid_mk s4
  unfold maxLen at hm
  clear s1 s4 hM hE
  generalize hw1 : (((w.alloc (.cells #[.slice a n c, .slice a' n' c'] 40)).alloc (.cells #[.int .i64 y.n, .bool y.i, .int .i64 y.b, .int .i64 y.t, .int .i64 y.p, .int .i64 y.s] 38)).alloc (.cells #[.int .i64 x.n, .bool x.i, .int .i64 x.b, .int .i64 x.t, .int .i64 x.p, .int .i64 x.s] 38)).alloc (.cells #[.slice none 0 0, .slice none 0 0] 40) = w1 at H
  go_enter Tryz.func131, Tryz.ntmps131
  go_upto_region 1 with fail
  clear hw1
  obtain ⟨_, m0, m1, _, _⟩ := H.out.duo (.tail _ (.tail _ (.tail _ (.head _))))
  obtain ⟨_, x0, x1, x2, x3, x4, x5, _, _, _, _, _, _⟩ := H.out.six (.tail _ (.tail _ (.head _)))
  go_wp2_with fail
  refine (S1.out _ (E0.out.below H.out.bel)).mono ?_
  rintro e w2 ⟨rfl, hb2⟩
  replace H := hid_mk (H.out.next hb2)
  clear hb2 m0 m1 x0 x1 x2 x3 x4 x5 S1
  go_upto_region 2 with fail
  go_cut [22] (fun pv wx => pv = .bool (t == 0 && !u) ∧ Hid (Hold w wx [duoF (w.heap.size + 1 + 1 + 1) (.slice none 0 0) (.slice none 0 0), sixF (w.heap.size + 1 + 1) x, sixF (w.heap.size + 1) y, duoF w.heap.size (.slice a n c) (.slice a' n' c'), argF w.heap.size a n a' n' L G]))
  case first =>
    by_cases ht : t = 0
    · subst ht
      obtain ⟨_, x0, x1, x2, x3, x4, x5, _, _, _, _, _, _⟩ := H.out.six (.tail _ (.tail _ (.head _)))
      obtain ⟨_, y0, y1, y2, y3, y4, y5, _, _, _, _, _, _⟩ := H.out.six (.tail _ (.head _))
      go_wp2_with fail
      refine (S4.out _).mono ?_
      rintro e w3 ⟨rfl, hb3⟩
      replace H := hid_mk (H.out.next hb3)
      clear hb3 x0 x1 x2 x3 x4 x5 y0 y1 y2 y3 y4 y5
      cases u
      · go_wp2
        go_meet
        case rel => exact ⟨rfl, H.out⟩
      · go_wp2
        go_meet
        case rel => exact ⟨rfl, H.out⟩
    · have htb : (t == 0) = false := by simpa using ht
      go_wp2
      go_meet
      case rel => exact ⟨by rw [htb]; rfl, H.out⟩
  case' rest =>
    obtain ⟨rfl, H⟩ := hcut
  have hzv : z = bif (t == 0 && !u) then 3 else t := by
    rw [hzt]
    cases ht : (t == 0) with
    | false => rfl
    | true =>
      have h0 : t = 0 := by simpa using ht
      subst h0
      cases u <;> rfl
  generalize (t == 0 && !u) = v at hzv ⊢
  go_upto_if 22 with fail
  go_cut [10] (fun pv wx => pv = .int .i64 z ∧ Hid (Hold w wx [duoF (w.heap.size + 1 + 1 + 1) (.slice none 0 0) (.slice none 0 0), sixF (w.heap.size + 1 + 1) x, sixF (w.heap.size + 1) y, duoF w.heap.size (.slice a n c) (.slice a' n' c'), argF w.heap.size a n a' n' L G]))
  case first =>
    cases v
    · obtain rfl : z = t := hzv
      go_wp2
      go_meet
      case rel => exact ⟨rfl, H.out⟩
    · obtain rfl : z = 3 := hzv
      go_wp2
      go_meet
      case rel => exact ⟨rfl, H.out⟩
  case' rest =>
    obtain ⟨rfl, H⟩ := hcut
  clear S4 hzt hzv
  generalize wc = w3 at H ⊢
  obtain ⟨_, m0, m1, _, _⟩ := H.out.duo (.tail _ (.tail _ (.tail _ (.head _))))
  cases hk : mokB L G with
  | false =>
    obtain rfl : D = [] := hD.out.trans (wrl_none hk y m x)
    obtain rfl : GG = [] := hG.out.trans (keepG_none hk)
    rw [hk] at s3
    have S3 := hid_mk s3
    clear s3 hD hG Z hk
    go_wp2_with fail
    refine (S3.out _ (H.out.arg (.tail _ (.tail _ (.tail _ (.tail _ (.head _))))))).mono ?_
    rintro e w4 ⟨rfl, hb4⟩
    replace H := hid_mk (H.out.next hb4)
    clear hb4 m0 m1 S3
    obtain ⟨_, r0, r1, f0, f1⟩ := H.out.duo (.head _)
    go_wp2
    refine bodyPost_ret (v := .tuple #[.agg #[.slice none 0 0, .slice none 0 0], .int .i64 z]) (by simp [results, Tryz.results131, go_sem, r0, r1]) rfl ⟨none, 0, none, 0, rfl, AnsM.nil _, fun k hk => ?_, below_two H.out.bel (by omega) _ _⟩
    rcases hk with hk | hk
    · exact absurd hk (on_none k)
    · exact absurd hk (on_none k)
  | true =>
    obtain ⟨h24, h24', _⟩ := mok_parts hk
    have e1 : n = 24 := by omega
    have e2 : n' = 24 := by omega
    subst e1 e2
    obtain rfl : GG = G := hG.out.trans (keepG_some hk)
    have hDl : D.length = 24 := by
      rw [hD.out]
      by_cases hz : wrZ L y m x = 0
      · rw [wrl_in hk hz, List.length_set]; exact h24
      · rw [wrl_out hk hz]; exact h24
    rw [hk] at s3
    have S3 := hid_mk s3
    have HK := hid_mk hk
    clear s3 hG hk
    go_wp2_with fail
    refine (S3.out _ (H.out.arg (.tail _ (.tail _ (.tail _ (.tail _ (.head _))))))).mono ?_
    rintro e w4 ⟨rfl, hb4⟩
    replace H := hid_mk (H.out.next hb4)
    clear hb4 m0 m1 S3
    have hr3 : w.heap.size + 1 + 1 + 1 < w4.heap.size := (H.out.duo (.head _)).lt
    obtain ⟨_, m0, m1, _, _⟩ := H.out.duo (.tail _ (.tail _ (.tail _ (.head _))))
    by_cases hz : z = 0
    · subst hz
      have hDD := hD.out.trans (wrl_in HK.out Z.out.symm)
      obtain ⟨hi0, hi1⟩ := wr_in Z.out.symm
      rw [h24] at hi1
      obtain ⟨k, hkm⟩ : ∃ k : Nat, m.toNat = k := ⟨_, rfl⟩
      have hk24 : k < 24 := by omega
      have hmk : m = (k : Int) := by omega
      subst hmk
      rw [hkm] at hDD
      have HD := hid_mk hDD
      clear hDD Z hD
      obtain ⟨_, y0, y1, y2, y3, y4, y5, _, _, _, _, _, _⟩ := H.out.six (.tail _ (.head _))
      go_wp2_with fail
      refine (withWord_any a c a' c' L GG k hk24 hcap x _ (H.out.arg (.tail _ (.tail _ (.tail _ (.tail _ (.head _))))))).mono ?_
      rintro e w5 ⟨b, d, b', rfl, hd, A5, hf5, hb5⟩
      replace H := hid_mk (H.out.next hb5)
      have HF := hid_mk hf5
      have A5 := hid_mk A5
      clear hb5 m0 m1 hf5 y0 y1 y2 y3 y4 y5
      obtain ⟨_, r0, r1, f0, f1⟩ := H.out.duo (.head _)
      go_wp2
      refine bodyPost_ret (v := .tuple #[.agg #[.slice b 24 d, .slice b' 24 24], .int .i64 0]) (by simp [results, Tryz.results131, go_sem, r0, r1]) rfl ⟨b, d, b', 24, by rw [hDl, h24'], ?_, fun k hk => ?_, below_two H.out.bel (by omega) _ _⟩
      · rw [hDl, h24', HD.out]
        exact A5.out.two (fun k hk => by have := HF.out k hk; omega) _ _
      · have := HF.out k hk; omega
    · have hDD := hD.out.trans (wrl_out HK.out (fun e => hz (Z.out.trans e)))
      subst hDD
      have hzn : (z != 0) = true := by simpa using hz
      clear Z hD
      go_wp2_with fail
      refine (asItWas_c a c a' c' D GG _ (H.out.arg (.tail _ (.tail _ (.tail _ (.tail _ (.head _))))))).mono ?_
      rintro e w5 ⟨b, d, b', d', rfl, hd, A5, hf5, hb5⟩
      replace H := hid_mk (H.out.next hb5)
      have HF := hid_mk hf5
      have A5 := hid_mk A5
      clear hb5 m0 m1 hf5
      obtain ⟨_, r0, r1, f0, f1⟩ := H.out.duo (.head _)
      go_wp2
      refine bodyPost_ret (v := .tuple #[.agg #[.slice b 24 d, .slice b' 24 d'], .int .i64 z]) (by simp [results, Tryz.results131, go_sem, r0, r1]) rfl ⟨b, d, b', d', by rw [hDl, h24'], ?_, fun k hk => ?_, below_two H.out.bel (by omega) _ _⟩
      · rw [hDl, h24']
        exact A5.out.two (fun k hk => by have := HF.out k hk; omega) _ _
      · have := HF.out k hk; omega
end Go.Proofs.YtpkhnajhamnggaaGreatDoor
