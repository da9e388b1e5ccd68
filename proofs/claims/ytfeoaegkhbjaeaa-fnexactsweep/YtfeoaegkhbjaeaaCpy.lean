/- What is gone copied as an array, and handed out as a slice: goneIn and list of the program. No condition but that 24 are there. -/
import Derived.Test.YtfeoaegkhbjaeaaMarkA
import Derived.Test.YtfeoaegkhbjaeaaEffL
import Derived.Deep.RegionHeld3
import Derived.Laws.CopyOwn
import Derived.Deep.MidRow
namespace Go.Proofs.Ytfeoaegkhbjaeaa
open Go.ChangeShapes Go.WideShapes Go.ChangeAt Go.RowKit
set_option maxRecDepth 100000

/-- copy into cells that may be written, as one step of a region that draws. -/
theorem step_copy_cells {P : Program} {ops : Array Oper} {o : Oper} {a : Act} {w : World} {K : Act → World → Prop} {Q : Exit → Act → World → Prop} {E : Prop} (hgd : o.guard = none) (d s : Operand) (dT sT : TypeId)
    (ho : o.op = .call { callee := .builtin .copy, args := #[d, s], argTypes := #[dT, sT] }) (elem : TypeId) (hu : P.underlying dT = some (.slice elem)) (hsz : (P.info? elem).map (·.size) = some 1)
    (b off dLen dCap : Nat) (ad : Addr) (sLen sCap : Nat) (hd : a.eval d = .slice (some ⟨b, off, none⟩) dLen dCap) (hs : a.eval s = .slice (some ad) sLen sCap) (cs : List Value) (hn : cs.length = Nat.min sLen dLen)
    (hsrc : ∀ j v, cs[j]? = some v → w.cell? (ad.add j) = some v) (hc : ∀ j, j < cs.length → (w.cell? ⟨b, off + j, none⟩).isSome = true) (hf : ∀ j, j < cs.length → w.frozen? ⟨b, off + j, none⟩ = false) (h1 : ∀ v ∈ cs, v.oneCell' = true)
    (h : K (a.put o.dst (goInt cs.length)) (w.setCells b off cs)) :
    if Region.wanted o (yielded ops a.tmps) = true then Oper.wp P o a w K Q else E := by
  have hw : Region.wanted o (yielded ops a.tmps) = true := by simp [Region.wanted, hgd]
  rw [if_pos hw]
  have hrun := run_copy_cells (P := P) w dT sT o.type elem b off dLen dCap ad sLen sCap cs hu hsz hn hsrc hc hf h1
  unfold Oper.wp
  simp [execOp, ho, resolve, invoke, builtin, hd, hs, hrun, Result.andThen]
  exact h

theorem bls_len (G : List Bool) : (bls G).length = G.length := by simp [bls]
theorem sizeBool : (Try.prog.info? 4).map (·.size) = some 1 := by kernel_rfl
theorem sizeGone : (Try.prog.info? 68).map (·.size) = some 24 := by kernel_rfl
/-- Twenty-four cells that may be written. -/
def zs24 : Array Value := #[.bool false, .bool false, .bool false, .bool false, .bool false, .bool false, .bool false, .bool false, .bool false, .bool false, .bool false, .bool false, .bool false, .bool false, .bool false, .bool false, .bool false, .bool false, .bool false, .bool false, .bool false, .bool false, .bool false, .bool false]
theorem there_new (w : World) (T : TypeId) : (w.alloc (.cells zs24 T)).there w.heap.size 0 24 := fun j hj => by
  refine ⟨?_, by simp⟩
  rw [Nat.zero_add, World.cell?_alloc_new]
  have : j < zs24.size := hj
  simp [this]
theorem there_below {w w' : World} {b o n : Nat} (h : w.there b o n) (hb : b < w.heap.size) (k : Below w.heap.size w w') : w'.there b o n := fun j hj =>
  ⟨by rw [k.cell (p := ⟨b, o + j, none⟩) hb]; exact (h j hj).1, by rw [k.frozen (p := ⟨b, o + j, none⟩) hb]; exact (h j hj).2⟩

set_option maxHeartbeats 4000000 in
theorem goneIn_any (v0 : Value) (a' : Option Addr) (c' : Nat) (G : List Bool) (w : World) (hG : SliceB w.heap.size w a' 24 G) :
    Calls Try.prog 43 #[.agg #[v0, .slice a' 24 c']] w fun e w' => e = .returned (.agg (bls G).toArray) ∧ Below w.heap.size w w' := by
  have hlg := hG.2.1
  obtain ⟨kb, o, g, rfl, hkb, _, _⟩ := hG.at (j := 0) (by omega)
  have hbl : (bls G).length = 24 := by rw [bls_len]; exact hlg
  have M := hid_mk (((Duo.new w v0 (.slice (some ⟨kb, o, none⟩) 24 c') 30).alloc (.cells zs24 68)).alloc (.cells zs24 68))
  have B := hid_mk ((((Below.refl _ w).alloc (Nat.le_refl _) (.cells #[v0, .slice (some ⟨kb, o, none⟩) 24 c'] 30)).alloc (by simp) (.cells zs24 68)).alloc (by simp; omega) (.cells zs24 68))
  have T0 : Hid (((((w.alloc (.cells #[v0, .slice (some ⟨kb, o, none⟩) 24 c'] 30)).alloc (.cells zs24 68)).alloc (.cells zs24 68))).there (w.heap.size + 1) 0 24) := by
    have h := there_new (w.alloc (.cells #[v0, .slice (some ⟨kb, o, none⟩) 24 c'] 30)) 68
    rw [World.size_alloc] at h
    exact there_below h (by simp) ((Below.refl _ _).alloc (Nat.le_refl _) _)
  have T1 : Hid (((((w.alloc (.cells #[v0, .slice (some ⟨kb, o, none⟩) 24 c'] 30)).alloc (.cells zs24 68)).alloc (.cells zs24 68))).there (w.heap.size + 1 + 1) 0 24) := by
    have h := there_new ((w.alloc (.cells #[v0, .slice (some ⟨kb, o, none⟩) 24 c'] 30)).alloc (.cells zs24 68)) 68
    rw [World.size_alloc, World.size_alloc] at h
    exact h
  have hsz : w.heap.size + 1 + 1 < ((((w.alloc (.cells #[v0, .slice (some ⟨kb, o, none⟩) 24 c'] 30)).alloc (.cells zs24 68)).alloc (.cells zs24 68))).heap.size := by simp
  have HSZ := hid_mk hsz
  clear hsz
  go_enter Try.func43, Try.ntmps43
  go_upto_region 2 with fail
  rw [show (#[.bool false, .bool false, .bool false, .bool false, .bool false, .bool false, .bool false, .bool false, .bool false, .bool false, .bool false, .bool false, .bool false, .bool false, .bool false, .bool false, .bool false, .bool false, .bool false, .bool false, .bool false, .bool false, .bool false, .bool false] : Array Value) = zs24 from rfl]
  generalize ((w.alloc (.cells #[v0, .slice (some ⟨kb, o, none⟩) 24 c'] 30)).alloc (.cells zs24 68)).alloc (.cells zs24 68) = W at M B T0 T1 HSZ ⊢
  obtain ⟨_, m0, m1, _, _⟩ := M.out
  have FL := hid_mk ((hG.keep B.out).keep ((Below.refl w.heap.size W).drew)).flat
  have TD := hid_mk (fun j (hj : j < (bls G).length) => (World.there_drew W (w.heap.size + 1 + 1) 0 24).2 T1.out j (by rw [hbl] at hj; exact hj))
  go_region_law ((refine step_copy_cells (by rfl) _ _ _ _ (by rfl) 4 Try.underlying23 sizeBool (w.heap.size + 1 + 1) 0 24 24 ⟨kb, o, none⟩ 24 c' (by rfl) (by rfl) (bls G) (by rw [hbl]; rfl) FL.out (fun j hj => (TD.out j hj).1) (fun j hj => (TD.out j hj).2) (bls_one G) ?_))
  have K := hid_mk (KeepBut.setCells (b := w.heap.size + 1 + 1) (bls G) 0 W.drew)
  have B2 : Hid (Below w.heap.size w (W.drew.setCells (w.heap.size + 1 + 1) 0 (bls G))) := B.out.drew.trans (K.out.below (by omega) (by have := HSZ.out; show _ ≤ W.heap.size; omega))
  have R2 := hid_mk (World.rangeAt_setCells_same W.drew (w.heap.size + 1 + 1) 0 (bls G) (by rw [hbl]; exact (World.there_drew W (w.heap.size + 1 + 1) 0 24).2 T1.out))
  have T2 := hid_mk (World.there_setCells ((World.there_drew W (w.heap.size + 1) 0 24).2 T0.out) (w.heap.size + 1 + 1) 0 (bls G))
  generalize W.drew.setCells (w.heap.size + 1 + 1) 0 (bls G) = W2 at B2 R2 T2 ⊢
  clear K TD FL m0 m1 M B T0 T1 hG
  have hbs : (bls G).toArray.size = 24 := by simp [hbl]
  go_upto_region 3 with fail
  refine wp_region_list ?_
  refine wpList_load_mid (by rfl) 68 _ (by rfl) (w.heap.size + 1 + 1) 0 (by rfl) (bls G) _ R2.out Try.underlying68 rfl (by rw [hbl]; exact sizeGone) ?_
  refine wpList_store_mid (by rfl) 68 _ _ (by rfl) (w.heap.size + 1) 0 (bls G).toArray (by rfl) (by rfl) (by rw [hbs]; exact T2.out) (by rw [hbs]; exact sizeGone) (all_oneCell_toArray (bls_one G)) ?_
  refine wpList_nil ?_
  have R3 := hid_mk (World.rangeAt_setCells_same W2 (w.heap.size + 1) 0 (bls G) (by rw [hbl]; exact T2.out))
  have B3 : Hid (Below w.heap.size w (W2.setCells (w.heap.size + 1) 0 (bls G))) := B2.out.trans ((KeepBut.setCells (b := w.heap.size + 1) (bls G) 0 W2).below (by omega) (B2.out.size))
  have hlv := run_loadVar_mid (P := Try.prog) (W2.setCells (w.heap.size + 1) 0 (bls G)) (w.heap.size + 1) 0 68 (bls G) _ R3.out Try.underlying68 rfl (by rw [hbl]; exact sizeGone)
  go_wp2
  refine bodyPost_ret (v := .agg (bls G).toArray) (results_cell1 Try.results43 (by rfl) hlv) rfl ⟨rfl, B3.out⟩
end Go.Proofs.Ytfeoaegkhbjaeaa
