/- The program's asItWas: a memory of its own, like the one that it was given. No condition but that 24 of both are there. -/
import Derived.Test.YtfeoaegkhbjaeaaCpy
import Derived.Deep.RegionLawGrows
namespace Go.Proofs.Ytfeoaegkhbjaeaa
open Go.ChangeShapes Go.WideShapes Go.ChangeAt Go.RowKit
set_option maxRecDepth 100000

/-- Two cells that may be written, whatever they hold. -/
def spotF (r : Nat) : Fct where
  S := fun k => k = r
  p := fun w => ∃ v0 v1, Duo w r v0 v1
  keep := fun w w' ⟨v0, v1, h⟩ hs hb => ⟨v0, v1, (duoF r v0 v1).keep w w' h hs hb⟩
theorem Hold.spot {w0 w : World} {fs : List Fct} {r : Nat} (h : Hold w0 w fs) (hm : spotF r ∈ fs) : ∃ v0 v1, Duo w r v0 v1 := h.at hm
theorem Hold.store2 {w0 w : World} {fs : List Fct} {r : Nat} (h : Hold w0 w (spotF r :: fs)) (h0 : w0.heap.size ≤ r) (hd : ∀ f ∈ fs, ∀ k, f.S k → k ≠ r) (u0 u1 : Value) : Hold w0 ((w.setCell ⟨r, 0, none⟩ u0).setCell ⟨r, 1, none⟩ u1) (spotF r :: fs) := by
  obtain ⟨v0, v1, D⟩ := h.spot (.head _)
  exact (h.tail.wrote (T := fun k => k = r) (KeptS.ofBut (((KeepBut.refl r w).setCell 0 u0).setCell 1 u1) rfl) (fun k e => by omega) hd).push (spotF r) ⟨_, _, (D.set0 u0).set1 u1⟩

set_option maxHeartbeats 1000000 in
theorem list_any (G : List Bool) (hG : G.length = 24) (w : World) :
    Calls Try.prog 56 #[.agg (bls G).toArray] w fun e w' => ∃ q, e = .returned (.slice (some ⟨q, 0, none⟩) 24 24) ∧ w.heap.size ≤ q ∧ OutB w' q 24 24 G ∧ Below w.heap.size w w' := by
  have B := hid_mk ((Below.refl _ w).alloc (Nat.le_refl _) (.cells (bls G).toArray 68))
  have O : Hid (OutB (w.alloc (.cells (bls G).toArray 68)) w.heap.size 24 24 G) := by
    refine ⟨by simp, fun i hi => ?_, fun i _ => by simp, fun j x _ hx => ?_⟩
    · rw [World.cell?_alloc_new]
      have : i < (bls G).length := by rw [bls_len, hG]; exact hi
      simp [this]
    · rw [World.cell?_alloc_new]
      simp [bls, hx]
  go_enter Try.func56, Try.ntmps56
  go_wp2
  go_ret
  exact ⟨_, rfl, Nat.le_refl _, O.out, B.out⟩

/-- append of words onto a slice that is full, as one step of a region that draws: a row of its own. -/
theorem step_appW {ops : Array Oper} {o : Oper} {a : Act} {w : World} {K : Act → World → Prop} {Q : Exit → Act → World → Prop} {E : Prop} (hgd : o.guard = none) (s x : Operand)
    (ho : o.op = .call { callee := .builtin .append, args := #[s, x], argTypes := #[28, 28] })
    (b : Addr) (n cap : Nat) (X : List Wd) (hs : a.eval s = .slice (some b) n cap) (hX : X.length = n) (holds : ∀ j u, (X.flatMap Wd.vs)[j]? = some u → w.cell? (b.add j) = some u)
    (ad : Addr) (m c : Nat) (Y : List Wd) (hx : a.eval x = .slice (some ad) m c) (hY : Y.length = m) (hc : ∀ j u, (Y.flatMap Wd.vs)[j]? = some u → w.cell? (ad.add j) = some u) (hfull : cap < n + m) (hb : n + m ≤ 1048576)
    (h : ∀ g cp w', w'.ownsRow w.heap.size 47 6 (.slice (some ⟨g, 0, none⟩) (n + m) cp) (n + m) ((X ++ Y).flatMap Wd.vs) → OutW w' g (n + m) (n + m) (X ++ Y) → w.heap.size ≤ g → n + m ≤ cp → Below w.heap.size w w' → K (a.put o.dst (.slice (some ⟨g, 0, none⟩) (n + m) cp)) w') :
    if Region.wanted o (yielded ops a.tmps) = true then Oper.wp Try.prog o a w K Q else E := by
  obtain ⟨i, hi, hz0, hz1, hz2⟩ := info_parts infoW
  refine step_append_grows hgd s x _ ho 47 i _ 6 48 Try.underlying28 hi hz0 hz1 hz2 rfl (by decide) (some b) n cap (X.flatMap Wd.vs) hs (fun e => by cases e) (by rw [flatW_len, hX]) (fun b' e => by cases e; exact holds) ad m c (Y.flatMap Wd.vs) hx (by rw [flatW_len, hY]) hc (flatW_one Y) hfull (by unfold maxLen; omega) (by omega) ?_
  intro v' w' hown hgrow
  have hl : (X ++ Y).length = n + m := by rw [List.length_append, hX, hY]
  rw [← List.flatMap_append, ← hl] at hown
  obtain ⟨g, cp, rfl, hg, hcp, hO⟩ := own_outW hown (by omega)
  rw [hl] at hO hcp hown ⊢
  exact h g cp w' hown hO hg hcp ((Below.refl _ _).grown hgrow (Nat.le_refl _) fun k hk => by cases hk)
theorem step_appB {ops : Array Oper} {o : Oper} {a : Act} {w : World} {K : Act → World → Prop} {Q : Exit → Act → World → Prop} {E : Prop} (hgd : o.guard = none) (s x : Operand)
    (ho : o.op = .call { callee := .builtin .append, args := #[s, x], argTypes := #[23, 23] })
    (b : Addr) (cap : Nat) (hs : a.eval s = .slice (some b) 0 cap)
    (ad : Addr) (m c : Nat) (Y : List Bool) (hx : a.eval x = .slice (some ad) m c) (hY : Y.length = m) (hc : ∀ j u, (bls Y)[j]? = some u → w.cell? (ad.add j) = some u) (hfull : cap < m) (hb : m ≤ 1048576)
    (h : ∀ g cp w', OutB w' g m m Y → w.heap.size ≤ g → m ≤ cp → Below w.heap.size w w' → K (a.put o.dst (.slice (some ⟨g, 0, none⟩) m cp)) w') :
    if Region.wanted o (yielded ops a.tmps) = true then Oper.wp Try.prog o a w K Q else E := by
  obtain ⟨i, hi, hz0, hz1, hz2⟩ := info_parts infoB
  refine step_append_grows hgd s x _ ho 4 i _ 1 1 Try.underlying23 hi hz0 hz1 hz2 rfl (by decide) (some b) 0 cap [] hs (fun e => by cases e) rfl (fun b' _ j u e => by cases e) ad m c (bls Y) hx (by rw [bls_len, hY, Nat.mul_one]) hc (bls_one Y) (by omega) (by unfold maxLen; omega) (by omega) ?_
  intro v' w' hown hgrow
  rw [List.nil_append, Nat.zero_add, ← hY] at hown
  obtain ⟨g, cp, rfl, hg, hcp, hO⟩ := own_outB hown (by omega)
  rw [hY] at hcp ⊢
  exact h g cp w' (hY ▸ hO) hg hcp ((Below.refl _ _).grown hgrow (Nat.le_refl _) fun k hk => by cases hk)

theorem OutW.app_nil {w : World} {q n : Nat} {L : List Wd} (h : OutW w q (0 + n) (0 + n) ([] ++ L)) : OutW w q n n L := by
  rw [Nat.zero_add, List.nil_append] at h
  exact h
theorem OutB.to {w w' : World} {q n : Nat} {G : List Bool} (h : OutB w q n n G) (hb : Below w.heap.size w w') : OutB w' q n n G := h.below hb

set_option maxHeartbeats 8000000 in
theorem asItWas_any (a : Option Addr) (c : Nat) (a' : Option Addr) (c' : Nat) (L : List Wd) (G : List Bool) (w : World) (hM : MemS w a 24 a' 24 L G) :
    Calls Try.prog 36 #[.agg #[.slice a 24 c, .slice a' 24 c']] w fun e w' => ∃ b d b', e = .returned (.agg #[.slice b 24 d, .slice b' 24 24]) ∧ 24 ≤ d ∧ AnsM b b' 24 24 L G w' ∧ (∀ k, On b k ∨ On b' k → w.heap.size ≤ k) ∧ Below w.heap.size w w' := by
  have hlw := hM.ws.2.1
  have hlg := hM.gs.2.1
  obtain ⟨kb, o, _, rfl, _, _, _⟩ := hM.ws.at (j := 0) (by omega)
  have H := hid_mk (((((Hold.new w).push (argF w.heap.size (some ⟨kb, o, none⟩) 24 a' 24 L G) hM.arg).alloc (.cells #[.slice (some ⟨kb, o, none⟩) 24 c, .slice a' 24 c'] 30)).push (duoF w.heap.size (.slice (some ⟨kb, o, none⟩) 24 c) (.slice a' 24 c')) (Duo.new w _ _ _)).alloc (.cells #[.slice none 0 0, .slice none 0 0] 30))
  have S0 : Hid (Duo ((w.alloc (.cells #[.slice (some ⟨kb, o, none⟩) 24 c, .slice a' 24 c'] 30)).alloc (.cells #[.slice none 0 0, .slice none 0 0] 30)) (w.heap.size + 1) (.slice none 0 0) (.slice none 0 0)) := by
    have h := Duo.new (w.alloc (.cells #[.slice (some ⟨kb, o, none⟩) 24 c, .slice a' 24 c'] 30)) (.slice none 0 0) (.slice none 0 0) 30
    rw [World.size_alloc] at h
    exact h
  clear hM
  go_enter Try.func36, Try.ntmps36
  go_upto_region 1 with fail
  generalize (w.alloc (.cells #[.slice (some ⟨kb, o, none⟩) 24 c, .slice a' 24 c'] 30)).alloc (.cells #[.slice none 0 0, .slice none 0 0] 30) = W at H S0 ⊢
  replace H := hid_mk (H.out.push (spotF (w.heap.size + 1)) ⟨_, _, S0.out⟩)
  clear S0
  have ALL : Hid (∀ w', Hold w w' [spotF (w.heap.size + 1), duoF w.heap.size (.slice (some ⟨kb, o, none⟩) 24 c) (.slice a' 24 c'), argF w.heap.size (some ⟨kb, o, none⟩) 24 a' 24 L G] → (w'.cell? ⟨w.heap.size, 0, none⟩ = some (.slice (some ⟨kb, o, none⟩) 24 c) ∧ w'.cell? ⟨w.heap.size, 1, none⟩ = some (.slice a' 24 c') ∧ Hid (Hold w w' [spotF (w.heap.size + 1), duoF w.heap.size (.slice (some ⟨kb, o, none⟩) 24 c) (.slice a' 24 c'), argF w.heap.size (some ⟨kb, o, none⟩) 24 a' 24 L G]))) := fun w' h => by
    have h1 := h.duo (.tail _ (.head _))
    exact ⟨h1.c0, h1.c1, h⟩
  have GET : Hid (∀ w', (w'.cell? ⟨w.heap.size, 0, none⟩ = some (.slice (some ⟨kb, o, none⟩) 24 c) ∧ w'.cell? ⟨w.heap.size, 1, none⟩ = some (.slice a' 24 c') ∧ Hid (Hold w w' [spotF (w.heap.size + 1), duoF w.heap.size (.slice (some ⟨kb, o, none⟩) 24 c) (.slice a' 24 c'), argF w.heap.size (some ⟨kb, o, none⟩) 24 a' 24 L G])) → Hold w w' [spotF (w.heap.size + 1), duoF w.heap.size (.slice (some ⟨kb, o, none⟩) 24 c) (.slice a' 24 c'), argF w.heap.size (some ⟨kb, o, none⟩) 24 a' 24 L G]) := fun w' h => h.2.2
  have F0 := hid_mk H.out.drew
  clear H
  go_region_held3 (fun w' => w'.cell? ⟨w.heap.size, 0, none⟩ = some (.slice (some ⟨kb, o, none⟩) 24 c) ∧ w'.cell? ⟨w.heap.size, 1, none⟩ = some (.slice a' 24 c') ∧ Hid (Hold w w' [spotF (w.heap.size + 1), duoF w.heap.size (.slice (some ⟨kb, o, none⟩) 24 c) (.slice a' 24 c'), argF w.heap.size (some ⟨kb, o, none⟩) 24 a' 24 L G]))
    (first | (with_reducible assumption) | (((with_reducible refine ALL.out _ ?_); (first | (with_reducible exact F0.out) | ((with_reducible apply Hold.next ?_ KA.out); (with_reducible exact GET.out _ (by with_reducible assumption))) | ((with_reducible apply Hold.next ?_ KG.out); (with_reducible exact GET.out _ (by with_reducible assumption))) | ((with_reducible apply Hold.next ?_ KL.out); (with_reducible exact GET.out _ (by with_reducible assumption))) | ((with_reducible apply Hold.store2 (GET.out _ (by with_reducible assumption)) (by omega)); (intro f hf k hk; simp only [List.mem_cons, List.not_mem_nil, or_false] at hf; rcases hf with rfl | rfl; (simp only [duoF] at hk; omega); (simp only [argF] at hk; omega))) | fail))))
    (first
      | ((refine step_appW (by rfl) _ _ (by rfl) ⟨kb, o, none⟩ 0 0 [] (by rfl) rfl (fun j u hj => by cases hj) ⟨kb, o, none⟩ 24 c L (by rfl) hlw ((GET.out _ (by with_reducible assumption)).arg (.tail _ (.tail _ (.head _)))).ws.flat (by omega) (by omega) ?_); intro g cp wA _ hOA hgA hcA hbA; have KA := hid_mk hbA; have RA := hid_mk hOA.app_nil; have lA := hgA; have uA := RA.out.lt; have zA := hbA.size; (first | (have RB := hid_mk (RB.out.to hbA)) | skip); (obtain ⟨u0, u1, hsp, q0, q1, q2, q3⟩ := ((GET.out _ (by with_reducible assumption)).next hbA).spot (.head _)); clear hbA hOA hgA)
      | (go_at_call 43; refine (goneIn_any _ a' c' G _ ((GET.out _ (by with_reducible assumption)).arg (.tail _ (.tail _ (.head _)))).gs).mono ?_; rintro e wG ⟨rfl, hbG⟩; have KG := hid_mk hbG; have zG := hbG.size; (first | (have RA := hid_mk (RA.out.below hbG)) | skip); (obtain ⟨u0, u1, hsp, q0, q1, q2, q3⟩ := ((GET.out _ (by with_reducible assumption)).next hbG).spot (.head _)); clear hbG)
      | (go_at_call 56; refine (list_any G hlg _).mono ?_; rintro e wL ⟨gb, rfl, hgL, hOL, hbL⟩; have KL := hid_mk hbL; have RB := hid_mk hOL; have lB := hgL; have uB := hOL.lt; have zL := hbL.size; (first | (have RA := hid_mk (RA.out.below hbL)) | skip); (obtain ⟨u0, u1, hsp, q0, q1, q2, q3⟩ := ((GET.out _ (by with_reducible assumption)).next hbL).spot (.head _)); clear hbL hOL hgL))
  all_goals
    have HE := hid_mk (GET.out _ (by with_reducible assumption))
    obtain ⟨_, _, hs0, _, _, _, _⟩ := F0.out.spot (.head _)
    have hne : g ≠ gb := by omega
    have hg1 : w.heap.size + 1 < g := by omega
    have hg2 : w.heap.size + 1 < gb := by omega
    clear ALL GET F0
    go_wp2
    refine bodyPost_ret (v := .agg #[.slice (some ⟨g, 0, none⟩) 24 cp, .slice (some ⟨gb, 0, none⟩) 24 24]) (by simp [results, Try.results36, go_sem, q0, q1]) rfl ⟨_, _, _, rfl, by omega, ?_, ?_, HE.out.bel⟩
    · exact ⟨.inr ⟨g, rfl, hlw, RA.out.keepB (((KeepBut.refl (w.heap.size + 1) _).setCell 0 _).setCell 1 _) (by omega)⟩, .inr ⟨gb, rfl, hlg, RB.out.keepB (((KeepBut.refl (w.heap.size + 1) _).setCell 0 _).setCell 1 _) (by omega)⟩, fun k h1 h2 => hne (((on_some g k).1 h1).trans ((on_some gb k).1 h2).symm)⟩
    · rintro k (hk | hk)
      · have := (on_some g k).1 hk; omega
      · have := (on_some gb k).1 hk; omega
end Go.Proofs.Ytfeoaegkhbjaeaa
