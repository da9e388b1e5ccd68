/- The specification's l8Copy: a memory of its own, like the one that it was given. No condition but that 24 of both are there. -/
import Derived.Test.YtfeoaegkhbjaeaaCpy2
namespace Go.Proofs.Ytfeoaegkhbjaeaa
open Go.ChangeShapes Go.WideShapes Go.ChangeAt Go.RowKit
set_option maxRecDepth 100000

set_option maxHeartbeats 8000000 in
theorem l8Copy_any (a : Option Addr) (c : Nat) (a' : Option Addr) (c' : Nat) (L : List Wd) (G : List Bool) (w : World) (hM : MemS w a 24 a' 24 L G) :
    Calls Try.prog 34 #[.agg #[.slice a 24 c, .slice a' 24 c']] w fun e w' => ∃ b d b' d', e = .returned (.agg #[.slice b 24 d, .slice b' 24 d']) ∧ 24 ≤ d ∧ AnsM b b' 24 24 L G w' ∧ (∀ k, On b k ∨ On b' k → w.heap.size ≤ k) ∧ Below w.heap.size w w' := by
  have hlw := hM.ws.2.1
  have hlg := hM.gs.2.1
  obtain ⟨kb, o, _, rfl, _, _, _⟩ := hM.ws.at (j := 0) (by omega)
  obtain ⟨kg, og, _, rfl, _, _, _⟩ := hM.gs.at (j := 0) (by omega)
  have H := hid_mk (((((Hold.new w).push (argF w.heap.size (some ⟨kb, o, none⟩) 24 (some ⟨kg, og, none⟩) 24 L G) hM.arg).alloc (.cells #[.slice (some ⟨kb, o, none⟩) 24 c, .slice (some ⟨kg, og, none⟩) 24 c'] 30)).push (duoF w.heap.size (.slice (some ⟨kb, o, none⟩) 24 c) (.slice (some ⟨kg, og, none⟩) 24 c')) (Duo.new w _ _ _)).alloc (.cells #[.slice none 0 0, .slice none 0 0] 30))
  have S0 : Hid (Duo ((w.alloc (.cells #[.slice (some ⟨kb, o, none⟩) 24 c, .slice (some ⟨kg, og, none⟩) 24 c'] 30)).alloc (.cells #[.slice none 0 0, .slice none 0 0] 30)) (w.heap.size + 1) (.slice none 0 0) (.slice none 0 0)) := by
    have h := Duo.new (w.alloc (.cells #[.slice (some ⟨kb, o, none⟩) 24 c, .slice (some ⟨kg, og, none⟩) 24 c'] 30)) (.slice none 0 0) (.slice none 0 0) 30
    rw [World.size_alloc] at h
    exact h
  clear hM
  go_enter Try.func34, Try.ntmps34
  go_upto_region 1 with fail
  generalize (w.alloc (.cells #[.slice (some ⟨kb, o, none⟩) 24 c, .slice (some ⟨kg, og, none⟩) 24 c'] 30)).alloc (.cells #[.slice none 0 0, .slice none 0 0] 30) = W at H S0 ⊢
  replace H := hid_mk (H.out.push (spotF (w.heap.size + 1)) ⟨_, _, S0.out⟩)
  clear S0
  have ALL : Hid (∀ w', Hold w w' [spotF (w.heap.size + 1), duoF w.heap.size (.slice (some ⟨kb, o, none⟩) 24 c) (.slice (some ⟨kg, og, none⟩) 24 c'), argF w.heap.size (some ⟨kb, o, none⟩) 24 (some ⟨kg, og, none⟩) 24 L G] → (w'.cell? ⟨w.heap.size, 0, none⟩ = some (.slice (some ⟨kb, o, none⟩) 24 c) ∧ w'.cell? ⟨w.heap.size, 1, none⟩ = some (.slice (some ⟨kg, og, none⟩) 24 c') ∧ Hid (Hold w w' [spotF (w.heap.size + 1), duoF w.heap.size (.slice (some ⟨kb, o, none⟩) 24 c) (.slice (some ⟨kg, og, none⟩) 24 c'), argF w.heap.size (some ⟨kb, o, none⟩) 24 (some ⟨kg, og, none⟩) 24 L G]))) := fun w' h => by
    have h1 := h.duo (.tail _ (.head _))
    exact ⟨h1.c0, h1.c1, h⟩
  have GET : Hid (∀ w', (w'.cell? ⟨w.heap.size, 0, none⟩ = some (.slice (some ⟨kb, o, none⟩) 24 c) ∧ w'.cell? ⟨w.heap.size, 1, none⟩ = some (.slice (some ⟨kg, og, none⟩) 24 c') ∧ Hid (Hold w w' [spotF (w.heap.size + 1), duoF w.heap.size (.slice (some ⟨kb, o, none⟩) 24 c) (.slice (some ⟨kg, og, none⟩) 24 c'), argF w.heap.size (some ⟨kb, o, none⟩) 24 (some ⟨kg, og, none⟩) 24 L G])) → Hold w w' [spotF (w.heap.size + 1), duoF w.heap.size (.slice (some ⟨kb, o, none⟩) 24 c) (.slice (some ⟨kg, og, none⟩) 24 c'), argF w.heap.size (some ⟨kb, o, none⟩) 24 (some ⟨kg, og, none⟩) 24 L G]) := fun w' h => h.2.2
  have ST : Hid (∀ w1 u0 u1, Hold w w1 [spotF (w.heap.size + 1), duoF w.heap.size (.slice (some ⟨kb, o, none⟩) 24 c) (.slice (some ⟨kg, og, none⟩) 24 c'), argF w.heap.size (some ⟨kb, o, none⟩) 24 (some ⟨kg, og, none⟩) 24 L G] → Hold w ((w1.setCell ⟨w.heap.size + 1, 0, none⟩ u0).setCell ⟨w.heap.size + 1, 1, none⟩ u1) [spotF (w.heap.size + 1), duoF w.heap.size (.slice (some ⟨kb, o, none⟩) 24 c) (.slice (some ⟨kg, og, none⟩) 24 c'), argF w.heap.size (some ⟨kb, o, none⟩) 24 (some ⟨kg, og, none⟩) 24 L G]) := fun w1 u0 u1 h => h.store2 (by omega) (fun f hf k hk => by
    simp only [List.mem_cons, List.not_mem_nil, or_false] at hf
    rcases hf with rfl | rfl
    · simp only [duoF] at hk; omega
    · simp only [argF] at hk; omega) u0 u1
  obtain ⟨_, _, hsW, _, _, _, _⟩ := H.out.spot (.head _)
  go_region_held3 (fun w' => w'.cell? ⟨w.heap.size, 0, none⟩ = some (.slice (some ⟨kb, o, none⟩) 24 c) ∧ w'.cell? ⟨w.heap.size, 1, none⟩ = some (.slice (some ⟨kg, og, none⟩) 24 c') ∧ Hid (Hold w w' [spotF (w.heap.size + 1), duoF w.heap.size (.slice (some ⟨kb, o, none⟩) 24 c) (.slice (some ⟨kg, og, none⟩) 24 c'), argF w.heap.size (some ⟨kb, o, none⟩) 24 (some ⟨kg, og, none⟩) 24 L G]))
    (first | (with_reducible assumption) | (((with_reducible refine ALL.out _ ?_); (first | ((with_reducible apply Hold.next ?_ KA.out); (with_reducible exact GET.out _ (by with_reducible assumption))) | ((with_reducible apply Hold.next ?_ KB.out); (with_reducible exact GET.out _ (by with_reducible assumption))) | ((with_reducible apply ST.out _ _ _ (GET.out _ (by with_reducible assumption)))) | (with_reducible exact H.out.drew) | ((with_reducible apply Hold.drew); (with_reducible apply Hold.alloc); (with_reducible exact H.out)) | ((with_reducible apply Hold.drew); (with_reducible apply Hold.alloc); (with_reducible apply Hold.alloc); (with_reducible exact H.out)) | ((with_reducible apply Hold.alloc); (with_reducible exact GET.out _ (by with_reducible assumption))) | fail))))
    (first
      | ((refine step_appW (by rfl) _ _ (by rfl) _ 0 0 [] (by rfl) rfl (fun j u hj => by cases hj) ⟨kb, o, none⟩ 24 c L (by rfl) hlw ((GET.out _ (by with_reducible assumption)).arg (.tail _ (.tail _ (.head _)))).ws.flat (by omega) (by omega) ?_); intro g cp wA _ hOA hgA hcA hbA; have KA := hid_mk hbA; have RA := hid_mk hOA.app_nil; have lA := hgA; have uA := RA.out.lt; have zA := hbA.size; (try simp at lA zA); (first | (have RB := hid_mk (RB.out.to hbA)) | (have RB := hid_mk (RB.out.to (((Below.refl _ _).alloc (Nat.le_refl _) _).trans (hbA.mono (by simp))))) | skip); (obtain ⟨u0, u1, hsp, q0, q1, q2, q3⟩ := ((GET.out _ (by with_reducible assumption)).next hbA).spot (.head _)); clear hbA hOA hgA)
      | ((refine step_appB (by rfl) _ _ (by rfl) _ 0 (by rfl) ⟨kg, og, none⟩ 24 c' G (by rfl) hlg ((GET.out _ (by with_reducible assumption)).arg (.tail _ (.tail _ (.head _)))).gs.flat (by omega) (by omega) ?_); intro gb cb wB hOB hgB hcB hbB; have KB := hid_mk hbB; have RB := hid_mk hOB; have lB := hgB; have uB := RB.out.lt; have zB := hbB.size; (try simp at lB zB); (first | (have RA := hid_mk (RA.out.below hbB)) | (have RA := hid_mk (RA.out.below (((Below.refl _ _).alloc (Nat.le_refl _) _).trans (hbB.mono (by simp))))) | skip); (obtain ⟨u0, u1, hsp, q0, q1, q2, q3⟩ := ((GET.out _ (by with_reducible assumption)).next hbB).spot (.head _)); clear hbB hOB hgB))
  all_goals
    have HE := hid_mk (GET.out _ (by with_reducible assumption))
    have hne : g ≠ gb := by omega
    have hg1 : w.heap.size + 1 < g := by omega
    have hg2 : w.heap.size + 1 < gb := by omega
    clear ALL GET H ST
    go_wp2
    refine bodyPost_ret (v := .agg #[.slice (some ⟨g, 0, none⟩) 24 cp, .slice (some ⟨gb, 0, none⟩) 24 cb]) (by simp [results, Try.results34, go_sem, q0, q1]) rfl ⟨_, _, _, _, rfl, by omega, ?_, ?_, HE.out.bel⟩
    · exact ⟨.inr ⟨g, rfl, hlw, RA.out.keepB (((KeepBut.refl (w.heap.size + 1) _).setCell 0 _).setCell 1 _) (by omega)⟩, .inr ⟨gb, rfl, hlg, RB.out.keepB (((KeepBut.refl (w.heap.size + 1) _).setCell 0 _).setCell 1 _) (by omega)⟩, fun k h1 h2 => hne (((on_some g k).1 h1).trans ((on_some gb k).1 h2).symm)⟩
    · rintro k (hk | hk)
      · have := (on_some g k).1 hk; omega
      · have := (on_some gb k).1 hk; omega
end Go.Proofs.Ytfeoaegkhbjaeaa
