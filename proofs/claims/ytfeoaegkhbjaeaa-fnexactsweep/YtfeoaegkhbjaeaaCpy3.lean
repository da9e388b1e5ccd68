/- The program's withWord: a memory of its own, with a word anew. No condition but that 24 of both are there, and the word's number. -/
import Derived.Test.YtfeoaegkhbjaeaaCpy2
import Derived.Deep.AppendLies
namespace Go.Proofs.Ytfeoaegkhbjaeaa
open Go.ChangeShapes Go.WideShapes Go.ChangeAt Go.RowKit
set_option maxRecDepth 100000

theorem own_next {w w' : World} {base n g cp : Nat} {xs : List Value} {T : TypeId} {size : Nat} (h : w.ownsRow base T size (.slice (some ⟨g, 0, none⟩) n cp) n xs) (hb : Below w.heap.size w w') : w'.ownsRow base T size (.slice (some ⟨g, 0, none⟩) n cp) n xs :=
  h.kept (row := none) ⟨hb.os, hb.tape, hb.output, hb.size, fun k hk _ => hb.block k hk⟩ (.inr (by simp [Value.ownBlock]))
/-- append of words onto a row that is owned, as one step of a region that draws. -/
theorem step_ownW {ops : Array Oper} {o : Oper} {a : Act} {w : World} {K : Act → World → Prop} {Q : Exit → Act → World → Prop} {E : Prop} (hgd : o.guard = none) (s x : Operand)
    (ho : o.op = .call { callee := .builtin .append, args := #[s, x], argTypes := #[28, 28] })
    (base g0 n cap : Nat) (X : List Wd) (hs : a.eval s = .slice (some ⟨g0, 0, none⟩) n cap) (hX : X.length = n) (hown : w.ownsRow base 47 6 (.slice (some ⟨g0, 0, none⟩) n cap) n (X.flatMap Wd.vs))
    (ad : Addr) (m c : Nat) (Y : List Wd) (hx : a.eval x = .slice (some ad) m c) (hY : Y.length = m) (hc : ∀ j u, (Y.flatMap Wd.vs)[j]? = some u → w.cell? (ad.add j) = some u) (t : Nat) (ht : n + m = t) (h0 : 0 < t) (hb : t ≤ 1048576) (hbase : base ≤ w.heap.size)
    (h : ∀ g cp w', OutW w' g t t (X ++ Y) → base ≤ g → g < w'.heap.size → g = g0 ∨ w.heap.size ≤ g → t ≤ cp → KeepBut g0 w w' → K (a.put o.dst (.slice (some ⟨g, 0, none⟩) t cp)) w') :
    if Region.wanted o (yielded ops a.tmps) = true then Oper.wp Try.prog o a w K Q else E := by
  have hw : Region.wanted o (yielded ops a.tmps) = true := by simp [Region.wanted, hgd]
  rw [if_pos hw]
  subst ht
  obtain ⟨i, hi, hz0, hz1, hz2⟩ := info_parts infoW
  obtain ⟨v', w', hrun, hown', hgrow, _, hlies⟩ := run_append_own_at (P := Try.prog) w base 28 o.type 47 i _ 6 48 Try.underlying28 hi hz0 hz1 hz2 rfl (by decide) _ n (X.flatMap Wd.vs) hown ad m c (Y.flatMap Wd.vs) (by rw [flatW_len, hY]) hc (flatW_one Y) (by unfold maxLen; omega) (by omega) hbase
  have hl : (X ++ Y).length = n + m := by rw [List.length_append, hX, hY]
  rw [← List.flatMap_append, ← hl] at hown'
  obtain ⟨g, cp, rfl, hg, hcp, hO⟩ := own_outW hown' (by omega)
  rw [hl] at hO hcp hrun hlies
  unfold Oper.wp
  simp [execOp, ho, resolve, invoke, builtin, hs, hx, hrun, Result.andThen]
  have hk := h g cp w' hO hg hO.lt (by
    rcases hlies with e | e
    · left; simpa [Value.ownBlock] using e
    · right; have : g = w.heap.size := by simpa [Value.ownBlock] using e
      omega) hcp ⟨hgrow.os, hgrow.tape, hgrow.output, hgrow.size, fun k hk hne => hgrow.block k hk (by simp [Value.ownBlock]; exact hne)⟩
  exact hk

theorem drop_cells {B : Nat} {w : World} {kb o len k : Nat} {L : List Wd} (h : SliceW B w (some ⟨kb, o, none⟩) len L) : ∀ j u, ((L.drop k).flatMap Wd.vs)[j]? = some u → w.cell? ((⟨kb, o + k * 6, none⟩ : Addr).add j) = some u := by
  intro j u hj
  rw [Go.WideShapes.add_plain, Nat.add_assoc]
  by_cases hk : k ≤ L.length
  · have e : (L.flatMap Wd.vs)[k * 6 + j]? = some u := by
      have h1 : L.flatMap Wd.vs = (L.take k).flatMap Wd.vs ++ (L.drop k).flatMap Wd.vs := by rw [← List.flatMap_append, List.take_append_drop]
      have h2 : ((L.take k).flatMap Wd.vs).length = k * 6 := by rw [flatW_len, List.length_take]; omega
      rw [h1, List.getElem?_append_right (by omega), h2, show k * 6 + j - k * 6 = j by omega]
      exact hj
    have := h.flat _ _ e
    rwa [Go.WideShapes.add_plain] at this
  · rw [List.drop_of_length_le (by omega)] at hj
    cases hj
theorem set_row {L : List Wd} {n k : Nat} {x : Wd} (hk : k = n + 1) (hn : n < L.length) : L.take n ++ [x] ++ L.drop k = L.set n x := by
  subst hk
  rw [List.set_eq_take_append_cons_drop, if_pos hn]
  simp
theorem flatW_pre : ∀ {L M : List Wd} {j : Nat} {u : Value}, (L.flatMap Wd.vs)[j]? = some u → ((L ++ M).flatMap Wd.vs)[j]? = some u := fun {L M j u} h => by
  rw [List.flatMap_append, List.getElem?_append_left (List.getElem?_eq_some_iff.1 h).1]
  exact h
theorem take_flat {L : List Wd} {n j : Nat} {u : Value} (h : ((L.take n).flatMap Wd.vs)[j]? = some u) : (L.flatMap Wd.vs)[j]? = some u := by
  have := flatW_pre (M := L.drop n) h
  rwa [List.take_append_drop] at this

set_option maxHeartbeats 8000000 in
theorem withWord_any (a : Option Addr) (c : Nat) (a' : Option Addr) (c' : Nat) (L : List Wd) (G : List Bool) (n : Nat) (hn : n < 24) (hcap : 24 ≤ c) (x : Wd) (w : World) (hM : MemS w a 24 a' 24 L G) :
    Calls Try.prog 44 #[.agg #[.slice a 24 c, .slice a' 24 c'], .int .i64 (n : Int), .agg #[.int .i64 x.n, .bool x.i, .int .i64 x.b, .int .i64 x.t, .int .i64 x.p, .int .i64 x.s]] w fun e w' => ∃ b d b', e = .returned (.agg #[.slice b 24 d, .slice b' 24 24]) ∧ 24 ≤ d ∧ AnsM b b' 24 24 (L.set n x) G w' ∧ (∀ k, On b k ∨ On b' k → w.heap.size ≤ k) ∧ Below w.heap.size w w' := by
  have hlw := hM.ws.2.1
  have hlg := hM.gs.2.1
  obtain ⟨kb, o, _, rfl, _, _, _⟩ := hM.ws.at (j := 0) (by omega)
  have hn0 : (0 : Int) ≤ (n : Int) := Int.natCast_nonneg _
  have hn1 : (n : Int) < 24 := by omega
  have hnc : (n : Int) ≤ (c : Int) := by omega
  have H := hid_mk (((((Hold.new w).push (argF w.heap.size (some ⟨kb, o, none⟩) 24 a' 24 L G) hM.arg).alloc (.cells #[.slice (some ⟨kb, o, none⟩) 24 c, .slice a' 24 c'] 30)).push (duoF w.heap.size (.slice (some ⟨kb, o, none⟩) 24 c) (.slice a' 24 c')) (Duo.new w _ _ _)).alloc (.cells #[.int .i64 x.n, .bool x.i, .int .i64 x.b, .int .i64 x.t, .int .i64 x.p, .int .i64 x.s] 47))
  have X0 := hid_mk (Six.second w (.cells #[.slice (some ⟨kb, o, none⟩) 24 c, .slice a' 24 c'] 30) x.n x.i x.b x.t x.p x.s 47)
  replace H := hid_mk ((H.out.push (sixF (w.heap.size + 1) x) X0.out).alloc (.cells #[.slice none 0 0, .slice none 0 0] 30))
  have S0 : Hid (Duo (((w.alloc (.cells #[.slice (some ⟨kb, o, none⟩) 24 c, .slice a' 24 c'] 30)).alloc (.cells #[.int .i64 x.n, .bool x.i, .int .i64 x.b, .int .i64 x.t, .int .i64 x.p, .int .i64 x.s] 47)).alloc (.cells #[.slice none 0 0, .slice none 0 0] 30)) (w.heap.size + 1 + 1) (.slice none 0 0) (.slice none 0 0)) := by
    have h := Duo.new ((w.alloc (.cells #[.slice (some ⟨kb, o, none⟩) 24 c, .slice a' 24 c'] 30)).alloc (.cells #[.int .i64 x.n, .bool x.i, .int .i64 x.b, .int .i64 x.t, .int .i64 x.p, .int .i64 x.s] 47)) (.slice none 0 0) (.slice none 0 0) 30
    rw [World.size_alloc, World.size_alloc] at h
    exact h
  clear hM X0
  go_enter Try.func44, Try.ntmps44
  go_upto_region 1 with fail
  generalize ((w.alloc (.cells #[.slice (some ⟨kb, o, none⟩) 24 c, .slice a' 24 c'] 30)).alloc (.cells #[.int .i64 x.n, .bool x.i, .int .i64 x.b, .int .i64 x.t, .int .i64 x.p, .int .i64 x.s] 47)).alloc (.cells #[.slice none 0 0, .slice none 0 0] 30) = W at H S0 ⊢
  replace H := hid_mk (H.out.push (spotF (w.heap.size + 1 + 1)) ⟨_, _, S0.out⟩)
  clear S0
  have ALL : Hid (∀ w', Hold w w' [spotF (w.heap.size + 1 + 1), sixF (w.heap.size + 1) x, duoF w.heap.size (.slice (some ⟨kb, o, none⟩) 24 c) (.slice a' 24 c'), argF w.heap.size (some ⟨kb, o, none⟩) 24 a' 24 L G] → (w'.cell? ⟨w.heap.size, 0, none⟩ = some (.slice (some ⟨kb, o, none⟩) 24 c) ∧ w'.cell? ⟨w.heap.size, 1, none⟩ = some (.slice a' 24 c') ∧ w'.cell? ⟨w.heap.size + 1, 0, none⟩ = some (.int .i64 x.n) ∧ w'.cell? ⟨w.heap.size + 1, 1, none⟩ = some (.bool x.i) ∧ w'.cell? ⟨w.heap.size + 1, 2, none⟩ = some (.int .i64 x.b) ∧ w'.cell? ⟨w.heap.size + 1, 3, none⟩ = some (.int .i64 x.t) ∧ w'.cell? ⟨w.heap.size + 1, 4, none⟩ = some (.int .i64 x.p) ∧ w'.cell? ⟨w.heap.size + 1, 5, none⟩ = some (.int .i64 x.s) ∧ Hid (Hold w w' [spotF (w.heap.size + 1 + 1), sixF (w.heap.size + 1) x, duoF w.heap.size (.slice (some ⟨kb, o, none⟩) 24 c) (.slice a' 24 c'), argF w.heap.size (some ⟨kb, o, none⟩) 24 a' 24 L G]))) := fun w' h => by
    have h1 := h.duo (.tail _ (.tail _ (.head _)))
    have h2 := h.six (.tail _ (.head _))
    exact ⟨h1.c0, h1.c1, h2.c0, h2.c1, h2.c2, h2.c3, h2.c4, h2.c5, h⟩
  have GET : Hid (∀ w', (w'.cell? ⟨w.heap.size, 0, none⟩ = some (.slice (some ⟨kb, o, none⟩) 24 c) ∧ w'.cell? ⟨w.heap.size, 1, none⟩ = some (.slice a' 24 c') ∧ w'.cell? ⟨w.heap.size + 1, 0, none⟩ = some (.int .i64 x.n) ∧ w'.cell? ⟨w.heap.size + 1, 1, none⟩ = some (.bool x.i) ∧ w'.cell? ⟨w.heap.size + 1, 2, none⟩ = some (.int .i64 x.b) ∧ w'.cell? ⟨w.heap.size + 1, 3, none⟩ = some (.int .i64 x.t) ∧ w'.cell? ⟨w.heap.size + 1, 4, none⟩ = some (.int .i64 x.p) ∧ w'.cell? ⟨w.heap.size + 1, 5, none⟩ = some (.int .i64 x.s) ∧ Hid (Hold w w' [spotF (w.heap.size + 1 + 1), sixF (w.heap.size + 1) x, duoF w.heap.size (.slice (some ⟨kb, o, none⟩) 24 c) (.slice a' 24 c'), argF w.heap.size (some ⟨kb, o, none⟩) 24 a' 24 L G])) → Hold w w' [spotF (w.heap.size + 1 + 1), sixF (w.heap.size + 1) x, duoF w.heap.size (.slice (some ⟨kb, o, none⟩) 24 c) (.slice a' 24 c'), argF w.heap.size (some ⟨kb, o, none⟩) 24 a' 24 L G]) := fun w' h => h.2.2.2.2.2.2.2.2
  have F0 := hid_mk H.out.drew
  have FA := hid_mk (H.out.alloc (.cells #[.int .i64 x.n, .bool x.i, .int .i64 x.b, .int .i64 x.t, .int .i64 x.p, .int .i64 x.s] 47)).drew
  have hd : Hid (∀ f ∈ [spotF (w.heap.size + 1 + 1), sixF (w.heap.size + 1) x, duoF w.heap.size (.slice (some ⟨kb, o, none⟩) 24 c) (.slice a' 24 c'), argF w.heap.size (some ⟨kb, o, none⟩) 24 a' 24 L G], ∀ k, f.S k → k < w.heap.size + 1 + 1 + 1) := fun f hf k hk => by
    simp only [List.mem_cons, List.not_mem_nil, or_false] at hf
    rcases hf with rfl | rfl | rfl | rfl
    · simp only [spotF] at hk; omega
    · simp only [sixF] at hk; omega
    · simp only [duoF] at hk; omega
    · simp only [argF] at hk; omega
  obtain ⟨_, _, hsW, _, _, _, _⟩ := H.out.spot (.head _)
  clear H
  go_region_held3 (fun w' => w'.cell? ⟨w.heap.size, 0, none⟩ = some (.slice (some ⟨kb, o, none⟩) 24 c) ∧ w'.cell? ⟨w.heap.size, 1, none⟩ = some (.slice a' 24 c') ∧ w'.cell? ⟨w.heap.size + 1, 0, none⟩ = some (.int .i64 x.n) ∧ w'.cell? ⟨w.heap.size + 1, 1, none⟩ = some (.bool x.i) ∧ w'.cell? ⟨w.heap.size + 1, 2, none⟩ = some (.int .i64 x.b) ∧ w'.cell? ⟨w.heap.size + 1, 3, none⟩ = some (.int .i64 x.t) ∧ w'.cell? ⟨w.heap.size + 1, 4, none⟩ = some (.int .i64 x.p) ∧ w'.cell? ⟨w.heap.size + 1, 5, none⟩ = some (.int .i64 x.s) ∧ Hid (Hold w w' [spotF (w.heap.size + 1 + 1), sixF (w.heap.size + 1) x, duoF w.heap.size (.slice (some ⟨kb, o, none⟩) 24 c) (.slice a' 24 c'), argF w.heap.size (some ⟨kb, o, none⟩) 24 a' 24 L G]))
    (first | (with_reducible assumption) | (((with_reducible refine ALL.out _ ?_); (first | (with_reducible exact F0.out) | (with_reducible exact FA.out) | ((with_reducible apply Hold.next ?_ KA.out); (with_reducible exact GET.out _ (by with_reducible assumption))) | fail))))
    (first
      | ((refine step_appW (by rfl) _ _ (by rfl) ⟨kb, o, none⟩ n n (L.take n) (by rfl) (by rw [List.length_take]; omega) (fun j u hj => ((GET.out _ (by with_reducible assumption)).arg (.tail _ (.tail _ (.tail _ (.head _))))).ws.flat j u (take_flat hj)) ⟨W.heap.size, 0, none⟩ 1 1 [x] (by rfl) rfl (World.news_of_block (cs := #[.int .i64 x.n, .bool x.i, .int .i64 x.b, .int .i64 x.t, .int .i64 x.p, .int .i64 x.s]) (t := 47) (fr := (0, 0)) (heap_alloc_new W _)) (by omega) (by omega) ?_); intro g cp wA hnA hOA hgA hcA hbA; have KA := hid_mk hbA; have NA := hid_mk hnA; have lA := hgA; have uA := hOA.lt; clear hbA hOA hgA hnA))
  have HE := hid_mk (GET.out _ (by with_reducible assumption))
  have hz : ((W.alloc (.cells #[.int .i64 x.n, .bool x.i, .int .i64 x.b, .int .i64 x.t, .int .i64 x.p, .int .i64 x.s] 47)).drew).heap.size = W.heap.size + 1 := by simp
  rw [hz] at NA lA
  clear ALL GET F0 FA KA hz
  go_upto_region 2 with fail
  have hg0 : w.heap.size + 1 + 1 + 1 ≤ g := by omega
  have ALL : Hid (∀ w', Hold w w' [spotF (w.heap.size + 1 + 1), sixF (w.heap.size + 1) x, duoF w.heap.size (.slice (some ⟨kb, o, none⟩) 24 c) (.slice a' 24 c'), argF w.heap.size (some ⟨kb, o, none⟩) 24 a' 24 L G] → (w'.cell? ⟨w.heap.size, 0, none⟩ = some (.slice (some ⟨kb, o, none⟩) 24 c) ∧ w'.cell? ⟨w.heap.size, 1, none⟩ = some (.slice a' 24 c') ∧ Hid (Hold w w' [spotF (w.heap.size + 1 + 1), sixF (w.heap.size + 1) x, duoF w.heap.size (.slice (some ⟨kb, o, none⟩) 24 c) (.slice a' 24 c'), argF w.heap.size (some ⟨kb, o, none⟩) 24 a' 24 L G]))) := fun w' h => by
    have h1 := h.duo (.tail _ (.tail _ (.head _)))
    exact ⟨h1.c0, h1.c1, h⟩
  have GET : Hid (∀ w', (w'.cell? ⟨w.heap.size, 0, none⟩ = some (.slice (some ⟨kb, o, none⟩) 24 c) ∧ w'.cell? ⟨w.heap.size, 1, none⟩ = some (.slice a' 24 c') ∧ Hid (Hold w w' [spotF (w.heap.size + 1 + 1), sixF (w.heap.size + 1) x, duoF w.heap.size (.slice (some ⟨kb, o, none⟩) 24 c) (.slice a' 24 c'), argF w.heap.size (some ⟨kb, o, none⟩) 24 a' 24 L G])) → Hold w w' [spotF (w.heap.size + 1 + 1), sixF (w.heap.size + 1) x, duoF w.heap.size (.slice (some ⟨kb, o, none⟩) 24 c) (.slice a' 24 c'), argF w.heap.size (some ⟨kb, o, none⟩) 24 a' 24 L G]) := fun w' h => h.2.2
  have WR : Hid (∀ w1 w2, Hold w w1 [spotF (w.heap.size + 1 + 1), sixF (w.heap.size + 1) x, duoF w.heap.size (.slice (some ⟨kb, o, none⟩) 24 c) (.slice a' 24 c'), argF w.heap.size (some ⟨kb, o, none⟩) 24 a' 24 L G] → KeepBut g w1 w2 → Hold w w2 [spotF (w.heap.size + 1 + 1), sixF (w.heap.size + 1) x, duoF w.heap.size (.slice (some ⟨kb, o, none⟩) 24 c) (.slice a' 24 c'), argF w.heap.size (some ⟨kb, o, none⟩) 24 a' 24 L G]) := fun w1 w2 h k => h.wrote (T := fun k => k = g) (KeptS.ofBut k rfl) (fun k e => by omega) (fun f hf k hk e => by have := hd.out f hf k hk; omega)
  have ST : Hid (∀ w1 u0 u1, Hold w w1 [spotF (w.heap.size + 1 + 1), sixF (w.heap.size + 1) x, duoF w.heap.size (.slice (some ⟨kb, o, none⟩) 24 c) (.slice a' 24 c'), argF w.heap.size (some ⟨kb, o, none⟩) 24 a' 24 L G] → Hold w ((w1.setCell ⟨w.heap.size + 1 + 1, 0, none⟩ u0).setCell ⟨w.heap.size + 1 + 1, 1, none⟩ u1) [spotF (w.heap.size + 1 + 1), sixF (w.heap.size + 1) x, duoF w.heap.size (.slice (some ⟨kb, o, none⟩) 24 c) (.slice a' 24 c'), argF w.heap.size (some ⟨kb, o, none⟩) 24 a' 24 L G]) := fun w1 u0 u1 h => h.store2 (by omega) (fun f hf k hk => by
    simp only [List.mem_cons, List.not_mem_nil, or_false] at hf
    rcases hf with rfl | rfl | rfl
    · simp only [sixF] at hk; omega
    · simp only [duoF] at hk; omega
    · simp only [argF] at hk; omega) u0 u1
  have F0 := hid_mk HE.out.drew
  have hsz : wA.drew.heap.size = wA.heap.size := by simp
  replace NA := hid_mk NA.out.drew
  clear HE hd
  obtain ⟨k, hk⟩ : ∃ k : Nat, k = n + 1 := ⟨_, rfl⟩
  have hwr : IntKind.i64.wrap ((n : Int) + 1) = (k : Int) := by
    rw [wrap_small _ (by omega) (by omega)]; omega
  have hk0 : (0 : Int) ≤ (k : Int) := Int.natCast_nonneg _
  have hk1 : (k : Int) ≤ 24 := by omega
  have hkc : (k : Int) ≤ (c : Int) := by omega
  have HK := hid_mk hk
  have HTA : Hid ((L.take n ++ [x]).length = n + 1) := hid_mk (by rw [List.length_append, List.length_take, List.length_singleton]; omega)
  have HTD : Hid ((L.drop k).length = 24 - k) := hid_mk (by rw [List.length_drop, hlw])
  have HKN : Hid (n + 1 + (24 - k) = 24) := hid_mk (by omega)
  clear hk
  have hnl : n < L.length := by omega
  have hbs : W.heap.size + 1 ≤ wA.drew.heap.size := by omega
  by_cases hck : c = k
  · have hck24 : k = 24 := by omega
    subst hck24 hck
    go_region_held3 (fun w' => w'.cell? ⟨w.heap.size, 0, none⟩ = some (.slice (some ⟨kb, o, none⟩) 24 24) ∧ w'.cell? ⟨w.heap.size, 1, none⟩ = some (.slice a' 24 c') ∧ Hid (Hold w w' [spotF (w.heap.size + 1 + 1), sixF (w.heap.size + 1) x, duoF w.heap.size (.slice (some ⟨kb, o, none⟩) 24 24) (.slice a' 24 c'), argF w.heap.size (some ⟨kb, o, none⟩) 24 a' 24 L G]))
      (first | (with_reducible assumption) | (((with_reducible refine ALL.out _ ?_); (first | (with_reducible exact F0.out) | ((with_reducible apply WR.out _ _ ?_ KA.out); (with_reducible exact GET.out _ (by with_reducible assumption))) | ((with_reducible apply Hold.next ?_ KG.out); (with_reducible exact GET.out _ (by with_reducible assumption))) | ((with_reducible apply Hold.next ?_ KL.out); (with_reducible exact GET.out _ (by with_reducible assumption))) | ((with_reducible apply ST.out _ _ _ (GET.out _ (by with_reducible assumption)))) | fail))))
      (first
        | ((refine step_ownW (by rfl) _ _ (by rfl) (W.heap.size + 1) g (n + 1) cp (L.take n ++ [x]) (by rfl) HTA.out NA.out ⟨kb, o, none⟩ _ _ (L.drop 24) (by rfl) HTD.out (fun j u hj => by rw [List.drop_of_length_le (by omega)] at hj; cases hj) 24 HKN.out (by omega) (by omega) (by omega) ?_); intro g2 cp2 wB hOB hgB hlB hxB hcB hkB; have KA := hid_mk hkB; have RA := hid_mk (set_row HK.out hnl ▸ hOB); have zB := hkB.size; (obtain ⟨u0, u1, hsp, q0, q1, q2, q3⟩ := (WR.out _ _ (GET.out _ (by with_reducible assumption)) hkB).spot (.head _)); clear hkB hOB)
        | (go_at_call 43; refine (goneIn_any _ a' c' G _ ((GET.out _ (by with_reducible assumption)).arg (.tail _ (.tail _ (.tail _ (.head _))))).gs).mono ?_; rintro e wG ⟨rfl, hbG⟩; have KG := hid_mk hbG; have zG := hbG.size; have RA := hid_mk (RA.out.below hbG); (obtain ⟨u0, u1, hsp, q0, q1, q2, q3⟩ := ((GET.out _ (by with_reducible assumption)).next hbG).spot (.head _)); clear hbG)
        | (go_at_call 56; refine (list_any G hlg _).mono ?_; rintro e wL ⟨gb, rfl, hgL, hOL, hbL⟩; have KL := hid_mk hbL; have RB := hid_mk hOL; have lB := hgL; have uB := hOL.lt; have zL := hbL.size; have RA := hid_mk (RA.out.below hbL); (obtain ⟨u0, u1, hsp, q0, q1, q2, q3⟩ := ((GET.out _ (by with_reducible assumption)).next hbL).spot (.head _)); clear hbL hOL hgL))
    have HE := hid_mk (GET.out _ (by with_reducible assumption))
    have hne : g2 ≠ gb := by omega
    have hg1 : w.heap.size + 1 + 1 < g2 := by omega
    have hg2 : w.heap.size + 1 + 1 < gb := by omega
    clear ALL GET F0 WR ST
    go_wp2
    refine bodyPost_ret (v := .agg #[.slice (some ⟨g2, 0, none⟩) 24 cp2, .slice (some ⟨gb, 0, none⟩) 24 24]) (by simp [results, Try.results44, go_sem, q0, q1]) rfl ⟨_, _, _, rfl, hcB, ?_, ?_, HE.out.bel⟩
    · exact ⟨.inr ⟨g2, rfl, by rw [List.length_set]; exact hlw, RA.out.keepB (((KeepBut.refl (w.heap.size + 1 + 1) _).setCell 0 _).setCell 1 _) (by omega)⟩, .inr ⟨gb, rfl, hlg, RB.out.keepB (((KeepBut.refl (w.heap.size + 1 + 1) _).setCell 0 _).setCell 1 _) (by omega)⟩, fun k h1 h2 => hne (((on_some g2 k).1 h1).trans ((on_some gb k).1 h2).symm)⟩
    · rintro k (hk | hk)
      · have := (on_some g2 k).1 hk; omega
      · have := (on_some gb k).1 hk; omega
  · have hck' : ¬ k = c := fun e => hck e.symm
    go_region_held3 (fun w' => w'.cell? ⟨w.heap.size, 0, none⟩ = some (.slice (some ⟨kb, o, none⟩) 24 c) ∧ w'.cell? ⟨w.heap.size, 1, none⟩ = some (.slice a' 24 c') ∧ Hid (Hold w w' [spotF (w.heap.size + 1 + 1), sixF (w.heap.size + 1) x, duoF w.heap.size (.slice (some ⟨kb, o, none⟩) 24 c) (.slice a' 24 c'), argF w.heap.size (some ⟨kb, o, none⟩) 24 a' 24 L G]))
      (first | (with_reducible assumption) | (((with_reducible refine ALL.out _ ?_); (first | (with_reducible exact F0.out) | ((with_reducible apply WR.out _ _ ?_ KA.out); (with_reducible exact GET.out _ (by with_reducible assumption))) | ((with_reducible apply Hold.next ?_ KG.out); (with_reducible exact GET.out _ (by with_reducible assumption))) | ((with_reducible apply Hold.next ?_ KL.out); (with_reducible exact GET.out _ (by with_reducible assumption))) | ((with_reducible apply ST.out _ _ _ (GET.out _ (by with_reducible assumption)))) | fail))))
      (first
        | ((refine step_ownW (by rfl) _ _ (by rfl) (W.heap.size + 1) g (n + 1) cp (L.take n ++ [x]) (by rfl) HTA.out NA.out ⟨kb, o + k * 6, none⟩ (24 - k) (c - k) (L.drop k) (by rfl) HTD.out (drop_cells ((GET.out _ (by with_reducible assumption)).arg (.tail _ (.tail _ (.tail _ (.head _))))).ws) 24 HKN.out (by omega) (by omega) (by omega) ?_); intro g2 cp2 wB hOB hgB hlB hxB hcB hkB; have KA := hid_mk hkB; have RA := hid_mk (set_row HK.out hnl ▸ hOB); have zB := hkB.size; (obtain ⟨u0, u1, hsp, q0, q1, q2, q3⟩ := (WR.out _ _ (GET.out _ (by with_reducible assumption)) hkB).spot (.head _)); clear hkB hOB)
        | (go_at_call 43; refine (goneIn_any _ a' c' G _ ((GET.out _ (by with_reducible assumption)).arg (.tail _ (.tail _ (.tail _ (.head _))))).gs).mono ?_; rintro e wG ⟨rfl, hbG⟩; have KG := hid_mk hbG; have zG := hbG.size; have RA := hid_mk (RA.out.below hbG); (obtain ⟨u0, u1, hsp, q0, q1, q2, q3⟩ := ((GET.out _ (by with_reducible assumption)).next hbG).spot (.head _)); clear hbG)
        | (go_at_call 56; refine (list_any G hlg _).mono ?_; rintro e wL ⟨gb, rfl, hgL, hOL, hbL⟩; have KL := hid_mk hbL; have RB := hid_mk hOL; have lB := hgL; have uB := hOL.lt; have zL := hbL.size; have RA := hid_mk (RA.out.below hbL); (obtain ⟨u0, u1, hsp, q0, q1, q2, q3⟩ := ((GET.out _ (by with_reducible assumption)).next hbL).spot (.head _)); clear hbL hOL hgL))
    have HE := hid_mk (GET.out _ (by with_reducible assumption))
    have hne : g2 ≠ gb := by omega
    have hg1 : w.heap.size + 1 + 1 < g2 := by omega
    have hg2 : w.heap.size + 1 + 1 < gb := by omega
    clear ALL GET F0 WR ST
    go_wp2
    refine bodyPost_ret (v := .agg #[.slice (some ⟨g2, 0, none⟩) 24 cp2, .slice (some ⟨gb, 0, none⟩) 24 24]) (by simp [results, Try.results44, go_sem, q0, q1]) rfl ⟨_, _, _, rfl, hcB, ?_, ?_, HE.out.bel⟩
    · exact ⟨.inr ⟨g2, rfl, by rw [List.length_set]; exact hlw, RA.out.keepB (((KeepBut.refl (w.heap.size + 1 + 1) _).setCell 0 _).setCell 1 _) (by omega)⟩, .inr ⟨gb, rfl, hlg, RB.out.keepB (((KeepBut.refl (w.heap.size + 1 + 1) _).setCell 0 _).setCell 1 _) (by omega)⟩, fun k h1 h2 => hne (((on_some g2 k).1 h1).trans ((on_some gb k).1 h2).symm)⟩
    · rintro k (hk | hk)
      · have := (on_some g2 k).1 hk; omega
      · have := (on_some gb k).1 hk; omega
end Go.Proofs.Ytfeoaegkhbjaeaa
