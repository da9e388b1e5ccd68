/- l12Copy of the specification and coreAsItWas of the program: a core of its own, like the one that it was given, its entries and guesses in rows that may be lengthened. No condition but the lengths of a core that is right. -/
import Derived.Test.YtpkhnajhamnggaaGreatDoorYD
import Derived.Test.YtpkhnajhamnggaaGreatDoorStC
import Derived.Test.YtpkhnajhamnggaaGreatDoorYB
import Derived.Test.YtpkhnajhamnggaaGreatDoorZA
namespace Go.Proofs.YtpkhnajhamnggaaGreatDoor
open Go.ChangeShapes Go.WideShapes Go.ChangeAt Go.RowKit
set_option maxRecDepth 100000

/-- A core that was copied: its parts. -/
structure CopS (w0 : World) (v : Cv) (r : Cr) (b b1 b2 : Option Addr) (g cp j : Nat) (w : World) : Prop where
  st : AnsS b b1 b2 v.rn v.wn v.gn r.R r.L r.G w
  es : RoomE w g v.en cp r.E
  js : (intF j v.jn r.J).p w
  fr : ∀ k, On b k ∨ On b1 k ∨ On b2 k → w0.heap.size ≤ k ∧ k ≠ g ∧ k ≠ j
  fg : w0.heap.size ≤ g
  fj : w0.heap.size ≤ j
  ne : g ≠ j
  bel : Below w0.heap.size w0 w
/-- A core's state lies at its beginning. -/
theorem col_st {w : World} {k : Nat} {v : Cv} {a : Ca} (h : w.rangeAt k 0 (col v a)) : w.rangeAt k 0 (stl a.ra v.rn a.rc v.pc a.wa v.wn a.wc a.ga v.gn a.gc v.t) := fun j u hj => by
  have hl : j < 10 := (List.getElem?_eq_some_iff.1 hj).1
  have e : col v a = stl a.ra v.rn a.rc v.pc a.wa v.wn a.wc a.ga v.gn a.gc v.t ++ (col v a).drop 10 := rfl
  refine h j u ?_
  rw [e, List.getElem?_append_left (by simpa [stl] using hl)]
  exact hj

set_option maxHeartbeats 4000000 in
theorem l12Copy_any (pc : Wd) (t : Int) (en : Nat) (nx : Wd) (st : Bool) (a : Ca) (r : Cr) (w : World) (hn : en ≤ 6) (hea : ∃ q, a.ea = some ⟨q, 0, none⟩) (hja : ∃ q, a.ja = some ⟨q, 0, none⟩) (hS : CoS w (⟨8, pc, 24, 24, t, en, nx, st, 48⟩ : Cv) a r) :
    Calls Tryz.prog 58 #[.agg (col (⟨8, pc, 24, 24, t, en, nx, st, 48⟩ : Cv) a).toArray] w fun e w' => ∃ b d b1 d1 b2 d2 g cp j dj, e = .returned (.agg (col (⟨8, pc, 24, 24, t, en, nx, st, 48⟩ : Cv) (⟨b, d, b1, d1, b2, d2, some ⟨g, 0, none⟩, cp, some ⟨j, 0, none⟩, dj⟩ : Ca)).toArray) ∧ CopS w (⟨8, pc, 24, 24, t, en, nx, st, 48⟩ : Cv) r b b1 b2 g cp j w' := by
  obtain ⟨ra, rc, wa, wc, ga, gc, ea, ec, ja, jc⟩ := a
  obtain ⟨q, rfl⟩ : ∃ q, ea = some ⟨q, 0, none⟩ := hea
  obtain ⟨y, rfl⟩ : ∃ q, ja = some ⟨q, 0, none⟩ := hja
  have H : Hid (Hold w ((w.alloc (.cells (col (⟨8, pc, 24, 24, t, en, nx, st, 48⟩ : Cv) (⟨ra, rc, wa, wc, ga, gc, some ⟨q, 0, none⟩, ec, some ⟨y, 0, none⟩, jc⟩ : Ca)).toArray 64)).alloc (.cells ([.slice none 0 0, .int .i64 0, .bool false, .int .i64 0, .int .i64 0, .int .i64 0, .int .i64 0, .slice none 0 0, .slice none 0 0, .int .i64 0, .slice none 0 0, .int .i64 0, .bool false, .int .i64 0, .int .i64 0, .int .i64 0, .int .i64 0, .bool false, .slice none 0 0] : List Value).toArray 64)) [lenF (w.heap.size + 1) 19, celF w.heap.size (col (⟨8, pc, 24, 24, t, en, nx, st, 48⟩ : Cv) (⟨ra, rc, wa, wc, ga, gc, some ⟨q, 0, none⟩, ec, some ⟨y, 0, none⟩, jc⟩ : Ca)), argCF w.heap.size (⟨8, pc, 24, 24, t, en, nx, st, 48⟩ : Cv) (⟨ra, rc, wa, wc, ga, gc, some ⟨q, 0, none⟩, ec, some ⟨y, 0, none⟩, jc⟩ : Ca) r]) := by
    have h := (((Hold.new w).push (argCF w.heap.size (⟨8, pc, 24, 24, t, en, nx, st, 48⟩ : Cv) (⟨ra, rc, wa, wc, ga, gc, some ⟨q, 0, none⟩, ec, some ⟨y, 0, none⟩, jc⟩ : Ca) r) hS.arg).box (col (⟨8, pc, 24, 24, t, en, nx, st, 48⟩ : Cv) (⟨ra, rc, wa, wc, ga, gc, some ⟨q, 0, none⟩, ec, some ⟨y, 0, none⟩, jc⟩ : Ca)) 64 w.heap.size rfl).box ([.slice none 0 0, .int .i64 0, .bool false, .int .i64 0, .int .i64 0, .int .i64 0, .int .i64 0, .slice none 0 0, .slice none 0 0, .int .i64 0, .slice none 0 0, .int .i64 0, .bool false, .int .i64 0, .int .i64 0, .int .i64 0, .int .i64 0, .bool false, .slice none 0 0] : List Value) 64 (w.heap.size + 1) (by simp)
    exact h.tail.push (lenF (w.heap.size + 1) 19) ⟨_, rfl, h.cel (.head _)⟩
  have hlE := hid_mk hS.es.2.1
  have hlJ := hid_mk hS.js.2.1
  clear hS
  have RZ : Hid (∀ (us : List Value) (w1 : World), us.length = 19 → Hold w w1 [lenF (w.heap.size + 1) 19, celF w.heap.size (col (⟨8, pc, 24, 24, t, en, nx, st, 48⟩ : Cv) (⟨ra, rc, wa, wc, ga, gc, some ⟨q, 0, none⟩, ec, some ⟨y, 0, none⟩, jc⟩ : Ca)), argCF w.heap.size (⟨8, pc, 24, 24, t, en, nx, st, 48⟩ : Cv) (⟨ra, rc, wa, wc, ga, gc, some ⟨q, 0, none⟩, ec, some ⟨y, 0, none⟩, jc⟩ : Ca) r] → Hold w (w1.setCells (w.heap.size + 1) 0 us) [lenF (w.heap.size + 1) 19, celF w.heap.size (col (⟨8, pc, 24, 24, t, en, nx, st, 48⟩ : Cv) (⟨ra, rc, wa, wc, ga, gc, some ⟨q, 0, none⟩, ec, some ⟨y, 0, none⟩, jc⟩ : Ca)), argCF w.heap.size (⟨8, pc, 24, 24, t, en, nx, st, 48⟩ : Cv) (⟨ra, rc, wa, wc, ga, gc, some ⟨q, 0, none⟩, ec, some ⟨y, 0, none⟩, jc⟩ : Ca) r]) := fun us w1 hl h => h.sets_len us (by omega) (fun f hf k hk => by
    simp only [List.mem_cons, List.not_mem_nil, or_false] at hf
    rcases hf with rfl | rfl
    · simp only [celF] at hk; omega
    · simp only [argCF] at hk; omega) hl
  obtain ⟨Q, HQ, HQ2⟩ : ∃ Q : Ending → World → Prop, Hid (∀ b d b1 d1 b2 d2 g cp j dj w', CopS w (⟨8, pc, 24, 24, t, en, nx, st, 48⟩ : Cv) r b b1 b2 g cp j w' → Q (.returned (.agg (col (⟨8, pc, 24, 24, t, en, nx, st, 48⟩ : Cv) (⟨b, d, b1, d1, b2, d2, some ⟨g, 0, none⟩, cp, some ⟨j, 0, none⟩, dj⟩ : Ca)).toArray)) w') ∧ (∀ e w', Q e w' → ∃ b d b1 d1 b2 d2 g cp j dj, e = .returned (.agg (col (⟨8, pc, 24, 24, t, en, nx, st, 48⟩ : Cv) (⟨b, d, b1, d1, b2, d2, some ⟨g, 0, none⟩, cp, some ⟨j, 0, none⟩, dj⟩ : Ca)).toArray) ∧ CopS w (⟨8, pc, 24, 24, t, en, nx, st, 48⟩ : Cv) r b b1 b2 g cp j w') :=
    ⟨fun e w' => ∃ b d b1 d1 b2 d2 g cp j dj, e = .returned (.agg (col (⟨8, pc, 24, 24, t, en, nx, st, 48⟩ : Cv) (⟨b, d, b1, d1, b2, d2, some ⟨g, 0, none⟩, cp, some ⟨j, 0, none⟩, dj⟩ : Ca)).toArray) ∧ CopS w (⟨8, pc, 24, 24, t, en, nx, st, 48⟩ : Cv) r b b1 b2 g cp j w', fun b d b1 d1 b2 d2 g cp j dj w' h => ⟨b, d, b1, d1, b2, d2, g, cp, j, dj, rfl, h⟩, fun _ _ h => h⟩
  refine Calls.mono (R := Q) ?_ HQ2
  clear HQ2
  generalize hw1 : (w.alloc (.cells (col (⟨8, pc, 24, 24, t, en, nx, st, 48⟩ : Cv) (⟨ra, rc, wa, wc, ga, gc, some ⟨q, 0, none⟩, ec, some ⟨y, 0, none⟩, jc⟩ : Ca)).toArray 64)).alloc (.cells ([.slice none 0 0, .int .i64 0, .bool false, .int .i64 0, .int .i64 0, .int .i64 0, .int .i64 0, .slice none 0 0, .slice none 0 0, .int .i64 0, .slice none 0 0, .int .i64 0, .bool false, .int .i64 0, .int .i64 0, .int .i64 0, .int .i64 0, .bool false, .slice none 0 0] : List Value).toArray 64) = w1 at H
  have hz1 : w.heap.size + 1 < w1.heap.size := by rw [← hw1]; simp
  go_enter Tryz.func58, Tryz.ntmps58
  go_upto_region 1 with fail
  clear hw1
  have D0 := hid_mk H.out.drew
  refine wp_region_held_drew (S := fun w' => Hold w w' [lenF (w.heap.size + 1) 19, celF w.heap.size (col (⟨8, pc, 24, 24, t, en, nx, st, 48⟩ : Cv) (⟨ra, rc, wa, wc, ga, gc, some ⟨q, 0, none⟩, ec, some ⟨y, 0, none⟩, jc⟩ : Ca)), argCF w.heap.size (⟨8, pc, 24, 24, t, en, nx, st, 48⟩ : Cv) (⟨ra, rc, wa, wc, ga, gc, some ⟨q, 0, none⟩, ec, some ⟨y, 0, none⟩, jc⟩ : Ca) r]) (by kernel_rfl) D0.out (fun hHeld => ?_)
  have hzd : w1.drew.heap.size = w1.heap.size := by simp
  generalize w1.drew = wd at D0 hHeld hzd ⊢
  have hzw : w.heap.size + 1 < wd.heap.size := by omega
  clear hzd H hz1
  refine take_on (i := 0) (d := 3) (v := .pointer (some ⟨w.heap.size, 0, none⟩)) rfl rfl (by kernel_rfl) (by kernel_rfl) (by kernel_rfl) (fun _ _ _ h => h) (by rfl) ?_ hHeld ?_
  · (intro w' hSw; go_simp)
  simp only [Act.put, List.setIfInBounds_toArray, List.set_cons_zero, List.set_cons_succ]
  refine take_on (i := 1) (d := 4) (v := .agg (stl ra 8 rc pc wa 24 wc ga 24 gc t).toArray) rfl rfl (by kernel_rfl) (by kernel_rfl) (by kernel_rfl) (fun _ _ _ h => h) (by rfl) ?_ hHeld ?_
  · exact fun w' hSw => exec_ldm (by rfl) (by rfl) (col_st ((show Hold w w' [lenF (w.heap.size + 1) 19, celF w.heap.size (col (⟨8, pc, 24, 24, t, en, nx, st, 48⟩ : Cv) (⟨ra, rc, wa, wc, ga, gc, some ⟨q, 0, none⟩, ec, some ⟨y, 0, none⟩, jc⟩ : Ca)), argCF w.heap.size (⟨8, pc, 24, 24, t, en, nx, st, 48⟩ : Cv) (⟨ra, rc, wa, wc, ga, gc, some ⟨q, 0, none⟩, ec, some ⟨y, 0, none⟩, jc⟩ : Ca) r] from hSw).cel (.tail _ (.head _))).range) Tryz.underlying42 rfl sizeSt
  simp only [Act.put, List.setIfInBounds_toArray, List.set_cons_zero, List.set_cons_succ]
  refine take_on (i := 4) (d := 7) (v := .pointer (some ⟨w.heap.size, 10, none⟩)) rfl rfl (by kernel_rfl) (by kernel_rfl) (by kernel_rfl) (fun _ _ _ h => h) (by rfl) ?_ hHeld ?_
  · (intro w' hSw; go_simp)
  simp only [Act.put, List.setIfInBounds_toArray, List.set_cons_zero, List.set_cons_succ]
  refine take_on (i := 5) (d := 8) (v := .slice (some ⟨q, 0, none⟩) en ec) rfl rfl (by kernel_rfl) (by kernel_rfl) (by kernel_rfl) (fun _ _ _ h => h) (by rfl) ?_ hHeld ?_
  · (intro w' hSw; have hSx : Hold w w' [lenF (w.heap.size + 1) 19, celF w.heap.size (col (⟨8, pc, 24, 24, t, en, nx, st, 48⟩ : Cv) (⟨ra, rc, wa, wc, ga, gc, some ⟨q, 0, none⟩, ec, some ⟨y, 0, none⟩, jc⟩ : Ca)), argCF w.heap.size (⟨8, pc, 24, 24, t, en, nx, st, 48⟩ : Cv) (⟨ra, rc, wa, wc, ga, gc, some ⟨q, 0, none⟩, ec, some ⟨y, 0, none⟩, jc⟩ : Ca) r] := hSw; have c0 : w'.cell? ⟨w.heap.size, 10, none⟩ = some (.slice (some ⟨q, 0, none⟩) en ec) := (hSx.cel (.tail _ (.head _))).c 10 _ rfl; go_simp)
  simp only [Act.put, List.setIfInBounds_toArray, List.set_cons_zero, List.set_cons_succ]
  refine take_on (i := 7) (d := 10) (v := .pointer (some ⟨w.heap.size, 11, none⟩)) rfl rfl (by kernel_rfl) (by kernel_rfl) (by kernel_rfl) (fun _ _ _ h => h) (by rfl) ?_ hHeld ?_
  · (intro w' hSw; go_simp)
  simp only [Act.put, List.setIfInBounds_toArray, List.set_cons_zero, List.set_cons_succ]
  refine take_on (i := 8) (d := 11) (v := .agg #[.int .i64 nx.n, .bool nx.i, .int .i64 nx.b, .int .i64 nx.t, .int .i64 nx.p, .int .i64 nx.s]) rfl rfl (by kernel_rfl) (by kernel_rfl) (by kernel_rfl) (fun _ _ _ h => h) (by rfl) ?_ hHeld ?_
  · (intro w' hSw; have hSx : Hold w w' [lenF (w.heap.size + 1) 19, celF w.heap.size (col (⟨8, pc, 24, 24, t, en, nx, st, 48⟩ : Cv) (⟨ra, rc, wa, wc, ga, gc, some ⟨q, 0, none⟩, ec, some ⟨y, 0, none⟩, jc⟩ : Ca)), argCF w.heap.size (⟨8, pc, 24, 24, t, en, nx, st, 48⟩ : Cv) (⟨ra, rc, wa, wc, ga, gc, some ⟨q, 0, none⟩, ec, some ⟨y, 0, none⟩, jc⟩ : Ca) r] := hSw; have c0 : w'.cell? ⟨w.heap.size, 11, none⟩ = some (.int .i64 nx.n) := (hSx.cel (.tail _ (.head _))).c 11 _ rfl; have c1 : w'.cell? ⟨w.heap.size, 12, none⟩ = some (.bool nx.i) := (hSx.cel (.tail _ (.head _))).c 12 _ rfl; have c2 : w'.cell? ⟨w.heap.size, 13, none⟩ = some (.int .i64 nx.b) := (hSx.cel (.tail _ (.head _))).c 13 _ rfl; have c3 : w'.cell? ⟨w.heap.size, 14, none⟩ = some (.int .i64 nx.t) := (hSx.cel (.tail _ (.head _))).c 14 _ rfl; have c4 : w'.cell? ⟨w.heap.size, 15, none⟩ = some (.int .i64 nx.p) := (hSx.cel (.tail _ (.head _))).c 15 _ rfl; have c5 : w'.cell? ⟨w.heap.size, 16, none⟩ = some (.int .i64 nx.s) := (hSx.cel (.tail _ (.head _))).c 16 _ rfl; go_simp)
  simp only [Act.put, List.setIfInBounds_toArray, List.set_cons_zero, List.set_cons_succ]
  refine take_on (i := 9) (d := 12) (v := .pointer (some ⟨w.heap.size, 17, none⟩)) rfl rfl (by kernel_rfl) (by kernel_rfl) (by kernel_rfl) (fun _ _ _ h => h) (by rfl) ?_ hHeld ?_
  · (intro w' hSw; go_simp)
  simp only [Act.put, List.setIfInBounds_toArray, List.set_cons_zero, List.set_cons_succ]
  refine take_on (i := 10) (d := 13) (v := .bool st) rfl rfl (by kernel_rfl) (by kernel_rfl) (by kernel_rfl) (fun _ _ _ h => h) (by rfl) ?_ hHeld ?_
  · (intro w' hSw; have hSx : Hold w w' [lenF (w.heap.size + 1) 19, celF w.heap.size (col (⟨8, pc, 24, 24, t, en, nx, st, 48⟩ : Cv) (⟨ra, rc, wa, wc, ga, gc, some ⟨q, 0, none⟩, ec, some ⟨y, 0, none⟩, jc⟩ : Ca)), argCF w.heap.size (⟨8, pc, 24, 24, t, en, nx, st, 48⟩ : Cv) (⟨ra, rc, wa, wc, ga, gc, some ⟨q, 0, none⟩, ec, some ⟨y, 0, none⟩, jc⟩ : Ca) r] := hSw; have c0 : w'.cell? ⟨w.heap.size, 17, none⟩ = some (.bool st) := (hSx.cel (.tail _ (.head _))).c 17 _ rfl; go_simp)
  simp only [Act.put, List.setIfInBounds_toArray, List.set_cons_zero, List.set_cons_succ]
  refine take_on (i := 12) (d := 15) (v := .pointer (some ⟨w.heap.size, 18, none⟩)) rfl rfl (by kernel_rfl) (by kernel_rfl) (by kernel_rfl) (fun _ _ _ h => h) (by rfl) ?_ hHeld ?_
  · (intro w' hSw; go_simp)
  simp only [Act.put, List.setIfInBounds_toArray, List.set_cons_zero, List.set_cons_succ]
  refine take_on (i := 13) (d := 16) (v := .slice (some ⟨y, 0, none⟩) 48 jc) rfl rfl (by kernel_rfl) (by kernel_rfl) (by kernel_rfl) (fun _ _ _ h => h) (by rfl) ?_ hHeld ?_
  · (intro w' hSw; have hSx : Hold w w' [lenF (w.heap.size + 1) 19, celF w.heap.size (col (⟨8, pc, 24, 24, t, en, nx, st, 48⟩ : Cv) (⟨ra, rc, wa, wc, ga, gc, some ⟨q, 0, none⟩, ec, some ⟨y, 0, none⟩, jc⟩ : Ca)), argCF w.heap.size (⟨8, pc, 24, 24, t, en, nx, st, 48⟩ : Cv) (⟨ra, rc, wa, wc, ga, gc, some ⟨q, 0, none⟩, ec, some ⟨y, 0, none⟩, jc⟩ : Ca) r] := hSw; have c0 : w'.cell? ⟨w.heap.size, 18, none⟩ = some (.slice (some ⟨y, 0, none⟩) 48 jc) := (hSx.cel (.tail _ (.head _))).c 18 _ rfl; go_simp)
  simp only [Act.put, List.setIfInBounds_toArray, List.set_cons_zero, List.set_cons_succ]
  refine wpAnyH_ready (rs := [2, 3, 11]) (by kernel_rfl) (by simp) ?_
  refine AllReadyH.cons rfl (fun K hK => ?_) (AllReadyH.cons rfl (fun K hK => ?_) (AllReadyH.cons rfl (fun K hK => ?_) AllReadyH.nil))
  · go_simp
    refine (l9Copy_any ra rc pc wa wc ga gc t r.R r.L r.G _ (D0.out.argC (.tail _ (.tail _ (.head _)))).st).mono ?_
    rintro e v1 ⟨b, d, b1, d1, b2, d2, rfl, hd1, hA, hf, hb⟩
    have lS := hid_mk hf
    have uS := hid_mk (fun k hk => hA.lt (k := k) hk)
    have z1 := hb.size
    have J1 := hid_mk ((D0.out.next hb).push (ansSF b b1 b2 8 24 24 r.R r.L r.G) hA)
    clear hb hA hf hd1
    refine hK.out _ _ (J1.out.sub (gs := [lenF (w.heap.size + 1) 19, celF w.heap.size (col (⟨8, pc, 24, 24, t, en, nx, st, 48⟩ : Cv) (⟨ra, rc, wa, wc, ga, gc, some ⟨q, 0, none⟩, ec, some ⟨y, 0, none⟩, jc⟩ : Ca)), argCF w.heap.size (⟨8, pc, 24, 24, t, en, nx, st, 48⟩ : Cv) (⟨ra, rc, wa, wc, ga, gc, some ⟨q, 0, none⟩, ec, some ⟨y, 0, none⟩, jc⟩ : Ca) r]) (fun f hf => by simp only [List.mem_cons, List.not_mem_nil, or_false] at hf ⊢; rcases hf with rfl | rfl | rfl; exact .inr (.inl rfl); exact .inr (.inr (.inl rfl)); exact .inr (.inr (.inr rfl)))) (fun hHeld => ?_)
    clear hK K
    (try simp only [Act.put]); (try simp only [List.setIfInBounds_toArray]); (try simp only [List.set_cons_succ]); (try simp only [List.set_cons_zero]); (try simp only [List.set_cons_succ]); (try simp only [List.set_cons_zero]); (try simp only [Nat.zero_add])
    refine wpAnyH_ready (rs := [3, 11]) (by kernel_rfl) (by simp) ?_
    refine AllReadyH.cons rfl (fun K hK => ?_) (AllReadyH.cons rfl (fun K hK => ?_) AllReadyH.nil)
    · go_simp
      have J2 := hid_mk ((J1.out.alloc (.cells #[] 104)).push (roomEF v1.heap.size 0 0 []) (roomE_new v1))
      have z2 : v1.heap.size < (v1.alloc (.cells #[] 104)).heap.size := by simp
      refine hK.out _ _ (J2.out.sub (gs := [lenF (w.heap.size + 1) 19, celF w.heap.size (col (⟨8, pc, 24, 24, t, en, nx, st, 48⟩ : Cv) (⟨ra, rc, wa, wc, ga, gc, some ⟨q, 0, none⟩, ec, some ⟨y, 0, none⟩, jc⟩ : Ca)), argCF w.heap.size (⟨8, pc, 24, 24, t, en, nx, st, 48⟩ : Cv) (⟨ra, rc, wa, wc, ga, gc, some ⟨q, 0, none⟩, ec, some ⟨y, 0, none⟩, jc⟩ : Ca) r]) (fun f hf => by simp only [List.mem_cons, List.not_mem_nil, or_false] at hf ⊢; rcases hf with rfl | rfl | rfl; exact .inr (.inr (.inl rfl)); exact .inr (.inr (.inr (.inl rfl))); exact .inr (.inr (.inr (.inr rfl))))) (fun hHeld => ?_)
      clear hK K
      (try simp only [Act.put]); (try simp only [List.setIfInBounds_toArray]); (try simp only [List.set_cons_succ]); (try simp only [List.set_cons_zero]); (try simp only [List.set_cons_succ]); (try simp only [List.set_cons_zero]); (try simp only [Nat.zero_add])
      obtain ⟨q3, hq3⟩ : ∃ r, r = v1.heap.size := ⟨_, rfl⟩
      rw [← hq3] at J2 z2 ⊢
      have yq3 : q3 ≤ v1.heap.size ∧ v1.heap.size ≤ q3 := by omega
      clear hq3
      generalize v1.alloc (.cells #[] 104) = v2 at J2 hHeld z2 ⊢
      refine wpAnyH_ready (rs := [6, 11]) (by kernel_rfl) (by simp) ?_
      refine AllReadyH.cons rfl (fun K hK => ?_) (AllReadyH.cons rfl (fun K hK => ?_) AllReadyH.nil)
      · refine step_appEr (by rfl) _ _ (by rfl) q3 0 0 [] (by rfl) (J2.out.roomE (.head _)) (some ⟨q, 0, none⟩) en ec r.E (by rfl) hlE.out (fun h => by cases h) (fun b9 hb9 => by cases hb9; exact (J2.out.argC (.tail _ (.tail _ (.tail _ (.tail _ (.head _)))))).es.flat enl_len (by decide)) en (Nat.zero_add en) (by omega) ?_
        intro g cp v3 hO hg hcp hk9
        replace hO : RoomE v3 g en cp r.E := by simpa using hO
        have z3 := hk9.size
        have hl6 := hO.lt
        have HL := hid_mk (J2.out.roomE (.head _)).lt
        have hl3 := HL.out
        have J3 := hid_mk (((J2.out.sub (gs := [ansSF b b1 b2 8 24 24 r.R r.L r.G, lenF (w.heap.size + 1) 19, celF w.heap.size (col (⟨8, pc, 24, 24, t, en, nx, st, 48⟩ : Cv) (⟨ra, rc, wa, wc, ga, gc, some ⟨q, 0, none⟩, ec, some ⟨y, 0, none⟩, jc⟩ : Ca)), argCF w.heap.size (⟨8, pc, 24, 24, t, en, nx, st, 48⟩ : Cv) (⟨ra, rc, wa, wc, ga, gc, some ⟨q, 0, none⟩, ec, some ⟨y, 0, none⟩, jc⟩ : Ca) r]) (fun f hf => by simp only [List.mem_cons, List.not_mem_nil, or_false] at hf ⊢; rcases hf with rfl | rfl | rfl | rfl; exact .inr (.inl rfl); exact .inr (.inr (.inl rfl)); exact .inr (.inr (.inr (.inl rfl))); exact .inr (.inr (.inr (.inr rfl))))).wrote (T := fun k => k = q3) (KeptS.ofBut hk9 rfl) (fun k e => by omega)
          (fun f hf k hk e => by
            simp only [List.mem_cons, List.not_mem_nil, or_false] at hf
            rcases hf with rfl | rfl | rfl | rfl
            · have h1 := lS.out k hk; have h2 := uS.out k hk; omega
            · simp only [lenF] at hk; omega
            · simp only [celF] at hk; omega
            · simp only [argCF] at hk; omega
            )).push (roomEF g en cp r.E) hO)
        clear hk9 hO
        refine hK.out _ _ (J3.out.sub (gs := [lenF (w.heap.size + 1) 19, celF w.heap.size (col (⟨8, pc, 24, 24, t, en, nx, st, 48⟩ : Cv) (⟨ra, rc, wa, wc, ga, gc, some ⟨q, 0, none⟩, ec, some ⟨y, 0, none⟩, jc⟩ : Ca)), argCF w.heap.size (⟨8, pc, 24, 24, t, en, nx, st, 48⟩ : Cv) (⟨ra, rc, wa, wc, ga, gc, some ⟨q, 0, none⟩, ec, some ⟨y, 0, none⟩, jc⟩ : Ca) r]) (fun f hf => by simp only [List.mem_cons, List.not_mem_nil, or_false] at hf ⊢; rcases hf with rfl | rfl | rfl; exact .inr (.inr (.inl rfl)); exact .inr (.inr (.inr (.inl rfl))); exact .inr (.inr (.inr (.inr rfl))))) (fun hHeld => ?_)
        clear hK K
        (try simp only [Act.put]); (try simp only [List.setIfInBounds_toArray]); (try simp only [List.set_cons_succ]); (try simp only [List.set_cons_zero]); (try simp only [List.set_cons_succ]); (try simp only [List.set_cons_zero]); (try simp only [Nat.zero_add])
        refine wpAnyH_ready (rs := [11]) (by kernel_rfl) (by simp) ?_
        refine AllReadyH.cons rfl (fun K hK => ?_) AllReadyH.nil
        go_simp
        have J4 := hid_mk ((J3.out.alloc (.cells #[] 3)).push (rmNF v3.heap.size 0 0 []) (rmN_new v3))
        have z4 : v3.heap.size < (v3.alloc (.cells #[] 3)).heap.size := by simp
        refine hK.out _ _ (J4.out.sub (gs := [lenF (w.heap.size + 1) 19, celF w.heap.size (col (⟨8, pc, 24, 24, t, en, nx, st, 48⟩ : Cv) (⟨ra, rc, wa, wc, ga, gc, some ⟨q, 0, none⟩, ec, some ⟨y, 0, none⟩, jc⟩ : Ca)), argCF w.heap.size (⟨8, pc, 24, 24, t, en, nx, st, 48⟩ : Cv) (⟨ra, rc, wa, wc, ga, gc, some ⟨q, 0, none⟩, ec, some ⟨y, 0, none⟩, jc⟩ : Ca) r]) (fun f hf => by simp only [List.mem_cons, List.not_mem_nil, or_false] at hf ⊢; rcases hf with rfl | rfl | rfl; exact .inr (.inr (.inr (.inl rfl))); exact .inr (.inr (.inr (.inr (.inl rfl)))); exact .inr (.inr (.inr (.inr (.inr rfl)))))) (fun hHeld => ?_)
        clear hK K
        (try simp only [Act.put]); (try simp only [List.setIfInBounds_toArray]); (try simp only [List.set_cons_succ]); (try simp only [List.set_cons_zero]); (try simp only [List.set_cons_succ]); (try simp only [List.set_cons_zero]); (try simp only [Nat.zero_add])
        obtain ⟨q4, hq4⟩ : ∃ r, r = v3.heap.size := ⟨_, rfl⟩
        rw [← hq4] at J4 z4 ⊢
        have yq4 : q4 ≤ v3.heap.size ∧ v3.heap.size ≤ q4 := by omega
        clear hq4
        generalize v3.alloc (.cells #[] 3) = v4 at J4 hHeld z4 ⊢
        refine wpAnyH_ready (rs := [14]) (by kernel_rfl) (by simp) ?_
        refine AllReadyH.cons rfl (fun K hK => ?_) AllReadyH.nil
        refine step_appNd (by rfl) _ _ (by rfl) 0 q4 0 0 [] (by rfl) rfl (J4.out.rmN (.head _)).own (some ⟨y, 0, none⟩) 48 jc r.J (by rfl) hlJ.out (fun h => by cases h) (fun b9 hb9 => by cases hb9; exact (J4.out.argC (.tail _ (.tail _ (.tail _ (.tail _ (.tail _ (.head _))))))).js.flat) 48 rfl (by omega) (Nat.zero_le _) ?_
        intro j dj v5 _ hO _ hg4 hk9
        have hO2 : (intF j 48 r.J).p v5 := ⟨by simpa using hO, hlJ.out⟩
        have z5 := hk9.size
        have hl4 := (J4.out.rmN (.head _)).lt
        have hl5 := (J4.out.roomE (.tail _ (.head _))).lt
        have J5 := hid_mk (((J4.out.sub (gs := [roomEF g en cp r.E, ansSF b b1 b2 8 24 24 r.R r.L r.G, lenF (w.heap.size + 1) 19, celF w.heap.size (col (⟨8, pc, 24, 24, t, en, nx, st, 48⟩ : Cv) (⟨ra, rc, wa, wc, ga, gc, some ⟨q, 0, none⟩, ec, some ⟨y, 0, none⟩, jc⟩ : Ca)), argCF w.heap.size (⟨8, pc, 24, 24, t, en, nx, st, 48⟩ : Cv) (⟨ra, rc, wa, wc, ga, gc, some ⟨q, 0, none⟩, ec, some ⟨y, 0, none⟩, jc⟩ : Ca) r]) (fun f hf => by simp only [List.mem_cons, List.not_mem_nil, or_false] at hf ⊢; rcases hf with rfl | rfl | rfl | rfl | rfl; exact .inr (.inl rfl); exact .inr (.inr (.inl rfl)); exact .inr (.inr (.inr (.inl rfl))); exact .inr (.inr (.inr (.inr (.inl rfl)))); exact .inr (.inr (.inr (.inr (.inr rfl)))))).wrote (T := fun k => k = q4) (KeptS.ofBut hk9 rfl) (fun k e => by omega)
          (fun f hf k hk e => by
            simp only [List.mem_cons, List.not_mem_nil, or_false] at hf
            rcases hf with rfl | rfl | rfl | rfl | rfl
            · simp only [roomEF] at hk; omega
            · have h1 := lS.out k hk; have h2 := uS.out k hk; omega
            · simp only [lenF] at hk; omega
            · simp only [celF] at hk; omega
            · simp only [argCF] at hk; omega
            )).push (intF j 48 r.J) hO2)
        clear hk9 hO hO2
        refine hK.out _ _ (J5.out.sub (gs := [lenF (w.heap.size + 1) 19, celF w.heap.size (col (⟨8, pc, 24, 24, t, en, nx, st, 48⟩ : Cv) (⟨ra, rc, wa, wc, ga, gc, some ⟨q, 0, none⟩, ec, some ⟨y, 0, none⟩, jc⟩ : Ca)), argCF w.heap.size (⟨8, pc, 24, 24, t, en, nx, st, 48⟩ : Cv) (⟨ra, rc, wa, wc, ga, gc, some ⟨q, 0, none⟩, ec, some ⟨y, 0, none⟩, jc⟩ : Ca) r]) (fun f hf => by simp only [List.mem_cons, List.not_mem_nil, or_false] at hf ⊢; rcases hf with rfl | rfl | rfl; exact .inr (.inr (.inr (.inl rfl))); exact .inr (.inr (.inr (.inr (.inl rfl)))); exact .inr (.inr (.inr (.inr (.inr rfl)))))) (fun hHeld => ?_)
        clear hK K
        (try simp only [Act.put]); (try simp only [List.setIfInBounds_toArray]); (try simp only [List.set_cons_succ]); (try simp only [List.set_cons_zero]); (try simp only [List.set_cons_succ]); (try simp only [List.set_cons_zero]); (try simp only [Nat.zero_add])
        refine take_on (i := 15) (d := 18) (v := .agg #[.slice b 8 d, .int .i64 pc.n, .bool pc.i, .int .i64 pc.b, .int .i64 pc.t, .int .i64 pc.p, .int .i64 pc.s, .slice b1 24 d1, .slice b2 24 d2, .int .i64 t, .slice (some ⟨g, 0, none⟩) en cp, .int .i64 nx.n, .bool nx.i, .int .i64 nx.b, .int .i64 nx.t, .int .i64 nx.p, .int .i64 nx.s, .bool st, .slice (some ⟨j, 0, none⟩) 48 dj]) rfl rfl (by kernel_rfl) (by kernel_rfl) (by kernel_rfl) (fun _ _ _ h => h) (by rfl) ?_ hHeld ?_
        · (intro w' hSw; go_simp)
        (try simp only [Act.put]); (try simp only [List.setIfInBounds_toArray]); (try simp only [List.set_cons_succ]); (try simp only [List.set_cons_zero]); (try simp only [List.set_cons_succ]); (try simp only [List.set_cons_zero]); (try simp only [Nat.zero_add])
        obtain ⟨vs, hvl, CZ⟩ := J5.out.len (.tail _ (.tail _ (.tail _ (.head _))))
        have TH := hid_mk (by have h := CZ.there; rw [hvl] at h; exact h)
        have CE := hid_mk (CZ.sets (us := (col (⟨8, pc, 24, 24, t, en, nx, st, 48⟩ : Cv) (⟨b, d, b1, d1, b2, d2, some ⟨g, 0, none⟩, cp, some ⟨j, 0, none⟩, dj⟩ : Ca))) (by rw [hvl]; rfl))
        have HR := hid_mk (J5.out.roomE (.tail _ (.head _)))
        have HA := hid_mk (J5.out.ansS (.tail _ (.tail _ (.head _))))
        have HN : Hid ((intF j 48 r.J).p v5) := J5.out.at (f := intF j 48 r.J) (.head _)
        have HB := hid_mk J5.out.bel
        clear CZ
        have FR : Hid (∀ k, On b k ∨ On b1 k ∨ On b2 k → w.heap.size + 1 < k ∧ k ≠ g ∧ k ≠ j) := fun k hk => by have h1 := lS.out k hk; have h2 := uS.out k hk; omega
        have GJ : w.heap.size + 1 < g ∧ w.heap.size + 1 < j ∧ g ≠ j := by omega
        refine wpAnyH_ready (rs := [16]) (by kernel_rfl) (by simp) ?_
        refine AllReadyH.cons rfl (fun K hK => ?_) AllReadyH.nil
        refine step_stm (by rfl) 64 _ _ (by rfl) (w.heap.size + 1) 0 (col (⟨8, pc, 24, 24, t, en, nx, st, 48⟩ : Cv) (⟨b, d, b1, d1, b2, d2, some ⟨g, 0, none⟩, cp, some ⟨j, 0, none⟩, dj⟩ : Ca)).toArray (by rfl) (by rfl) TH.out sizeCor (col_one _ _) ?_
        refine hK.out _ _ (RZ.out (col (⟨8, pc, 24, 24, t, en, nx, st, 48⟩ : Cv) (⟨b, d, b1, d1, b2, d2, some ⟨g, 0, none⟩, cp, some ⟨j, 0, none⟩, dj⟩ : Ca)) _ rfl (J5.out.sub (gs := [lenF (w.heap.size + 1) 19, celF w.heap.size (col (⟨8, pc, 24, 24, t, en, nx, st, 48⟩ : Cv) (⟨ra, rc, wa, wc, ga, gc, some ⟨q, 0, none⟩, ec, some ⟨y, 0, none⟩, jc⟩ : Ca)), argCF w.heap.size (⟨8, pc, 24, 24, t, en, nx, st, 48⟩ : Cv) (⟨ra, rc, wa, wc, ga, gc, some ⟨q, 0, none⟩, ec, some ⟨y, 0, none⟩, jc⟩ : Ca) r]) (fun f hf => by simp only [List.mem_cons, List.not_mem_nil, or_false] at hf ⊢; rcases hf with rfl | rfl | rfl; exact .inr (.inr (.inr (.inl rfl))); exact .inr (.inr (.inr (.inr (.inl rfl)))); exact .inr (.inr (.inr (.inr (.inr rfl))))))) (fun hHeld => ?_)
        clear hK K
        refine wpAnyH_done (by kernel_rfl) ?_ _
        have K9 := hid_mk (KeepBut.setCells (b := w.heap.size + 1) (col (⟨8, pc, 24, 24, t, en, nx, st, 48⟩ : Cv) (⟨b, d, b1, d1, b2, d2, some ⟨g, 0, none⟩, cp, some ⟨j, 0, none⟩, dj⟩ : Ca)) 0 v5)
        have hlv := hid_mk (lv_cor CE.out.range)
        clear J5 hHeld RZ TH CE lS uS D0
        generalize v5.setCells (w.heap.size + 1) 0 (col (⟨8, pc, 24, 24, t, en, nx, st, 48⟩ : Cv) (⟨b, d, b1, d1, b2, d2, some ⟨g, 0, none⟩, cp, some ⟨j, 0, none⟩, dj⟩ : Ca)) = w9 at K9 hlv ⊢
        have G0 := hid_mk GJ
        clear GJ
        have AN : Hid (AnsS b b1 b2 8 24 24 r.R r.L r.G w9) := (ansSF b b1 b2 8 24 24 r.R r.L r.G).keep _ _ HA.out K9.out.size fun k hk ho => K9.out.block k hk (by have := FR.out k ho; omega)
        have RN : Hid (RoomE w9 g en cp r.E) := HR.out.ofBlock (K9.out.block g HR.out.lt (by have := G0.out; omega))
        have NN : Hid ((intF j 48 r.J).p w9) := ⟨HN.out.1.ofBlock K9.out.size (K9.out.block j HN.out.1.lt (by have := G0.out; omega)), HN.out.2⟩
        have BB := hid_mk (HB.out.trans (K9.out.below (B := w.heap.size) (by omega) HB.out.size))
        have G1 : Hid (w.heap.size ≤ g ∧ w.heap.size ≤ j ∧ g ≠ j) := by have := G0.out; exact ⟨by omega, by omega, this.2.2⟩
        have F1 : Hid (∀ k, On b k ∨ On b1 k ∨ On b2 k → w.heap.size ≤ k ∧ k ≠ g ∧ k ≠ j) := fun k hk => by have := FR.out k hk; exact ⟨by omega, this.2⟩
        clear HR HA HN HB K9 FR G0
        go_wp2
        refine bodyPost_ret (v := .agg (col (⟨8, pc, 24, 24, t, en, nx, st, 48⟩ : Cv) (⟨b, d, b1, d1, b2, d2, some ⟨g, 0, none⟩, cp, some ⟨j, 0, none⟩, dj⟩ : Ca)).toArray) (results_cell1 Tryz.results58 (by first | rfl | (simp; done)) hlv.out) rfl (HQ.out _ _ _ _ _ _ _ _ _ _ _ ⟨AN.out, RN.out, NN.out, F1.out, G1.out.1, G1.out.2.1, G1.out.2.2, BB.out⟩)
      · go_simp
        have J3 := hid_mk ((J2.out.alloc (.cells #[] 3)).push (rmNF v2.heap.size 0 0 []) (rmN_new v2))
        have z3 : v2.heap.size < (v2.alloc (.cells #[] 3)).heap.size := by simp
        refine hK.out _ _ (J3.out.sub (gs := [lenF (w.heap.size + 1) 19, celF w.heap.size (col (⟨8, pc, 24, 24, t, en, nx, st, 48⟩ : Cv) (⟨ra, rc, wa, wc, ga, gc, some ⟨q, 0, none⟩, ec, some ⟨y, 0, none⟩, jc⟩ : Ca)), argCF w.heap.size (⟨8, pc, 24, 24, t, en, nx, st, 48⟩ : Cv) (⟨ra, rc, wa, wc, ga, gc, some ⟨q, 0, none⟩, ec, some ⟨y, 0, none⟩, jc⟩ : Ca) r]) (fun f hf => by simp only [List.mem_cons, List.not_mem_nil, or_false] at hf ⊢; rcases hf with rfl | rfl | rfl; exact .inr (.inr (.inr (.inl rfl))); exact .inr (.inr (.inr (.inr (.inl rfl)))); exact .inr (.inr (.inr (.inr (.inr rfl)))))) (fun hHeld => ?_)
        clear hK K
        (try simp only [Act.put]); (try simp only [List.setIfInBounds_toArray]); (try simp only [List.set_cons_succ]); (try simp only [List.set_cons_zero]); (try simp only [List.set_cons_succ]); (try simp only [List.set_cons_zero]); (try simp only [Nat.zero_add])
        obtain ⟨q4, hq4⟩ : ∃ r, r = v2.heap.size := ⟨_, rfl⟩
        rw [← hq4] at J3 z3 ⊢
        have yq4 : q4 ≤ v2.heap.size ∧ v2.heap.size ≤ q4 := by omega
        clear hq4
        generalize v2.alloc (.cells #[] 3) = v3 at J3 hHeld z3 ⊢
        refine wpAnyH_ready (rs := [6]) (by kernel_rfl) (by simp) ?_
        refine AllReadyH.cons rfl (fun K hK => ?_) AllReadyH.nil
        refine step_appEr (by rfl) _ _ (by rfl) q3 0 0 [] (by rfl) (J3.out.roomE (.tail _ (.head _))) (some ⟨q, 0, none⟩) en ec r.E (by rfl) hlE.out (fun h => by cases h) (fun b9 hb9 => by cases hb9; exact (J3.out.argC (.tail _ (.tail _ (.tail _ (.tail _ (.tail _ (.head _))))))).es.flat enl_len (by decide)) en (Nat.zero_add en) (by omega) ?_
        intro g cp v4 hO hg hcp hk9
        replace hO : RoomE v4 g en cp r.E := by simpa using hO
        have z4 := hk9.size
        have hl6 := hO.lt
        have HL := hid_mk (J3.out.roomE (.tail _ (.head _))).lt
        have hl3 := HL.out
        have J4 := hid_mk (((J3.out.sub (gs := [rmNF q4 0 0 [], ansSF b b1 b2 8 24 24 r.R r.L r.G, lenF (w.heap.size + 1) 19, celF w.heap.size (col (⟨8, pc, 24, 24, t, en, nx, st, 48⟩ : Cv) (⟨ra, rc, wa, wc, ga, gc, some ⟨q, 0, none⟩, ec, some ⟨y, 0, none⟩, jc⟩ : Ca)), argCF w.heap.size (⟨8, pc, 24, 24, t, en, nx, st, 48⟩ : Cv) (⟨ra, rc, wa, wc, ga, gc, some ⟨q, 0, none⟩, ec, some ⟨y, 0, none⟩, jc⟩ : Ca) r]) (fun f hf => by simp only [List.mem_cons, List.not_mem_nil, or_false] at hf ⊢; rcases hf with rfl | rfl | rfl | rfl | rfl; exact .inl rfl; exact .inr (.inr (.inl rfl)); exact .inr (.inr (.inr (.inl rfl))); exact .inr (.inr (.inr (.inr (.inl rfl)))); exact .inr (.inr (.inr (.inr (.inr rfl)))))).wrote (T := fun k => k = q3) (KeptS.ofBut hk9 rfl) (fun k e => by omega)
          (fun f hf k hk e => by
            simp only [List.mem_cons, List.not_mem_nil, or_false] at hf
            rcases hf with rfl | rfl | rfl | rfl | rfl
            · simp only [rmNF] at hk; omega
            · have h1 := lS.out k hk; have h2 := uS.out k hk; omega
            · simp only [lenF] at hk; omega
            · simp only [celF] at hk; omega
            · simp only [argCF] at hk; omega
            )).push (roomEF g en cp r.E) hO)
        clear hk9 hO
        refine hK.out _ _ (J4.out.sub (gs := [lenF (w.heap.size + 1) 19, celF w.heap.size (col (⟨8, pc, 24, 24, t, en, nx, st, 48⟩ : Cv) (⟨ra, rc, wa, wc, ga, gc, some ⟨q, 0, none⟩, ec, some ⟨y, 0, none⟩, jc⟩ : Ca)), argCF w.heap.size (⟨8, pc, 24, 24, t, en, nx, st, 48⟩ : Cv) (⟨ra, rc, wa, wc, ga, gc, some ⟨q, 0, none⟩, ec, some ⟨y, 0, none⟩, jc⟩ : Ca) r]) (fun f hf => by simp only [List.mem_cons, List.not_mem_nil, or_false] at hf ⊢; rcases hf with rfl | rfl | rfl; exact .inr (.inr (.inr (.inl rfl))); exact .inr (.inr (.inr (.inr (.inl rfl)))); exact .inr (.inr (.inr (.inr (.inr rfl)))))) (fun hHeld => ?_)
        clear hK K
        (try simp only [Act.put]); (try simp only [List.setIfInBounds_toArray]); (try simp only [List.set_cons_succ]); (try simp only [List.set_cons_zero]); (try simp only [List.set_cons_succ]); (try simp only [List.set_cons_zero]); (try simp only [Nat.zero_add])
        refine wpAnyH_ready (rs := [14]) (by kernel_rfl) (by simp) ?_
        refine AllReadyH.cons rfl (fun K hK => ?_) AllReadyH.nil
        refine step_appNd (by rfl) _ _ (by rfl) 0 q4 0 0 [] (by rfl) rfl (J4.out.rmN (.tail _ (.head _))).own (some ⟨y, 0, none⟩) 48 jc r.J (by rfl) hlJ.out (fun h => by cases h) (fun b9 hb9 => by cases hb9; exact (J4.out.argC (.tail _ (.tail _ (.tail _ (.tail _ (.tail _ (.head _))))))).js.flat) 48 rfl (by omega) (Nat.zero_le _) ?_
        intro j dj v5 _ hO _ hg4 hk9
        have hO2 : (intF j 48 r.J).p v5 := ⟨by simpa using hO, hlJ.out⟩
        have z5 := hk9.size
        have hl4 := (J4.out.rmN (.tail _ (.head _))).lt
        have hl5 := (J4.out.roomE (.head _)).lt
        have J5 := hid_mk (((J4.out.sub (gs := [roomEF g en cp r.E, ansSF b b1 b2 8 24 24 r.R r.L r.G, lenF (w.heap.size + 1) 19, celF w.heap.size (col (⟨8, pc, 24, 24, t, en, nx, st, 48⟩ : Cv) (⟨ra, rc, wa, wc, ga, gc, some ⟨q, 0, none⟩, ec, some ⟨y, 0, none⟩, jc⟩ : Ca)), argCF w.heap.size (⟨8, pc, 24, 24, t, en, nx, st, 48⟩ : Cv) (⟨ra, rc, wa, wc, ga, gc, some ⟨q, 0, none⟩, ec, some ⟨y, 0, none⟩, jc⟩ : Ca) r]) (fun f hf => by simp only [List.mem_cons, List.not_mem_nil, or_false] at hf ⊢; rcases hf with rfl | rfl | rfl | rfl | rfl; exact .inl rfl; exact .inr (.inr (.inl rfl)); exact .inr (.inr (.inr (.inl rfl))); exact .inr (.inr (.inr (.inr (.inl rfl)))); exact .inr (.inr (.inr (.inr (.inr rfl)))))).wrote (T := fun k => k = q4) (KeptS.ofBut hk9 rfl) (fun k e => by omega)
          (fun f hf k hk e => by
            simp only [List.mem_cons, List.not_mem_nil, or_false] at hf
            rcases hf with rfl | rfl | rfl | rfl | rfl
            · simp only [roomEF] at hk; omega
            · have h1 := lS.out k hk; have h2 := uS.out k hk; omega
            · simp only [lenF] at hk; omega
            · simp only [celF] at hk; omega
            · simp only [argCF] at hk; omega
            )).push (intF j 48 r.J) hO2)
        clear hk9 hO hO2
        refine hK.out _ _ (J5.out.sub (gs := [lenF (w.heap.size + 1) 19, celF w.heap.size (col (⟨8, pc, 24, 24, t, en, nx, st, 48⟩ : Cv) (⟨ra, rc, wa, wc, ga, gc, some ⟨q, 0, none⟩, ec, some ⟨y, 0, none⟩, jc⟩ : Ca)), argCF w.heap.size (⟨8, pc, 24, 24, t, en, nx, st, 48⟩ : Cv) (⟨ra, rc, wa, wc, ga, gc, some ⟨q, 0, none⟩, ec, some ⟨y, 0, none⟩, jc⟩ : Ca) r]) (fun f hf => by simp only [List.mem_cons, List.not_mem_nil, or_false] at hf ⊢; rcases hf with rfl | rfl | rfl; exact .inr (.inr (.inr (.inl rfl))); exact .inr (.inr (.inr (.inr (.inl rfl)))); exact .inr (.inr (.inr (.inr (.inr rfl)))))) (fun hHeld => ?_)
        clear hK K
        (try simp only [Act.put]); (try simp only [List.setIfInBounds_toArray]); (try simp only [List.set_cons_succ]); (try simp only [List.set_cons_zero]); (try simp only [List.set_cons_succ]); (try simp only [List.set_cons_zero]); (try simp only [Nat.zero_add])
        refine take_on (i := 15) (d := 18) (v := .agg #[.slice b 8 d, .int .i64 pc.n, .bool pc.i, .int .i64 pc.b, .int .i64 pc.t, .int .i64 pc.p, .int .i64 pc.s, .slice b1 24 d1, .slice b2 24 d2, .int .i64 t, .slice (some ⟨g, 0, none⟩) en cp, .int .i64 nx.n, .bool nx.i, .int .i64 nx.b, .int .i64 nx.t, .int .i64 nx.p, .int .i64 nx.s, .bool st, .slice (some ⟨j, 0, none⟩) 48 dj]) rfl rfl (by kernel_rfl) (by kernel_rfl) (by kernel_rfl) (fun _ _ _ h => h) (by rfl) ?_ hHeld ?_
        · (intro w' hSw; go_simp)
        (try simp only [Act.put]); (try simp only [List.setIfInBounds_toArray]); (try simp only [List.set_cons_succ]); (try simp only [List.set_cons_zero]); (try simp only [List.set_cons_succ]); (try simp only [List.set_cons_zero]); (try simp only [Nat.zero_add])
        obtain ⟨vs, hvl, CZ⟩ := J5.out.len (.tail _ (.tail _ (.tail _ (.head _))))
        have TH := hid_mk (by have h := CZ.there; rw [hvl] at h; exact h)
        have CE := hid_mk (CZ.sets (us := (col (⟨8, pc, 24, 24, t, en, nx, st, 48⟩ : Cv) (⟨b, d, b1, d1, b2, d2, some ⟨g, 0, none⟩, cp, some ⟨j, 0, none⟩, dj⟩ : Ca))) (by rw [hvl]; rfl))
        have HR := hid_mk (J5.out.roomE (.tail _ (.head _)))
        have HA := hid_mk (J5.out.ansS (.tail _ (.tail _ (.head _))))
        have HN : Hid ((intF j 48 r.J).p v5) := J5.out.at (f := intF j 48 r.J) (.head _)
        have HB := hid_mk J5.out.bel
        clear CZ
        have FR : Hid (∀ k, On b k ∨ On b1 k ∨ On b2 k → w.heap.size + 1 < k ∧ k ≠ g ∧ k ≠ j) := fun k hk => by have h1 := lS.out k hk; have h2 := uS.out k hk; omega
        have GJ : w.heap.size + 1 < g ∧ w.heap.size + 1 < j ∧ g ≠ j := by omega
        refine wpAnyH_ready (rs := [16]) (by kernel_rfl) (by simp) ?_
        refine AllReadyH.cons rfl (fun K hK => ?_) AllReadyH.nil
        refine step_stm (by rfl) 64 _ _ (by rfl) (w.heap.size + 1) 0 (col (⟨8, pc, 24, 24, t, en, nx, st, 48⟩ : Cv) (⟨b, d, b1, d1, b2, d2, some ⟨g, 0, none⟩, cp, some ⟨j, 0, none⟩, dj⟩ : Ca)).toArray (by rfl) (by rfl) TH.out sizeCor (col_one _ _) ?_
        refine hK.out _ _ (RZ.out (col (⟨8, pc, 24, 24, t, en, nx, st, 48⟩ : Cv) (⟨b, d, b1, d1, b2, d2, some ⟨g, 0, none⟩, cp, some ⟨j, 0, none⟩, dj⟩ : Ca)) _ rfl (J5.out.sub (gs := [lenF (w.heap.size + 1) 19, celF w.heap.size (col (⟨8, pc, 24, 24, t, en, nx, st, 48⟩ : Cv) (⟨ra, rc, wa, wc, ga, gc, some ⟨q, 0, none⟩, ec, some ⟨y, 0, none⟩, jc⟩ : Ca)), argCF w.heap.size (⟨8, pc, 24, 24, t, en, nx, st, 48⟩ : Cv) (⟨ra, rc, wa, wc, ga, gc, some ⟨q, 0, none⟩, ec, some ⟨y, 0, none⟩, jc⟩ : Ca) r]) (fun f hf => by simp only [List.mem_cons, List.not_mem_nil, or_false] at hf ⊢; rcases hf with rfl | rfl | rfl; exact .inr (.inr (.inr (.inl rfl))); exact .inr (.inr (.inr (.inr (.inl rfl)))); exact .inr (.inr (.inr (.inr (.inr rfl))))))) (fun hHeld => ?_)
        clear hK K
        refine wpAnyH_done (by kernel_rfl) ?_ _
        have K9 := hid_mk (KeepBut.setCells (b := w.heap.size + 1) (col (⟨8, pc, 24, 24, t, en, nx, st, 48⟩ : Cv) (⟨b, d, b1, d1, b2, d2, some ⟨g, 0, none⟩, cp, some ⟨j, 0, none⟩, dj⟩ : Ca)) 0 v5)
        have hlv := hid_mk (lv_cor CE.out.range)
        clear J5 hHeld RZ TH CE lS uS D0
        generalize v5.setCells (w.heap.size + 1) 0 (col (⟨8, pc, 24, 24, t, en, nx, st, 48⟩ : Cv) (⟨b, d, b1, d1, b2, d2, some ⟨g, 0, none⟩, cp, some ⟨j, 0, none⟩, dj⟩ : Ca)) = w9 at K9 hlv ⊢
        have G0 := hid_mk GJ
        clear GJ
        have AN : Hid (AnsS b b1 b2 8 24 24 r.R r.L r.G w9) := (ansSF b b1 b2 8 24 24 r.R r.L r.G).keep _ _ HA.out K9.out.size fun k hk ho => K9.out.block k hk (by have := FR.out k ho; omega)
        have RN : Hid (RoomE w9 g en cp r.E) := HR.out.ofBlock (K9.out.block g HR.out.lt (by have := G0.out; omega))
        have NN : Hid ((intF j 48 r.J).p w9) := ⟨HN.out.1.ofBlock K9.out.size (K9.out.block j HN.out.1.lt (by have := G0.out; omega)), HN.out.2⟩
        have BB := hid_mk (HB.out.trans (K9.out.below (B := w.heap.size) (by omega) HB.out.size))
        have G1 : Hid (w.heap.size ≤ g ∧ w.heap.size ≤ j ∧ g ≠ j) := by have := G0.out; exact ⟨by omega, by omega, this.2.2⟩
        have F1 : Hid (∀ k, On b k ∨ On b1 k ∨ On b2 k → w.heap.size ≤ k ∧ k ≠ g ∧ k ≠ j) := fun k hk => by have := FR.out k hk; exact ⟨by omega, this.2⟩
        clear HR HA HN HB K9 FR G0
        go_wp2
        refine bodyPost_ret (v := .agg (col (⟨8, pc, 24, 24, t, en, nx, st, 48⟩ : Cv) (⟨b, d, b1, d1, b2, d2, some ⟨g, 0, none⟩, cp, some ⟨j, 0, none⟩, dj⟩ : Ca)).toArray) (results_cell1 Tryz.results58 (by first | rfl | (simp; done)) hlv.out) rfl (HQ.out _ _ _ _ _ _ _ _ _ _ _ ⟨AN.out, RN.out, NN.out, F1.out, G1.out.1, G1.out.2.1, G1.out.2.2, BB.out⟩)
    · go_simp
      have J2 := hid_mk ((J1.out.alloc (.cells #[] 3)).push (rmNF v1.heap.size 0 0 []) (rmN_new v1))
      have z2 : v1.heap.size < (v1.alloc (.cells #[] 3)).heap.size := by simp
      refine hK.out _ _ (J2.out.sub (gs := [lenF (w.heap.size + 1) 19, celF w.heap.size (col (⟨8, pc, 24, 24, t, en, nx, st, 48⟩ : Cv) (⟨ra, rc, wa, wc, ga, gc, some ⟨q, 0, none⟩, ec, some ⟨y, 0, none⟩, jc⟩ : Ca)), argCF w.heap.size (⟨8, pc, 24, 24, t, en, nx, st, 48⟩ : Cv) (⟨ra, rc, wa, wc, ga, gc, some ⟨q, 0, none⟩, ec, some ⟨y, 0, none⟩, jc⟩ : Ca) r]) (fun f hf => by simp only [List.mem_cons, List.not_mem_nil, or_false] at hf ⊢; rcases hf with rfl | rfl | rfl; exact .inr (.inr (.inl rfl)); exact .inr (.inr (.inr (.inl rfl))); exact .inr (.inr (.inr (.inr rfl))))) (fun hHeld => ?_)
      clear hK K
      (try simp only [Act.put]); (try simp only [List.setIfInBounds_toArray]); (try simp only [List.set_cons_succ]); (try simp only [List.set_cons_zero]); (try simp only [List.set_cons_succ]); (try simp only [List.set_cons_zero]); (try simp only [Nat.zero_add])
      obtain ⟨q4, hq4⟩ : ∃ r, r = v1.heap.size := ⟨_, rfl⟩
      rw [← hq4] at J2 z2 ⊢
      have yq4 : q4 ≤ v1.heap.size ∧ v1.heap.size ≤ q4 := by omega
      clear hq4
      generalize v1.alloc (.cells #[] 3) = v2 at J2 hHeld z2 ⊢
      refine wpAnyH_ready (rs := [3]) (by kernel_rfl) (by simp) ?_
      refine AllReadyH.cons rfl (fun K hK => ?_) AllReadyH.nil
      go_simp
      have J3 := hid_mk ((J2.out.alloc (.cells #[] 104)).push (roomEF v2.heap.size 0 0 []) (roomE_new v2))
      have z3 : v2.heap.size < (v2.alloc (.cells #[] 104)).heap.size := by simp
      refine hK.out _ _ (J3.out.sub (gs := [lenF (w.heap.size + 1) 19, celF w.heap.size (col (⟨8, pc, 24, 24, t, en, nx, st, 48⟩ : Cv) (⟨ra, rc, wa, wc, ga, gc, some ⟨q, 0, none⟩, ec, some ⟨y, 0, none⟩, jc⟩ : Ca)), argCF w.heap.size (⟨8, pc, 24, 24, t, en, nx, st, 48⟩ : Cv) (⟨ra, rc, wa, wc, ga, gc, some ⟨q, 0, none⟩, ec, some ⟨y, 0, none⟩, jc⟩ : Ca) r]) (fun f hf => by simp only [List.mem_cons, List.not_mem_nil, or_false] at hf ⊢; rcases hf with rfl | rfl | rfl; exact .inr (.inr (.inr (.inl rfl))); exact .inr (.inr (.inr (.inr (.inl rfl)))); exact .inr (.inr (.inr (.inr (.inr rfl)))))) (fun hHeld => ?_)
      clear hK K
      (try simp only [Act.put]); (try simp only [List.setIfInBounds_toArray]); (try simp only [List.set_cons_succ]); (try simp only [List.set_cons_zero]); (try simp only [List.set_cons_succ]); (try simp only [List.set_cons_zero]); (try simp only [Nat.zero_add])
      obtain ⟨q3, hq3⟩ : ∃ r, r = v2.heap.size := ⟨_, rfl⟩
      rw [← hq3] at J3 z3 ⊢
      have yq3 : q3 ≤ v2.heap.size ∧ v2.heap.size ≤ q3 := by omega
      clear hq3
      generalize v2.alloc (.cells #[] 104) = v3 at J3 hHeld z3 ⊢
      refine wpAnyH_ready (rs := [6]) (by kernel_rfl) (by simp) ?_
      refine AllReadyH.cons rfl (fun K hK => ?_) AllReadyH.nil
      refine step_appEr (by rfl) _ _ (by rfl) q3 0 0 [] (by rfl) (J3.out.roomE (.head _)) (some ⟨q, 0, none⟩) en ec r.E (by rfl) hlE.out (fun h => by cases h) (fun b9 hb9 => by cases hb9; exact (J3.out.argC (.tail _ (.tail _ (.tail _ (.tail _ (.tail _ (.head _))))))).es.flat enl_len (by decide)) en (Nat.zero_add en) (by omega) ?_
      intro g cp v4 hO hg hcp hk9
      replace hO : RoomE v4 g en cp r.E := by simpa using hO
      have z4 := hk9.size
      have hl6 := hO.lt
      have HL := hid_mk (J3.out.roomE (.head _)).lt
      have hl3 := HL.out
      have J4 := hid_mk (((J3.out.sub (gs := [rmNF q4 0 0 [], ansSF b b1 b2 8 24 24 r.R r.L r.G, lenF (w.heap.size + 1) 19, celF w.heap.size (col (⟨8, pc, 24, 24, t, en, nx, st, 48⟩ : Cv) (⟨ra, rc, wa, wc, ga, gc, some ⟨q, 0, none⟩, ec, some ⟨y, 0, none⟩, jc⟩ : Ca)), argCF w.heap.size (⟨8, pc, 24, 24, t, en, nx, st, 48⟩ : Cv) (⟨ra, rc, wa, wc, ga, gc, some ⟨q, 0, none⟩, ec, some ⟨y, 0, none⟩, jc⟩ : Ca) r]) (fun f hf => by simp only [List.mem_cons, List.not_mem_nil, or_false] at hf ⊢; rcases hf with rfl | rfl | rfl | rfl | rfl; exact .inr (.inl rfl); exact .inr (.inr (.inl rfl)); exact .inr (.inr (.inr (.inl rfl))); exact .inr (.inr (.inr (.inr (.inl rfl)))); exact .inr (.inr (.inr (.inr (.inr rfl)))))).wrote (T := fun k => k = q3) (KeptS.ofBut hk9 rfl) (fun k e => by omega)
        (fun f hf k hk e => by
          simp only [List.mem_cons, List.not_mem_nil, or_false] at hf
          rcases hf with rfl | rfl | rfl | rfl | rfl
          · simp only [rmNF] at hk; omega
          · have h1 := lS.out k hk; have h2 := uS.out k hk; omega
          · simp only [lenF] at hk; omega
          · simp only [celF] at hk; omega
          · simp only [argCF] at hk; omega
          )).push (roomEF g en cp r.E) hO)
      clear hk9 hO
      refine hK.out _ _ (J4.out.sub (gs := [lenF (w.heap.size + 1) 19, celF w.heap.size (col (⟨8, pc, 24, 24, t, en, nx, st, 48⟩ : Cv) (⟨ra, rc, wa, wc, ga, gc, some ⟨q, 0, none⟩, ec, some ⟨y, 0, none⟩, jc⟩ : Ca)), argCF w.heap.size (⟨8, pc, 24, 24, t, en, nx, st, 48⟩ : Cv) (⟨ra, rc, wa, wc, ga, gc, some ⟨q, 0, none⟩, ec, some ⟨y, 0, none⟩, jc⟩ : Ca) r]) (fun f hf => by simp only [List.mem_cons, List.not_mem_nil, or_false] at hf ⊢; rcases hf with rfl | rfl | rfl; exact .inr (.inr (.inr (.inl rfl))); exact .inr (.inr (.inr (.inr (.inl rfl)))); exact .inr (.inr (.inr (.inr (.inr rfl)))))) (fun hHeld => ?_)
      clear hK K
      (try simp only [Act.put]); (try simp only [List.setIfInBounds_toArray]); (try simp only [List.set_cons_succ]); (try simp only [List.set_cons_zero]); (try simp only [List.set_cons_succ]); (try simp only [List.set_cons_zero]); (try simp only [Nat.zero_add])
      refine wpAnyH_ready (rs := [14]) (by kernel_rfl) (by simp) ?_
      refine AllReadyH.cons rfl (fun K hK => ?_) AllReadyH.nil
      refine step_appNd (by rfl) _ _ (by rfl) 0 q4 0 0 [] (by rfl) rfl (J4.out.rmN (.tail _ (.head _))).own (some ⟨y, 0, none⟩) 48 jc r.J (by rfl) hlJ.out (fun h => by cases h) (fun b9 hb9 => by cases hb9; exact (J4.out.argC (.tail _ (.tail _ (.tail _ (.tail _ (.tail _ (.head _))))))).js.flat) 48 rfl (by omega) (Nat.zero_le _) ?_
      intro j dj v5 _ hO _ hg4 hk9
      have hO2 : (intF j 48 r.J).p v5 := ⟨by simpa using hO, hlJ.out⟩
      have z5 := hk9.size
      have hl4 := (J4.out.rmN (.tail _ (.head _))).lt
      have hl5 := (J4.out.roomE (.head _)).lt
      have J5 := hid_mk (((J4.out.sub (gs := [roomEF g en cp r.E, ansSF b b1 b2 8 24 24 r.R r.L r.G, lenF (w.heap.size + 1) 19, celF w.heap.size (col (⟨8, pc, 24, 24, t, en, nx, st, 48⟩ : Cv) (⟨ra, rc, wa, wc, ga, gc, some ⟨q, 0, none⟩, ec, some ⟨y, 0, none⟩, jc⟩ : Ca)), argCF w.heap.size (⟨8, pc, 24, 24, t, en, nx, st, 48⟩ : Cv) (⟨ra, rc, wa, wc, ga, gc, some ⟨q, 0, none⟩, ec, some ⟨y, 0, none⟩, jc⟩ : Ca) r]) (fun f hf => by simp only [List.mem_cons, List.not_mem_nil, or_false] at hf ⊢; rcases hf with rfl | rfl | rfl | rfl | rfl; exact .inl rfl; exact .inr (.inr (.inl rfl)); exact .inr (.inr (.inr (.inl rfl))); exact .inr (.inr (.inr (.inr (.inl rfl)))); exact .inr (.inr (.inr (.inr (.inr rfl)))))).wrote (T := fun k => k = q4) (KeptS.ofBut hk9 rfl) (fun k e => by omega)
        (fun f hf k hk e => by
          simp only [List.mem_cons, List.not_mem_nil, or_false] at hf
          rcases hf with rfl | rfl | rfl | rfl | rfl
          · simp only [roomEF] at hk; omega
          · have h1 := lS.out k hk; have h2 := uS.out k hk; omega
          · simp only [lenF] at hk; omega
          · simp only [celF] at hk; omega
          · simp only [argCF] at hk; omega
          )).push (intF j 48 r.J) hO2)
      clear hk9 hO hO2
      refine hK.out _ _ (J5.out.sub (gs := [lenF (w.heap.size + 1) 19, celF w.heap.size (col (⟨8, pc, 24, 24, t, en, nx, st, 48⟩ : Cv) (⟨ra, rc, wa, wc, ga, gc, some ⟨q, 0, none⟩, ec, some ⟨y, 0, none⟩, jc⟩ : Ca)), argCF w.heap.size (⟨8, pc, 24, 24, t, en, nx, st, 48⟩ : Cv) (⟨ra, rc, wa, wc, ga, gc, some ⟨q, 0, none⟩, ec, some ⟨y, 0, none⟩, jc⟩ : Ca) r]) (fun f hf => by simp only [List.mem_cons, List.not_mem_nil, or_false] at hf ⊢; rcases hf with rfl | rfl | rfl; exact .inr (.inr (.inr (.inl rfl))); exact .inr (.inr (.inr (.inr (.inl rfl)))); exact .inr (.inr (.inr (.inr (.inr rfl)))))) (fun hHeld => ?_)
      clear hK K
      (try simp only [Act.put]); (try simp only [List.setIfInBounds_toArray]); (try simp only [List.set_cons_succ]); (try simp only [List.set_cons_zero]); (try simp only [List.set_cons_succ]); (try simp only [List.set_cons_zero]); (try simp only [Nat.zero_add])
      refine take_on (i := 15) (d := 18) (v := .agg #[.slice b 8 d, .int .i64 pc.n, .bool pc.i, .int .i64 pc.b, .int .i64 pc.t, .int .i64 pc.p, .int .i64 pc.s, .slice b1 24 d1, .slice b2 24 d2, .int .i64 t, .slice (some ⟨g, 0, none⟩) en cp, .int .i64 nx.n, .bool nx.i, .int .i64 nx.b, .int .i64 nx.t, .int .i64 nx.p, .int .i64 nx.s, .bool st, .slice (some ⟨j, 0, none⟩) 48 dj]) rfl rfl (by kernel_rfl) (by kernel_rfl) (by kernel_rfl) (fun _ _ _ h => h) (by rfl) ?_ hHeld ?_
      · (intro w' hSw; go_simp)
      (try simp only [Act.put]); (try simp only [List.setIfInBounds_toArray]); (try simp only [List.set_cons_succ]); (try simp only [List.set_cons_zero]); (try simp only [List.set_cons_succ]); (try simp only [List.set_cons_zero]); (try simp only [Nat.zero_add])
      obtain ⟨vs, hvl, CZ⟩ := J5.out.len (.tail _ (.tail _ (.tail _ (.head _))))
      have TH := hid_mk (by have h := CZ.there; rw [hvl] at h; exact h)
      have CE := hid_mk (CZ.sets (us := (col (⟨8, pc, 24, 24, t, en, nx, st, 48⟩ : Cv) (⟨b, d, b1, d1, b2, d2, some ⟨g, 0, none⟩, cp, some ⟨j, 0, none⟩, dj⟩ : Ca))) (by rw [hvl]; rfl))
      have HR := hid_mk (J5.out.roomE (.tail _ (.head _)))
      have HA := hid_mk (J5.out.ansS (.tail _ (.tail _ (.head _))))
      have HN : Hid ((intF j 48 r.J).p v5) := J5.out.at (f := intF j 48 r.J) (.head _)
      have HB := hid_mk J5.out.bel
      clear CZ
      have FR : Hid (∀ k, On b k ∨ On b1 k ∨ On b2 k → w.heap.size + 1 < k ∧ k ≠ g ∧ k ≠ j) := fun k hk => by have h1 := lS.out k hk; have h2 := uS.out k hk; omega
      have GJ : w.heap.size + 1 < g ∧ w.heap.size + 1 < j ∧ g ≠ j := by omega
      refine wpAnyH_ready (rs := [16]) (by kernel_rfl) (by simp) ?_
      refine AllReadyH.cons rfl (fun K hK => ?_) AllReadyH.nil
      refine step_stm (by rfl) 64 _ _ (by rfl) (w.heap.size + 1) 0 (col (⟨8, pc, 24, 24, t, en, nx, st, 48⟩ : Cv) (⟨b, d, b1, d1, b2, d2, some ⟨g, 0, none⟩, cp, some ⟨j, 0, none⟩, dj⟩ : Ca)).toArray (by rfl) (by rfl) TH.out sizeCor (col_one _ _) ?_
      refine hK.out _ _ (RZ.out (col (⟨8, pc, 24, 24, t, en, nx, st, 48⟩ : Cv) (⟨b, d, b1, d1, b2, d2, some ⟨g, 0, none⟩, cp, some ⟨j, 0, none⟩, dj⟩ : Ca)) _ rfl (J5.out.sub (gs := [lenF (w.heap.size + 1) 19, celF w.heap.size (col (⟨8, pc, 24, 24, t, en, nx, st, 48⟩ : Cv) (⟨ra, rc, wa, wc, ga, gc, some ⟨q, 0, none⟩, ec, some ⟨y, 0, none⟩, jc⟩ : Ca)), argCF w.heap.size (⟨8, pc, 24, 24, t, en, nx, st, 48⟩ : Cv) (⟨ra, rc, wa, wc, ga, gc, some ⟨q, 0, none⟩, ec, some ⟨y, 0, none⟩, jc⟩ : Ca) r]) (fun f hf => by simp only [List.mem_cons, List.not_mem_nil, or_false] at hf ⊢; rcases hf with rfl | rfl | rfl; exact .inr (.inr (.inr (.inl rfl))); exact .inr (.inr (.inr (.inr (.inl rfl)))); exact .inr (.inr (.inr (.inr (.inr rfl))))))) (fun hHeld => ?_)
      clear hK K
      refine wpAnyH_done (by kernel_rfl) ?_ _
      have K9 := hid_mk (KeepBut.setCells (b := w.heap.size + 1) (col (⟨8, pc, 24, 24, t, en, nx, st, 48⟩ : Cv) (⟨b, d, b1, d1, b2, d2, some ⟨g, 0, none⟩, cp, some ⟨j, 0, none⟩, dj⟩ : Ca)) 0 v5)
      have hlv := hid_mk (lv_cor CE.out.range)
      clear J5 hHeld RZ TH CE lS uS D0
      generalize v5.setCells (w.heap.size + 1) 0 (col (⟨8, pc, 24, 24, t, en, nx, st, 48⟩ : Cv) (⟨b, d, b1, d1, b2, d2, some ⟨g, 0, none⟩, cp, some ⟨j, 0, none⟩, dj⟩ : Ca)) = w9 at K9 hlv ⊢
      have G0 := hid_mk GJ
      clear GJ
      have AN : Hid (AnsS b b1 b2 8 24 24 r.R r.L r.G w9) := (ansSF b b1 b2 8 24 24 r.R r.L r.G).keep _ _ HA.out K9.out.size fun k hk ho => K9.out.block k hk (by have := FR.out k ho; omega)
      have RN : Hid (RoomE w9 g en cp r.E) := HR.out.ofBlock (K9.out.block g HR.out.lt (by have := G0.out; omega))
      have NN : Hid ((intF j 48 r.J).p w9) := ⟨HN.out.1.ofBlock K9.out.size (K9.out.block j HN.out.1.lt (by have := G0.out; omega)), HN.out.2⟩
      have BB := hid_mk (HB.out.trans (K9.out.below (B := w.heap.size) (by omega) HB.out.size))
      have G1 : Hid (w.heap.size ≤ g ∧ w.heap.size ≤ j ∧ g ≠ j) := by have := G0.out; exact ⟨by omega, by omega, this.2.2⟩
      have F1 : Hid (∀ k, On b k ∨ On b1 k ∨ On b2 k → w.heap.size ≤ k ∧ k ≠ g ∧ k ≠ j) := fun k hk => by have := FR.out k hk; exact ⟨by omega, this.2⟩
      clear HR HA HN HB K9 FR G0
      go_wp2
      refine bodyPost_ret (v := .agg (col (⟨8, pc, 24, 24, t, en, nx, st, 48⟩ : Cv) (⟨b, d, b1, d1, b2, d2, some ⟨g, 0, none⟩, cp, some ⟨j, 0, none⟩, dj⟩ : Ca)).toArray) (results_cell1 Tryz.results58 (by first | rfl | (simp; done)) hlv.out) rfl (HQ.out _ _ _ _ _ _ _ _ _ _ _ ⟨AN.out, RN.out, NN.out, F1.out, G1.out.1, G1.out.2.1, G1.out.2.2, BB.out⟩)
  · go_simp
    have J1 := hid_mk ((D0.out.alloc (.cells #[] 104)).push (roomEF wd.heap.size 0 0 []) (roomE_new wd))
    have z1 : wd.heap.size < (wd.alloc (.cells #[] 104)).heap.size := by simp
    refine hK.out _ _ (J1.out.sub (gs := [lenF (w.heap.size + 1) 19, celF w.heap.size (col (⟨8, pc, 24, 24, t, en, nx, st, 48⟩ : Cv) (⟨ra, rc, wa, wc, ga, gc, some ⟨q, 0, none⟩, ec, some ⟨y, 0, none⟩, jc⟩ : Ca)), argCF w.heap.size (⟨8, pc, 24, 24, t, en, nx, st, 48⟩ : Cv) (⟨ra, rc, wa, wc, ga, gc, some ⟨q, 0, none⟩, ec, some ⟨y, 0, none⟩, jc⟩ : Ca) r]) (fun f hf => by simp only [List.mem_cons, List.not_mem_nil, or_false] at hf ⊢; rcases hf with rfl | rfl | rfl; exact .inr (.inl rfl); exact .inr (.inr (.inl rfl)); exact .inr (.inr (.inr rfl)))) (fun hHeld => ?_)
    clear hK K
    (try simp only [Act.put]); (try simp only [List.setIfInBounds_toArray]); (try simp only [List.set_cons_succ]); (try simp only [List.set_cons_zero]); (try simp only [List.set_cons_succ]); (try simp only [List.set_cons_zero]); (try simp only [Nat.zero_add])
    obtain ⟨q3, hq3⟩ : ∃ r, r = wd.heap.size := ⟨_, rfl⟩
    rw [← hq3] at J1 z1 ⊢
    have yq3 : q3 ≤ wd.heap.size ∧ wd.heap.size ≤ q3 := by omega
    clear hq3
    generalize wd.alloc (.cells #[] 104) = v1 at J1 hHeld z1 ⊢
    refine wpAnyH_ready (rs := [2, 11]) (by kernel_rfl) (by simp) ?_
    refine AllReadyH.cons rfl (fun K hK => ?_) (AllReadyH.cons rfl (fun K hK => ?_) AllReadyH.nil)
    · go_simp
      refine (l9Copy_any ra rc pc wa wc ga gc t r.R r.L r.G _ (J1.out.argC (.tail _ (.tail _ (.tail _ (.head _))))).st).mono ?_
      rintro e v2 ⟨b, d, b1, d1, b2, d2, rfl, hd1, hA, hf, hb⟩
      have lS := hid_mk hf
      have uS := hid_mk (fun k hk => hA.lt (k := k) hk)
      have z2 := hb.size
      have J2 := hid_mk ((J1.out.next hb).push (ansSF b b1 b2 8 24 24 r.R r.L r.G) hA)
      clear hb hA hf hd1
      refine hK.out _ _ (J2.out.sub (gs := [lenF (w.heap.size + 1) 19, celF w.heap.size (col (⟨8, pc, 24, 24, t, en, nx, st, 48⟩ : Cv) (⟨ra, rc, wa, wc, ga, gc, some ⟨q, 0, none⟩, ec, some ⟨y, 0, none⟩, jc⟩ : Ca)), argCF w.heap.size (⟨8, pc, 24, 24, t, en, nx, st, 48⟩ : Cv) (⟨ra, rc, wa, wc, ga, gc, some ⟨q, 0, none⟩, ec, some ⟨y, 0, none⟩, jc⟩ : Ca) r]) (fun f hf => by simp only [List.mem_cons, List.not_mem_nil, or_false] at hf ⊢; rcases hf with rfl | rfl | rfl; exact .inr (.inr (.inl rfl)); exact .inr (.inr (.inr (.inl rfl))); exact .inr (.inr (.inr (.inr rfl))))) (fun hHeld => ?_)
      clear hK K
      (try simp only [Act.put]); (try simp only [List.setIfInBounds_toArray]); (try simp only [List.set_cons_succ]); (try simp only [List.set_cons_zero]); (try simp only [List.set_cons_succ]); (try simp only [List.set_cons_zero]); (try simp only [Nat.zero_add])
      refine wpAnyH_ready (rs := [6, 11]) (by kernel_rfl) (by simp) ?_
      refine AllReadyH.cons rfl (fun K hK => ?_) (AllReadyH.cons rfl (fun K hK => ?_) AllReadyH.nil)
      · refine step_appEr (by rfl) _ _ (by rfl) q3 0 0 [] (by rfl) (J2.out.roomE (.tail _ (.head _))) (some ⟨q, 0, none⟩) en ec r.E (by rfl) hlE.out (fun h => by cases h) (fun b9 hb9 => by cases hb9; exact (J2.out.argC (.tail _ (.tail _ (.tail _ (.tail _ (.head _)))))).es.flat enl_len (by decide)) en (Nat.zero_add en) (by omega) ?_
        intro g cp v3 hO hg hcp hk9
        replace hO : RoomE v3 g en cp r.E := by simpa using hO
        have z3 := hk9.size
        have hl6 := hO.lt
        have HL := hid_mk (J2.out.roomE (.tail _ (.head _))).lt
        have hl3 := HL.out
        have J3 := hid_mk (((J2.out.sub (gs := [ansSF b b1 b2 8 24 24 r.R r.L r.G, lenF (w.heap.size + 1) 19, celF w.heap.size (col (⟨8, pc, 24, 24, t, en, nx, st, 48⟩ : Cv) (⟨ra, rc, wa, wc, ga, gc, some ⟨q, 0, none⟩, ec, some ⟨y, 0, none⟩, jc⟩ : Ca)), argCF w.heap.size (⟨8, pc, 24, 24, t, en, nx, st, 48⟩ : Cv) (⟨ra, rc, wa, wc, ga, gc, some ⟨q, 0, none⟩, ec, some ⟨y, 0, none⟩, jc⟩ : Ca) r]) (fun f hf => by simp only [List.mem_cons, List.not_mem_nil, or_false] at hf ⊢; rcases hf with rfl | rfl | rfl | rfl; exact .inl rfl; exact .inr (.inr (.inl rfl)); exact .inr (.inr (.inr (.inl rfl))); exact .inr (.inr (.inr (.inr rfl))))).wrote (T := fun k => k = q3) (KeptS.ofBut hk9 rfl) (fun k e => by omega)
          (fun f hf k hk e => by
            simp only [List.mem_cons, List.not_mem_nil, or_false] at hf
            rcases hf with rfl | rfl | rfl | rfl
            · have h1 := lS.out k hk; have h2 := uS.out k hk; omega
            · simp only [lenF] at hk; omega
            · simp only [celF] at hk; omega
            · simp only [argCF] at hk; omega
            )).push (roomEF g en cp r.E) hO)
        clear hk9 hO
        refine hK.out _ _ (J3.out.sub (gs := [lenF (w.heap.size + 1) 19, celF w.heap.size (col (⟨8, pc, 24, 24, t, en, nx, st, 48⟩ : Cv) (⟨ra, rc, wa, wc, ga, gc, some ⟨q, 0, none⟩, ec, some ⟨y, 0, none⟩, jc⟩ : Ca)), argCF w.heap.size (⟨8, pc, 24, 24, t, en, nx, st, 48⟩ : Cv) (⟨ra, rc, wa, wc, ga, gc, some ⟨q, 0, none⟩, ec, some ⟨y, 0, none⟩, jc⟩ : Ca) r]) (fun f hf => by simp only [List.mem_cons, List.not_mem_nil, or_false] at hf ⊢; rcases hf with rfl | rfl | rfl; exact .inr (.inr (.inl rfl)); exact .inr (.inr (.inr (.inl rfl))); exact .inr (.inr (.inr (.inr rfl))))) (fun hHeld => ?_)
        clear hK K
        (try simp only [Act.put]); (try simp only [List.setIfInBounds_toArray]); (try simp only [List.set_cons_succ]); (try simp only [List.set_cons_zero]); (try simp only [List.set_cons_succ]); (try simp only [List.set_cons_zero]); (try simp only [Nat.zero_add])
        refine wpAnyH_ready (rs := [11]) (by kernel_rfl) (by simp) ?_
        refine AllReadyH.cons rfl (fun K hK => ?_) AllReadyH.nil
        go_simp
        have J4 := hid_mk ((J3.out.alloc (.cells #[] 3)).push (rmNF v3.heap.size 0 0 []) (rmN_new v3))
        have z4 : v3.heap.size < (v3.alloc (.cells #[] 3)).heap.size := by simp
        refine hK.out _ _ (J4.out.sub (gs := [lenF (w.heap.size + 1) 19, celF w.heap.size (col (⟨8, pc, 24, 24, t, en, nx, st, 48⟩ : Cv) (⟨ra, rc, wa, wc, ga, gc, some ⟨q, 0, none⟩, ec, some ⟨y, 0, none⟩, jc⟩ : Ca)), argCF w.heap.size (⟨8, pc, 24, 24, t, en, nx, st, 48⟩ : Cv) (⟨ra, rc, wa, wc, ga, gc, some ⟨q, 0, none⟩, ec, some ⟨y, 0, none⟩, jc⟩ : Ca) r]) (fun f hf => by simp only [List.mem_cons, List.not_mem_nil, or_false] at hf ⊢; rcases hf with rfl | rfl | rfl; exact .inr (.inr (.inr (.inl rfl))); exact .inr (.inr (.inr (.inr (.inl rfl)))); exact .inr (.inr (.inr (.inr (.inr rfl)))))) (fun hHeld => ?_)
        clear hK K
        (try simp only [Act.put]); (try simp only [List.setIfInBounds_toArray]); (try simp only [List.set_cons_succ]); (try simp only [List.set_cons_zero]); (try simp only [List.set_cons_succ]); (try simp only [List.set_cons_zero]); (try simp only [Nat.zero_add])
        obtain ⟨q4, hq4⟩ : ∃ r, r = v3.heap.size := ⟨_, rfl⟩
        rw [← hq4] at J4 z4 ⊢
        have yq4 : q4 ≤ v3.heap.size ∧ v3.heap.size ≤ q4 := by omega
        clear hq4
        generalize v3.alloc (.cells #[] 3) = v4 at J4 hHeld z4 ⊢
        refine wpAnyH_ready (rs := [14]) (by kernel_rfl) (by simp) ?_
        refine AllReadyH.cons rfl (fun K hK => ?_) AllReadyH.nil
        refine step_appNd (by rfl) _ _ (by rfl) 0 q4 0 0 [] (by rfl) rfl (J4.out.rmN (.head _)).own (some ⟨y, 0, none⟩) 48 jc r.J (by rfl) hlJ.out (fun h => by cases h) (fun b9 hb9 => by cases hb9; exact (J4.out.argC (.tail _ (.tail _ (.tail _ (.tail _ (.tail _ (.head _))))))).js.flat) 48 rfl (by omega) (Nat.zero_le _) ?_
        intro j dj v5 _ hO _ hg4 hk9
        have hO2 : (intF j 48 r.J).p v5 := ⟨by simpa using hO, hlJ.out⟩
        have z5 := hk9.size
        have hl4 := (J4.out.rmN (.head _)).lt
        have hl5 := (J4.out.roomE (.tail _ (.head _))).lt
        have J5 := hid_mk (((J4.out.sub (gs := [roomEF g en cp r.E, ansSF b b1 b2 8 24 24 r.R r.L r.G, lenF (w.heap.size + 1) 19, celF w.heap.size (col (⟨8, pc, 24, 24, t, en, nx, st, 48⟩ : Cv) (⟨ra, rc, wa, wc, ga, gc, some ⟨q, 0, none⟩, ec, some ⟨y, 0, none⟩, jc⟩ : Ca)), argCF w.heap.size (⟨8, pc, 24, 24, t, en, nx, st, 48⟩ : Cv) (⟨ra, rc, wa, wc, ga, gc, some ⟨q, 0, none⟩, ec, some ⟨y, 0, none⟩, jc⟩ : Ca) r]) (fun f hf => by simp only [List.mem_cons, List.not_mem_nil, or_false] at hf ⊢; rcases hf with rfl | rfl | rfl | rfl | rfl; exact .inr (.inl rfl); exact .inr (.inr (.inl rfl)); exact .inr (.inr (.inr (.inl rfl))); exact .inr (.inr (.inr (.inr (.inl rfl)))); exact .inr (.inr (.inr (.inr (.inr rfl)))))).wrote (T := fun k => k = q4) (KeptS.ofBut hk9 rfl) (fun k e => by omega)
          (fun f hf k hk e => by
            simp only [List.mem_cons, List.not_mem_nil, or_false] at hf
            rcases hf with rfl | rfl | rfl | rfl | rfl
            · simp only [roomEF] at hk; omega
            · have h1 := lS.out k hk; have h2 := uS.out k hk; omega
            · simp only [lenF] at hk; omega
            · simp only [celF] at hk; omega
            · simp only [argCF] at hk; omega
            )).push (intF j 48 r.J) hO2)
        clear hk9 hO hO2
        refine hK.out _ _ (J5.out.sub (gs := [lenF (w.heap.size + 1) 19, celF w.heap.size (col (⟨8, pc, 24, 24, t, en, nx, st, 48⟩ : Cv) (⟨ra, rc, wa, wc, ga, gc, some ⟨q, 0, none⟩, ec, some ⟨y, 0, none⟩, jc⟩ : Ca)), argCF w.heap.size (⟨8, pc, 24, 24, t, en, nx, st, 48⟩ : Cv) (⟨ra, rc, wa, wc, ga, gc, some ⟨q, 0, none⟩, ec, some ⟨y, 0, none⟩, jc⟩ : Ca) r]) (fun f hf => by simp only [List.mem_cons, List.not_mem_nil, or_false] at hf ⊢; rcases hf with rfl | rfl | rfl; exact .inr (.inr (.inr (.inl rfl))); exact .inr (.inr (.inr (.inr (.inl rfl)))); exact .inr (.inr (.inr (.inr (.inr rfl)))))) (fun hHeld => ?_)
        clear hK K
        (try simp only [Act.put]); (try simp only [List.setIfInBounds_toArray]); (try simp only [List.set_cons_succ]); (try simp only [List.set_cons_zero]); (try simp only [List.set_cons_succ]); (try simp only [List.set_cons_zero]); (try simp only [Nat.zero_add])
        refine take_on (i := 15) (d := 18) (v := .agg #[.slice b 8 d, .int .i64 pc.n, .bool pc.i, .int .i64 pc.b, .int .i64 pc.t, .int .i64 pc.p, .int .i64 pc.s, .slice b1 24 d1, .slice b2 24 d2, .int .i64 t, .slice (some ⟨g, 0, none⟩) en cp, .int .i64 nx.n, .bool nx.i, .int .i64 nx.b, .int .i64 nx.t, .int .i64 nx.p, .int .i64 nx.s, .bool st, .slice (some ⟨j, 0, none⟩) 48 dj]) rfl rfl (by kernel_rfl) (by kernel_rfl) (by kernel_rfl) (fun _ _ _ h => h) (by rfl) ?_ hHeld ?_
        · (intro w' hSw; go_simp)
        (try simp only [Act.put]); (try simp only [List.setIfInBounds_toArray]); (try simp only [List.set_cons_succ]); (try simp only [List.set_cons_zero]); (try simp only [List.set_cons_succ]); (try simp only [List.set_cons_zero]); (try simp only [Nat.zero_add])
        obtain ⟨vs, hvl, CZ⟩ := J5.out.len (.tail _ (.tail _ (.tail _ (.head _))))
        have TH := hid_mk (by have h := CZ.there; rw [hvl] at h; exact h)
        have CE := hid_mk (CZ.sets (us := (col (⟨8, pc, 24, 24, t, en, nx, st, 48⟩ : Cv) (⟨b, d, b1, d1, b2, d2, some ⟨g, 0, none⟩, cp, some ⟨j, 0, none⟩, dj⟩ : Ca))) (by rw [hvl]; rfl))
        have HR := hid_mk (J5.out.roomE (.tail _ (.head _)))
        have HA := hid_mk (J5.out.ansS (.tail _ (.tail _ (.head _))))
        have HN : Hid ((intF j 48 r.J).p v5) := J5.out.at (f := intF j 48 r.J) (.head _)
        have HB := hid_mk J5.out.bel
        clear CZ
        have FR : Hid (∀ k, On b k ∨ On b1 k ∨ On b2 k → w.heap.size + 1 < k ∧ k ≠ g ∧ k ≠ j) := fun k hk => by have h1 := lS.out k hk; have h2 := uS.out k hk; omega
        have GJ : w.heap.size + 1 < g ∧ w.heap.size + 1 < j ∧ g ≠ j := by omega
        refine wpAnyH_ready (rs := [16]) (by kernel_rfl) (by simp) ?_
        refine AllReadyH.cons rfl (fun K hK => ?_) AllReadyH.nil
        refine step_stm (by rfl) 64 _ _ (by rfl) (w.heap.size + 1) 0 (col (⟨8, pc, 24, 24, t, en, nx, st, 48⟩ : Cv) (⟨b, d, b1, d1, b2, d2, some ⟨g, 0, none⟩, cp, some ⟨j, 0, none⟩, dj⟩ : Ca)).toArray (by rfl) (by rfl) TH.out sizeCor (col_one _ _) ?_
        refine hK.out _ _ (RZ.out (col (⟨8, pc, 24, 24, t, en, nx, st, 48⟩ : Cv) (⟨b, d, b1, d1, b2, d2, some ⟨g, 0, none⟩, cp, some ⟨j, 0, none⟩, dj⟩ : Ca)) _ rfl (J5.out.sub (gs := [lenF (w.heap.size + 1) 19, celF w.heap.size (col (⟨8, pc, 24, 24, t, en, nx, st, 48⟩ : Cv) (⟨ra, rc, wa, wc, ga, gc, some ⟨q, 0, none⟩, ec, some ⟨y, 0, none⟩, jc⟩ : Ca)), argCF w.heap.size (⟨8, pc, 24, 24, t, en, nx, st, 48⟩ : Cv) (⟨ra, rc, wa, wc, ga, gc, some ⟨q, 0, none⟩, ec, some ⟨y, 0, none⟩, jc⟩ : Ca) r]) (fun f hf => by simp only [List.mem_cons, List.not_mem_nil, or_false] at hf ⊢; rcases hf with rfl | rfl | rfl; exact .inr (.inr (.inr (.inl rfl))); exact .inr (.inr (.inr (.inr (.inl rfl)))); exact .inr (.inr (.inr (.inr (.inr rfl))))))) (fun hHeld => ?_)
        clear hK K
        refine wpAnyH_done (by kernel_rfl) ?_ _
        have K9 := hid_mk (KeepBut.setCells (b := w.heap.size + 1) (col (⟨8, pc, 24, 24, t, en, nx, st, 48⟩ : Cv) (⟨b, d, b1, d1, b2, d2, some ⟨g, 0, none⟩, cp, some ⟨j, 0, none⟩, dj⟩ : Ca)) 0 v5)
        have hlv := hid_mk (lv_cor CE.out.range)
        clear J5 hHeld RZ TH CE lS uS D0
        generalize v5.setCells (w.heap.size + 1) 0 (col (⟨8, pc, 24, 24, t, en, nx, st, 48⟩ : Cv) (⟨b, d, b1, d1, b2, d2, some ⟨g, 0, none⟩, cp, some ⟨j, 0, none⟩, dj⟩ : Ca)) = w9 at K9 hlv ⊢
        have G0 := hid_mk GJ
        clear GJ
        have AN : Hid (AnsS b b1 b2 8 24 24 r.R r.L r.G w9) := (ansSF b b1 b2 8 24 24 r.R r.L r.G).keep _ _ HA.out K9.out.size fun k hk ho => K9.out.block k hk (by have := FR.out k ho; omega)
        have RN : Hid (RoomE w9 g en cp r.E) := HR.out.ofBlock (K9.out.block g HR.out.lt (by have := G0.out; omega))
        have NN : Hid ((intF j 48 r.J).p w9) := ⟨HN.out.1.ofBlock K9.out.size (K9.out.block j HN.out.1.lt (by have := G0.out; omega)), HN.out.2⟩
        have BB := hid_mk (HB.out.trans (K9.out.below (B := w.heap.size) (by omega) HB.out.size))
        have G1 : Hid (w.heap.size ≤ g ∧ w.heap.size ≤ j ∧ g ≠ j) := by have := G0.out; exact ⟨by omega, by omega, this.2.2⟩
        have F1 : Hid (∀ k, On b k ∨ On b1 k ∨ On b2 k → w.heap.size ≤ k ∧ k ≠ g ∧ k ≠ j) := fun k hk => by have := FR.out k hk; exact ⟨by omega, this.2⟩
        clear HR HA HN HB K9 FR G0
        go_wp2
        refine bodyPost_ret (v := .agg (col (⟨8, pc, 24, 24, t, en, nx, st, 48⟩ : Cv) (⟨b, d, b1, d1, b2, d2, some ⟨g, 0, none⟩, cp, some ⟨j, 0, none⟩, dj⟩ : Ca)).toArray) (results_cell1 Tryz.results58 (by first | rfl | (simp; done)) hlv.out) rfl (HQ.out _ _ _ _ _ _ _ _ _ _ _ ⟨AN.out, RN.out, NN.out, F1.out, G1.out.1, G1.out.2.1, G1.out.2.2, BB.out⟩)
      · go_simp
        have J3 := hid_mk ((J2.out.alloc (.cells #[] 3)).push (rmNF v2.heap.size 0 0 []) (rmN_new v2))
        have z3 : v2.heap.size < (v2.alloc (.cells #[] 3)).heap.size := by simp
        refine hK.out _ _ (J3.out.sub (gs := [lenF (w.heap.size + 1) 19, celF w.heap.size (col (⟨8, pc, 24, 24, t, en, nx, st, 48⟩ : Cv) (⟨ra, rc, wa, wc, ga, gc, some ⟨q, 0, none⟩, ec, some ⟨y, 0, none⟩, jc⟩ : Ca)), argCF w.heap.size (⟨8, pc, 24, 24, t, en, nx, st, 48⟩ : Cv) (⟨ra, rc, wa, wc, ga, gc, some ⟨q, 0, none⟩, ec, some ⟨y, 0, none⟩, jc⟩ : Ca) r]) (fun f hf => by simp only [List.mem_cons, List.not_mem_nil, or_false] at hf ⊢; rcases hf with rfl | rfl | rfl; exact .inr (.inr (.inr (.inl rfl))); exact .inr (.inr (.inr (.inr (.inl rfl)))); exact .inr (.inr (.inr (.inr (.inr rfl)))))) (fun hHeld => ?_)
        clear hK K
        (try simp only [Act.put]); (try simp only [List.setIfInBounds_toArray]); (try simp only [List.set_cons_succ]); (try simp only [List.set_cons_zero]); (try simp only [List.set_cons_succ]); (try simp only [List.set_cons_zero]); (try simp only [Nat.zero_add])
        obtain ⟨q4, hq4⟩ : ∃ r, r = v2.heap.size := ⟨_, rfl⟩
        rw [← hq4] at J3 z3 ⊢
        have yq4 : q4 ≤ v2.heap.size ∧ v2.heap.size ≤ q4 := by omega
        clear hq4
        generalize v2.alloc (.cells #[] 3) = v3 at J3 hHeld z3 ⊢
        refine wpAnyH_ready (rs := [6]) (by kernel_rfl) (by simp) ?_
        refine AllReadyH.cons rfl (fun K hK => ?_) AllReadyH.nil
        refine step_appEr (by rfl) _ _ (by rfl) q3 0 0 [] (by rfl) (J3.out.roomE (.tail _ (.tail _ (.head _)))) (some ⟨q, 0, none⟩) en ec r.E (by rfl) hlE.out (fun h => by cases h) (fun b9 hb9 => by cases hb9; exact (J3.out.argC (.tail _ (.tail _ (.tail _ (.tail _ (.tail _ (.head _))))))).es.flat enl_len (by decide)) en (Nat.zero_add en) (by omega) ?_
        intro g cp v4 hO hg hcp hk9
        replace hO : RoomE v4 g en cp r.E := by simpa using hO
        have z4 := hk9.size
        have hl6 := hO.lt
        have HL := hid_mk (J3.out.roomE (.tail _ (.tail _ (.head _)))).lt
        have hl3 := HL.out
        have J4 := hid_mk (((J3.out.sub (gs := [rmNF q4 0 0 [], ansSF b b1 b2 8 24 24 r.R r.L r.G, lenF (w.heap.size + 1) 19, celF w.heap.size (col (⟨8, pc, 24, 24, t, en, nx, st, 48⟩ : Cv) (⟨ra, rc, wa, wc, ga, gc, some ⟨q, 0, none⟩, ec, some ⟨y, 0, none⟩, jc⟩ : Ca)), argCF w.heap.size (⟨8, pc, 24, 24, t, en, nx, st, 48⟩ : Cv) (⟨ra, rc, wa, wc, ga, gc, some ⟨q, 0, none⟩, ec, some ⟨y, 0, none⟩, jc⟩ : Ca) r]) (fun f hf => by simp only [List.mem_cons, List.not_mem_nil, or_false] at hf ⊢; rcases hf with rfl | rfl | rfl | rfl | rfl; exact .inl rfl; exact .inr (.inl rfl); exact .inr (.inr (.inr (.inl rfl))); exact .inr (.inr (.inr (.inr (.inl rfl)))); exact .inr (.inr (.inr (.inr (.inr rfl)))))).wrote (T := fun k => k = q3) (KeptS.ofBut hk9 rfl) (fun k e => by omega)
          (fun f hf k hk e => by
            simp only [List.mem_cons, List.not_mem_nil, or_false] at hf
            rcases hf with rfl | rfl | rfl | rfl | rfl
            · simp only [rmNF] at hk; omega
            · have h1 := lS.out k hk; have h2 := uS.out k hk; omega
            · simp only [lenF] at hk; omega
            · simp only [celF] at hk; omega
            · simp only [argCF] at hk; omega
            )).push (roomEF g en cp r.E) hO)
        clear hk9 hO
        refine hK.out _ _ (J4.out.sub (gs := [lenF (w.heap.size + 1) 19, celF w.heap.size (col (⟨8, pc, 24, 24, t, en, nx, st, 48⟩ : Cv) (⟨ra, rc, wa, wc, ga, gc, some ⟨q, 0, none⟩, ec, some ⟨y, 0, none⟩, jc⟩ : Ca)), argCF w.heap.size (⟨8, pc, 24, 24, t, en, nx, st, 48⟩ : Cv) (⟨ra, rc, wa, wc, ga, gc, some ⟨q, 0, none⟩, ec, some ⟨y, 0, none⟩, jc⟩ : Ca) r]) (fun f hf => by simp only [List.mem_cons, List.not_mem_nil, or_false] at hf ⊢; rcases hf with rfl | rfl | rfl; exact .inr (.inr (.inr (.inl rfl))); exact .inr (.inr (.inr (.inr (.inl rfl)))); exact .inr (.inr (.inr (.inr (.inr rfl)))))) (fun hHeld => ?_)
        clear hK K
        (try simp only [Act.put]); (try simp only [List.setIfInBounds_toArray]); (try simp only [List.set_cons_succ]); (try simp only [List.set_cons_zero]); (try simp only [List.set_cons_succ]); (try simp only [List.set_cons_zero]); (try simp only [Nat.zero_add])
        refine wpAnyH_ready (rs := [14]) (by kernel_rfl) (by simp) ?_
        refine AllReadyH.cons rfl (fun K hK => ?_) AllReadyH.nil
        refine step_appNd (by rfl) _ _ (by rfl) 0 q4 0 0 [] (by rfl) rfl (J4.out.rmN (.tail _ (.head _))).own (some ⟨y, 0, none⟩) 48 jc r.J (by rfl) hlJ.out (fun h => by cases h) (fun b9 hb9 => by cases hb9; exact (J4.out.argC (.tail _ (.tail _ (.tail _ (.tail _ (.tail _ (.head _))))))).js.flat) 48 rfl (by omega) (Nat.zero_le _) ?_
        intro j dj v5 _ hO _ hg4 hk9
        have hO2 : (intF j 48 r.J).p v5 := ⟨by simpa using hO, hlJ.out⟩
        have z5 := hk9.size
        have hl4 := (J4.out.rmN (.tail _ (.head _))).lt
        have hl5 := (J4.out.roomE (.head _)).lt
        have J5 := hid_mk (((J4.out.sub (gs := [roomEF g en cp r.E, ansSF b b1 b2 8 24 24 r.R r.L r.G, lenF (w.heap.size + 1) 19, celF w.heap.size (col (⟨8, pc, 24, 24, t, en, nx, st, 48⟩ : Cv) (⟨ra, rc, wa, wc, ga, gc, some ⟨q, 0, none⟩, ec, some ⟨y, 0, none⟩, jc⟩ : Ca)), argCF w.heap.size (⟨8, pc, 24, 24, t, en, nx, st, 48⟩ : Cv) (⟨ra, rc, wa, wc, ga, gc, some ⟨q, 0, none⟩, ec, some ⟨y, 0, none⟩, jc⟩ : Ca) r]) (fun f hf => by simp only [List.mem_cons, List.not_mem_nil, or_false] at hf ⊢; rcases hf with rfl | rfl | rfl | rfl | rfl; exact .inl rfl; exact .inr (.inr (.inl rfl)); exact .inr (.inr (.inr (.inl rfl))); exact .inr (.inr (.inr (.inr (.inl rfl)))); exact .inr (.inr (.inr (.inr (.inr rfl)))))).wrote (T := fun k => k = q4) (KeptS.ofBut hk9 rfl) (fun k e => by omega)
          (fun f hf k hk e => by
            simp only [List.mem_cons, List.not_mem_nil, or_false] at hf
            rcases hf with rfl | rfl | rfl | rfl | rfl
            · simp only [roomEF] at hk; omega
            · have h1 := lS.out k hk; have h2 := uS.out k hk; omega
            · simp only [lenF] at hk; omega
            · simp only [celF] at hk; omega
            · simp only [argCF] at hk; omega
            )).push (intF j 48 r.J) hO2)
        clear hk9 hO hO2
        refine hK.out _ _ (J5.out.sub (gs := [lenF (w.heap.size + 1) 19, celF w.heap.size (col (⟨8, pc, 24, 24, t, en, nx, st, 48⟩ : Cv) (⟨ra, rc, wa, wc, ga, gc, some ⟨q, 0, none⟩, ec, some ⟨y, 0, none⟩, jc⟩ : Ca)), argCF w.heap.size (⟨8, pc, 24, 24, t, en, nx, st, 48⟩ : Cv) (⟨ra, rc, wa, wc, ga, gc, some ⟨q, 0, none⟩, ec, some ⟨y, 0, none⟩, jc⟩ : Ca) r]) (fun f hf => by simp only [List.mem_cons, List.not_mem_nil, or_false] at hf ⊢; rcases hf with rfl | rfl | rfl; exact .inr (.inr (.inr (.inl rfl))); exact .inr (.inr (.inr (.inr (.inl rfl)))); exact .inr (.inr (.inr (.inr (.inr rfl)))))) (fun hHeld => ?_)
        clear hK K
        (try simp only [Act.put]); (try simp only [List.setIfInBounds_toArray]); (try simp only [List.set_cons_succ]); (try simp only [List.set_cons_zero]); (try simp only [List.set_cons_succ]); (try simp only [List.set_cons_zero]); (try simp only [Nat.zero_add])
        refine take_on (i := 15) (d := 18) (v := .agg #[.slice b 8 d, .int .i64 pc.n, .bool pc.i, .int .i64 pc.b, .int .i64 pc.t, .int .i64 pc.p, .int .i64 pc.s, .slice b1 24 d1, .slice b2 24 d2, .int .i64 t, .slice (some ⟨g, 0, none⟩) en cp, .int .i64 nx.n, .bool nx.i, .int .i64 nx.b, .int .i64 nx.t, .int .i64 nx.p, .int .i64 nx.s, .bool st, .slice (some ⟨j, 0, none⟩) 48 dj]) rfl rfl (by kernel_rfl) (by kernel_rfl) (by kernel_rfl) (fun _ _ _ h => h) (by rfl) ?_ hHeld ?_
        · (intro w' hSw; go_simp)
        (try simp only [Act.put]); (try simp only [List.setIfInBounds_toArray]); (try simp only [List.set_cons_succ]); (try simp only [List.set_cons_zero]); (try simp only [List.set_cons_succ]); (try simp only [List.set_cons_zero]); (try simp only [Nat.zero_add])
        obtain ⟨vs, hvl, CZ⟩ := J5.out.len (.tail _ (.tail _ (.tail _ (.head _))))
        have TH := hid_mk (by have h := CZ.there; rw [hvl] at h; exact h)
        have CE := hid_mk (CZ.sets (us := (col (⟨8, pc, 24, 24, t, en, nx, st, 48⟩ : Cv) (⟨b, d, b1, d1, b2, d2, some ⟨g, 0, none⟩, cp, some ⟨j, 0, none⟩, dj⟩ : Ca))) (by rw [hvl]; rfl))
        have HR := hid_mk (J5.out.roomE (.tail _ (.head _)))
        have HA := hid_mk (J5.out.ansS (.tail _ (.tail _ (.head _))))
        have HN : Hid ((intF j 48 r.J).p v5) := J5.out.at (f := intF j 48 r.J) (.head _)
        have HB := hid_mk J5.out.bel
        clear CZ
        have FR : Hid (∀ k, On b k ∨ On b1 k ∨ On b2 k → w.heap.size + 1 < k ∧ k ≠ g ∧ k ≠ j) := fun k hk => by have h1 := lS.out k hk; have h2 := uS.out k hk; omega
        have GJ : w.heap.size + 1 < g ∧ w.heap.size + 1 < j ∧ g ≠ j := by omega
        refine wpAnyH_ready (rs := [16]) (by kernel_rfl) (by simp) ?_
        refine AllReadyH.cons rfl (fun K hK => ?_) AllReadyH.nil
        refine step_stm (by rfl) 64 _ _ (by rfl) (w.heap.size + 1) 0 (col (⟨8, pc, 24, 24, t, en, nx, st, 48⟩ : Cv) (⟨b, d, b1, d1, b2, d2, some ⟨g, 0, none⟩, cp, some ⟨j, 0, none⟩, dj⟩ : Ca)).toArray (by rfl) (by rfl) TH.out sizeCor (col_one _ _) ?_
        refine hK.out _ _ (RZ.out (col (⟨8, pc, 24, 24, t, en, nx, st, 48⟩ : Cv) (⟨b, d, b1, d1, b2, d2, some ⟨g, 0, none⟩, cp, some ⟨j, 0, none⟩, dj⟩ : Ca)) _ rfl (J5.out.sub (gs := [lenF (w.heap.size + 1) 19, celF w.heap.size (col (⟨8, pc, 24, 24, t, en, nx, st, 48⟩ : Cv) (⟨ra, rc, wa, wc, ga, gc, some ⟨q, 0, none⟩, ec, some ⟨y, 0, none⟩, jc⟩ : Ca)), argCF w.heap.size (⟨8, pc, 24, 24, t, en, nx, st, 48⟩ : Cv) (⟨ra, rc, wa, wc, ga, gc, some ⟨q, 0, none⟩, ec, some ⟨y, 0, none⟩, jc⟩ : Ca) r]) (fun f hf => by simp only [List.mem_cons, List.not_mem_nil, or_false] at hf ⊢; rcases hf with rfl | rfl | rfl; exact .inr (.inr (.inr (.inl rfl))); exact .inr (.inr (.inr (.inr (.inl rfl)))); exact .inr (.inr (.inr (.inr (.inr rfl))))))) (fun hHeld => ?_)
        clear hK K
        refine wpAnyH_done (by kernel_rfl) ?_ _
        have K9 := hid_mk (KeepBut.setCells (b := w.heap.size + 1) (col (⟨8, pc, 24, 24, t, en, nx, st, 48⟩ : Cv) (⟨b, d, b1, d1, b2, d2, some ⟨g, 0, none⟩, cp, some ⟨j, 0, none⟩, dj⟩ : Ca)) 0 v5)
        have hlv := hid_mk (lv_cor CE.out.range)
        clear J5 hHeld RZ TH CE lS uS D0
        generalize v5.setCells (w.heap.size + 1) 0 (col (⟨8, pc, 24, 24, t, en, nx, st, 48⟩ : Cv) (⟨b, d, b1, d1, b2, d2, some ⟨g, 0, none⟩, cp, some ⟨j, 0, none⟩, dj⟩ : Ca)) = w9 at K9 hlv ⊢
        have G0 := hid_mk GJ
        clear GJ
        have AN : Hid (AnsS b b1 b2 8 24 24 r.R r.L r.G w9) := (ansSF b b1 b2 8 24 24 r.R r.L r.G).keep _ _ HA.out K9.out.size fun k hk ho => K9.out.block k hk (by have := FR.out k ho; omega)
        have RN : Hid (RoomE w9 g en cp r.E) := HR.out.ofBlock (K9.out.block g HR.out.lt (by have := G0.out; omega))
        have NN : Hid ((intF j 48 r.J).p w9) := ⟨HN.out.1.ofBlock K9.out.size (K9.out.block j HN.out.1.lt (by have := G0.out; omega)), HN.out.2⟩
        have BB := hid_mk (HB.out.trans (K9.out.below (B := w.heap.size) (by omega) HB.out.size))
        have G1 : Hid (w.heap.size ≤ g ∧ w.heap.size ≤ j ∧ g ≠ j) := by have := G0.out; exact ⟨by omega, by omega, this.2.2⟩
        have F1 : Hid (∀ k, On b k ∨ On b1 k ∨ On b2 k → w.heap.size ≤ k ∧ k ≠ g ∧ k ≠ j) := fun k hk => by have := FR.out k hk; exact ⟨by omega, this.2⟩
        clear HR HA HN HB K9 FR G0
        go_wp2
        refine bodyPost_ret (v := .agg (col (⟨8, pc, 24, 24, t, en, nx, st, 48⟩ : Cv) (⟨b, d, b1, d1, b2, d2, some ⟨g, 0, none⟩, cp, some ⟨j, 0, none⟩, dj⟩ : Ca)).toArray) (results_cell1 Tryz.results58 (by first | rfl | (simp; done)) hlv.out) rfl (HQ.out _ _ _ _ _ _ _ _ _ _ _ ⟨AN.out, RN.out, NN.out, F1.out, G1.out.1, G1.out.2.1, G1.out.2.2, BB.out⟩)
    · go_simp
      have J2 := hid_mk ((J1.out.alloc (.cells #[] 3)).push (rmNF v1.heap.size 0 0 []) (rmN_new v1))
      have z2 : v1.heap.size < (v1.alloc (.cells #[] 3)).heap.size := by simp
      refine hK.out _ _ (J2.out.sub (gs := [lenF (w.heap.size + 1) 19, celF w.heap.size (col (⟨8, pc, 24, 24, t, en, nx, st, 48⟩ : Cv) (⟨ra, rc, wa, wc, ga, gc, some ⟨q, 0, none⟩, ec, some ⟨y, 0, none⟩, jc⟩ : Ca)), argCF w.heap.size (⟨8, pc, 24, 24, t, en, nx, st, 48⟩ : Cv) (⟨ra, rc, wa, wc, ga, gc, some ⟨q, 0, none⟩, ec, some ⟨y, 0, none⟩, jc⟩ : Ca) r]) (fun f hf => by simp only [List.mem_cons, List.not_mem_nil, or_false] at hf ⊢; rcases hf with rfl | rfl | rfl; exact .inr (.inr (.inl rfl)); exact .inr (.inr (.inr (.inl rfl))); exact .inr (.inr (.inr (.inr rfl))))) (fun hHeld => ?_)
      clear hK K
      (try simp only [Act.put]); (try simp only [List.setIfInBounds_toArray]); (try simp only [List.set_cons_succ]); (try simp only [List.set_cons_zero]); (try simp only [List.set_cons_succ]); (try simp only [List.set_cons_zero]); (try simp only [Nat.zero_add])
      obtain ⟨q4, hq4⟩ : ∃ r, r = v1.heap.size := ⟨_, rfl⟩
      rw [← hq4] at J2 z2 ⊢
      have yq4 : q4 ≤ v1.heap.size ∧ v1.heap.size ≤ q4 := by omega
      clear hq4
      generalize v1.alloc (.cells #[] 3) = v2 at J2 hHeld z2 ⊢
      refine wpAnyH_ready (rs := [2]) (by kernel_rfl) (by simp) ?_
      refine AllReadyH.cons rfl (fun K hK => ?_) AllReadyH.nil
      go_simp
      refine (l9Copy_any ra rc pc wa wc ga gc t r.R r.L r.G _ (J2.out.argC (.tail _ (.tail _ (.tail _ (.tail _ (.head _)))))).st).mono ?_
      rintro e v3 ⟨b, d, b1, d1, b2, d2, rfl, hd1, hA, hf, hb⟩
      have lS := hid_mk hf
      have uS := hid_mk (fun k hk => hA.lt (k := k) hk)
      have z3 := hb.size
      have J3 := hid_mk ((J2.out.next hb).push (ansSF b b1 b2 8 24 24 r.R r.L r.G) hA)
      clear hb hA hf hd1
      refine hK.out _ _ (J3.out.sub (gs := [lenF (w.heap.size + 1) 19, celF w.heap.size (col (⟨8, pc, 24, 24, t, en, nx, st, 48⟩ : Cv) (⟨ra, rc, wa, wc, ga, gc, some ⟨q, 0, none⟩, ec, some ⟨y, 0, none⟩, jc⟩ : Ca)), argCF w.heap.size (⟨8, pc, 24, 24, t, en, nx, st, 48⟩ : Cv) (⟨ra, rc, wa, wc, ga, gc, some ⟨q, 0, none⟩, ec, some ⟨y, 0, none⟩, jc⟩ : Ca) r]) (fun f hf => by simp only [List.mem_cons, List.not_mem_nil, or_false] at hf ⊢; rcases hf with rfl | rfl | rfl; exact .inr (.inr (.inr (.inl rfl))); exact .inr (.inr (.inr (.inr (.inl rfl)))); exact .inr (.inr (.inr (.inr (.inr rfl)))))) (fun hHeld => ?_)
      clear hK K
      (try simp only [Act.put]); (try simp only [List.setIfInBounds_toArray]); (try simp only [List.set_cons_succ]); (try simp only [List.set_cons_zero]); (try simp only [List.set_cons_succ]); (try simp only [List.set_cons_zero]); (try simp only [Nat.zero_add])
      refine wpAnyH_ready (rs := [6]) (by kernel_rfl) (by simp) ?_
      refine AllReadyH.cons rfl (fun K hK => ?_) AllReadyH.nil
      refine step_appEr (by rfl) _ _ (by rfl) q3 0 0 [] (by rfl) (J3.out.roomE (.tail _ (.tail _ (.head _)))) (some ⟨q, 0, none⟩) en ec r.E (by rfl) hlE.out (fun h => by cases h) (fun b9 hb9 => by cases hb9; exact (J3.out.argC (.tail _ (.tail _ (.tail _ (.tail _ (.tail _ (.head _))))))).es.flat enl_len (by decide)) en (Nat.zero_add en) (by omega) ?_
      intro g cp v4 hO hg hcp hk9
      replace hO : RoomE v4 g en cp r.E := by simpa using hO
      have z4 := hk9.size
      have hl6 := hO.lt
      have HL := hid_mk (J3.out.roomE (.tail _ (.tail _ (.head _)))).lt
      have hl3 := HL.out
      have J4 := hid_mk (((J3.out.sub (gs := [ansSF b b1 b2 8 24 24 r.R r.L r.G, rmNF q4 0 0 [], lenF (w.heap.size + 1) 19, celF w.heap.size (col (⟨8, pc, 24, 24, t, en, nx, st, 48⟩ : Cv) (⟨ra, rc, wa, wc, ga, gc, some ⟨q, 0, none⟩, ec, some ⟨y, 0, none⟩, jc⟩ : Ca)), argCF w.heap.size (⟨8, pc, 24, 24, t, en, nx, st, 48⟩ : Cv) (⟨ra, rc, wa, wc, ga, gc, some ⟨q, 0, none⟩, ec, some ⟨y, 0, none⟩, jc⟩ : Ca) r]) (fun f hf => by simp only [List.mem_cons, List.not_mem_nil, or_false] at hf ⊢; rcases hf with rfl | rfl | rfl | rfl | rfl; exact .inl rfl; exact .inr (.inl rfl); exact .inr (.inr (.inr (.inl rfl))); exact .inr (.inr (.inr (.inr (.inl rfl)))); exact .inr (.inr (.inr (.inr (.inr rfl)))))).wrote (T := fun k => k = q3) (KeptS.ofBut hk9 rfl) (fun k e => by omega)
        (fun f hf k hk e => by
          simp only [List.mem_cons, List.not_mem_nil, or_false] at hf
          rcases hf with rfl | rfl | rfl | rfl | rfl
          · have h1 := lS.out k hk; have h2 := uS.out k hk; omega
          · simp only [rmNF] at hk; omega
          · simp only [lenF] at hk; omega
          · simp only [celF] at hk; omega
          · simp only [argCF] at hk; omega
          )).push (roomEF g en cp r.E) hO)
      clear hk9 hO
      refine hK.out _ _ (J4.out.sub (gs := [lenF (w.heap.size + 1) 19, celF w.heap.size (col (⟨8, pc, 24, 24, t, en, nx, st, 48⟩ : Cv) (⟨ra, rc, wa, wc, ga, gc, some ⟨q, 0, none⟩, ec, some ⟨y, 0, none⟩, jc⟩ : Ca)), argCF w.heap.size (⟨8, pc, 24, 24, t, en, nx, st, 48⟩ : Cv) (⟨ra, rc, wa, wc, ga, gc, some ⟨q, 0, none⟩, ec, some ⟨y, 0, none⟩, jc⟩ : Ca) r]) (fun f hf => by simp only [List.mem_cons, List.not_mem_nil, or_false] at hf ⊢; rcases hf with rfl | rfl | rfl; exact .inr (.inr (.inr (.inl rfl))); exact .inr (.inr (.inr (.inr (.inl rfl)))); exact .inr (.inr (.inr (.inr (.inr rfl)))))) (fun hHeld => ?_)
      clear hK K
      (try simp only [Act.put]); (try simp only [List.setIfInBounds_toArray]); (try simp only [List.set_cons_succ]); (try simp only [List.set_cons_zero]); (try simp only [List.set_cons_succ]); (try simp only [List.set_cons_zero]); (try simp only [Nat.zero_add])
      refine wpAnyH_ready (rs := [14]) (by kernel_rfl) (by simp) ?_
      refine AllReadyH.cons rfl (fun K hK => ?_) AllReadyH.nil
      refine step_appNd (by rfl) _ _ (by rfl) 0 q4 0 0 [] (by rfl) rfl (J4.out.rmN (.tail _ (.tail _ (.head _)))).own (some ⟨y, 0, none⟩) 48 jc r.J (by rfl) hlJ.out (fun h => by cases h) (fun b9 hb9 => by cases hb9; exact (J4.out.argC (.tail _ (.tail _ (.tail _ (.tail _ (.tail _ (.head _))))))).js.flat) 48 rfl (by omega) (Nat.zero_le _) ?_
      intro j dj v5 _ hO _ hg4 hk9
      have hO2 : (intF j 48 r.J).p v5 := ⟨by simpa using hO, hlJ.out⟩
      have z5 := hk9.size
      have hl4 := (J4.out.rmN (.tail _ (.tail _ (.head _)))).lt
      have hl5 := (J4.out.roomE (.head _)).lt
      have J5 := hid_mk (((J4.out.sub (gs := [roomEF g en cp r.E, ansSF b b1 b2 8 24 24 r.R r.L r.G, lenF (w.heap.size + 1) 19, celF w.heap.size (col (⟨8, pc, 24, 24, t, en, nx, st, 48⟩ : Cv) (⟨ra, rc, wa, wc, ga, gc, some ⟨q, 0, none⟩, ec, some ⟨y, 0, none⟩, jc⟩ : Ca)), argCF w.heap.size (⟨8, pc, 24, 24, t, en, nx, st, 48⟩ : Cv) (⟨ra, rc, wa, wc, ga, gc, some ⟨q, 0, none⟩, ec, some ⟨y, 0, none⟩, jc⟩ : Ca) r]) (fun f hf => by simp only [List.mem_cons, List.not_mem_nil, or_false] at hf ⊢; rcases hf with rfl | rfl | rfl | rfl | rfl; exact .inl rfl; exact .inr (.inl rfl); exact .inr (.inr (.inr (.inl rfl))); exact .inr (.inr (.inr (.inr (.inl rfl)))); exact .inr (.inr (.inr (.inr (.inr rfl)))))).wrote (T := fun k => k = q4) (KeptS.ofBut hk9 rfl) (fun k e => by omega)
        (fun f hf k hk e => by
          simp only [List.mem_cons, List.not_mem_nil, or_false] at hf
          rcases hf with rfl | rfl | rfl | rfl | rfl
          · simp only [roomEF] at hk; omega
          · have h1 := lS.out k hk; have h2 := uS.out k hk; omega
          · simp only [lenF] at hk; omega
          · simp only [celF] at hk; omega
          · simp only [argCF] at hk; omega
          )).push (intF j 48 r.J) hO2)
      clear hk9 hO hO2
      refine hK.out _ _ (J5.out.sub (gs := [lenF (w.heap.size + 1) 19, celF w.heap.size (col (⟨8, pc, 24, 24, t, en, nx, st, 48⟩ : Cv) (⟨ra, rc, wa, wc, ga, gc, some ⟨q, 0, none⟩, ec, some ⟨y, 0, none⟩, jc⟩ : Ca)), argCF w.heap.size (⟨8, pc, 24, 24, t, en, nx, st, 48⟩ : Cv) (⟨ra, rc, wa, wc, ga, gc, some ⟨q, 0, none⟩, ec, some ⟨y, 0, none⟩, jc⟩ : Ca) r]) (fun f hf => by simp only [List.mem_cons, List.not_mem_nil, or_false] at hf ⊢; rcases hf with rfl | rfl | rfl; exact .inr (.inr (.inr (.inl rfl))); exact .inr (.inr (.inr (.inr (.inl rfl)))); exact .inr (.inr (.inr (.inr (.inr rfl)))))) (fun hHeld => ?_)
      clear hK K
      (try simp only [Act.put]); (try simp only [List.setIfInBounds_toArray]); (try simp only [List.set_cons_succ]); (try simp only [List.set_cons_zero]); (try simp only [List.set_cons_succ]); (try simp only [List.set_cons_zero]); (try simp only [Nat.zero_add])
      refine take_on (i := 15) (d := 18) (v := .agg #[.slice b 8 d, .int .i64 pc.n, .bool pc.i, .int .i64 pc.b, .int .i64 pc.t, .int .i64 pc.p, .int .i64 pc.s, .slice b1 24 d1, .slice b2 24 d2, .int .i64 t, .slice (some ⟨g, 0, none⟩) en cp, .int .i64 nx.n, .bool nx.i, .int .i64 nx.b, .int .i64 nx.t, .int .i64 nx.p, .int .i64 nx.s, .bool st, .slice (some ⟨j, 0, none⟩) 48 dj]) rfl rfl (by kernel_rfl) (by kernel_rfl) (by kernel_rfl) (fun _ _ _ h => h) (by rfl) ?_ hHeld ?_
      · (intro w' hSw; go_simp)
      (try simp only [Act.put]); (try simp only [List.setIfInBounds_toArray]); (try simp only [List.set_cons_succ]); (try simp only [List.set_cons_zero]); (try simp only [List.set_cons_succ]); (try simp only [List.set_cons_zero]); (try simp only [Nat.zero_add])
      obtain ⟨vs, hvl, CZ⟩ := J5.out.len (.tail _ (.tail _ (.tail _ (.head _))))
      have TH := hid_mk (by have h := CZ.there; rw [hvl] at h; exact h)
      have CE := hid_mk (CZ.sets (us := (col (⟨8, pc, 24, 24, t, en, nx, st, 48⟩ : Cv) (⟨b, d, b1, d1, b2, d2, some ⟨g, 0, none⟩, cp, some ⟨j, 0, none⟩, dj⟩ : Ca))) (by rw [hvl]; rfl))
      have HR := hid_mk (J5.out.roomE (.tail _ (.head _)))
      have HA := hid_mk (J5.out.ansS (.tail _ (.tail _ (.head _))))
      have HN : Hid ((intF j 48 r.J).p v5) := J5.out.at (f := intF j 48 r.J) (.head _)
      have HB := hid_mk J5.out.bel
      clear CZ
      have FR : Hid (∀ k, On b k ∨ On b1 k ∨ On b2 k → w.heap.size + 1 < k ∧ k ≠ g ∧ k ≠ j) := fun k hk => by have h1 := lS.out k hk; have h2 := uS.out k hk; omega
      have GJ : w.heap.size + 1 < g ∧ w.heap.size + 1 < j ∧ g ≠ j := by omega
      refine wpAnyH_ready (rs := [16]) (by kernel_rfl) (by simp) ?_
      refine AllReadyH.cons rfl (fun K hK => ?_) AllReadyH.nil
      refine step_stm (by rfl) 64 _ _ (by rfl) (w.heap.size + 1) 0 (col (⟨8, pc, 24, 24, t, en, nx, st, 48⟩ : Cv) (⟨b, d, b1, d1, b2, d2, some ⟨g, 0, none⟩, cp, some ⟨j, 0, none⟩, dj⟩ : Ca)).toArray (by rfl) (by rfl) TH.out sizeCor (col_one _ _) ?_
      refine hK.out _ _ (RZ.out (col (⟨8, pc, 24, 24, t, en, nx, st, 48⟩ : Cv) (⟨b, d, b1, d1, b2, d2, some ⟨g, 0, none⟩, cp, some ⟨j, 0, none⟩, dj⟩ : Ca)) _ rfl (J5.out.sub (gs := [lenF (w.heap.size + 1) 19, celF w.heap.size (col (⟨8, pc, 24, 24, t, en, nx, st, 48⟩ : Cv) (⟨ra, rc, wa, wc, ga, gc, some ⟨q, 0, none⟩, ec, some ⟨y, 0, none⟩, jc⟩ : Ca)), argCF w.heap.size (⟨8, pc, 24, 24, t, en, nx, st, 48⟩ : Cv) (⟨ra, rc, wa, wc, ga, gc, some ⟨q, 0, none⟩, ec, some ⟨y, 0, none⟩, jc⟩ : Ca) r]) (fun f hf => by simp only [List.mem_cons, List.not_mem_nil, or_false] at hf ⊢; rcases hf with rfl | rfl | rfl; exact .inr (.inr (.inr (.inl rfl))); exact .inr (.inr (.inr (.inr (.inl rfl)))); exact .inr (.inr (.inr (.inr (.inr rfl))))))) (fun hHeld => ?_)
      clear hK K
      refine wpAnyH_done (by kernel_rfl) ?_ _
      have K9 := hid_mk (KeepBut.setCells (b := w.heap.size + 1) (col (⟨8, pc, 24, 24, t, en, nx, st, 48⟩ : Cv) (⟨b, d, b1, d1, b2, d2, some ⟨g, 0, none⟩, cp, some ⟨j, 0, none⟩, dj⟩ : Ca)) 0 v5)
      have hlv := hid_mk (lv_cor CE.out.range)
      clear J5 hHeld RZ TH CE lS uS D0
      generalize v5.setCells (w.heap.size + 1) 0 (col (⟨8, pc, 24, 24, t, en, nx, st, 48⟩ : Cv) (⟨b, d, b1, d1, b2, d2, some ⟨g, 0, none⟩, cp, some ⟨j, 0, none⟩, dj⟩ : Ca)) = w9 at K9 hlv ⊢
      have G0 := hid_mk GJ
      clear GJ
      have AN : Hid (AnsS b b1 b2 8 24 24 r.R r.L r.G w9) := (ansSF b b1 b2 8 24 24 r.R r.L r.G).keep _ _ HA.out K9.out.size fun k hk ho => K9.out.block k hk (by have := FR.out k ho; omega)
      have RN : Hid (RoomE w9 g en cp r.E) := HR.out.ofBlock (K9.out.block g HR.out.lt (by have := G0.out; omega))
      have NN : Hid ((intF j 48 r.J).p w9) := ⟨HN.out.1.ofBlock K9.out.size (K9.out.block j HN.out.1.lt (by have := G0.out; omega)), HN.out.2⟩
      have BB := hid_mk (HB.out.trans (K9.out.below (B := w.heap.size) (by omega) HB.out.size))
      have G1 : Hid (w.heap.size ≤ g ∧ w.heap.size ≤ j ∧ g ≠ j) := by have := G0.out; exact ⟨by omega, by omega, this.2.2⟩
      have F1 : Hid (∀ k, On b k ∨ On b1 k ∨ On b2 k → w.heap.size ≤ k ∧ k ≠ g ∧ k ≠ j) := fun k hk => by have := FR.out k hk; exact ⟨by omega, this.2⟩
      clear HR HA HN HB K9 FR G0
      go_wp2
      refine bodyPost_ret (v := .agg (col (⟨8, pc, 24, 24, t, en, nx, st, 48⟩ : Cv) (⟨b, d, b1, d1, b2, d2, some ⟨g, 0, none⟩, cp, some ⟨j, 0, none⟩, dj⟩ : Ca)).toArray) (results_cell1 Tryz.results58 (by first | rfl | (simp; done)) hlv.out) rfl (HQ.out _ _ _ _ _ _ _ _ _ _ _ ⟨AN.out, RN.out, NN.out, F1.out, G1.out.1, G1.out.2.1, G1.out.2.2, BB.out⟩)
  · go_simp
    have J1 := hid_mk ((D0.out.alloc (.cells #[] 3)).push (rmNF wd.heap.size 0 0 []) (rmN_new wd))
    have z1 : wd.heap.size < (wd.alloc (.cells #[] 3)).heap.size := by simp
    refine hK.out _ _ (J1.out.sub (gs := [lenF (w.heap.size + 1) 19, celF w.heap.size (col (⟨8, pc, 24, 24, t, en, nx, st, 48⟩ : Cv) (⟨ra, rc, wa, wc, ga, gc, some ⟨q, 0, none⟩, ec, some ⟨y, 0, none⟩, jc⟩ : Ca)), argCF w.heap.size (⟨8, pc, 24, 24, t, en, nx, st, 48⟩ : Cv) (⟨ra, rc, wa, wc, ga, gc, some ⟨q, 0, none⟩, ec, some ⟨y, 0, none⟩, jc⟩ : Ca) r]) (fun f hf => by simp only [List.mem_cons, List.not_mem_nil, or_false] at hf ⊢; rcases hf with rfl | rfl | rfl; exact .inr (.inl rfl); exact .inr (.inr (.inl rfl)); exact .inr (.inr (.inr rfl)))) (fun hHeld => ?_)
    clear hK K
    (try simp only [Act.put]); (try simp only [List.setIfInBounds_toArray]); (try simp only [List.set_cons_succ]); (try simp only [List.set_cons_zero]); (try simp only [List.set_cons_succ]); (try simp only [List.set_cons_zero]); (try simp only [Nat.zero_add])
    obtain ⟨q4, hq4⟩ : ∃ r, r = wd.heap.size := ⟨_, rfl⟩
    rw [← hq4] at J1 z1 ⊢
    have yq4 : q4 ≤ wd.heap.size ∧ wd.heap.size ≤ q4 := by omega
    clear hq4
    generalize wd.alloc (.cells #[] 3) = v1 at J1 hHeld z1 ⊢
    refine wpAnyH_ready (rs := [2, 3]) (by kernel_rfl) (by simp) ?_
    refine AllReadyH.cons rfl (fun K hK => ?_) (AllReadyH.cons rfl (fun K hK => ?_) AllReadyH.nil)
    · go_simp
      refine (l9Copy_any ra rc pc wa wc ga gc t r.R r.L r.G _ (J1.out.argC (.tail _ (.tail _ (.tail _ (.head _))))).st).mono ?_
      rintro e v2 ⟨b, d, b1, d1, b2, d2, rfl, hd1, hA, hf, hb⟩
      have lS := hid_mk hf
      have uS := hid_mk (fun k hk => hA.lt (k := k) hk)
      have z2 := hb.size
      have J2 := hid_mk ((J1.out.next hb).push (ansSF b b1 b2 8 24 24 r.R r.L r.G) hA)
      clear hb hA hf hd1
      refine hK.out _ _ (J2.out.sub (gs := [lenF (w.heap.size + 1) 19, celF w.heap.size (col (⟨8, pc, 24, 24, t, en, nx, st, 48⟩ : Cv) (⟨ra, rc, wa, wc, ga, gc, some ⟨q, 0, none⟩, ec, some ⟨y, 0, none⟩, jc⟩ : Ca)), argCF w.heap.size (⟨8, pc, 24, 24, t, en, nx, st, 48⟩ : Cv) (⟨ra, rc, wa, wc, ga, gc, some ⟨q, 0, none⟩, ec, some ⟨y, 0, none⟩, jc⟩ : Ca) r]) (fun f hf => by simp only [List.mem_cons, List.not_mem_nil, or_false] at hf ⊢; rcases hf with rfl | rfl | rfl; exact .inr (.inr (.inl rfl)); exact .inr (.inr (.inr (.inl rfl))); exact .inr (.inr (.inr (.inr rfl))))) (fun hHeld => ?_)
      clear hK K
      (try simp only [Act.put]); (try simp only [List.setIfInBounds_toArray]); (try simp only [List.set_cons_succ]); (try simp only [List.set_cons_zero]); (try simp only [List.set_cons_succ]); (try simp only [List.set_cons_zero]); (try simp only [Nat.zero_add])
      refine wpAnyH_ready (rs := [3]) (by kernel_rfl) (by simp) ?_
      refine AllReadyH.cons rfl (fun K hK => ?_) AllReadyH.nil
      go_simp
      have J3 := hid_mk ((J2.out.alloc (.cells #[] 104)).push (roomEF v2.heap.size 0 0 []) (roomE_new v2))
      have z3 : v2.heap.size < (v2.alloc (.cells #[] 104)).heap.size := by simp
      refine hK.out _ _ (J3.out.sub (gs := [lenF (w.heap.size + 1) 19, celF w.heap.size (col (⟨8, pc, 24, 24, t, en, nx, st, 48⟩ : Cv) (⟨ra, rc, wa, wc, ga, gc, some ⟨q, 0, none⟩, ec, some ⟨y, 0, none⟩, jc⟩ : Ca)), argCF w.heap.size (⟨8, pc, 24, 24, t, en, nx, st, 48⟩ : Cv) (⟨ra, rc, wa, wc, ga, gc, some ⟨q, 0, none⟩, ec, some ⟨y, 0, none⟩, jc⟩ : Ca) r]) (fun f hf => by simp only [List.mem_cons, List.not_mem_nil, or_false] at hf ⊢; rcases hf with rfl | rfl | rfl; exact .inr (.inr (.inr (.inl rfl))); exact .inr (.inr (.inr (.inr (.inl rfl)))); exact .inr (.inr (.inr (.inr (.inr rfl)))))) (fun hHeld => ?_)
      clear hK K
      (try simp only [Act.put]); (try simp only [List.setIfInBounds_toArray]); (try simp only [List.set_cons_succ]); (try simp only [List.set_cons_zero]); (try simp only [List.set_cons_succ]); (try simp only [List.set_cons_zero]); (try simp only [Nat.zero_add])
      obtain ⟨q3, hq3⟩ : ∃ r, r = v2.heap.size := ⟨_, rfl⟩
      rw [← hq3] at J3 z3 ⊢
      have yq3 : q3 ≤ v2.heap.size ∧ v2.heap.size ≤ q3 := by omega
      clear hq3
      generalize v2.alloc (.cells #[] 104) = v3 at J3 hHeld z3 ⊢
      refine wpAnyH_ready (rs := [6]) (by kernel_rfl) (by simp) ?_
      refine AllReadyH.cons rfl (fun K hK => ?_) AllReadyH.nil
      refine step_appEr (by rfl) _ _ (by rfl) q3 0 0 [] (by rfl) (J3.out.roomE (.head _)) (some ⟨q, 0, none⟩) en ec r.E (by rfl) hlE.out (fun h => by cases h) (fun b9 hb9 => by cases hb9; exact (J3.out.argC (.tail _ (.tail _ (.tail _ (.tail _ (.tail _ (.head _))))))).es.flat enl_len (by decide)) en (Nat.zero_add en) (by omega) ?_
      intro g cp v4 hO hg hcp hk9
      replace hO : RoomE v4 g en cp r.E := by simpa using hO
      have z4 := hk9.size
      have hl6 := hO.lt
      have HL := hid_mk (J3.out.roomE (.head _)).lt
      have hl3 := HL.out
      have J4 := hid_mk (((J3.out.sub (gs := [ansSF b b1 b2 8 24 24 r.R r.L r.G, rmNF q4 0 0 [], lenF (w.heap.size + 1) 19, celF w.heap.size (col (⟨8, pc, 24, 24, t, en, nx, st, 48⟩ : Cv) (⟨ra, rc, wa, wc, ga, gc, some ⟨q, 0, none⟩, ec, some ⟨y, 0, none⟩, jc⟩ : Ca)), argCF w.heap.size (⟨8, pc, 24, 24, t, en, nx, st, 48⟩ : Cv) (⟨ra, rc, wa, wc, ga, gc, some ⟨q, 0, none⟩, ec, some ⟨y, 0, none⟩, jc⟩ : Ca) r]) (fun f hf => by simp only [List.mem_cons, List.not_mem_nil, or_false] at hf ⊢; rcases hf with rfl | rfl | rfl | rfl | rfl; exact .inr (.inl rfl); exact .inr (.inr (.inl rfl)); exact .inr (.inr (.inr (.inl rfl))); exact .inr (.inr (.inr (.inr (.inl rfl)))); exact .inr (.inr (.inr (.inr (.inr rfl)))))).wrote (T := fun k => k = q3) (KeptS.ofBut hk9 rfl) (fun k e => by omega)
        (fun f hf k hk e => by
          simp only [List.mem_cons, List.not_mem_nil, or_false] at hf
          rcases hf with rfl | rfl | rfl | rfl | rfl
          · have h1 := lS.out k hk; have h2 := uS.out k hk; omega
          · simp only [rmNF] at hk; omega
          · simp only [lenF] at hk; omega
          · simp only [celF] at hk; omega
          · simp only [argCF] at hk; omega
          )).push (roomEF g en cp r.E) hO)
      clear hk9 hO
      refine hK.out _ _ (J4.out.sub (gs := [lenF (w.heap.size + 1) 19, celF w.heap.size (col (⟨8, pc, 24, 24, t, en, nx, st, 48⟩ : Cv) (⟨ra, rc, wa, wc, ga, gc, some ⟨q, 0, none⟩, ec, some ⟨y, 0, none⟩, jc⟩ : Ca)), argCF w.heap.size (⟨8, pc, 24, 24, t, en, nx, st, 48⟩ : Cv) (⟨ra, rc, wa, wc, ga, gc, some ⟨q, 0, none⟩, ec, some ⟨y, 0, none⟩, jc⟩ : Ca) r]) (fun f hf => by simp only [List.mem_cons, List.not_mem_nil, or_false] at hf ⊢; rcases hf with rfl | rfl | rfl; exact .inr (.inr (.inr (.inl rfl))); exact .inr (.inr (.inr (.inr (.inl rfl)))); exact .inr (.inr (.inr (.inr (.inr rfl)))))) (fun hHeld => ?_)
      clear hK K
      (try simp only [Act.put]); (try simp only [List.setIfInBounds_toArray]); (try simp only [List.set_cons_succ]); (try simp only [List.set_cons_zero]); (try simp only [List.set_cons_succ]); (try simp only [List.set_cons_zero]); (try simp only [Nat.zero_add])
      refine wpAnyH_ready (rs := [14]) (by kernel_rfl) (by simp) ?_
      refine AllReadyH.cons rfl (fun K hK => ?_) AllReadyH.nil
      refine step_appNd (by rfl) _ _ (by rfl) 0 q4 0 0 [] (by rfl) rfl (J4.out.rmN (.tail _ (.tail _ (.head _)))).own (some ⟨y, 0, none⟩) 48 jc r.J (by rfl) hlJ.out (fun h => by cases h) (fun b9 hb9 => by cases hb9; exact (J4.out.argC (.tail _ (.tail _ (.tail _ (.tail _ (.tail _ (.head _))))))).js.flat) 48 rfl (by omega) (Nat.zero_le _) ?_
      intro j dj v5 _ hO _ hg4 hk9
      have hO2 : (intF j 48 r.J).p v5 := ⟨by simpa using hO, hlJ.out⟩
      have z5 := hk9.size
      have hl4 := (J4.out.rmN (.tail _ (.tail _ (.head _)))).lt
      have hl5 := (J4.out.roomE (.head _)).lt
      have J5 := hid_mk (((J4.out.sub (gs := [roomEF g en cp r.E, ansSF b b1 b2 8 24 24 r.R r.L r.G, lenF (w.heap.size + 1) 19, celF w.heap.size (col (⟨8, pc, 24, 24, t, en, nx, st, 48⟩ : Cv) (⟨ra, rc, wa, wc, ga, gc, some ⟨q, 0, none⟩, ec, some ⟨y, 0, none⟩, jc⟩ : Ca)), argCF w.heap.size (⟨8, pc, 24, 24, t, en, nx, st, 48⟩ : Cv) (⟨ra, rc, wa, wc, ga, gc, some ⟨q, 0, none⟩, ec, some ⟨y, 0, none⟩, jc⟩ : Ca) r]) (fun f hf => by simp only [List.mem_cons, List.not_mem_nil, or_false] at hf ⊢; rcases hf with rfl | rfl | rfl | rfl | rfl; exact .inl rfl; exact .inr (.inl rfl); exact .inr (.inr (.inr (.inl rfl))); exact .inr (.inr (.inr (.inr (.inl rfl)))); exact .inr (.inr (.inr (.inr (.inr rfl)))))).wrote (T := fun k => k = q4) (KeptS.ofBut hk9 rfl) (fun k e => by omega)
        (fun f hf k hk e => by
          simp only [List.mem_cons, List.not_mem_nil, or_false] at hf
          rcases hf with rfl | rfl | rfl | rfl | rfl
          · simp only [roomEF] at hk; omega
          · have h1 := lS.out k hk; have h2 := uS.out k hk; omega
          · simp only [lenF] at hk; omega
          · simp only [celF] at hk; omega
          · simp only [argCF] at hk; omega
          )).push (intF j 48 r.J) hO2)
      clear hk9 hO hO2
      refine hK.out _ _ (J5.out.sub (gs := [lenF (w.heap.size + 1) 19, celF w.heap.size (col (⟨8, pc, 24, 24, t, en, nx, st, 48⟩ : Cv) (⟨ra, rc, wa, wc, ga, gc, some ⟨q, 0, none⟩, ec, some ⟨y, 0, none⟩, jc⟩ : Ca)), argCF w.heap.size (⟨8, pc, 24, 24, t, en, nx, st, 48⟩ : Cv) (⟨ra, rc, wa, wc, ga, gc, some ⟨q, 0, none⟩, ec, some ⟨y, 0, none⟩, jc⟩ : Ca) r]) (fun f hf => by simp only [List.mem_cons, List.not_mem_nil, or_false] at hf ⊢; rcases hf with rfl | rfl | rfl; exact .inr (.inr (.inr (.inl rfl))); exact .inr (.inr (.inr (.inr (.inl rfl)))); exact .inr (.inr (.inr (.inr (.inr rfl)))))) (fun hHeld => ?_)
      clear hK K
      (try simp only [Act.put]); (try simp only [List.setIfInBounds_toArray]); (try simp only [List.set_cons_succ]); (try simp only [List.set_cons_zero]); (try simp only [List.set_cons_succ]); (try simp only [List.set_cons_zero]); (try simp only [Nat.zero_add])
      refine take_on (i := 15) (d := 18) (v := .agg #[.slice b 8 d, .int .i64 pc.n, .bool pc.i, .int .i64 pc.b, .int .i64 pc.t, .int .i64 pc.p, .int .i64 pc.s, .slice b1 24 d1, .slice b2 24 d2, .int .i64 t, .slice (some ⟨g, 0, none⟩) en cp, .int .i64 nx.n, .bool nx.i, .int .i64 nx.b, .int .i64 nx.t, .int .i64 nx.p, .int .i64 nx.s, .bool st, .slice (some ⟨j, 0, none⟩) 48 dj]) rfl rfl (by kernel_rfl) (by kernel_rfl) (by kernel_rfl) (fun _ _ _ h => h) (by rfl) ?_ hHeld ?_
      · (intro w' hSw; go_simp)
      (try simp only [Act.put]); (try simp only [List.setIfInBounds_toArray]); (try simp only [List.set_cons_succ]); (try simp only [List.set_cons_zero]); (try simp only [List.set_cons_succ]); (try simp only [List.set_cons_zero]); (try simp only [Nat.zero_add])
      obtain ⟨vs, hvl, CZ⟩ := J5.out.len (.tail _ (.tail _ (.tail _ (.head _))))
      have TH := hid_mk (by have h := CZ.there; rw [hvl] at h; exact h)
      have CE := hid_mk (CZ.sets (us := (col (⟨8, pc, 24, 24, t, en, nx, st, 48⟩ : Cv) (⟨b, d, b1, d1, b2, d2, some ⟨g, 0, none⟩, cp, some ⟨j, 0, none⟩, dj⟩ : Ca))) (by rw [hvl]; rfl))
      have HR := hid_mk (J5.out.roomE (.tail _ (.head _)))
      have HA := hid_mk (J5.out.ansS (.tail _ (.tail _ (.head _))))
      have HN : Hid ((intF j 48 r.J).p v5) := J5.out.at (f := intF j 48 r.J) (.head _)
      have HB := hid_mk J5.out.bel
      clear CZ
      have FR : Hid (∀ k, On b k ∨ On b1 k ∨ On b2 k → w.heap.size + 1 < k ∧ k ≠ g ∧ k ≠ j) := fun k hk => by have h1 := lS.out k hk; have h2 := uS.out k hk; omega
      have GJ : w.heap.size + 1 < g ∧ w.heap.size + 1 < j ∧ g ≠ j := by omega
      refine wpAnyH_ready (rs := [16]) (by kernel_rfl) (by simp) ?_
      refine AllReadyH.cons rfl (fun K hK => ?_) AllReadyH.nil
      refine step_stm (by rfl) 64 _ _ (by rfl) (w.heap.size + 1) 0 (col (⟨8, pc, 24, 24, t, en, nx, st, 48⟩ : Cv) (⟨b, d, b1, d1, b2, d2, some ⟨g, 0, none⟩, cp, some ⟨j, 0, none⟩, dj⟩ : Ca)).toArray (by rfl) (by rfl) TH.out sizeCor (col_one _ _) ?_
      refine hK.out _ _ (RZ.out (col (⟨8, pc, 24, 24, t, en, nx, st, 48⟩ : Cv) (⟨b, d, b1, d1, b2, d2, some ⟨g, 0, none⟩, cp, some ⟨j, 0, none⟩, dj⟩ : Ca)) _ rfl (J5.out.sub (gs := [lenF (w.heap.size + 1) 19, celF w.heap.size (col (⟨8, pc, 24, 24, t, en, nx, st, 48⟩ : Cv) (⟨ra, rc, wa, wc, ga, gc, some ⟨q, 0, none⟩, ec, some ⟨y, 0, none⟩, jc⟩ : Ca)), argCF w.heap.size (⟨8, pc, 24, 24, t, en, nx, st, 48⟩ : Cv) (⟨ra, rc, wa, wc, ga, gc, some ⟨q, 0, none⟩, ec, some ⟨y, 0, none⟩, jc⟩ : Ca) r]) (fun f hf => by simp only [List.mem_cons, List.not_mem_nil, or_false] at hf ⊢; rcases hf with rfl | rfl | rfl; exact .inr (.inr (.inr (.inl rfl))); exact .inr (.inr (.inr (.inr (.inl rfl)))); exact .inr (.inr (.inr (.inr (.inr rfl))))))) (fun hHeld => ?_)
      clear hK K
      refine wpAnyH_done (by kernel_rfl) ?_ _
      have K9 := hid_mk (KeepBut.setCells (b := w.heap.size + 1) (col (⟨8, pc, 24, 24, t, en, nx, st, 48⟩ : Cv) (⟨b, d, b1, d1, b2, d2, some ⟨g, 0, none⟩, cp, some ⟨j, 0, none⟩, dj⟩ : Ca)) 0 v5)
      have hlv := hid_mk (lv_cor CE.out.range)
      clear J5 hHeld RZ TH CE lS uS D0
      generalize v5.setCells (w.heap.size + 1) 0 (col (⟨8, pc, 24, 24, t, en, nx, st, 48⟩ : Cv) (⟨b, d, b1, d1, b2, d2, some ⟨g, 0, none⟩, cp, some ⟨j, 0, none⟩, dj⟩ : Ca)) = w9 at K9 hlv ⊢
      have G0 := hid_mk GJ
      clear GJ
      have AN : Hid (AnsS b b1 b2 8 24 24 r.R r.L r.G w9) := (ansSF b b1 b2 8 24 24 r.R r.L r.G).keep _ _ HA.out K9.out.size fun k hk ho => K9.out.block k hk (by have := FR.out k ho; omega)
      have RN : Hid (RoomE w9 g en cp r.E) := HR.out.ofBlock (K9.out.block g HR.out.lt (by have := G0.out; omega))
      have NN : Hid ((intF j 48 r.J).p w9) := ⟨HN.out.1.ofBlock K9.out.size (K9.out.block j HN.out.1.lt (by have := G0.out; omega)), HN.out.2⟩
      have BB := hid_mk (HB.out.trans (K9.out.below (B := w.heap.size) (by omega) HB.out.size))
      have G1 : Hid (w.heap.size ≤ g ∧ w.heap.size ≤ j ∧ g ≠ j) := by have := G0.out; exact ⟨by omega, by omega, this.2.2⟩
      have F1 : Hid (∀ k, On b k ∨ On b1 k ∨ On b2 k → w.heap.size ≤ k ∧ k ≠ g ∧ k ≠ j) := fun k hk => by have := FR.out k hk; exact ⟨by omega, this.2⟩
      clear HR HA HN HB K9 FR G0
      go_wp2
      refine bodyPost_ret (v := .agg (col (⟨8, pc, 24, 24, t, en, nx, st, 48⟩ : Cv) (⟨b, d, b1, d1, b2, d2, some ⟨g, 0, none⟩, cp, some ⟨j, 0, none⟩, dj⟩ : Ca)).toArray) (results_cell1 Tryz.results58 (by first | rfl | (simp; done)) hlv.out) rfl (HQ.out _ _ _ _ _ _ _ _ _ _ _ ⟨AN.out, RN.out, NN.out, F1.out, G1.out.1, G1.out.2.1, G1.out.2.2, BB.out⟩)
    · go_simp
      have J2 := hid_mk ((J1.out.alloc (.cells #[] 104)).push (roomEF v1.heap.size 0 0 []) (roomE_new v1))
      have z2 : v1.heap.size < (v1.alloc (.cells #[] 104)).heap.size := by simp
      refine hK.out _ _ (J2.out.sub (gs := [lenF (w.heap.size + 1) 19, celF w.heap.size (col (⟨8, pc, 24, 24, t, en, nx, st, 48⟩ : Cv) (⟨ra, rc, wa, wc, ga, gc, some ⟨q, 0, none⟩, ec, some ⟨y, 0, none⟩, jc⟩ : Ca)), argCF w.heap.size (⟨8, pc, 24, 24, t, en, nx, st, 48⟩ : Cv) (⟨ra, rc, wa, wc, ga, gc, some ⟨q, 0, none⟩, ec, some ⟨y, 0, none⟩, jc⟩ : Ca) r]) (fun f hf => by simp only [List.mem_cons, List.not_mem_nil, or_false] at hf ⊢; rcases hf with rfl | rfl | rfl; exact .inr (.inr (.inl rfl)); exact .inr (.inr (.inr (.inl rfl))); exact .inr (.inr (.inr (.inr rfl))))) (fun hHeld => ?_)
      clear hK K
      (try simp only [Act.put]); (try simp only [List.setIfInBounds_toArray]); (try simp only [List.set_cons_succ]); (try simp only [List.set_cons_zero]); (try simp only [List.set_cons_succ]); (try simp only [List.set_cons_zero]); (try simp only [Nat.zero_add])
      obtain ⟨q3, hq3⟩ : ∃ r, r = v1.heap.size := ⟨_, rfl⟩
      rw [← hq3] at J2 z2 ⊢
      have yq3 : q3 ≤ v1.heap.size ∧ v1.heap.size ≤ q3 := by omega
      clear hq3
      generalize v1.alloc (.cells #[] 104) = v2 at J2 hHeld z2 ⊢
      refine wpAnyH_ready (rs := [2]) (by kernel_rfl) (by simp) ?_
      refine AllReadyH.cons rfl (fun K hK => ?_) AllReadyH.nil
      go_simp
      refine (l9Copy_any ra rc pc wa wc ga gc t r.R r.L r.G _ (J2.out.argC (.tail _ (.tail _ (.tail _ (.tail _ (.head _)))))).st).mono ?_
      rintro e v3 ⟨b, d, b1, d1, b2, d2, rfl, hd1, hA, hf, hb⟩
      have lS := hid_mk hf
      have uS := hid_mk (fun k hk => hA.lt (k := k) hk)
      have z3 := hb.size
      have J3 := hid_mk ((J2.out.next hb).push (ansSF b b1 b2 8 24 24 r.R r.L r.G) hA)
      clear hb hA hf hd1
      refine hK.out _ _ (J3.out.sub (gs := [lenF (w.heap.size + 1) 19, celF w.heap.size (col (⟨8, pc, 24, 24, t, en, nx, st, 48⟩ : Cv) (⟨ra, rc, wa, wc, ga, gc, some ⟨q, 0, none⟩, ec, some ⟨y, 0, none⟩, jc⟩ : Ca)), argCF w.heap.size (⟨8, pc, 24, 24, t, en, nx, st, 48⟩ : Cv) (⟨ra, rc, wa, wc, ga, gc, some ⟨q, 0, none⟩, ec, some ⟨y, 0, none⟩, jc⟩ : Ca) r]) (fun f hf => by simp only [List.mem_cons, List.not_mem_nil, or_false] at hf ⊢; rcases hf with rfl | rfl | rfl; exact .inr (.inr (.inr (.inl rfl))); exact .inr (.inr (.inr (.inr (.inl rfl)))); exact .inr (.inr (.inr (.inr (.inr rfl)))))) (fun hHeld => ?_)
      clear hK K
      (try simp only [Act.put]); (try simp only [List.setIfInBounds_toArray]); (try simp only [List.set_cons_succ]); (try simp only [List.set_cons_zero]); (try simp only [List.set_cons_succ]); (try simp only [List.set_cons_zero]); (try simp only [Nat.zero_add])
      refine wpAnyH_ready (rs := [6]) (by kernel_rfl) (by simp) ?_
      refine AllReadyH.cons rfl (fun K hK => ?_) AllReadyH.nil
      refine step_appEr (by rfl) _ _ (by rfl) q3 0 0 [] (by rfl) (J3.out.roomE (.tail _ (.head _))) (some ⟨q, 0, none⟩) en ec r.E (by rfl) hlE.out (fun h => by cases h) (fun b9 hb9 => by cases hb9; exact (J3.out.argC (.tail _ (.tail _ (.tail _ (.tail _ (.tail _ (.head _))))))).es.flat enl_len (by decide)) en (Nat.zero_add en) (by omega) ?_
      intro g cp v4 hO hg hcp hk9
      replace hO : RoomE v4 g en cp r.E := by simpa using hO
      have z4 := hk9.size
      have hl6 := hO.lt
      have HL := hid_mk (J3.out.roomE (.tail _ (.head _))).lt
      have hl3 := HL.out
      have J4 := hid_mk (((J3.out.sub (gs := [ansSF b b1 b2 8 24 24 r.R r.L r.G, rmNF q4 0 0 [], lenF (w.heap.size + 1) 19, celF w.heap.size (col (⟨8, pc, 24, 24, t, en, nx, st, 48⟩ : Cv) (⟨ra, rc, wa, wc, ga, gc, some ⟨q, 0, none⟩, ec, some ⟨y, 0, none⟩, jc⟩ : Ca)), argCF w.heap.size (⟨8, pc, 24, 24, t, en, nx, st, 48⟩ : Cv) (⟨ra, rc, wa, wc, ga, gc, some ⟨q, 0, none⟩, ec, some ⟨y, 0, none⟩, jc⟩ : Ca) r]) (fun f hf => by simp only [List.mem_cons, List.not_mem_nil, or_false] at hf ⊢; rcases hf with rfl | rfl | rfl | rfl | rfl; exact .inl rfl; exact .inr (.inr (.inl rfl)); exact .inr (.inr (.inr (.inl rfl))); exact .inr (.inr (.inr (.inr (.inl rfl)))); exact .inr (.inr (.inr (.inr (.inr rfl)))))).wrote (T := fun k => k = q3) (KeptS.ofBut hk9 rfl) (fun k e => by omega)
        (fun f hf k hk e => by
          simp only [List.mem_cons, List.not_mem_nil, or_false] at hf
          rcases hf with rfl | rfl | rfl | rfl | rfl
          · have h1 := lS.out k hk; have h2 := uS.out k hk; omega
          · simp only [rmNF] at hk; omega
          · simp only [lenF] at hk; omega
          · simp only [celF] at hk; omega
          · simp only [argCF] at hk; omega
          )).push (roomEF g en cp r.E) hO)
      clear hk9 hO
      refine hK.out _ _ (J4.out.sub (gs := [lenF (w.heap.size + 1) 19, celF w.heap.size (col (⟨8, pc, 24, 24, t, en, nx, st, 48⟩ : Cv) (⟨ra, rc, wa, wc, ga, gc, some ⟨q, 0, none⟩, ec, some ⟨y, 0, none⟩, jc⟩ : Ca)), argCF w.heap.size (⟨8, pc, 24, 24, t, en, nx, st, 48⟩ : Cv) (⟨ra, rc, wa, wc, ga, gc, some ⟨q, 0, none⟩, ec, some ⟨y, 0, none⟩, jc⟩ : Ca) r]) (fun f hf => by simp only [List.mem_cons, List.not_mem_nil, or_false] at hf ⊢; rcases hf with rfl | rfl | rfl; exact .inr (.inr (.inr (.inl rfl))); exact .inr (.inr (.inr (.inr (.inl rfl)))); exact .inr (.inr (.inr (.inr (.inr rfl)))))) (fun hHeld => ?_)
      clear hK K
      (try simp only [Act.put]); (try simp only [List.setIfInBounds_toArray]); (try simp only [List.set_cons_succ]); (try simp only [List.set_cons_zero]); (try simp only [List.set_cons_succ]); (try simp only [List.set_cons_zero]); (try simp only [Nat.zero_add])
      refine wpAnyH_ready (rs := [14]) (by kernel_rfl) (by simp) ?_
      refine AllReadyH.cons rfl (fun K hK => ?_) AllReadyH.nil
      refine step_appNd (by rfl) _ _ (by rfl) 0 q4 0 0 [] (by rfl) rfl (J4.out.rmN (.tail _ (.tail _ (.head _)))).own (some ⟨y, 0, none⟩) 48 jc r.J (by rfl) hlJ.out (fun h => by cases h) (fun b9 hb9 => by cases hb9; exact (J4.out.argC (.tail _ (.tail _ (.tail _ (.tail _ (.tail _ (.head _))))))).js.flat) 48 rfl (by omega) (Nat.zero_le _) ?_
      intro j dj v5 _ hO _ hg4 hk9
      have hO2 : (intF j 48 r.J).p v5 := ⟨by simpa using hO, hlJ.out⟩
      have z5 := hk9.size
      have hl4 := (J4.out.rmN (.tail _ (.tail _ (.head _)))).lt
      have hl5 := (J4.out.roomE (.head _)).lt
      have J5 := hid_mk (((J4.out.sub (gs := [roomEF g en cp r.E, ansSF b b1 b2 8 24 24 r.R r.L r.G, lenF (w.heap.size + 1) 19, celF w.heap.size (col (⟨8, pc, 24, 24, t, en, nx, st, 48⟩ : Cv) (⟨ra, rc, wa, wc, ga, gc, some ⟨q, 0, none⟩, ec, some ⟨y, 0, none⟩, jc⟩ : Ca)), argCF w.heap.size (⟨8, pc, 24, 24, t, en, nx, st, 48⟩ : Cv) (⟨ra, rc, wa, wc, ga, gc, some ⟨q, 0, none⟩, ec, some ⟨y, 0, none⟩, jc⟩ : Ca) r]) (fun f hf => by simp only [List.mem_cons, List.not_mem_nil, or_false] at hf ⊢; rcases hf with rfl | rfl | rfl | rfl | rfl; exact .inl rfl; exact .inr (.inl rfl); exact .inr (.inr (.inr (.inl rfl))); exact .inr (.inr (.inr (.inr (.inl rfl)))); exact .inr (.inr (.inr (.inr (.inr rfl)))))).wrote (T := fun k => k = q4) (KeptS.ofBut hk9 rfl) (fun k e => by omega)
        (fun f hf k hk e => by
          simp only [List.mem_cons, List.not_mem_nil, or_false] at hf
          rcases hf with rfl | rfl | rfl | rfl | rfl
          · simp only [roomEF] at hk; omega
          · have h1 := lS.out k hk; have h2 := uS.out k hk; omega
          · simp only [lenF] at hk; omega
          · simp only [celF] at hk; omega
          · simp only [argCF] at hk; omega
          )).push (intF j 48 r.J) hO2)
      clear hk9 hO hO2
      refine hK.out _ _ (J5.out.sub (gs := [lenF (w.heap.size + 1) 19, celF w.heap.size (col (⟨8, pc, 24, 24, t, en, nx, st, 48⟩ : Cv) (⟨ra, rc, wa, wc, ga, gc, some ⟨q, 0, none⟩, ec, some ⟨y, 0, none⟩, jc⟩ : Ca)), argCF w.heap.size (⟨8, pc, 24, 24, t, en, nx, st, 48⟩ : Cv) (⟨ra, rc, wa, wc, ga, gc, some ⟨q, 0, none⟩, ec, some ⟨y, 0, none⟩, jc⟩ : Ca) r]) (fun f hf => by simp only [List.mem_cons, List.not_mem_nil, or_false] at hf ⊢; rcases hf with rfl | rfl | rfl; exact .inr (.inr (.inr (.inl rfl))); exact .inr (.inr (.inr (.inr (.inl rfl)))); exact .inr (.inr (.inr (.inr (.inr rfl)))))) (fun hHeld => ?_)
      clear hK K
      (try simp only [Act.put]); (try simp only [List.setIfInBounds_toArray]); (try simp only [List.set_cons_succ]); (try simp only [List.set_cons_zero]); (try simp only [List.set_cons_succ]); (try simp only [List.set_cons_zero]); (try simp only [Nat.zero_add])
      refine take_on (i := 15) (d := 18) (v := .agg #[.slice b 8 d, .int .i64 pc.n, .bool pc.i, .int .i64 pc.b, .int .i64 pc.t, .int .i64 pc.p, .int .i64 pc.s, .slice b1 24 d1, .slice b2 24 d2, .int .i64 t, .slice (some ⟨g, 0, none⟩) en cp, .int .i64 nx.n, .bool nx.i, .int .i64 nx.b, .int .i64 nx.t, .int .i64 nx.p, .int .i64 nx.s, .bool st, .slice (some ⟨j, 0, none⟩) 48 dj]) rfl rfl (by kernel_rfl) (by kernel_rfl) (by kernel_rfl) (fun _ _ _ h => h) (by rfl) ?_ hHeld ?_
      · (intro w' hSw; go_simp)
      (try simp only [Act.put]); (try simp only [List.setIfInBounds_toArray]); (try simp only [List.set_cons_succ]); (try simp only [List.set_cons_zero]); (try simp only [List.set_cons_succ]); (try simp only [List.set_cons_zero]); (try simp only [Nat.zero_add])
      obtain ⟨vs, hvl, CZ⟩ := J5.out.len (.tail _ (.tail _ (.tail _ (.head _))))
      have TH := hid_mk (by have h := CZ.there; rw [hvl] at h; exact h)
      have CE := hid_mk (CZ.sets (us := (col (⟨8, pc, 24, 24, t, en, nx, st, 48⟩ : Cv) (⟨b, d, b1, d1, b2, d2, some ⟨g, 0, none⟩, cp, some ⟨j, 0, none⟩, dj⟩ : Ca))) (by rw [hvl]; rfl))
      have HR := hid_mk (J5.out.roomE (.tail _ (.head _)))
      have HA := hid_mk (J5.out.ansS (.tail _ (.tail _ (.head _))))
      have HN : Hid ((intF j 48 r.J).p v5) := J5.out.at (f := intF j 48 r.J) (.head _)
      have HB := hid_mk J5.out.bel
      clear CZ
      have FR : Hid (∀ k, On b k ∨ On b1 k ∨ On b2 k → w.heap.size + 1 < k ∧ k ≠ g ∧ k ≠ j) := fun k hk => by have h1 := lS.out k hk; have h2 := uS.out k hk; omega
      have GJ : w.heap.size + 1 < g ∧ w.heap.size + 1 < j ∧ g ≠ j := by omega
      refine wpAnyH_ready (rs := [16]) (by kernel_rfl) (by simp) ?_
      refine AllReadyH.cons rfl (fun K hK => ?_) AllReadyH.nil
      refine step_stm (by rfl) 64 _ _ (by rfl) (w.heap.size + 1) 0 (col (⟨8, pc, 24, 24, t, en, nx, st, 48⟩ : Cv) (⟨b, d, b1, d1, b2, d2, some ⟨g, 0, none⟩, cp, some ⟨j, 0, none⟩, dj⟩ : Ca)).toArray (by rfl) (by rfl) TH.out sizeCor (col_one _ _) ?_
      refine hK.out _ _ (RZ.out (col (⟨8, pc, 24, 24, t, en, nx, st, 48⟩ : Cv) (⟨b, d, b1, d1, b2, d2, some ⟨g, 0, none⟩, cp, some ⟨j, 0, none⟩, dj⟩ : Ca)) _ rfl (J5.out.sub (gs := [lenF (w.heap.size + 1) 19, celF w.heap.size (col (⟨8, pc, 24, 24, t, en, nx, st, 48⟩ : Cv) (⟨ra, rc, wa, wc, ga, gc, some ⟨q, 0, none⟩, ec, some ⟨y, 0, none⟩, jc⟩ : Ca)), argCF w.heap.size (⟨8, pc, 24, 24, t, en, nx, st, 48⟩ : Cv) (⟨ra, rc, wa, wc, ga, gc, some ⟨q, 0, none⟩, ec, some ⟨y, 0, none⟩, jc⟩ : Ca) r]) (fun f hf => by simp only [List.mem_cons, List.not_mem_nil, or_false] at hf ⊢; rcases hf with rfl | rfl | rfl; exact .inr (.inr (.inr (.inl rfl))); exact .inr (.inr (.inr (.inr (.inl rfl)))); exact .inr (.inr (.inr (.inr (.inr rfl))))))) (fun hHeld => ?_)
      clear hK K
      refine wpAnyH_done (by kernel_rfl) ?_ _
      have K9 := hid_mk (KeepBut.setCells (b := w.heap.size + 1) (col (⟨8, pc, 24, 24, t, en, nx, st, 48⟩ : Cv) (⟨b, d, b1, d1, b2, d2, some ⟨g, 0, none⟩, cp, some ⟨j, 0, none⟩, dj⟩ : Ca)) 0 v5)
      have hlv := hid_mk (lv_cor CE.out.range)
      clear J5 hHeld RZ TH CE lS uS D0
      generalize v5.setCells (w.heap.size + 1) 0 (col (⟨8, pc, 24, 24, t, en, nx, st, 48⟩ : Cv) (⟨b, d, b1, d1, b2, d2, some ⟨g, 0, none⟩, cp, some ⟨j, 0, none⟩, dj⟩ : Ca)) = w9 at K9 hlv ⊢
      have G0 := hid_mk GJ
      clear GJ
      have AN : Hid (AnsS b b1 b2 8 24 24 r.R r.L r.G w9) := (ansSF b b1 b2 8 24 24 r.R r.L r.G).keep _ _ HA.out K9.out.size fun k hk ho => K9.out.block k hk (by have := FR.out k ho; omega)
      have RN : Hid (RoomE w9 g en cp r.E) := HR.out.ofBlock (K9.out.block g HR.out.lt (by have := G0.out; omega))
      have NN : Hid ((intF j 48 r.J).p w9) := ⟨HN.out.1.ofBlock K9.out.size (K9.out.block j HN.out.1.lt (by have := G0.out; omega)), HN.out.2⟩
      have BB := hid_mk (HB.out.trans (K9.out.below (B := w.heap.size) (by omega) HB.out.size))
      have G1 : Hid (w.heap.size ≤ g ∧ w.heap.size ≤ j ∧ g ≠ j) := by have := G0.out; exact ⟨by omega, by omega, this.2.2⟩
      have F1 : Hid (∀ k, On b k ∨ On b1 k ∨ On b2 k → w.heap.size ≤ k ∧ k ≠ g ∧ k ≠ j) := fun k hk => by have := FR.out k hk; exact ⟨by omega, this.2⟩
      clear HR HA HN HB K9 FR G0
      go_wp2
      refine bodyPost_ret (v := .agg (col (⟨8, pc, 24, 24, t, en, nx, st, 48⟩ : Cv) (⟨b, d, b1, d1, b2, d2, some ⟨g, 0, none⟩, cp, some ⟨j, 0, none⟩, dj⟩ : Ca)).toArray) (results_cell1 Tryz.results58 (by first | rfl | (simp; done)) hlv.out) rfl (HQ.out _ _ _ _ _ _ _ _ _ _ _ ⟨AN.out, RN.out, NN.out, F1.out, G1.out.1, G1.out.2.1, G1.out.2.2, BB.out⟩)

set_option maxHeartbeats 4000000 in
theorem coreAsItWas_any (pc : Wd) (t : Int) (en : Nat) (nx : Wd) (st : Bool) (a : Ca) (r : Cr) (w : World) (hn : en ≤ 6) (hea : ∃ q, a.ea = some ⟨q, 0, none⟩) (hja : ∃ q, a.ja = some ⟨q, 0, none⟩) (hS : CoS w (⟨8, pc, 24, 24, t, en, nx, st, 48⟩ : Cv) a r) :
    Calls Tryz.prog 63 #[.agg (col (⟨8, pc, 24, 24, t, en, nx, st, 48⟩ : Cv) a).toArray] w fun e w' => ∃ b d b1 d1 b2 d2 g cp j dj, e = .returned (.agg (col (⟨8, pc, 24, 24, t, en, nx, st, 48⟩ : Cv) (⟨b, d, b1, d1, b2, d2, some ⟨g, 0, none⟩, cp, some ⟨j, 0, none⟩, dj⟩ : Ca)).toArray) ∧ CopS w (⟨8, pc, 24, 24, t, en, nx, st, 48⟩ : Cv) r b b1 b2 g cp j w' := by
  obtain ⟨ra, rc, wa, wc, ga, gc, ea, ec, ja, jc⟩ := a
  obtain ⟨q, rfl⟩ : ∃ q, ea = some ⟨q, 0, none⟩ := hea
  obtain ⟨y, rfl⟩ : ∃ q, ja = some ⟨q, 0, none⟩ := hja
  have H : Hid (Hold w ((w.alloc (.cells (col (⟨8, pc, 24, 24, t, en, nx, st, 48⟩ : Cv) (⟨ra, rc, wa, wc, ga, gc, some ⟨q, 0, none⟩, ec, some ⟨y, 0, none⟩, jc⟩ : Ca)).toArray 64)).alloc (.cells ([.slice none 0 0, .int .i64 0, .bool false, .int .i64 0, .int .i64 0, .int .i64 0, .int .i64 0, .slice none 0 0, .slice none 0 0, .int .i64 0, .slice none 0 0, .int .i64 0, .bool false, .int .i64 0, .int .i64 0, .int .i64 0, .int .i64 0, .bool false, .slice none 0 0] : List Value).toArray 64)) [lenF (w.heap.size + 1) 19, celF w.heap.size (col (⟨8, pc, 24, 24, t, en, nx, st, 48⟩ : Cv) (⟨ra, rc, wa, wc, ga, gc, some ⟨q, 0, none⟩, ec, some ⟨y, 0, none⟩, jc⟩ : Ca)), argCF w.heap.size (⟨8, pc, 24, 24, t, en, nx, st, 48⟩ : Cv) (⟨ra, rc, wa, wc, ga, gc, some ⟨q, 0, none⟩, ec, some ⟨y, 0, none⟩, jc⟩ : Ca) r]) := by
    have h := (((Hold.new w).push (argCF w.heap.size (⟨8, pc, 24, 24, t, en, nx, st, 48⟩ : Cv) (⟨ra, rc, wa, wc, ga, gc, some ⟨q, 0, none⟩, ec, some ⟨y, 0, none⟩, jc⟩ : Ca) r) hS.arg).box (col (⟨8, pc, 24, 24, t, en, nx, st, 48⟩ : Cv) (⟨ra, rc, wa, wc, ga, gc, some ⟨q, 0, none⟩, ec, some ⟨y, 0, none⟩, jc⟩ : Ca)) 64 w.heap.size rfl).box ([.slice none 0 0, .int .i64 0, .bool false, .int .i64 0, .int .i64 0, .int .i64 0, .int .i64 0, .slice none 0 0, .slice none 0 0, .int .i64 0, .slice none 0 0, .int .i64 0, .bool false, .int .i64 0, .int .i64 0, .int .i64 0, .int .i64 0, .bool false, .slice none 0 0] : List Value) 64 (w.heap.size + 1) (by simp)
    exact h.tail.push (lenF (w.heap.size + 1) 19) ⟨_, rfl, h.cel (.head _)⟩
  have hlE := hid_mk hS.es.2.1
  have hlJ := hid_mk hS.js.2.1
  clear hS
  have RZ : Hid (∀ (us : List Value) (w1 : World), us.length = 19 → Hold w w1 [lenF (w.heap.size + 1) 19, celF w.heap.size (col (⟨8, pc, 24, 24, t, en, nx, st, 48⟩ : Cv) (⟨ra, rc, wa, wc, ga, gc, some ⟨q, 0, none⟩, ec, some ⟨y, 0, none⟩, jc⟩ : Ca)), argCF w.heap.size (⟨8, pc, 24, 24, t, en, nx, st, 48⟩ : Cv) (⟨ra, rc, wa, wc, ga, gc, some ⟨q, 0, none⟩, ec, some ⟨y, 0, none⟩, jc⟩ : Ca) r] → Hold w (w1.setCells (w.heap.size + 1) 0 us) [lenF (w.heap.size + 1) 19, celF w.heap.size (col (⟨8, pc, 24, 24, t, en, nx, st, 48⟩ : Cv) (⟨ra, rc, wa, wc, ga, gc, some ⟨q, 0, none⟩, ec, some ⟨y, 0, none⟩, jc⟩ : Ca)), argCF w.heap.size (⟨8, pc, 24, 24, t, en, nx, st, 48⟩ : Cv) (⟨ra, rc, wa, wc, ga, gc, some ⟨q, 0, none⟩, ec, some ⟨y, 0, none⟩, jc⟩ : Ca) r]) := fun us w1 hl h => h.sets_len us (by omega) (fun f hf k hk => by
    simp only [List.mem_cons, List.not_mem_nil, or_false] at hf
    rcases hf with rfl | rfl
    · simp only [celF] at hk; omega
    · simp only [argCF] at hk; omega) hl
  obtain ⟨Q, HQ, HQ2⟩ : ∃ Q : Ending → World → Prop, Hid (∀ b d b1 d1 b2 d2 g cp j dj w', CopS w (⟨8, pc, 24, 24, t, en, nx, st, 48⟩ : Cv) r b b1 b2 g cp j w' → Q (.returned (.agg (col (⟨8, pc, 24, 24, t, en, nx, st, 48⟩ : Cv) (⟨b, d, b1, d1, b2, d2, some ⟨g, 0, none⟩, cp, some ⟨j, 0, none⟩, dj⟩ : Ca)).toArray)) w') ∧ (∀ e w', Q e w' → ∃ b d b1 d1 b2 d2 g cp j dj, e = .returned (.agg (col (⟨8, pc, 24, 24, t, en, nx, st, 48⟩ : Cv) (⟨b, d, b1, d1, b2, d2, some ⟨g, 0, none⟩, cp, some ⟨j, 0, none⟩, dj⟩ : Ca)).toArray) ∧ CopS w (⟨8, pc, 24, 24, t, en, nx, st, 48⟩ : Cv) r b b1 b2 g cp j w') :=
    ⟨fun e w' => ∃ b d b1 d1 b2 d2 g cp j dj, e = .returned (.agg (col (⟨8, pc, 24, 24, t, en, nx, st, 48⟩ : Cv) (⟨b, d, b1, d1, b2, d2, some ⟨g, 0, none⟩, cp, some ⟨j, 0, none⟩, dj⟩ : Ca)).toArray) ∧ CopS w (⟨8, pc, 24, 24, t, en, nx, st, 48⟩ : Cv) r b b1 b2 g cp j w', fun b d b1 d1 b2 d2 g cp j dj w' h => ⟨b, d, b1, d1, b2, d2, g, cp, j, dj, rfl, h⟩, fun _ _ h => h⟩
  refine Calls.mono (R := Q) ?_ HQ2
  clear HQ2
  generalize hw1 : (w.alloc (.cells (col (⟨8, pc, 24, 24, t, en, nx, st, 48⟩ : Cv) (⟨ra, rc, wa, wc, ga, gc, some ⟨q, 0, none⟩, ec, some ⟨y, 0, none⟩, jc⟩ : Ca)).toArray 64)).alloc (.cells ([.slice none 0 0, .int .i64 0, .bool false, .int .i64 0, .int .i64 0, .int .i64 0, .int .i64 0, .slice none 0 0, .slice none 0 0, .int .i64 0, .slice none 0 0, .int .i64 0, .bool false, .int .i64 0, .int .i64 0, .int .i64 0, .int .i64 0, .bool false, .slice none 0 0] : List Value).toArray 64) = w1 at H
  have hz1 : w.heap.size + 1 < w1.heap.size := by rw [← hw1]; simp
  go_enter Tryz.func63, Tryz.ntmps63
  go_upto_region 1 with fail
  clear hw1
  have D0 := hid_mk H.out.drew
  refine wp_region_held_drew (S := fun w' => Hold w w' [lenF (w.heap.size + 1) 19, celF w.heap.size (col (⟨8, pc, 24, 24, t, en, nx, st, 48⟩ : Cv) (⟨ra, rc, wa, wc, ga, gc, some ⟨q, 0, none⟩, ec, some ⟨y, 0, none⟩, jc⟩ : Ca)), argCF w.heap.size (⟨8, pc, 24, 24, t, en, nx, st, 48⟩ : Cv) (⟨ra, rc, wa, wc, ga, gc, some ⟨q, 0, none⟩, ec, some ⟨y, 0, none⟩, jc⟩ : Ca) r]) (by kernel_rfl) D0.out (fun hHeld => ?_)
  have hzd : w1.drew.heap.size = w1.heap.size := by simp
  generalize w1.drew = wd at D0 hHeld hzd ⊢
  have hzw : w.heap.size + 1 < wd.heap.size := by omega
  clear hzd H hz1
  refine take_on (i := 0) (d := 3) (v := .pointer (some ⟨w.heap.size, 0, none⟩)) rfl rfl (by kernel_rfl) (by kernel_rfl) (by kernel_rfl) (fun _ _ _ h => h) (by rfl) ?_ hHeld ?_
  · (intro w' hSw; go_simp)
  simp only [Act.put, List.setIfInBounds_toArray, List.set_cons_zero, List.set_cons_succ]
  refine take_on (i := 1) (d := 4) (v := .agg (stl ra 8 rc pc wa 24 wc ga 24 gc t).toArray) rfl rfl (by kernel_rfl) (by kernel_rfl) (by kernel_rfl) (fun _ _ _ h => h) (by rfl) ?_ hHeld ?_
  · exact fun w' hSw => exec_ldm (by rfl) (by rfl) (col_st ((show Hold w w' [lenF (w.heap.size + 1) 19, celF w.heap.size (col (⟨8, pc, 24, 24, t, en, nx, st, 48⟩ : Cv) (⟨ra, rc, wa, wc, ga, gc, some ⟨q, 0, none⟩, ec, some ⟨y, 0, none⟩, jc⟩ : Ca)), argCF w.heap.size (⟨8, pc, 24, 24, t, en, nx, st, 48⟩ : Cv) (⟨ra, rc, wa, wc, ga, gc, some ⟨q, 0, none⟩, ec, some ⟨y, 0, none⟩, jc⟩ : Ca) r] from hSw).cel (.tail _ (.head _))).range) Tryz.underlying42 rfl sizeSt
  simp only [Act.put, List.setIfInBounds_toArray, List.set_cons_zero, List.set_cons_succ]
  refine take_on (i := 3) (d := 6) (v := .pointer (some ⟨w.heap.size, 10, none⟩)) rfl rfl (by kernel_rfl) (by kernel_rfl) (by kernel_rfl) (fun _ _ _ h => h) (by rfl) ?_ hHeld ?_
  · (intro w' hSw; go_simp)
  simp only [Act.put, List.setIfInBounds_toArray, List.set_cons_zero, List.set_cons_succ]
  refine take_on (i := 4) (d := 7) (v := .slice (some ⟨q, 0, none⟩) en ec) rfl rfl (by kernel_rfl) (by kernel_rfl) (by kernel_rfl) (fun _ _ _ h => h) (by rfl) ?_ hHeld ?_
  · (intro w' hSw; have hSx : Hold w w' [lenF (w.heap.size + 1) 19, celF w.heap.size (col (⟨8, pc, 24, 24, t, en, nx, st, 48⟩ : Cv) (⟨ra, rc, wa, wc, ga, gc, some ⟨q, 0, none⟩, ec, some ⟨y, 0, none⟩, jc⟩ : Ca)), argCF w.heap.size (⟨8, pc, 24, 24, t, en, nx, st, 48⟩ : Cv) (⟨ra, rc, wa, wc, ga, gc, some ⟨q, 0, none⟩, ec, some ⟨y, 0, none⟩, jc⟩ : Ca) r] := hSw; have c0 : w'.cell? ⟨w.heap.size, 10, none⟩ = some (.slice (some ⟨q, 0, none⟩) en ec) := (hSx.cel (.tail _ (.head _))).c 10 _ rfl; go_simp)
  simp only [Act.put, List.setIfInBounds_toArray, List.set_cons_zero, List.set_cons_succ]
  refine take_on (i := 6) (d := 9) (v := .pointer (some ⟨w.heap.size, 11, none⟩)) rfl rfl (by kernel_rfl) (by kernel_rfl) (by kernel_rfl) (fun _ _ _ h => h) (by rfl) ?_ hHeld ?_
  · (intro w' hSw; go_simp)
  simp only [Act.put, List.setIfInBounds_toArray, List.set_cons_zero, List.set_cons_succ]
  refine take_on (i := 7) (d := 10) (v := .agg #[.int .i64 nx.n, .bool nx.i, .int .i64 nx.b, .int .i64 nx.t, .int .i64 nx.p, .int .i64 nx.s]) rfl rfl (by kernel_rfl) (by kernel_rfl) (by kernel_rfl) (fun _ _ _ h => h) (by rfl) ?_ hHeld ?_
  · (intro w' hSw; have hSx : Hold w w' [lenF (w.heap.size + 1) 19, celF w.heap.size (col (⟨8, pc, 24, 24, t, en, nx, st, 48⟩ : Cv) (⟨ra, rc, wa, wc, ga, gc, some ⟨q, 0, none⟩, ec, some ⟨y, 0, none⟩, jc⟩ : Ca)), argCF w.heap.size (⟨8, pc, 24, 24, t, en, nx, st, 48⟩ : Cv) (⟨ra, rc, wa, wc, ga, gc, some ⟨q, 0, none⟩, ec, some ⟨y, 0, none⟩, jc⟩ : Ca) r] := hSw; have c0 : w'.cell? ⟨w.heap.size, 11, none⟩ = some (.int .i64 nx.n) := (hSx.cel (.tail _ (.head _))).c 11 _ rfl; have c1 : w'.cell? ⟨w.heap.size, 12, none⟩ = some (.bool nx.i) := (hSx.cel (.tail _ (.head _))).c 12 _ rfl; have c2 : w'.cell? ⟨w.heap.size, 13, none⟩ = some (.int .i64 nx.b) := (hSx.cel (.tail _ (.head _))).c 13 _ rfl; have c3 : w'.cell? ⟨w.heap.size, 14, none⟩ = some (.int .i64 nx.t) := (hSx.cel (.tail _ (.head _))).c 14 _ rfl; have c4 : w'.cell? ⟨w.heap.size, 15, none⟩ = some (.int .i64 nx.p) := (hSx.cel (.tail _ (.head _))).c 15 _ rfl; have c5 : w'.cell? ⟨w.heap.size, 16, none⟩ = some (.int .i64 nx.s) := (hSx.cel (.tail _ (.head _))).c 16 _ rfl; go_simp)
  simp only [Act.put, List.setIfInBounds_toArray, List.set_cons_zero, List.set_cons_succ]
  refine take_on (i := 8) (d := 11) (v := .pointer (some ⟨w.heap.size, 17, none⟩)) rfl rfl (by kernel_rfl) (by kernel_rfl) (by kernel_rfl) (fun _ _ _ h => h) (by rfl) ?_ hHeld ?_
  · (intro w' hSw; go_simp)
  simp only [Act.put, List.setIfInBounds_toArray, List.set_cons_zero, List.set_cons_succ]
  refine take_on (i := 9) (d := 12) (v := .bool st) rfl rfl (by kernel_rfl) (by kernel_rfl) (by kernel_rfl) (fun _ _ _ h => h) (by rfl) ?_ hHeld ?_
  · (intro w' hSw; have hSx : Hold w w' [lenF (w.heap.size + 1) 19, celF w.heap.size (col (⟨8, pc, 24, 24, t, en, nx, st, 48⟩ : Cv) (⟨ra, rc, wa, wc, ga, gc, some ⟨q, 0, none⟩, ec, some ⟨y, 0, none⟩, jc⟩ : Ca)), argCF w.heap.size (⟨8, pc, 24, 24, t, en, nx, st, 48⟩ : Cv) (⟨ra, rc, wa, wc, ga, gc, some ⟨q, 0, none⟩, ec, some ⟨y, 0, none⟩, jc⟩ : Ca) r] := hSw; have c0 : w'.cell? ⟨w.heap.size, 17, none⟩ = some (.bool st) := (hSx.cel (.tail _ (.head _))).c 17 _ rfl; go_simp)
  simp only [Act.put, List.setIfInBounds_toArray, List.set_cons_zero, List.set_cons_succ]
  refine take_on (i := 10) (d := 13) (v := .pointer (some ⟨w.heap.size, 18, none⟩)) rfl rfl (by kernel_rfl) (by kernel_rfl) (by kernel_rfl) (fun _ _ _ h => h) (by rfl) ?_ hHeld ?_
  · (intro w' hSw; go_simp)
  simp only [Act.put, List.setIfInBounds_toArray, List.set_cons_zero, List.set_cons_succ]
  refine take_on (i := 11) (d := 14) (v := .slice (some ⟨y, 0, none⟩) 48 jc) rfl rfl (by kernel_rfl) (by kernel_rfl) (by kernel_rfl) (fun _ _ _ h => h) (by rfl) ?_ hHeld ?_
  · (intro w' hSw; have hSx : Hold w w' [lenF (w.heap.size + 1) 19, celF w.heap.size (col (⟨8, pc, 24, 24, t, en, nx, st, 48⟩ : Cv) (⟨ra, rc, wa, wc, ga, gc, some ⟨q, 0, none⟩, ec, some ⟨y, 0, none⟩, jc⟩ : Ca)), argCF w.heap.size (⟨8, pc, 24, 24, t, en, nx, st, 48⟩ : Cv) (⟨ra, rc, wa, wc, ga, gc, some ⟨q, 0, none⟩, ec, some ⟨y, 0, none⟩, jc⟩ : Ca) r] := hSw; have c0 : w'.cell? ⟨w.heap.size, 18, none⟩ = some (.slice (some ⟨y, 0, none⟩) 48 jc) := (hSx.cel (.tail _ (.head _))).c 18 _ rfl; go_simp)
  simp only [Act.put, List.setIfInBounds_toArray, List.set_cons_zero, List.set_cons_succ]
  refine wpAnyH_ready (rs := [2]) (by kernel_rfl) (by simp) ?_
  refine AllReadyH.cons rfl (fun K hK => ?_) AllReadyH.nil
  go_simp
  refine (stateAsItWas_any ra rc pc wa wc ga gc t r.R r.L r.G _ (D0.out.argC (.tail _ (.tail _ (.head _)))).st).mono ?_
  rintro e v1 ⟨b, d, b1, d1, b2, d2, rfl, _, hA, hf, hb⟩
  have lS := hid_mk hf
  have uS := hid_mk (fun k hk => hA.lt (k := k) hk)
  clear hf
  have z1 := hb.size
  have J1 := hid_mk ((D0.out.next hb).push (ansSF b b1 b2 8 24 24 r.R r.L r.G) hA)
  clear hb hA
  refine hK.out _ _ (J1.out.sub (gs := [lenF (w.heap.size + 1) 19, celF w.heap.size (col (⟨8, pc, 24, 24, t, en, nx, st, 48⟩ : Cv) (⟨ra, rc, wa, wc, ga, gc, some ⟨q, 0, none⟩, ec, some ⟨y, 0, none⟩, jc⟩ : Ca)), argCF w.heap.size (⟨8, pc, 24, 24, t, en, nx, st, 48⟩ : Cv) (⟨ra, rc, wa, wc, ga, gc, some ⟨q, 0, none⟩, ec, some ⟨y, 0, none⟩, jc⟩ : Ca) r]) (fun f hf => by simp only [List.mem_cons, List.not_mem_nil, or_false] at hf ⊢; rcases hf with rfl | rfl | rfl; exact .inr (.inl rfl); exact .inr (.inr (.inl rfl)); exact .inr (.inr (.inr rfl)))) (fun hHeld => ?_)
  clear hK K
  (try simp only [Act.put]); (try simp only [List.setIfInBounds_toArray]); (try simp only [List.set_cons_succ]); (try simp only [List.set_cons_zero]); (try simp only [List.set_cons_succ]); (try simp only [List.set_cons_zero]); (try simp only [Nat.zero_add])
  refine wpAnyH_ready (rs := [5]) (by kernel_rfl) (by simp) ?_
  refine AllReadyH.cons rfl (fun K hK => ?_) AllReadyH.nil
  go_simp
  refine (cloneE_any q 0 en ec r.E (by omega) _ (J1.out.argC (.tail _ (.tail _ (.tail _ (.head _))))).es).mono ?_
  rintro e v2 ⟨g, cp, rfl, hO, _, hg, hb⟩
  have hl5 := hO.lt
  have z2 := hb.size
  have J2 := hid_mk ((J1.out.next hb).push (roomEF g en cp r.E) hO)
  clear hb hO
  refine hK.out _ _ (J2.out.sub (gs := [lenF (w.heap.size + 1) 19, celF w.heap.size (col (⟨8, pc, 24, 24, t, en, nx, st, 48⟩ : Cv) (⟨ra, rc, wa, wc, ga, gc, some ⟨q, 0, none⟩, ec, some ⟨y, 0, none⟩, jc⟩ : Ca)), argCF w.heap.size (⟨8, pc, 24, 24, t, en, nx, st, 48⟩ : Cv) (⟨ra, rc, wa, wc, ga, gc, some ⟨q, 0, none⟩, ec, some ⟨y, 0, none⟩, jc⟩ : Ca) r]) (fun f hf => by simp only [List.mem_cons, List.not_mem_nil, or_false] at hf ⊢; rcases hf with rfl | rfl | rfl; exact .inr (.inr (.inl rfl)); exact .inr (.inr (.inr (.inl rfl))); exact .inr (.inr (.inr (.inr rfl))))) (fun hHeld => ?_)
  clear hK K
  (try simp only [Act.put]); (try simp only [List.setIfInBounds_toArray]); (try simp only [List.set_cons_succ]); (try simp only [List.set_cons_zero]); (try simp only [List.set_cons_succ]); (try simp only [List.set_cons_zero]); (try simp only [Nat.zero_add])
  refine wpAnyH_ready (rs := [12]) (by kernel_rfl) (by simp) ?_
  refine AllReadyH.cons rfl (fun K hK => ?_) AllReadyH.nil
  go_simp
  refine (cloneN_any y 0 48 jc r.J (by omega) _ (J2.out.argC (.tail _ (.tail _ (.tail _ (.tail _ (.head _)))))).js).mono ?_
  rintro e v3 ⟨j, dj, rfl, hO, hj, hb⟩
  have hO2 : (intF j 48 r.J).p v3 := ⟨hO, hlJ.out⟩
  clear hO
  have z3 := hb.size
  have J3 := hid_mk ((J2.out.next hb).push (intF j 48 r.J) hO2)
  clear hb hO2
  refine hK.out _ _ (J3.out.sub (gs := [lenF (w.heap.size + 1) 19, celF w.heap.size (col (⟨8, pc, 24, 24, t, en, nx, st, 48⟩ : Cv) (⟨ra, rc, wa, wc, ga, gc, some ⟨q, 0, none⟩, ec, some ⟨y, 0, none⟩, jc⟩ : Ca)), argCF w.heap.size (⟨8, pc, 24, 24, t, en, nx, st, 48⟩ : Cv) (⟨ra, rc, wa, wc, ga, gc, some ⟨q, 0, none⟩, ec, some ⟨y, 0, none⟩, jc⟩ : Ca) r]) (fun f hf => by simp only [List.mem_cons, List.not_mem_nil, or_false] at hf ⊢; rcases hf with rfl | rfl | rfl; exact .inr (.inr (.inr (.inl rfl))); exact .inr (.inr (.inr (.inr (.inl rfl)))); exact .inr (.inr (.inr (.inr (.inr rfl)))))) (fun hHeld => ?_)
  clear hK K
  (try simp only [Act.put]); (try simp only [List.setIfInBounds_toArray]); (try simp only [List.set_cons_succ]); (try simp only [List.set_cons_zero]); (try simp only [List.set_cons_succ]); (try simp only [List.set_cons_zero]); (try simp only [Nat.zero_add])
  refine take_on (i := 13) (d := 16) (v := .agg #[.slice b 8 d, .int .i64 pc.n, .bool pc.i, .int .i64 pc.b, .int .i64 pc.t, .int .i64 pc.p, .int .i64 pc.s, .slice b1 24 d1, .slice b2 24 d2, .int .i64 t, .slice (some ⟨g, 0, none⟩) en cp, .int .i64 nx.n, .bool nx.i, .int .i64 nx.b, .int .i64 nx.t, .int .i64 nx.p, .int .i64 nx.s, .bool st, .slice (some ⟨j, 0, none⟩) 48 dj]) rfl rfl (by kernel_rfl) (by kernel_rfl) (by kernel_rfl) (fun _ _ _ h => h) (by rfl) ?_ hHeld ?_
  · (intro w' hSw; go_simp)
  (try simp only [Act.put]); (try simp only [List.setIfInBounds_toArray]); (try simp only [List.set_cons_succ]); (try simp only [List.set_cons_zero]); (try simp only [List.set_cons_succ]); (try simp only [List.set_cons_zero]); (try simp only [Nat.zero_add])
  obtain ⟨vs, hvl, CZ⟩ := J3.out.len (.tail _ (.tail _ (.tail _ (.head _))))
  have TH := hid_mk (by have h := CZ.there; rw [hvl] at h; exact h)
  have CE := hid_mk (CZ.sets (us := (col (⟨8, pc, 24, 24, t, en, nx, st, 48⟩ : Cv) (⟨b, d, b1, d1, b2, d2, some ⟨g, 0, none⟩, cp, some ⟨j, 0, none⟩, dj⟩ : Ca))) (by rw [hvl]; rfl))
  have HR := hid_mk (J3.out.roomE (.tail _ (.head _)))
  have HA := hid_mk (J3.out.ansS (.tail _ (.tail _ (.head _))))
  have HN : Hid ((intF j 48 r.J).p v3) := J3.out.at (f := intF j 48 r.J) (.head _)
  have HB := hid_mk J3.out.bel
  clear CZ
  have FR : Hid (∀ k, On b k ∨ On b1 k ∨ On b2 k → w.heap.size + 1 < k ∧ k ≠ g ∧ k ≠ j) := fun k hk => by have h1 := lS.out k hk; have h2 := uS.out k hk; omega
  have GJ : w.heap.size + 1 < g ∧ w.heap.size + 1 < j ∧ g ≠ j := by omega
  refine wpAnyH_ready (rs := [14]) (by kernel_rfl) (by simp) ?_
  refine AllReadyH.cons rfl (fun K hK => ?_) AllReadyH.nil
  refine step_stm (by rfl) 64 _ _ (by rfl) (w.heap.size + 1) 0 (col (⟨8, pc, 24, 24, t, en, nx, st, 48⟩ : Cv) (⟨b, d, b1, d1, b2, d2, some ⟨g, 0, none⟩, cp, some ⟨j, 0, none⟩, dj⟩ : Ca)).toArray (by rfl) (by rfl) TH.out sizeCor (col_one _ _) ?_
  refine hK.out _ _ (RZ.out (col (⟨8, pc, 24, 24, t, en, nx, st, 48⟩ : Cv) (⟨b, d, b1, d1, b2, d2, some ⟨g, 0, none⟩, cp, some ⟨j, 0, none⟩, dj⟩ : Ca)) _ rfl (J3.out.sub (gs := [lenF (w.heap.size + 1) 19, celF w.heap.size (col (⟨8, pc, 24, 24, t, en, nx, st, 48⟩ : Cv) (⟨ra, rc, wa, wc, ga, gc, some ⟨q, 0, none⟩, ec, some ⟨y, 0, none⟩, jc⟩ : Ca)), argCF w.heap.size (⟨8, pc, 24, 24, t, en, nx, st, 48⟩ : Cv) (⟨ra, rc, wa, wc, ga, gc, some ⟨q, 0, none⟩, ec, some ⟨y, 0, none⟩, jc⟩ : Ca) r]) (fun f hf => by simp only [List.mem_cons, List.not_mem_nil, or_false] at hf ⊢; rcases hf with rfl | rfl | rfl; exact .inr (.inr (.inr (.inl rfl))); exact .inr (.inr (.inr (.inr (.inl rfl)))); exact .inr (.inr (.inr (.inr (.inr rfl))))))) (fun hHeld => ?_)
  clear hK K
  refine wpAnyH_done (by kernel_rfl) ?_ _
  have K9 := hid_mk (KeepBut.setCells (b := w.heap.size + 1) (col (⟨8, pc, 24, 24, t, en, nx, st, 48⟩ : Cv) (⟨b, d, b1, d1, b2, d2, some ⟨g, 0, none⟩, cp, some ⟨j, 0, none⟩, dj⟩ : Ca)) 0 v3)
  have hlv := hid_mk (lv_cor CE.out.range)
  clear J3 hHeld RZ TH CE lS uS D0
  generalize v3.setCells (w.heap.size + 1) 0 (col (⟨8, pc, 24, 24, t, en, nx, st, 48⟩ : Cv) (⟨b, d, b1, d1, b2, d2, some ⟨g, 0, none⟩, cp, some ⟨j, 0, none⟩, dj⟩ : Ca)) = w9 at K9 hlv ⊢
  have G0 := hid_mk GJ
  clear GJ
  have AN : Hid (AnsS b b1 b2 8 24 24 r.R r.L r.G w9) := (ansSF b b1 b2 8 24 24 r.R r.L r.G).keep _ _ HA.out K9.out.size fun k hk ho => K9.out.block k hk (by have := FR.out k ho; omega)
  have RN : Hid (RoomE w9 g en cp r.E) := HR.out.ofBlock (K9.out.block g HR.out.lt (by have := G0.out; omega))
  have NN : Hid ((intF j 48 r.J).p w9) := ⟨HN.out.1.ofBlock K9.out.size (K9.out.block j HN.out.1.lt (by have := G0.out; omega)), HN.out.2⟩
  have BB := hid_mk (HB.out.trans (K9.out.below (B := w.heap.size) (by omega) HB.out.size))
  have G1 : Hid (w.heap.size ≤ g ∧ w.heap.size ≤ j ∧ g ≠ j) := by have := G0.out; exact ⟨by omega, by omega, this.2.2⟩
  have F1 : Hid (∀ k, On b k ∨ On b1 k ∨ On b2 k → w.heap.size ≤ k ∧ k ≠ g ∧ k ≠ j) := fun k hk => by have := FR.out k hk; exact ⟨by omega, this.2⟩
  clear HR HA HN HB K9 FR G0
  go_wp2
  refine bodyPost_ret (v := .agg (col (⟨8, pc, 24, 24, t, en, nx, st, 48⟩ : Cv) (⟨b, d, b1, d1, b2, d2, some ⟨g, 0, none⟩, cp, some ⟨j, 0, none⟩, dj⟩ : Ca)).toArray) (results_cell1 Tryz.results63 (by first | rfl | (simp; done)) hlv.out) rfl (HQ.out _ _ _ _ _ _ _ _ _ _ _ ⟨AN.out, RN.out, NN.out, F1.out, G1.out.1, G1.out.2.1, G1.out.2.2, BB.out⟩)
end Go.Proofs.YtpkhnajhamnggaaGreatDoor
