/- What the lists of these rows give a walk: the names of the ops, the powers of ten, the errors; a world that meets the lists. -/
import Derived.Test.YtdcghcbliajcpaaDoorRows
import Derived.Test.YtdcghcbliajcpaaDoorLay7
import Derived.ChangeSame
import Derived.ChangeVars
import Derived.JoinedOf
import Derived.RowKit
import Derived.RowKitTokens
import Derived.LaidLaws
import Derived.Lib.LaidTab
import Derived.Stop.ErrReads
import Derived.Stop.LaidErr
import Derived.MakeChecks
namespace Go.Proofs.YtdcghcbliajcpaaDoor
open Go.ChangeShapes Go.WideShapes Go.ChangeAt Go.RowKit
set_option maxRecDepth 100000

theorem cellsE : Tryd.prog.cellsOf 140 = 1 := by kernel_rfl
theorem cellsS : Tryd.prog.cellsOf 9 = 1 := by kernel_rfl
theorem cellsA : Tryd.prog.cellsOf 49 = 16 := by kernel_rfl

/-- An array of strings that reads as a list of texts holds them, cell for cell. -/
theorem cells_of_texts {H : Type} {enc : TypeId × Value → H} {P : Program} {w : World} {base : Nat} {sp : Nat → Bool} {held : Bool} {fuel : Nat} {t e : TypeId} {n : Nat} {cs : List Value} {zs : List (List UInt8)} {p : List MemPlace}
    (ht : P.underlying t = some (.array n e)) (he : P.underlying e = some .string) (hce : P.cellsOf e = 1) (hct : P.cellsOf t = n)
    (h : DataW.trod enc P w base sp held fuel t cs = some (.agg (zs.map fun z => .lit (.string z)), p)) : cs = zs.map fun z => Value.string (bs z) := by
  cases fuel with
  | zero => simp [DataW.trod] at h
  | succ fuel =>
    simp only [DataW.trod, ht, hce, hct, Nat.mul_one] at h
    split at h
    · rename_i hl
      obtain ⟨xs, hm, hx⟩ := Option.map_eq_some_iff.1 h
      have hxs : xs.map (·.1) = zs.map fun z => (DataW.lit (.string z) : DataW H) := by
        have := congrArg Prod.fst hx
        simpa using this
      have hxl : xs.length = n := by simpa using Lib.mapM_length hm
      have hzl : zs.length = n := by
        have := congrArg List.length hxs
        simp at this
        omega
      apply List.ext_getElem?
      intro i
      by_cases hi : i < n
      · obtain ⟨b, hb, hf⟩ := Lib.mapM_at hm i i (by simp [hi])
        obtain ⟨s, hc, rfl, _⟩ := DataW.trod_string he hf
        have h1 : cs[i]? = some (.string s) := by
          have := congrArg (·[0]?) hc
          simpa [List.getElem?_take, List.getElem?_drop] using this
        have h2 : (xs.map (·.1))[i]? = some (DataW.lit (.string s.data.toList) : DataW H) := by simp [hb]
        rw [hxs] at h2
        simp only [List.getElem?_map, Option.map_eq_some_iff, DataW.lit.injEq, Lit.string.injEq] at h2
        obtain ⟨z', hz', e'⟩ := h2
        have e2 : bs z' = s := by rw [e', bs_data]
        simp [h1, hz', e2]
      · rw [List.getElem?_eq_none (by omega), List.getElem?_eq_none (by simp; omega)]
    · cases h

/-- The names as a list. -/
def nms : List (List UInt8) := (List.range 16).map fun i : Nat => nmL (i : Int)
theorem nms_at : ∀ i : Nat, i < 16 → nms[i]? = some (nmL (i : Int)) := fun i hi => by simp [nms, hi]
theorem names_in {n : String} {d : DataW Unit} {r : List (String × DataW Unit)} {W : World} (h : laidMet Tryd.prog ((n, d) :: r) W) (hg : Tryd.prog.globalNamed n = some 0) (hd : d = .agg (nms.map fun z => .lit (.string z))) :
    ∀ i, i < 16 → W.cell? ⟨0, i, none⟩ = some (.string (bs (nmL (i : Int)))) := by
  obtain ⟨ps, ⟨g', t', cs, fuel, p, q, hg', ht', hvar, hdd, _, _⟩, _⟩ := h
  obtain rfl := Option.some.inj (hg.symm.trans hg')
  obtain rfl := Option.some.inj ((show (Tryd.prog.globals[0]?).map (·.type) = some 49 by kernel_rfl).symm.trans ht')
  rw [hd] at hdd
  have hc := cells_of_texts Tryd.underlying49 Tryd.underlying9 cellsS cellsA hdd
  intro i hi
  have h1 := World.var?_cell hg hvar i
  obtain ⟨l⟩ := cs
  simp only at hc
  subst hc
  rw [h1]
  simp [nms_at i hi]

/-- The tables and the three errors. -/
structure LayE (a : Addr) (w : World) : Prop where
  lay : Lay w
  err : w.cell? ⟨1, 0, none⟩ = some (.iface 138 (.pointer (some a)))
  syn : ∃ p, w.cell? ⟨3, 0, none⟩ = some (.iface 138 p)
  rng : ∃ p, w.cell? ⟨4, 0, none⟩ = some (.iface 138 p)
theorem LayE.below {a : Addr} {w w' : World} (h : LayE a w) (hb : Below w.heap.size w w') : LayE a w' :=
  ⟨h.lay.below hb, (hb.cell (World.block_lt_of_cell? _ _ h.err)).trans h.err, h.syn.imp fun _ k => (hb.cell (World.block_lt_of_cell? _ _ k)).trans k, h.rng.imp fun _ k => (hb.cell (World.block_lt_of_cell? _ _ k)).trans k⟩
theorem LayE.alloc {a : Addr} {w : World} (h : LayE a w) (o : Obj) : LayE a (w.alloc o) := h.below ((Below.refl _ _).alloc (Nat.le_refl _) _)
theorem LayE.drew {a : Addr} {w : World} (h : LayE a w) : LayE a w.drew := h.below (Below.refl _ _).drew

theorem tab_in {d : DataW Unit} {r : List (String × DataW Unit)} {W : World} (h : laidMet Tryd.prog (("internal/strconv.uint64pow10", d) :: r) W) (hd : d = Lib.tabData .u64 Lib.pow10Tab) : Lib.TabIs Tryd.prog W "internal/strconv.uint64pow10" .u64 Lib.pow10Tab := by
  subst hd
  exact Lib.tabIs_of_head (g := 2) (t := 116) (e := 109) (n := 20) (by kernel_rfl) (by kernel_rfl) Tryd.underlying116 Tryd.underlying109 (by kernel_rfl) (by kernel_rfl) h
theorem sent_in {n nm : String} {text : List UInt8} {r : List (String × DataW Unit)} {W : World} {g : Nat} (h : laidMet Tryd.prog ((n, .iface nm (.ptr (.agg [.lit (.string text)]))) :: r) W) (hg : Tryd.prog.globalNamed n = some g) (ht : (Tryd.prog.globals[g]?).map (·.type) = some 95)
    (hn : some nm = Tryd.prog.typeName? 3 138) : ∃ a : Addr, W.cell? ⟨g, 0, none⟩ = some (.iface 138 (.pointer (some a))) := by
  obtain ⟨a, s, hv, -, -, -⟩ := laid_sentinel h hg ht Tryd.underlying95 (fun u hu => typeName_ptr_named (nm := "errors.errorString") (by kernel_rfl) (by kernel_rfl) (by decide) u (hu.trans (hn.trans (by kernel_rfl)))) Tryd.underlying138 Tryd.underlying140 rfl rfl Tryd.underlying9 cellsE cellsS
  exact ⟨a, by simpa using World.var?_cell hg hv 0⟩

/-- What the list of four gives. -/
theorem lay_in {W : World} (h : laidMet Tryd.prog Rows.fnExactInsTextRow.laid W) : Lay W :=
  ⟨names_in h.tail.tail.tail (by kernel_rfl) (by kernel_rfl), tab_in h.tail.tail (by kernel_rfl)⟩
/-- What the list of seven gives. -/
theorem layE_in {W : World} (h : laidMet Tryd.prog Rows.fnExactInsReadRow.laid W) : ∃ a, LayE a W := by
  obtain ⟨a, ha⟩ := sent_in h.tail.tail.tail.tail.tail.tail (g := 1) (by kernel_rfl) (by kernel_rfl) (by kernel_rfl)
  obtain ⟨b, hb⟩ := sent_in h.tail.tail.tail.tail (g := 3) (by kernel_rfl) (by kernel_rfl) (by kernel_rfl)
  obtain ⟨c, hc⟩ := sent_in h.tail.tail.tail (g := 4) (by kernel_rfl) (by kernel_rfl) (by kernel_rfl)
  exact ⟨a, ⟨names_in h.tail.tail.tail.tail.tail (by kernel_rfl) (by kernel_rfl), tab_in h.tail.tail (by kernel_rfl)⟩, ha, ⟨_, hb⟩, ⟨_, hc⟩⟩

/-- Where new blocks begin. -/
noncomputable def low : Nat := (World.holding Tryd.prog default ⟨#[], #[], []⟩).heap.size
def put (g : Nat) (cs : Array Value) (h : Array Obj) : Array Obj := h.modify g fun
  | .cells _ t frozen => .cells cs t frozen
  | o => o
/-- A world that meets the lists. -/
noncomputable def laidWorld (os : Os) : World :=
  let w0 := World.holding Tryd.prog os ⟨#[.cells #[.string { data := #[116, 104, 101, 32, 116, 101, 120, 116, 32, 111, 102, 32, 110, 111, 110, 101] }] 140, .cells #[.string { data := #[105, 110, 118, 97, 108, 105, 100, 32, 115, 121, 110, 116, 97, 120] }] 140, .cells #[.string { data := #[118, 97, 108, 117, 101, 32, 111, 117, 116, 32, 111, 102, 32, 114, 97, 110, 103, 101] }] 140], #[], []⟩
  { w0 with heap := (put 1 #[.iface 138 (.pointer (some ⟨low, 0, none⟩))]
      (put 3 #[.iface 138 (.pointer (some ⟨low + 1, 0, none⟩))]
      (put 4 #[.iface 138 (.pointer (some ⟨low + 2, 0, none⟩))]
      (put 0 #[.string { data := #[] }, .string { data := #[115, 101, 116] }, .string { data := #[97, 100, 100] }, .string { data := #[109, 111, 118, 101] }, .string { data := #[119, 101, 97, 107] }, .string { data := #[98, 111, 117, 110, 100] }, .string { data := #[112, 111, 105, 110, 116] }, .string { data := #[115, 101, 97, 108] }, .string { data := #[111, 112, 101, 110] }, .string { data := #[105, 115] }, .string { data := #[108, 111, 97, 100] }, .string { data := #[115, 116, 111, 114, 101] }, .string { data := #[106, 117, 109, 112] }, .string { data := #[122, 101, 114, 111] }, .string { data := #[103, 111, 110, 101] }, .string { data := #[104, 97, 108, 116] }]
      (put 2 #[.int .u64 1, .int .u64 10, .int .u64 100, .int .u64 1000, .int .u64 10000, .int .u64 100000, .int .u64 1000000, .int .u64 10000000, .int .u64 100000000, .int .u64 1000000000, .int .u64 10000000000, .int .u64 100000000000, .int .u64 1000000000000, .int .u64 10000000000000, .int .u64 100000000000000, .int .u64 1000000000000000, .int .u64 10000000000000000, .int .u64 100000000000000000, .int .u64 1000000000000000000, .int .u64 10000000000000000000]
      (put 5 #[.int .u8 0, .int .u8 1, .int .u8 28, .int .u8 2, .int .u8 29, .int .u8 14, .int .u8 24, .int .u8 3, .int .u8 30, .int .u8 22, .int .u8 20, .int .u8 15, .int .u8 25, .int .u8 17, .int .u8 4, .int .u8 8, .int .u8 31, .int .u8 27, .int .u8 13, .int .u8 23, .int .u8 21, .int .u8 19, .int .u8 16, .int .u8 7, .int .u8 26, .int .u8 12, .int .u8 18, .int .u8 6, .int .u8 11, .int .u8 5, .int .u8 10, .int .u8 9]
      (put 6 #[.int .u8 0, .int .u8 1, .int .u8 56, .int .u8 2, .int .u8 57, .int .u8 49, .int .u8 28, .int .u8 3, .int .u8 61, .int .u8 58, .int .u8 42, .int .u8 50, .int .u8 38, .int .u8 29, .int .u8 17, .int .u8 4, .int .u8 62, .int .u8 47, .int .u8 59, .int .u8 36, .int .u8 45, .int .u8 43, .int .u8 51, .int .u8 22, .int .u8 53, .int .u8 39, .int .u8 33, .int .u8 30, .int .u8 24, .int .u8 18, .int .u8 12, .int .u8 5, .int .u8 63, .int .u8 55, .int .u8 48, .int .u8 27, .int .u8 60, .int .u8 41, .int .u8 37, .int .u8 16, .int .u8 46, .int .u8 35, .int .u8 44, .int .u8 21, .int .u8 52, .int .u8 32, .int .u8 23, .int .u8 11, .int .u8 54, .int .u8 26, .int .u8 40, .int .u8 15, .int .u8 34, .int .u8 20, .int .u8 31, .int .u8 10, .int .u8 25, .int .u8 14, .int .u8 19, .int .u8 9, .int .u8 13, .int .u8 8, .int .u8 7, .int .u8 6] w0.heap))))))) }
theorem laidWorld_met (os : Os) (args : Array Value) : laidMet Tryd.prog Rows.fnExactInsReadRow.laid ((laidWorld os).forCall (fun _ _ => 0) ⟨#[], args, []⟩).memory :=
  laidMet_of_run' 8 (by kernel_rfl) (by kernel_rfl)
theorem laidWorld_met4 (os : Os) (args : Array Value) : laidMet Tryd.prog Rows.fnExactInsTextRow.laid ((laidWorld os).forCall (fun _ _ => 0) ⟨#[], args, []⟩).memory :=
  laidMet_of_run' 8 (by kernel_rfl) (by kernel_rfl)
end Go.Proofs.YtdcghcbliajcpaaDoor
