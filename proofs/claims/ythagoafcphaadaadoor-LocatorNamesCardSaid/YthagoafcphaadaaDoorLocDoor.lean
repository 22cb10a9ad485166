/-
  WHAT A ROW's LIST OF VARIABLES GIVES THE WALKS over layer 9; a start that fits the list; the wrap.
-/
import Derived.Test.YthagoafcphaadaaDoorLocWJ
import Derived.Test.YthagoafcphaadaaDoorTie
import Derived.Test.YthagoafcphaadaaDoorCards
import Derived.Lib.LaidU8
import Derived.Stop.LaidErr
import Derived.Deep.DeepLaidRun
import Derived.Deep.Strs
import Derived.HandedShaped
import Derived.Shelf.Vars
namespace Go.Proofs.YthagoafcphaadaaDoor
open Go.ChangeShapes Go.WideShapes Go.ChangeAt Go.RowKit Lo
set_option linter.unusedVariables false
set_option maxRecDepth 100000
/-- what the rows list -/
abbrev laidAll : List (String × DataW Unit) := [("math/bits.deBruijn32tab", Rows.laid_math_bits_deBruijn32tab), ("math/bits.deBruijn64tab", Rows.laid_math_bits_deBruijn64tab), ("internal/strconv.uint64pow10", Rows.laid_internal_strconv_uint64pow10), ("unicode/utf8.acceptRanges", Rows.laid_unicode_utf8_acceptRanges), ("strconv.ErrRange", Rows.laid_strconv_ErrRange), ("strconv.ErrSyntax", Rows.laid_strconv_ErrSyntax), ("gatepath/locator.classes", Rows.laid_gatepath_locator_classes), ("gatepath/locator.schemes", Rows.laid_gatepath_locator_schemes), ("unicode/utf8.first", Rows.laid_unicode_utf8_first)]
/-- what the row that reads no string lists -/
abbrev laidSmall : List (String × DataW Unit) := [("math/bits.deBruijn32tab", Rows.laid_math_bits_deBruijn32tab), ("math/bits.deBruijn64tab", Rows.laid_math_bits_deBruijn64tab), ("internal/strconv.uint64pow10", Rows.laid_internal_strconv_uint64pow10), ("unicode/utf8.acceptRanges", Rows.laid_unicode_utf8_acceptRanges), ("gatepath/locator.classes", Rows.laid_gatepath_locator_classes), ("gatepath/locator.schemes", Rows.laid_gatepath_locator_schemes), ("unicode/utf8.first", Rows.laid_unicode_utf8_first)]
theorem gEr : Tryd.prog.globalNamed "strconv.ErrRange" = some 4 := by kernel_rfl
theorem gEs : Tryd.prog.globalNamed "strconv.ErrSyntax" = some 3 := by kernel_rfl
theorem gErT : (Tryd.prog.globals[4]?).map (·.type) = some 73 := by kernel_rfl
theorem gEsT : (Tryd.prog.globals[3]?).map (·.type) = some 73 := by kernel_rfl
theorem starE : "*" ++ "errors.errorString" = "*errors.errorString" := by decide
theorem rowE (u : TypeId) (h : Tryd.prog.typeName? 3 u = some "*errors.errorString") : u = 126 :=
  typeName_ptr_named (nm := "errors.errorString") (by rw [starE]; kernel_rfl) (by kernel_rfl) (by decide) u (by rw [starE]; exact h)
theorem tab_of_laid {W : World} {l : List (String × DataW Unit)} {name : String} {k : IntKind} {zs : List Int} {g : Nat} {t e : TypeId} {n : Nat} (h : laidMet Tryd.prog l W) (hm : (name, Lib.tabData k zs) ∈ l)
    (hg : Tryd.prog.globalNamed name = some g) (hty : (Tryd.prog.globals[g]?).map (·.type) = some t) (ht : Tryd.prog.underlying t = some (.array n e)) (he : Tryd.prog.underlying e = some (.int k)) (hce : Tryd.prog.cellsOf e = 1) (hct : Tryd.prog.cellsOf t = n) : Lib.TabIs Tryd.prog W name k zs := by
  obtain ⟨g', t', cs, fuel, p, h1, h2, h3, h4⟩ := Lib.laidMet.reads h hm
  obtain rfl := Option.some.inj (hg.symm.trans h1)
  obtain rfl := Option.some.inj (hty.symm.trans h2)
  have := Lib.cells_of_tab ht he hce hct h4
  unfold Lib.TabIs
  rw [h3, ← this]
theorem tab10_eq : (Rows.laid_internal_strconv_uint64pow10 : DataW Unit) = Lib.tabData .u64 Lib.pow10Tab := by rfl
theorem chunks (size : Nat) : ∀ (n : Nat) (cs : List Value) (f : Nat → List Value), cs.length = n * size → (∀ i, i < n → (cs.drop (i * size)).take size = f i) → cs = (List.range n).flatMap f
  | 0, cs, f, h, _ => by
    have e : cs = [] := List.length_eq_zero_iff.1 (by omega)
    rw [e]; rfl
  | n + 1, cs, f, h, hf => by
    rw [Nat.add_mul, Nat.one_mul] at h
    have ih := chunks size n (cs.take (n * size)) f (by rw [List.length_take]; omega) (fun i hi => by
      have h1 := hf i (by omega)
      have h2 : i * size + size ≤ n * size := by
        have := Nat.mul_le_mul_right size (show i + 1 ≤ n by omega)
        rw [Nat.add_mul, Nat.one_mul] at this
        exact this
      rw [← h1, List.drop_take, List.take_take, Nat.min_eq_left (by omega)])
    have h3 := hf n (by omega)
    rw [List.take_of_length_le (by rw [List.length_drop]; omega)] at h3
    rw [List.range_succ, List.flatMap_append, ← ih]
    simp only [List.flatMap_cons, List.flatMap_nil, List.append_nil]
    rw [← h3, List.take_append_drop]
section
variable {H : Type} {enc : TypeId × Value → H} {W : World} {base : Nat} {spare : Nat → Bool} {held : Bool}
theorem lit_int {fuel : Nat} {t : TypeId} {k j : IntKind} {n : Int} {cs : List Value} {p : List MemPlace} (ht : Tryd.prog.underlying t = some (.int k)) (h : DataW.trod enc Tryd.prog W base spare held fuel t cs = some (.lit (.int j n), p)) : cs = [.int j n] := by
  obtain ⟨m, h1, h2, h3⟩ := DataW.trod_int ht h
  subst h1
  have h4 := congrArg Prod.fst h2
  simp only at h4
  injection h4 with h4
  injection h4 with h4 h5
  rw [← h4, ← h5]
theorem lit_str {fuel : Nat} {t : TypeId} {b : List UInt8} {cs : List Value} {p : List MemPlace} (ht : Tryd.prog.underlying t = some .string) (h : DataW.trod enc Tryd.prog W base spare held fuel t cs = some (.lit (.string b), p)) : cs = [.string (str b)] := by
  obtain ⟨z, h1, h2, h3⟩ := DataW.trod_string ht h
  subst h1
  have h4 := congrArg Prod.fst h2
  simp only at h4
  injection h4 with h4
  injection h4 with h4
  rw [h4, str_of]
theorem three_of {cs : List Value} {a b c : Value} (hl : cs.length = 3) (h0 : (cs.drop 0).take 1 = [a]) (h1 : (cs.drop 1).take 1 = [b]) (h2 : (cs.drop 2).take 1 = [c]) : cs = [a, b, c] := by
  match cs, hl with
  | [x, y, z], _ =>
    simp at h0 h1 h2
    rw [h0, h1, h2]
theorem two_of {cs : List Value} {a b : Value} (hl : cs.length = 2) (h0 : (cs.drop 0).take 1 = [a]) (h1 : (cs.drop 1).take 1 = [b]) : cs = [a, b] := by
  match cs, hl with
  | [x, y], _ =>
    simp at h0 h1
    rw [h0, h1]
theorem c5 : Tryd.prog.cellsOf 5 = 1 := by kernel_rfl
theorem c9 : Tryd.prog.cellsOf 9 = 1 := by kernel_rfl
theorem c3 : Tryd.prog.cellsOf 3 = 1 := by kernel_rfl
theorem c63 : Tryd.prog.cellsOf 58 = 1 := by kernel_rfl
theorem c87 : Tryd.prog.cellsOf 84 = 3 := by kernel_rfl
theorem c68 : Tryd.prog.cellsOf 64 = 2 := by kernel_rfl
theorem c88 : Tryd.prog.cellsOf 85 = 18 := by kernel_rfl
theorem c69 : Tryd.prog.cellsOf 65 = 6 := by kernel_rfl
theorem row_cls {fuel : Nat} {cs : List Value} {a b c : Int} {p : List MemPlace} (h : DataW.trod enc Tryd.prog W base spare held fuel 84 cs = some (.agg [.lit (.int .u8 a), .lit (.int .u8 b), .lit (.int .u8 c)], p)) : cs = [.int .u8 a, .int .u8 b, .int .u8 c] := by
  obtain ⟨y0, y1, y2, n, hx, hl, h0, h1, h2⟩ := Go.Deep.trod_struct3 Tryd.underlying84 h
  obtain ⟨d0, q0⟩ := y0
  obtain ⟨d1, q1⟩ := y1
  obtain ⟨d2, q2⟩ := y2
  have hx2 := congrArg Prod.fst hx
  simp only [DataW.agg.injEq, List.cons.injEq, and_true] at hx2
  obtain ⟨rfl, rfl, rfl⟩ := hx2
  rw [c87] at hl
  simp only [c5, c63] at h0 h1 h2
  exact three_of hl (lit_int Tryd.underlying5 h0) (lit_int Tryd.underlying5 h1) (lit_int Tryd.underlying58 h2)
theorem row_sch {fuel : Nat} {cs : List Value} {a : List UInt8} {b : Int} {p : List MemPlace} (h : DataW.trod enc Tryd.prog W base spare held fuel 64 cs = some (.agg [.lit (.string a), .lit (.int .i64 b)], p)) : cs = [.string (str a), .int .i64 b] := by
  obtain ⟨y0, y1, n, hx, hl, h0, h1⟩ := trod_struct2 Tryd.underlying64 h
  obtain ⟨d0, q0⟩ := y0
  obtain ⟨d1, q1⟩ := y1
  have hx2 := congrArg Prod.fst hx
  simp only [DataW.agg.injEq, List.cons.injEq, and_true] at hx2
  obtain ⟨rfl, rfl⟩ := hx2
  rw [c68] at hl
  simp only [c9, c3] at h0 h1
  exact two_of hl (lit_str Tryd.underlying9 h0) (lit_int Tryd.underlying3 h1)
end
/-- the block of a variable that reads so -/
theorem block_of_var {W : World} {name : String} {g : Nat} {cs : Array Value} (hg : Tryd.prog.globalNamed name = some g) (h3 : W.var? Tryd.prog name = some cs) : ∃ t fr, W.heap[g]? = some (.cells cs t fr) := by
  unfold World.var? at h3
  rw [hg, Option.bind_some] at h3
  cases hh : W.heap[g]? with
  | none => rw [hh] at h3; cases h3
  | some o =>
    rw [hh] at h3
    cases o with
    | cells cs' t fr =>
      refine ⟨t, fr, ?_⟩
      have h6 : cs' = cs := by simpa using h3
      rw [h6]
    | _ => simp at h3
def clsRow (i : Nat) : List Value := [[.int .u8 97, .int .u8 122, .int .u8 3], [.int .u8 65, .int .u8 90, .int .u8 2], [.int .u8 48, .int .u8 57, .int .u8 3], [.int .u8 45, .int .u8 45, .int .u8 3], [.int .u8 95, .int .u8 95, .int .u8 2], [.int .u8 46, .int .u8 46, .int .u8 2]].getD i []
def schRow (i : Nat) : List Value := [[.string (str []), .int .i64 0], [.string (str [114, 115, 121, 110, 99]), .int .i64 873], [.string (str [104, 116, 116, 112, 115]), .int .i64 443]].getD i []
theorem cls_of_laid {W : World} {l : List (String × DataW Unit)} (h : laidMet Tryd.prog l W) (hm : ("gatepath/locator.classes", (Rows.laid_gatepath_locator_classes : DataW Unit)) ∈ l) : ∃ t fr, W.heap[1]? = some (.cells clsCells t fr) := by
  obtain ⟨g', t', cs, fuel, p, h1, h2, h3, h4⟩ := Lib.laidMet.reads h hm
  have hg : Tryd.prog.globalNamed "gatepath/locator.classes" = some 1 := by kernel_rfl
  have hty : (Tryd.prog.globals[1]?).map (·.type) = some 85 := by kernel_rfl
  obtain rfl := Option.some.inj (hg.symm.trans h1)
  obtain rfl := Option.some.inj (hty.symm.trans h2)
  obtain ⟨xs, m, _, hx, hl, hxl, hf⟩ := DataW.trod_array Tryd.underlying85 h4
  have hx2 := congrArg Prod.fst hx
  rw [c88] at hl
  have hcs : cs.toList = (List.range 6).flatMap clsRow := by
    match xs, hxl, hx2, hf with
    | [(d0, q0), (d1, q1), (d2, q2), (d3, q3), (d4, q4), (d5, q5)], _, hx2, hf =>
      unfold Rows.laid_gatepath_locator_classes at hx2
      simp only [List.map_cons, List.map_nil, DataW.agg.injEq, List.cons.injEq, and_true] at hx2
      obtain ⟨rfl, rfl, rfl, rfl, rfl, rfl⟩ := hx2
      refine chunks 3 6 _ clsRow hl (fun i hi => ?_)
      have hi6 : i = 0 ∨ i = 1 ∨ i = 2 ∨ i = 3 ∨ i = 4 ∨ i = 5 := by omega
      rcases hi6 with rfl | rfl | rfl | rfl | rfl | rfl
      · exact row_cls (by have := hf 0 (by decide); rw [c87] at this; exact this)
      · exact row_cls (by have := hf 1 (by decide); rw [c87] at this; exact this)
      · exact row_cls (by have := hf 2 (by decide); rw [c87] at this; exact this)
      · exact row_cls (by have := hf 3 (by decide); rw [c87] at this; exact this)
      · exact row_cls (by have := hf 4 (by decide); rw [c87] at this; exact this)
      · exact row_cls (by have := hf 5 (by decide); rw [c87] at this; exact this)
  obtain ⟨t, fr, e⟩ := block_of_var hg h3
  have e2 : cs = clsCells := by
    apply Array.ext'
    rw [hcs]
    rfl
  rw [e2] at e
  exact ⟨t, fr, e⟩
theorem sch_of_laid {W : World} {l : List (String × DataW Unit)} (h : laidMet Tryd.prog l W) (hm : ("gatepath/locator.schemes", (Rows.laid_gatepath_locator_schemes : DataW Unit)) ∈ l) : ∃ t fr, W.heap[0]? = some (.cells schCells t fr) := by
  obtain ⟨g', t', cs, fuel, p, h1, h2, h3, h4⟩ := Lib.laidMet.reads h hm
  have hg : Tryd.prog.globalNamed "gatepath/locator.schemes" = some 0 := by kernel_rfl
  have hty : (Tryd.prog.globals[0]?).map (·.type) = some 65 := by kernel_rfl
  obtain rfl := Option.some.inj (hg.symm.trans h1)
  obtain rfl := Option.some.inj (hty.symm.trans h2)
  obtain ⟨xs, m, _, hx, hl, hxl, hf⟩ := DataW.trod_array Tryd.underlying65 h4
  have hx2 := congrArg Prod.fst hx
  rw [c69] at hl
  have hcs : cs.toList = (List.range 3).flatMap schRow := by
    match xs, hxl, hx2, hf with
    | [(d0, q0), (d1, q1), (d2, q2)], _, hx2, hf =>
      unfold Rows.laid_gatepath_locator_schemes at hx2
      simp only [List.map_cons, List.map_nil, DataW.agg.injEq, List.cons.injEq, and_true] at hx2
      obtain ⟨rfl, rfl, rfl⟩ := hx2
      refine chunks 2 3 _ schRow hl (fun i hi => ?_)
      have hi6 : i = 0 ∨ i = 1 ∨ i = 2 := by omega
      rcases hi6 with rfl | rfl | rfl
      · exact row_sch (by have := hf 0 (by decide); rw [c68] at this; exact this)
      · exact row_sch (by have := hf 1 (by decide); rw [c68] at this; exact this)
      · exact row_sch (by have := hf 2 (by decide); rw [c68] at this; exact this)
  obtain ⟨t, fr, e⟩ := block_of_var hg h3
  have e2 : cs = schCells := by
    apply Array.ext'
    rw [hcs]
    rfl
  rw [e2] at e
  exact ⟨t, fr, e⟩
/-- the settled world has a block for each variable -/
theorem big_of_shape {W : World} (hsh : W.ShapedOpen Tryd.prog) : 10 ≤ W.heap.size := by
  have h0 : ∃ zero t, ((begin Tryd.prog (fun _ _ => 0) default).world.heap[9]?).bind Obj.row? = some (zero, t) :=
    Option.isSome_iff_exists.1 (show (((begin Tryd.prog (fun _ _ => 0) default).world.heap[9]?).bind Obj.row?).isSome = true by kernel_rfl) |>.elim fun a h => ⟨a.1, a.2, h⟩
  obtain ⟨zero, t, h0⟩ := h0
  obtain ⟨cs, hh, _, _⟩ := hsh.1 9 zero t (of_decide_eq_true (by kernel_rfl)) h0
  have := (Array.getElem?_eq_some_iff.1 hh).1
  omega
theorem env_small {W : World} {l : List (String × DataW Unit)} (h : laidMet Tryd.prog l W) (hsh : W.ShapedOpen Tryd.prog) (mc : ("gatepath/locator.classes", (Rows.laid_gatepath_locator_classes : DataW Unit)) ∈ l) (ms : ("gatepath/locator.schemes", (Rows.laid_gatepath_locator_schemes : DataW Unit)) ∈ l) (m10 : ("internal/strconv.uint64pow10", (Rows.laid_internal_strconv_uint64pow10 : DataW Unit)) ∈ l) : LEnv false W := by
  have e10 : Lib.TabIs Tryd.prog W "internal/strconv.uint64pow10" .u64 Lib.pow10Tab := tab_of_laid (l := l) h (by rw [← tab10_eq]; exact m10) (g := 5) (by kernel_rfl) (t := 118) (by kernel_rfl) (e := 98) (n := 20) (by kernel_rfl) (by kernel_rfl) (by kernel_rfl) (by kernel_rfl)
  exact ⟨cls_of_laid h mc, sch_of_laid h ms, cell_of_shapedOpen_int (g := 2) (t := 3) (zero := #[.int .i64 0]) hsh (of_decide_eq_true (by kernel_rfl)) (by kernel_rfl) rfl (by kernel_rfl) (by kernel_rfl) Tryd.underlying3, e10, fun e => (by cases e), fun e => (by cases e), big_of_shape hsh⟩
theorem env_of_small {W : World} (h : laidMet Tryd.prog laidSmall W) (hsh : W.ShapedOpen Tryd.prog) : LEnv false W :=
  env_small h hsh (.tail _ (.tail _ (.tail _ (.tail _ (.head _))))) (.tail _ (.tail _ (.tail _ (.tail _ (.tail _ (.head _)))))) (.tail _ (.tail _ (.head _)))
/-- THE WALKS' WORLD, OUT OF THE LIST AND THE SHAPE -/
theorem env_of_laid {W : World} (h : laidMet Tryd.prog laidAll W) (hsh : W.ShapedOpen Tryd.prog) : LEnv true W := by
  have hE := env_small h hsh (.tail _ (.tail _ (.tail _ (.tail _ (.tail _ (.tail _ (.head _))))))) (.tail _ (.tail _ (.tail _ (.tail _ (.tail _ (.tail _ (.tail _ (.head _)))))))) (.tail _ (.tail _ (.head _)))
  obtain ⟨a1, s1, hv1, -, -, -⟩ := laid_sentinel h.tail.tail.tail.tail gEr gErT Tryd.underlying73 rowE Tryd.underlying126 Tryd.underlying128 rfl rfl Tryd.underlying9 (by kernel_rfl) (by kernel_rfl)
  obtain ⟨a0, s0, hv0, -, -, -⟩ := laid_sentinel h.tail.tail.tail.tail.tail gEs gEsT Tryd.underlying73 rowE Tryd.underlying126 Tryd.underlying128 rfl rfl Tryd.underlying9 (by kernel_rfl) (by kernel_rfl)
  obtain ⟨t0, f0, b0⟩ := block_of_var gEs hv0
  obtain ⟨t1, f1, b1⟩ := block_of_var gEr hv1
  exact ⟨hE.cl, hE.sc, hE.mx, hE.tab, fun _ => ⟨_, _, cell_of_block b0 rfl⟩, fun _ => ⟨_, _, cell_of_block b1 rfl⟩, hE.big⟩
/-! A start that fits the list -/
abbrev synS : ByteArray := { data := #[105, 110, 118, 97, 108, 105, 100, 32, 115, 121, 110, 116, 97, 120] }
abbrev rngS : ByteArray := { data := #[118, 97, 108, 117, 101, 32, 111, 117, 116, 32, 111, 102, 32, 114, 97, 110, 103, 101] }
def cellsOfLit : DataW Unit → List Value
  | .lit (.int k z) => [.int k z]
  | .lit (.string b) => [.string ⟨b.toArray⟩]
  | _ => []
def cellsOfRow : DataW Unit → List Value
  | .agg ds => ds.flatMap cellsOfLit
  | d => cellsOfLit d
def cellsOfTab : DataW Unit → Array Value
  | .agg ds => (ds.flatMap cellsOfRow).toArray
  | _ => #[]
/-- so many blocks has the settled world -/
noncomputable def low : Nat := (World.holding Tryd.prog default ⟨#[], #[], []⟩).heap.size
noncomputable def laidWorld (os : Os) : World :=
  let w0 := World.holding Tryd.prog os ⟨#[.cells #[.string synS] 128, .cells #[.string rngS] 128], #[], []⟩
  let put (h : Array Obj) (g : Nat) (cs : Array Value) : Array Obj := h.modify g fun
    | .cells _ t frozen => .cells cs t frozen
    | o => o
  let h1 := put w0.heap 8 (cellsOfTab Rows.laid_math_bits_deBruijn32tab)
  let h2 := put h1 9 (cellsOfTab Rows.laid_math_bits_deBruijn64tab)
  let h3 := put h2 5 (cellsOfTab Rows.laid_internal_strconv_uint64pow10)
  let h4 := put h3 7 (cellsOfTab Rows.laid_unicode_utf8_acceptRanges)
  let h5 := put h4 6 (cellsOfTab Rows.laid_unicode_utf8_first)
  let h6 := put h5 3 #[.iface 126 (.pointer (some ⟨low, 0, none⟩))]
  let h7 := put h6 4 #[.iface 126 (.pointer (some ⟨low + 1, 0, none⟩))]
  let h8 := put h7 1 (cellsOfTab Rows.laid_gatepath_locator_classes)
  let h9 := put h8 0 (cellsOfTab Rows.laid_gatepath_locator_schemes)
  { w0 with heap := h9 }
theorem laidWorld_met (os : Os) (args : Array Value) : laidMet Tryd.prog laidAll ((laidWorld os).forCall (fun _ _ => 0) ⟨#[], args, []⟩).memory :=
  laidMet_of_run3 8 (by kernel_rfl) (by kernel_rfl) (by kernel_rfl)
theorem laidWorld_small (os : Os) (args : Array Value) : laidMet Tryd.prog laidSmall ((laidWorld os).forCall (fun _ _ => 0) ⟨#[], args, []⟩).memory :=
  laidMet_of_run3 8 (by kernel_rfl) (by kernel_rfl) (by kernel_rfl)
end Go.Proofs.YthagoafcphaadaaDoor
