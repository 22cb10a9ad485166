/-
  WHAT A ROW's LIST OF VARIABLES GIVES THE WALKS; a start that fits the list; the wrap.
-/
import Derived.Test.YtlikgfmcialepaaGreatDoorTextA
import Derived.Test.YtlikgfmcialepaaGreatDoorNumOpen
import Derived.Test.YtlikgfmcialepaaGreatDoorTie
import Derived.Lib.LaidU8
import Derived.Stop.LaidErr
import Derived.Deep.DeepLaidRun
import Derived.HandedShaped
import Derived.Shelf.Vars
namespace Go.Proofs.YtlikgfmcialepaaGreatDoor
open Go.ChangeShapes Go.WideShapes Go.ChangeAt Go.RowKit Adr
set_option linter.unusedVariables false
set_option maxRecDepth 100000
/-- what the rows list -/
abbrev laidAll : List (String × DataW Unit) := [("math/bits.deBruijn32tab", Rows.laid_math_bits_deBruijn32tab), ("math/bits.deBruijn64tab", Rows.laid_math_bits_deBruijn64tab), ("internal/strconv.uint64pow10", Rows.laid_internal_strconv_uint64pow10), ("unicode/utf8.acceptRanges", Rows.laid_unicode_utf8_acceptRanges), ("strconv.ErrRange", Rows.laid_strconv_ErrRange), ("strconv.ErrSyntax", Rows.laid_strconv_ErrSyntax), ("unicode/utf8.first", Rows.laid_unicode_utf8_first)]
/-- what the rows list that read no string -/
abbrev laidSmall : List (String × DataW Unit) := [("math/bits.deBruijn32tab", Rows.laid_math_bits_deBruijn32tab), ("math/bits.deBruijn64tab", Rows.laid_math_bits_deBruijn64tab), ("internal/strconv.uint64pow10", Rows.laid_internal_strconv_uint64pow10)]
theorem gEr : Tryz.prog.globalNamed "strconv.ErrRange" = some 3 := by kernel_rfl
theorem gEs : Tryz.prog.globalNamed "strconv.ErrSyntax" = some 2 := by kernel_rfl
theorem gErT : (Tryz.prog.globals[3]?).map (·.type) = some 120 := by kernel_rfl
theorem gEsT : (Tryz.prog.globals[2]?).map (·.type) = some 120 := by kernel_rfl
theorem starE : "*" ++ "errors.errorString" = "*errors.errorString" := by decide
theorem rowE (u : TypeId) (h : Tryz.prog.typeName? 3 u = some "*errors.errorString") : u = 176 :=
  typeName_ptr_named (nm := "errors.errorString") (by rw [starE]; kernel_rfl) (by kernel_rfl) (by decide) u (by rw [starE]; exact h)
/-- an array of numbers that is listed anywhere -/
theorem tab_of_laid {W : World} {l : List (String × DataW Unit)} {name : String} {k : IntKind} {zs : List Int} {g : Nat} {t e : TypeId} {n : Nat} (h : laidMet Tryz.prog l W) (hm : (name, Lib.tabData k zs) ∈ l)
    (hg : Tryz.prog.globalNamed name = some g) (hty : (Tryz.prog.globals[g]?).map (·.type) = some t) (ht : Tryz.prog.underlying t = some (.array n e)) (he : Tryz.prog.underlying e = some (.int k)) (hce : Tryz.prog.cellsOf e = 1) (hct : Tryz.prog.cellsOf t = n) : Lib.TabIs Tryz.prog W name k zs := by
  obtain ⟨g', t', cs, fuel, p, h1, h2, h3, h4⟩ := Lib.laidMet.reads h hm
  obtain rfl := Option.some.inj (hg.symm.trans h1)
  obtain rfl := Option.some.inj (hty.symm.trans h2)
  have := Lib.cells_of_tab ht he hce hct h4
  unfold Lib.TabIs
  rw [h3, ← this]
def tab64L : List Int := [0, 1, 56, 2, 57, 49, 28, 3, 61, 58, 42, 50, 38, 29, 17, 4, 62, 47, 59, 36, 45, 43, 51, 22, 53, 39, 33, 30, 24, 18, 12, 5, 63, 55, 48, 27, 60, 41, 37, 16, 46, 35, 44, 21, 52, 32, 23, 11, 54, 26, 40, 15, 34, 20, 31, 10, 25, 14, 19, 9, 13, 8, 7, 6]
theorem tab64_eq : (Rows.laid_math_bits_deBruijn64tab : DataW Unit) = Lib.tabData .u8 tab64L := by rfl
theorem tab10_eq : (Rows.laid_internal_strconv_uint64pow10 : DataW Unit) = Lib.tabData .u64 Lib.pow10Tab := by rfl
/-- the settled world has a block for each variable -/
theorem big_of_shape {W : World} (hsh : W.ShapedOpen Tryz.prog) : 8 ≤ W.heap.size := by
  have h0 : ∃ zero t, ((begin Tryz.prog (fun _ _ => 0) default).world.heap[7]?).bind Obj.row? = some (zero, t) :=
    Option.isSome_iff_exists.1 (show (((begin Tryz.prog (fun _ _ => 0) default).world.heap[7]?).bind Obj.row?).isSome = true by kernel_rfl) |>.elim fun a h => ⟨a.1, a.2, h⟩
  obtain ⟨zero, t, h0⟩ := h0
  obtain ⟨cs, hh, _, _⟩ := hsh.1 7 zero t (of_decide_eq_true (by kernel_rfl)) h0
  have := (Array.getElem?_eq_some_iff.1 hh).1
  omega
/-- what all rows give -/
theorem env_small {W : World} {l : List (String × DataW Unit)} (h : laidMet Tryz.prog l W) (hsh : W.ShapedOpen Tryz.prog) (m64 : ("math/bits.deBruijn64tab", (Rows.laid_math_bits_deBruijn64tab : DataW Unit)) ∈ l) (m10 : ("internal/strconv.uint64pow10", (Rows.laid_internal_strconv_uint64pow10 : DataW Unit)) ∈ l) : Env false W := by
  have e64 : Lib.TabIs Tryz.prog W "math/bits.deBruijn64tab" .u8 tab64L := tab_of_laid (l := l) h (by rw [← tab64_eq]; exact m64) (g := 5) (by kernel_rfl) (t := 180) (by kernel_rfl) (e := 5) (n := 64) (by kernel_rfl) (by kernel_rfl) (by kernel_rfl) (by kernel_rfl)
  have e10 : Lib.TabIs Tryz.prog W "internal/strconv.uint64pow10" .u64 Lib.pow10Tab := tab_of_laid (l := l) h (by rw [← tab10_eq]; exact m10) (g := 1) (by kernel_rfl) (t := 159) (by kernel_rfl) (e := 22) (n := 20) (by kernel_rfl) (by kernel_rfl) (by kernel_rfl) (by kernel_rfl)
  refine ⟨?_, ?_, e10, fun e => (by cases e), fun e => (by cases e), big_of_shape hsh⟩
  · have := World.var?_cell (g := 5) (by kernel_rfl) e64 15
    rw [this]; rfl
  · exact cell_of_shapedOpen_int (g := 0) (t := 3) (zero := #[.int .i64 0]) hsh (of_decide_eq_true (by kernel_rfl)) (by kernel_rfl) rfl (by kernel_rfl) (by kernel_rfl) Tryz.underlying3
theorem env_of_small {W : World} (h : laidMet Tryz.prog laidSmall W) (hsh : W.ShapedOpen Tryz.prog) : Env false W :=
  env_small h hsh (List.Mem.tail _ (List.Mem.head _)) (List.Mem.tail _ (List.Mem.tail _ (List.Mem.head _)))
/-- THE WALKS' WORLD, OUT OF THE LIST AND THE SHAPE -/
theorem env_of_laid {W : World} (h : laidMet Tryz.prog laidAll W) (hsh : W.ShapedOpen Tryz.prog) : Env true W := by
  have hE := env_small h hsh (List.Mem.tail _ (List.Mem.head _)) (List.Mem.tail _ (List.Mem.tail _ (List.Mem.head _)))
  obtain ⟨a1, s1, hv1, -, -, -⟩ := laid_sentinel h.tail.tail.tail.tail gEr gErT Tryz.underlying120 rowE Tryz.underlying176 Tryz.underlying178 rfl rfl Tryz.underlying9 (by kernel_rfl) (by kernel_rfl)
  obtain ⟨a0, s0, hv0, -, -, -⟩ := laid_sentinel h.tail.tail.tail.tail.tail gEs gEsT Tryz.underlying120 rowE Tryz.underlying176 Tryz.underlying178 rfl rfl Tryz.underlying9 (by kernel_rfl) (by kernel_rfl)
  exact ⟨hE.tz, hE.mx, hE.tab, fun _ => ⟨_, _, hv0⟩, fun _ => ⟨_, _, hv1⟩, hE.big⟩
/-! A start that fits the list -/
abbrev synS : ByteArray := { data := #[105, 110, 118, 97, 108, 105, 100, 32, 115, 121, 110, 116, 97, 120] }
abbrev rngS : ByteArray := { data := #[118, 97, 108, 117, 101, 32, 111, 117, 116, 32, 111, 102, 32, 114, 97, 110, 103, 101] }
/-- the cells of a datum that is an array of numbers, or of pairs of numbers -/
def cellsOfLit : DataW Unit → List Value
  | .lit (.int k z) => [.int k z]
  | _ => []
def cellsOfRow : DataW Unit → List Value
  | .agg ds => ds.flatMap cellsOfLit
  | d => cellsOfLit d
def cellsOfTab : DataW Unit → Array Value
  | .agg ds => (ds.flatMap cellsOfRow).toArray
  | _ => #[]
/-- so many blocks has the settled world -/
noncomputable def low : Nat := (World.holding Tryz.prog default ⟨#[], #[], []⟩).heap.size
noncomputable def laidWorld (os : Os) : World :=
  let w0 := World.holding Tryz.prog os ⟨#[.cells #[.string synS] 178, .cells #[.string rngS] 178], #[], []⟩
  let put (h : Array Obj) (g : Nat) (cs : Array Value) : Array Obj := h.modify g fun
    | .cells _ t frozen => .cells cs t frozen
    | o => o
  let h1 := put w0.heap 4 (cellsOfTab Rows.laid_math_bits_deBruijn32tab)
  let h2 := put h1 5 (cellsOfTab Rows.laid_math_bits_deBruijn64tab)
  let h3 := put h2 1 (cellsOfTab Rows.laid_internal_strconv_uint64pow10)
  let h4 := put h3 7 (cellsOfTab Rows.laid_unicode_utf8_acceptRanges)
  let h5 := put h4 6 (cellsOfTab Rows.laid_unicode_utf8_first)
  let h6 := put h5 2 #[.iface 176 (.pointer (some ⟨low, 0, none⟩))]
  let h7 := put h6 3 #[.iface 176 (.pointer (some ⟨low + 1, 0, none⟩))]
  { w0 with heap := h7 }
theorem laidWorld_met (os : Os) (args : Array Value) : laidMet Tryz.prog laidAll ((laidWorld os).forCall (fun _ _ => 0) ⟨#[], args, []⟩).memory :=
  laidMet_of_run3 8 (by kernel_rfl) (by kernel_rfl) (by kernel_rfl)
theorem laidWorld_small (os : Os) (args : Array Value) : laidMet Tryz.prog laidSmall ((laidWorld os).forCall (fun _ _ => 0) ⟨#[], args, []⟩).memory :=
  laidMet_of_run3 8 (by kernel_rfl) (by kernel_rfl) (by kernel_rfl)
end Go.Proofs.YtlikgfmcialepaaGreatDoor
