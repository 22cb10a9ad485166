import Derived.Test.YtcgffkkfeimifaaGreatDoorDigAll
import Derived.Test.YtcgffkkfeimifaaGreatDoorTie
import Derived.Lib.LaidU8
import Derived.Stop.LaidErr
import Derived.Deep.DeepLaidRun
import Derived.HandedShaped
import Derived.Shelf.Vars
import Derived.ChangeSlices
import Derived.ReadAgain
namespace Go.Proofs.YtcgffkkfeimifaaGreatDoor
open Go.ChangeShapes Go.WideShapes Go.ChangeAt Go.RowKit Go.Joins
set_option linter.unusedVariables false
set_option maxRecDepth 100000
abbrev laidDig : List (String × DataW Unit) := [("gatepath/digest.beginning", Rows.laid_gatepath_digest_beginning), ("gatepath/digest.constants", Rows.laid_gatepath_digest_constants)]
theorem tabDig {W : World} {name : String} {zs : List Int} {g : Nat} {t : TypeId} {n : Nat} (h : laidMet Tryz.prog laidDig W) (hm : (name, Lib.tabData .u32 zs) ∈ laidDig)
  (hg : Tryz.prog.globalNamed name = some g) (hty : (Tryz.prog.globals[g]?).map (·.type) = some t) (ht : Tryz.prog.underlying t = some (.array n 169)) (hct : Tryz.prog.cellsOf t = n) : ∃ t fr, W.heap[g]? = some (.cells (zs.map fun z => Value.int .u32 z).toArray t fr) := by
 obtain ⟨g', t', cs, fuel, p, h1, h2, h3, h4⟩ := Lib.laidMet.reads h hm
 obtain rfl := Option.some.inj (hg.symm.trans h1)
 obtain rfl := Option.some.inj (hty.symm.trans h2)
 have h5 := Lib.cells_of_tab ht Tryz.underlying169 (by kernel_rfl) hct h4
 unfold World.var? at h3
 rw [hg, Option.bind_some] at h3
 cases hh : W.heap[g]? with
 | none => rw [hh] at h3; cases h3
 | some o =>
  rw [hh] at h3
  cases o with
  | cells cs' t fr =>
   refine ⟨t, fr, ?_⟩
   have h6 : cs' = cs := by simpa using h3
   rw [h6, ← h5]
  | _ => simp at h3
theorem tab_beg : (Rows.laid_gatepath_digest_beginning : DataW Unit) = Lib.tabData .u32 (Sha.start.list.map Sha.u) := by rfl
theorem tab_con : (Rows.laid_gatepath_digest_constants : DataW Unit) = Lib.tabData .u32 (Sha.K.map Sha.u) := by rfl
theorem wcells_eq (l : List UInt32) : ((l.map Sha.u).map fun z => Value.int .u32 z).toArray = wcells l := by
 unfold wcells
 rw [List.map_map]
 rfl
theorem denv_of_laid {W : World} (h : laidMet Tryz.prog laidDig W) : DEnv W := by
 constructor
 ·
  obtain ⟨t, fr, e⟩ := tabDig (zs := Sha.start.list.map Sha.u) h (by rw [← tab_beg]; exact List.Mem.head _) (g := 0) (by kernel_rfl) (t := 176) (by kernel_rfl) (n := 8) (by kernel_rfl) (by kernel_rfl)
  rw [wcells_eq] at e
  exact ⟨t, fr, e⟩
 ·
  obtain ⟨t, fr, e⟩ := tabDig (zs := Sha.K.map Sha.u) h (by rw [← tab_con]; exact List.Mem.tail _ (List.Mem.head _)) (g := 1) (by kernel_rfl) (t := 170) (by kernel_rfl) (n := 64) (by kernel_rfl) (by kernel_rfl)
  rw [wcells_eq] at e
  exact ⟨t, fr, e⟩
def cellsLit : DataW Unit → List Value
 | .lit (.int k z) => [.int k z]
 | _ => []
def cellsTab : DataW Unit → Array Value
 | .agg ds => (ds.flatMap cellsLit).toArray
 | _ => #[]
noncomputable def laidWorldD (os : Os) : World :=
 let w0 := World.holding Tryz.prog os ⟨#[], #[], []⟩
 let put (h : Array Obj) (g : Nat) (cs : Array Value) : Array Obj := h.modify g fun
  | .cells _ t frozen => .cells cs t frozen
  | o => o
 let h1 := put w0.heap 0 (cellsTab Rows.laid_gatepath_digest_beginning)
 let h2 := put h1 1 (cellsTab Rows.laid_gatepath_digest_constants)
 { w0 with heap := h2 }
theorem laidWorldD_met (os : Os) (args : Array Value) : laidMet Tryz.prog laidDig ((laidWorldD os).forCall (fun _ _ => 0) ⟨#[], args, []⟩).memory :=
 laidMet_of_run3 8 (by kernel_rfl) (by kernel_rfl) (by kernel_rfl)
section
variable {H : Type} {enc : TypeId × Value → H}
theorem returns_laid {a : Assume} {C : Checked} {os : Os} {f : FuncId} {fn : Func} {s : ChangeSpec} {conds : List PathCond} {apart fresh handsOn again : Bool} {X : World → Prop}
  (hX : ∀ (w w' : World), w.heap = w'.heap → X w → X w')
  (own : ownKnob C.prog.godebug = none) (started : os.Started) (noInit : C.prog.inits.idxOf? f = none) (hfn : C.prog.funcs[f]? = some fn)
  (witness : ∃ (w : World) (tape : Tape) (i : Input), w.os = os ∧ (w.forCall tape i).Shaped C.prog ∧ i.vars = [] ∧ Input.okWide C.prog (w.forCall tape i) .any w.heap.size f i ∧
   ((s.pre enc C.prog fn conds apart (w.forCall tape i).memory i.args ∧ X (w.forCall tape i).memory) ∧ sizedMet enc C.prog fn (OpenSpec.ofChange s) apart (w.forCall tape i).memory i.args) ∧ a.holds C.prog (lone (Frame.enter C.prog f i.args .normal) [] (w.forCall tape i)))
  (walk : ∀ (W : World) (base : Nat) (args : Array Value) (ds gs : List (DataW H)) (before : List MemPlace),
   (∀ (j : Nat) t v, fn.params[j]? = some t → args[j]? = some v → Value.okWide C.prog W .any base t v) →
   DataW.Whole enc C.prog fn.params.toList s.vars apart W args.toList ds gs before → X W → W.ShapedOpen C.prog →
   Calls C.prog f args W fun e W' => ∃ v, e = .returned v ∧ s.post enc C.prog fn apart fresh handsOn again W args v W') :
  ReturnsInHanded a C os f .any (fun w args => (s.pre enc C.prog fn conds apart w args ∧ X w) ∧ sizedMet enc C.prog fn (OpenSpec.ofChange s) apart w args) (s.post enc C.prog fn apart fresh handsOn again) := by
 refine returnsInHanded_of_calls own started noInit witness ?_
 rintro w tape i _ hsh _ ⟨_, _, _, fn2, hfn2, _, _, _, _, hval⟩ ⟨⟨⟨ds, gs, before, hw, _⟩, hx⟩, _⟩ _
 cases hfn2.symm.trans hfn
 refine (walk (w.forCall tape i) w.heap.size i.args ds gs before hval (hw.of_heap (by rfl)) (hX _ _ (by rfl) hx) hsh).mono ?_
 rintro e W' ⟨v, rfl, hp⟩
 exact ChangeSpec.post_blind hp
end
end Go.Proofs.YtcgffkkfeimifaaGreatDoor
