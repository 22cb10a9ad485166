import Derived.Test.YthfgdgcdicacpaaLawKit
namespace Go.Proofs.Ythfgdgcdicacpaa
open Go.ChangeShapes Go.WideShapes Go.ChangeAt Go.RowKit
set_option linter.unusedVariables false
set_option linter.unusedSimpArgs false
set_option maxRecDepth 100000
section
variable {H : Type} {enc : TypeId × Value → H}
theorem trodAll_dlen14 {P : Program} {w : World} {base : Nat} {spare : Nat → Bool} {held : Bool} : ∀ (ts : List TypeId) (vs : List Value) (ds : List (DataW H)) (ps : List MemPlace), DataW.TrodAll enc P w base spare held ts vs ds ps → ds.length = ts.length
 | [], [], [], _, _ => rfl
 | t :: ts, v :: vs, d :: ds, _, h => by
  obtain ⟨p, q, _, h2, _⟩ := h
  rw [List.length_cons, List.length_cons, trodAll_dlen14 ts vs ds q h2]
 | [], [], _ :: _, _, h => h.elim
 | [], _ :: _, _, _, h => by cases ‹List (DataW H)› <;> exact h.elim
 | _ :: _, [], _, _, h => by cases ‹List (DataW H)› <;> exact h.elim
 | _ :: _, _ :: _, [], _, h => h.elim
theorem sized_of_change14 {C : Checked} {os : Os} {f : FuncId} {fn : Func} {s : ChangeSpec}
  (own : ownKnob C.prog.godebug = none) (started : os.Started) (noInit : C.prog.inits.idxOf? f = none) (hfn : C.prog.funcs[f]? = some fn) (hvs : s.vars = [])
  (witness : ∃ (w : World) (tape : Tape) (i : Input), w.os = os ∧ (w.forCall tape i).Shaped C.prog ∧ i.vars = [] ∧ Input.okWide C.prog (w.forCall tape i) .any w.heap.size f i ∧
   s.pre6 enc C.prog fn [] false (w.forCall tape i).memory i.args ∧ ({} : Assume).holds C.prog (lone (Frame.enter C.prog f i.args .normal) [] (w.forCall tape i)))
  (contract : ∀ (W : World) (base : Nat) (args : Array Value) (ds gs : List (DataW H)) (before : List MemPlace),
   (∀ (j : Nat) t v, fn.params[j]? = some t → args[j]? = some v → Value.okWide C.prog W .any base t v) →
   DataW.Whole enc C.prog fn.params.toList s.vars false W args.toList ds gs before →
   (∀ n ∈ DataW.weightsEach C.prog fn.params.toList ds, n ≤ 140737488355328) →
   Calls C.prog f args W fun e W' => ∃ v, e = .returned v ∧ s.post enc C.prog fn false true false false W args v W') :
  ReturnsInHanded {} C os f .any (s.pre6 enc C.prog fn [] false) (s.post enc C.prog fn false true false false) := by
 refine returnsInHanded_of_calls own started noInit witness ?_
 intro w tape i _ _ _ hok hpre hholds
 obtain ⟨_, _, _, fn', hfn', _, _, _, _, hval⟩ := hok
 have e : fn' = fn := Option.some.inj (hfn'.symm.trans hfn)
 subst e
 obtain ⟨_, _, ds, gs, before, hw, hsz⟩ := hpre
 have hwl : DataW.TrodAll enc C.prog (w.forCall tape i).memory 0 (fun _ => true) true fn'.params.toList i.args.toList ds hw.choose := hw.choose_spec.choose_spec.1
 have hw' := DataW.Whole.of_heap (w' := w.forCall tape i) (by rfl) hw
 refine (contract (w.forCall tape i) w.heap.size i.args ds gs before hval hw' (fun n hn => ?_)).mono fun e W' ⟨v, he, hp⟩ => ?_
 ·
  have h1 := List.all_eq_true.1 hsz
  have h2 : ∀ (ts us : List TypeId) (a b : List (DataW H)), a.length = ts.length → ∀ n ∈ DataW.weightsEach C.prog ts a, n ∈ DataW.weightsEach C.prog (ts ++ us) (a ++ b) := fun ts => by
   induction ts with
   | nil => intro us a b _ n hn; rw [DataW.weightsEach] at hn; cases hn; intro _ _ _ _ h; cases h
   | cons t r ih =>
    intro us a b ha n hn
    match a, ha with
    | x :: q, ha =>
     rw [DataW.weightsEach] at hn
     rw [List.cons_append, List.cons_append, DataW.weightsEach]
     rcases List.mem_append.1 hn with hn | hn
     ·
      exact List.mem_append_left _ hn
     ·
      exact List.mem_append_right _ (ih us q b (by simpa using ha) n hn)
  have h3 := h1 n (h2 _ _ _ _ (trodAll_dlen14 _ _ _ _ hwl) n hn)
  have h4 : n ≤ reachBytes := by simpa using h3
  have h5 : reachBytes ≤ 140737488355328 := by decide
  omega
 ·
  subst he
  exact ChangeSpec.post_blind hp
end
end Go.Proofs.Ythfgdgcdicacpaa
