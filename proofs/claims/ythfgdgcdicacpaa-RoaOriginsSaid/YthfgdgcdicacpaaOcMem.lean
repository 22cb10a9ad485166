import Derived.Test.YthfgdgcdicacpaaOctMath
import Derived.Test.YthfgdgcdicacpaaDigAll
import Derived.Test.YthfgdgcdicacpaaOcKit
import Derived.Deep.Slices
import Derived.Deep.Strs
import Derived.OpenShut
namespace Go.Proofs.Ythfgdgcdicacpaa
open Go.ChangeShapes Go.WideShapes Go.ChangeAt Go.RowKit Go.Joins
set_option linter.unusedVariables false
set_option maxRecDepth 100000
namespace Oc
instance : Inhabited Oct := ⟨.mk 0 [] []⟩
def tagO : Oct → UInt8
 | .mk t _ _ => t
def bytO : Oct → List UInt8
 | .mk _ b _ => b
def kids : Oct → List Oct
 | .mk _ _ l => l
mutual
def tot : Oct → Nat
 | .mk _ b l => b.length + tots l
def tots : List Oct → Nat
 | [] => 0
 | v :: r => tot v + tots r
end
inductive At (R : Nat → Prop) (w : World) : Oct → Value → Value → Prop
 | mk (t : UInt8) (b : List UInt8) (l : List Oct) (A : Option Addr) (c : Nat) (B : Option Addr) (d : Nat) (g off : Nat) (vb vl : Nat → Value)
   (hc : b.length ≤ c) (hbm : b.length ≤ 140737488355328) (hcn : A = none → c = 0) (hs : SrcAt A b w) (hA : ∀ ga oa, A = some ⟨ga, oa, none⟩ → b ≠ [] → R ga) (hd : l.length ≤ d) (hlm : l.length ≤ 140737488355328) (hdn : B = none → d = 0)
   (hB : l ≠ [] → B = some ⟨g, off, none⟩ ∧ R g)
   (h0 : ∀ (k : Nat) (o : Oct), l[k]? = some o → w.cell? ⟨g, off + k * 3, none⟩ = some (.int .u8 ((tagO o).toNat : Int)))
   (h1 : ∀ (k : Nat) (o : Oct), l[k]? = some o → w.cell? ⟨g, off + k * 3 + 1, none⟩ = some (vb k))
   (h2 : ∀ (k : Nat) (o : Oct), l[k]? = some o → w.cell? ⟨g, off + k * 3 + 2, none⟩ = some (vl k))
   (hr : ∀ (k : Nat) (o : Oct), l[k]? = some o → At R w o (vb k) (vl k)) : At R w (.mk t b l) (.slice A b.length c) (.slice B l.length d)
theorem At.to {R R' : Nat → Prop} {w V : World} : ∀ {o : Oct} {x y : Value}, At R w o x y → (∀ g p u, w.cell? ⟨g, p, none⟩ = some u → R g → V.cell? ⟨g, p, none⟩ = some u ∧ R' g) → At R' V o x y := fun h hb => by
 induction h with
 | mk t b l A c B d g off vb vl hc hbm hcn hs hA hd hlm hdn hB h0 h1 h2 hr ih =>
  have hl : ∀ (k : Nat) (o : Oct), l[k]? = some o → R g := fun k o h => (hB (fun e => by rw [e] at h; simp at h)).2
  refine .mk t b l A c B d g off vb vl hc hbm hcn (fun hne => ?_) (fun ga oa e hne => ?_) hd hlm hdn (fun hne => ⟨(hB hne).1, ?_⟩) (fun k o hx => (hb _ _ _ (h0 k o hx) (hl k o hx)).1) (fun k o hx => (hb _ _ _ (h1 k o hx) (hl k o hx)).1) (fun k o hx => (hb _ _ _ (h2 k o hx) (hl k o hx)).1) ih
  ·
   obtain ⟨ga, oa, e, hc⟩ := hs hne
   exact ⟨ga, oa, e, fun j x hj => (hb _ _ _ (hc j x hj) (hA ga oa e hne)).1⟩
  ·
   obtain ⟨ga', oa', e', hc⟩ := hs hne
   rw [e] at e'
   have e3 := Option.some.inj e'
   obtain rfl : ga = ga' := congrArg Addr.block e3
   cases b with
   | nil => exact absurd rfl hne
   | cons x r => exact (hb _ _ _ (hc 0 x rfl) (hA ga oa e hne)).2
  ·
   cases l with
   | nil => exact absurd rfl hne
   | cons o r => exact (hb _ _ _ (h0 0 o rfl) (hl 0 o rfl)).2
theorem At.on {R : Nat → Prop} {w V : World} {o : Oct} {x y : Value} (h : At R w o x y) (hb : Below w.heap.size w V) : At R V o x y :=
 h.to fun g p u hu hR => ⟨by rw [hb.cell (p := ⟨g, p, none⟩) (World.block_lt_of_cell? _ _ hu)]; exact hu, hR⟩
def Rw (base : Nat) (w : World) (g : Nat) : Prop := base ≤ g ∧ ∃ cs t, w.heap[g]? = some (.cells cs t (0, 0))
theorem At.own {base b' : Nat} {w V : World} {o : Oct} {x y : Value} (h : At (Rw base w) w o x y) (hb : Below w.heap.size w V) (hle : b' ≤ base) : At (Rw b' V) V o x y :=
 h.to fun g p u hu hR => ⟨by rw [hb.cell (p := ⟨g, p, none⟩) (World.block_lt_of_cell? _ _ hu)]; exact hu, by have := hR.1; omega, by
  obtain ⟨_, cs, t, h3⟩ := hR
  exact ⟨cs, t, (hb.block _ (Array.getElem?_eq_some_iff.1 h3).1).trans h3⟩⟩
theorem At.any {R : Nat → Prop} {w : World} {o : Oct} {x y : Value} (h : At R w o x y) : At (fun _ => True) w o x y := h.to fun g p u hu hR => ⟨hu, trivial⟩
def rowT : List (Oct × Value × Value) → List Value
 | [] => []
 | t :: r => .int .u8 ((tagO t.1).toNat : Int) :: t.2.1 :: t.2.2 :: rowT r
theorem rowT_app : ∀ ts us, rowT (ts ++ us) = rowT ts ++ rowT us
 | [], us => rfl
 | t :: r, us => by rw [List.cons_append, rowT, rowT_app r us, rowT]; rfl
theorem rowT_at : ∀ (ts : List (Oct × Value × Value)) (k : Nat) t, ts[k]? = some t → (rowT ts)[k * 3]? = some (.int .u8 ((tagO t.1).toNat : Int)) ∧ (rowT ts)[k * 3 + 1]? = some t.2.1 ∧ (rowT ts)[k * 3 + 2]? = some t.2.2
 | [], k, t, h => by simp at h
 | u :: r, 0, t, h => by
  obtain rfl := Option.some.inj h
  exact ⟨rfl, rfl, rfl⟩
 | u :: r, k + 1, t, h => by
  have h1 := rowT_at r k t h
  rw [rowT, show (k + 1) * 3 = (((k * 3) + 1) + 1) + 1 by omega, show ((((k * 3) + 1) + 1) + 1) + 1 = (((k * 3 + 1) + 1) + 1) + 1 by omega, show ((((k * 3) + 1) + 1) + 1) + 2 = (((k * 3 + 2) + 1) + 1) + 1 by omega]
  simpa using h1
abbrev cell3 (o : Oct) (x y : Value) : Array Value := #[.int .u8 ((tagO o).toNat : Int), x, y]
end Oc
open Oc
section
variable {H : Type} {enc : TypeId × Value → H} {w : World}
end
end Go.Proofs.Ythfgdgcdicacpaa
