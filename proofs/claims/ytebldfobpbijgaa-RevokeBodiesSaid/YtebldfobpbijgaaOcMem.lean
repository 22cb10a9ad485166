/-
  HOW A VALUE OF LAYER 8 LIES IN MEMORY: a tree of blocks; a value that came in is opened.
-/
import Derived.Test.YtebldfobpbijgaaOctMath
import Derived.Test.YtebldfobpbijgaaDigAll
import Derived.Test.YtebldfobpbijgaaOcKit
import Derived.Deep.Slices
import Derived.Deep.Strs
import Derived.OpenShut
namespace Go.Proofs.Ytebldfobpbijgaa
open Go.ChangeShapes Go.WideShapes Go.ChangeAt Go.RowKit Go.Joins
set_option linter.unusedVariables false
set_option maxRecDepth 100000
namespace Oc
instance : Inhabited Oct := ⟨.mk 0 [] []⟩
def tagO : Oct → UInt8
  | .mk t _ _ => t
def bytO : Oct → List UInt8
  | .mk _ b _ => b
def kids : Oct → List Oct
  | .mk _ _ l => l
mutual
/-- the bytes of a value, all of them -/
def tot : Oct → Nat
  | .mk _ b l => b.length + tots l
def tots : List Oct → Nat
  | [] => 0
  | v :: r => tot v + tots r
end
/-- a value lies in memory: what its two slices are; R: what is asked of its blocks -/
inductive At (R : Nat → Prop) (w : World) : Oct → Value → Value → Prop
  | mk (t : UInt8) (b : List UInt8) (l : List Oct) (A : Option Addr) (c : Nat) (B : Option Addr) (d : Nat) (g off : Nat) (vb vl : Nat → Value)
      (hc : b.length ≤ c) (hbm : b.length ≤ 140737488355328) (hcn : A = none → c = 0) (hs : SrcAt A b w) (hA : ∀ ga oa, A = some ⟨ga, oa, none⟩ → b ≠ [] → R ga) (hd : l.length ≤ d) (hlm : l.length ≤ 140737488355328) (hdn : B = none → d = 0)
      (hB : l ≠ [] → B = some ⟨g, off, none⟩ ∧ R g)
      (h0 : ∀ (k : Nat) (o : Oct), l[k]? = some o → w.cell? ⟨g, off + k * 3, none⟩ = some (.int .u8 ((tagO o).toNat : Int)))
      (h1 : ∀ (k : Nat) (o : Oct), l[k]? = some o → w.cell? ⟨g, off + k * 3 + 1, none⟩ = some (vb k))
      (h2 : ∀ (k : Nat) (o : Oct), l[k]? = some o → w.cell? ⟨g, off + k * 3 + 2, none⟩ = some (vl k))
      (hr : ∀ (k : Nat) (o : Oct), l[k]? = some o → At R w o (vb k) (vl k)) : At R w (.mk t b l) (.slice A b.length c) (.slice B l.length d)
theorem At.to {R R' : Nat → Prop} {w V : World} : ∀ {o : Oct} {x y : Value}, At R w o x y → (∀ g p u, w.cell? ⟨g, p, none⟩ = some u → R g → V.cell? ⟨g, p, none⟩ = some u ∧ R' g) → At R' V o x y := fun h hb => by
  induction h with
  | mk t b l A c B d g off vb vl hc hbm hcn hs hA hd hlm hdn hB h0 h1 h2 hr ih =>
    have hl : ∀ (k : Nat) (o : Oct), l[k]? = some o → R g := fun k o h => (hB (fun e => by rw [e] at h; simp at h)).2
    refine .mk t b l A c B d g off vb vl hc hbm hcn (fun hne => ?_) (fun ga oa e hne => ?_) hd hlm hdn (fun hne => ⟨(hB hne).1, ?_⟩) (fun k o hx => (hb _ _ _ (h0 k o hx) (hl k o hx)).1) (fun k o hx => (hb _ _ _ (h1 k o hx) (hl k o hx)).1) (fun k o hx => (hb _ _ _ (h2 k o hx) (hl k o hx)).1) ih
    · obtain ⟨ga, oa, e, hc⟩ := hs hne
      exact ⟨ga, oa, e, fun j x hj => (hb _ _ _ (hc j x hj) (hA ga oa e hne)).1⟩
    · obtain ⟨ga', oa', e', hc⟩ := hs hne
      rw [e] at e'
      have e3 := Option.some.inj e'
      obtain rfl : ga = ga' := congrArg Addr.block e3
      cases b with
      | nil => exact absurd rfl hne
      | cons x r => exact (hb _ _ _ (hc 0 x rfl) (hA ga oa e hne)).2
    · cases l with
      | nil => exact absurd rfl hne
      | cons o r => exact (hb _ _ _ (h0 0 o rfl) (hl 0 o rfl)).2
theorem At.on {R : Nat → Prop} {w V : World} {o : Oct} {x y : Value} (h : At R w o x y) (hb : Below w.heap.size w V) : At R V o x y :=
  h.to fun g p u hu hR => ⟨by rw [hb.cell (p := ⟨g, p, none⟩) (World.block_lt_of_cell? _ _ hu)]; exact hu, hR⟩
/-- a block of one's own, from base on -/
def Rw (base : Nat) (w : World) (g : Nat) : Prop := base ≤ g ∧ ∃ cs t, w.heap[g]? = some (.cells cs t (0, 0))
theorem At.own {base b' : Nat} {w V : World} {o : Oct} {x y : Value} (h : At (Rw base w) w o x y) (hb : Below w.heap.size w V) (hle : b' ≤ base) : At (Rw b' V) V o x y :=
  h.to fun g p u hu hR => ⟨by rw [hb.cell (p := ⟨g, p, none⟩) (World.block_lt_of_cell? _ _ hu)]; exact hu, by have := hR.1; omega, by
    obtain ⟨_, cs, t, h3⟩ := hR
    exact ⟨cs, t, (hb.block _ (Array.getElem?_eq_some_iff.1 h3).1).trans h3⟩⟩
theorem At.any {R : Nat → Prop} {w : World} {o : Oct} {x y : Value} (h : At R w o x y) : At (fun _ => True) w o x y := h.to fun g p u hu hR => ⟨hu, trivial⟩
/-- a value's cells -/
def rowT : List (Oct × Value × Value) → List Value
  | [] => []
  | t :: r => .int .u8 ((tagO t.1).toNat : Int) :: t.2.1 :: t.2.2 :: rowT r
theorem rowT_len : ∀ ts, (rowT ts).length = ts.length * 3
  | [] => rfl
  | t :: r => by rw [rowT, List.length_cons, List.length_cons, List.length_cons, rowT_len r, List.length_cons]; omega
theorem rowT_app : ∀ ts us, rowT (ts ++ us) = rowT ts ++ rowT us
  | [], us => rfl
  | t :: r, us => by rw [List.cons_append, rowT, rowT_app r us, rowT]; rfl
theorem rowT_at : ∀ (ts : List (Oct × Value × Value)) (k : Nat) t, ts[k]? = some t → (rowT ts)[k * 3]? = some (.int .u8 ((tagO t.1).toNat : Int)) ∧ (rowT ts)[k * 3 + 1]? = some t.2.1 ∧ (rowT ts)[k * 3 + 2]? = some t.2.2
  | [], k, t, h => by simp at h
  | u :: r, 0, t, h => by
    obtain rfl := Option.some.inj h
    exact ⟨rfl, rfl, rfl⟩
  | u :: r, k + 1, t, h => by
    have h1 := rowT_at r k t h
    rw [rowT, show (k + 1) * 3 = (((k * 3) + 1) + 1) + 1 by omega, show ((((k * 3) + 1) + 1) + 1) + 1 = (((k * 3 + 1) + 1) + 1) + 1 by omega, show ((((k * 3) + 1) + 1) + 1) + 2 = (((k * 3 + 2) + 1) + 1) + 1 by omega]
    simpa using h1
/-- the three cells of a value -/
abbrev cell3 (o : Oct) (x y : Value) : Array Value := #[.int .u8 ((tagO o).toNat : Int), x, y]
end Oc
open Oc
theorem Try.bytesByte : Try.prog.bytesOf 5 = 1 := by kernel_rfl
theorem Try.bytesOct : Try.prog.bytesOf 52 = 56 := by kernel_rfl
theorem Try.cellsOct : Try.prog.cellsOf 52 = 3 := by kernel_rfl
section
variable {H : Type} {enc : TypeId × Value → H} {w : World}
/-- bytes, read as cells -/
theorem bytes_of_trod {fuel : Nat} {cs : List Value} {x : DataW H × List MemPlace} (h : DataW.trod enc Try.prog w 0 (fun _ => true) true fuel 31 cs = some x) (hw : ∀ n ∈ x.1.weights Try.prog 31, n ≤ 140737488355328) :
    ∃ (A : Option Addr) (l : List UInt8) (c : Nat), cs = [.slice A l.length c] ∧ l.length ≤ c ∧ c ≤ 140737488355328 ∧ (A = none → c = 0) ∧ SrcAt A l w := by
  rcases open_ints Try.underlying31 Try.underlying5 Try.cellsByte h with ⟨rfl, hx⟩ | ⟨a, len, cap, zs, rfl, _, hl, hm, hz, hx, hcell, hwz⟩
  · exact ⟨none, [], 0, rfl, Nat.le_refl _, by decide, fun _ => rfl, fun h => absurd rfl h⟩
  · simp only [if_true] at hz
    have hcap : cap ≤ 140737488355328 := by
      refine hw cap ?_
      rw [hx, DataW.weights, Try.underlying31]
      refine List.mem_cons.2 (.inl ?_)
      rw [Try.bytesByte, Nat.mul_one]
      simp [lits]
      omega
    refine ⟨some a, (zs.take len).map fun z => UInt8.ofNat z.toNat, cap, ?_, ?_, hcap, (fun e => by cases e), ?_⟩
    · rw [List.length_map, List.length_take, hz, Nat.min_eq_left hl]
    · rw [List.length_map, List.length_take, hz]; omega
    · intro hne
      have hl0 : len ≠ 0 := by
        intro e
        subst e
        exact hne rfl
      obtain ⟨b, off, spot⟩ := a
      have hspot : spot = none := by simpa [Addr.add] using World.cell?_spot (hcell 0 (by omega))
      subst hspot
      refine ⟨b, off, rfl, fun j x hj => ?_⟩
      rw [List.getElem?_map] at hj
      obtain ⟨z, hz1, rfl⟩ := Option.map_eq_some_iff.1 hj
      have hjl : j < len := by
        have := (List.getElem?_eq_some_iff.1 hz1).1
        simp at this
        omega
      rw [List.getElem?_take, if_pos hjl] at hz1
      have hc := hcell j (by omega)
      rw [add_eq, List.getD_eq_getElem?_getD, hz1, Option.getD_some] at hc
      have hb := bounds_u8 (hwz z (List.mem_of_getElem? hz1))
      rw [hc]
      congr 2
      rw [UInt8.toNat_ofNat']
      omega
theorem weightsAll_mem (e : TypeId) : ∀ (l : List (DataW H)) (d : DataW H), d ∈ l → ∀ n ∈ d.weights Try.prog e, n ∈ DataW.weightsAll Try.prog e l
  | [], _, h, _, _ => by cases h
  | x :: r, d, h, n, hn => by
    rw [DataW.weightsAll]
    rcases List.mem_cons.1 h with rfl | h
    · exact List.mem_append_left _ hn
    · exact List.mem_append_right _ (weightsAll_mem e r d h n hn)
/-- a value, read as three cells -/
theorem oct_of_trod : ∀ (fuel : Nat) {cs : List Value} {x : DataW H × List MemPlace}, DataW.trod enc Try.prog w 0 (fun _ => true) true fuel 52 cs = some x → (∀ n ∈ x.1.weights Try.prog 52, n ≤ 140737488355328) →
    ∃ (o : Oct) (v1 v2 : Value), cs = [.int .u8 ((tagO o).toNat : Int), v1, v2] ∧ At (fun _ => True) w o v1 v2 := fun fuel => by
  induction fuel using Nat.strongRecOn with
  | _ fuel ih =>
    intro cs x h hw
    obtain ⟨xs, n, hfn, rfl, hcl, hxl, hf⟩ := DataW.trod_struct Try.underlying52 h
    rw [Try.cellsOct] at hcl
    match cs, hcl with
    | [c0, c1, c2], _ =>
      match xs, hxl with
      | [y0, y1, y2], _ =>
        have f0 := hf 0 _ rfl
        have f1 := hf 1 _ rfl
        have f2 := hf 2 _ rfl
        have e0 : DataW.trod enc Try.prog w 0 (fun _ => true) true n 5 [c0] = some y0 := f0
        have e1 : DataW.trod enc Try.prog w 0 (fun _ => true) true n 31 [c1] = some y1 := f1
        have e2 : DataW.trod enc Try.prog w 0 (fun _ => true) true n 50 [c2] = some y2 := f2
        have hwe : ∀ m, (m ∈ y1.1.weights Try.prog 31 ∨ m ∈ y2.1.weights Try.prog 50) → m ≤ 140737488355328 := fun m hm => by
          refine hw m ?_
          show m ∈ DataW.weights Try.prog 52 (DataW.agg [y0.1, y1.1, y2.1])
          rw [DataW.weights, Try.underlying52]
          show m ∈ y0.1.weights Try.prog 5 ++ (y1.1.weights Try.prog 31 ++ (y2.1.weights Try.prog 50 ++ []))
          rcases hm with hm | hm
          · exact List.mem_append_right _ (List.mem_append_left _ hm)
          · exact List.mem_append_right _ (List.mem_append_right _ (List.mem_append_left _ hm))
        obtain ⟨z, hz0, _, hz⟩ := DataW.trod_int Try.underlying5 e0
        have hzb := bounds_u8 hz
        obtain ⟨A, b, c, hA0, hc, hcm, hcn, hs⟩ := bytes_of_trod e1 (fun m hm => hwe m (.inl hm))
        obtain rfl : c0 = .int .u8 z := by simpa using hz0
        obtain rfl : c1 = .slice A b.length c := by simpa using hA0
        have ht : ((UInt8.ofNat z.toNat).toNat : Int) = z := by
          rw [UInt8.toNat_ofNat']
          omega
        rcases DataW.trod_slice Try.underlying50 e2 with ⟨h0, _⟩ | ⟨a, len, cap, elems, rest, n2, hn2, h0, hy2, _, hl, hm, hlen, hel, hsp, _⟩
        · obtain rfl : c2 = .slice none 0 0 := by simpa using h0
          refine ⟨.mk (UInt8.ofNat z.toNat) b [], .slice A b.length c, .slice none 0 0, by show [_, _, _] = [Value.int .u8 (((UInt8.ofNat z.toNat).toNat : Nat) : Int), _, _]; rw [ht], ?_⟩
          exact .mk _ b [] A c none 0 0 0 (fun _ => undef) (fun _ => undef) hc (by omega) hcn hs (fun _ _ _ _ => trivial) (Nat.le_refl _) (by decide) (fun _ => rfl) (fun h => absurd rfl h) (fun k o h => by simp at h) (fun k o h => by simp at h) (fun k o h => by simp at h) (fun k o h => by simp at h)
        · obtain rfl : c2 = .slice (some a) len cap := by simpa using h0
          obtain ⟨hrl, _⟩ := hsp rfl
          have hcap : cap ≤ 140737488355328 := by
            have h3 : (elems.length + rest.length) * 56 ∈ y2.1.weights Try.prog 50 := by
              rw [hy2, DataW.weights, Try.underlying50]
              refine List.mem_cons.2 (.inl ?_)
              rw [Try.bytesOct]
              simp
            have := hwe _ (.inr h3)
            omega
          have each : ∀ i, i < len → ∃ p : Oct × Value × Value, w.cell? (a.add (i * 3)) = some (.int .u8 ((tagO p.1).toNat : Int)) ∧ w.cell? ((a.add (i * 3)).add 1) = some p.2.1 ∧ w.cell? ((a.add (i * 3)).add 2) = some p.2.2 ∧ At (fun _ => True) w p.1 p.2.1 p.2.2 := fun i hi => by
            have h4 := hel i hi
            rw [Try.cellsOct, List.getElem?_eq_getElem (by omega : i < elems.length)] at h4
            obtain ⟨cs', h5, h6⟩ := Option.bind_eq_some_iff.1 h4
            obtain ⟨_, hlen3, hcell⟩ := World.cells?_some h5
            obtain ⟨o, v1, v2, rfl, hat⟩ := ih n2 (by omega) h6 (fun m hm => by
              refine hwe m (.inr ?_)
              rw [hy2, DataW.weights, Try.underlying50]
              refine List.mem_cons_of_mem _ (List.mem_append_left _ (weightsAll_mem _ _ _ (List.mem_map.2 ⟨_, List.getElem_mem _, rfl⟩) m hm)))
            exact ⟨⟨o, v1, v2⟩, by simpa [Addr.add] using hcell 0 (by omega), by simpa using hcell 1 (by omega), by simpa using hcell 2 (by omega), hat⟩
          haveI : Inhabited Value := ⟨undef⟩
          obtain ⟨f, hf2⟩ := Go.Deep.choose_lt each
          refine ⟨.mk (UInt8.ofNat z.toNat) b ((List.range len).map fun i => (f i).1), .slice A b.length c, .slice (some a) len cap, by show [_, _, _] = [Value.int .u8 (((UInt8.ofNat z.toNat).toNat : Nat) : Int), _, _]; rw [ht], ?_⟩
          have hll : ((List.range len).map fun i => (f i).1).length = len := by rw [List.length_map, List.length_range]
          have hget : ∀ (k : Nat) (o : Oct), ((List.range len).map fun i => (f i).1)[k]? = some o → k < len ∧ (f k).1 = o := fun k o hk => by
            rw [List.getElem?_map] at hk
            obtain ⟨j, hj, rfl⟩ := Option.map_eq_some_iff.1 hk
            obtain ⟨h1, h2⟩ := List.getElem?_eq_some_iff.1 hj
            simp at h1 h2
            subst h2
            exact ⟨h1, rfl⟩
          obtain ⟨g, off, spot⟩ := a
          by_cases h00 : len = 0
          · subst h00
            exact .mk _ b [] A c (some ⟨g, off, spot⟩) cap 0 0 (fun _ => undef) (fun _ => undef) hc (by omega) hcn hs (fun _ _ _ _ => trivial) (Nat.zero_le _) (by decide) (fun e => by cases e) (fun h => absurd rfl h) (fun k o h => by simp at h) (fun k o h => by simp at h) (fun k o h => by simp at h) (fun k o h => by simp at h)
          · have hspot : spot = none := by simpa [Addr.add] using World.cell?_spot (hf2 0 (by omega)).1
            subst hspot
            have hm := At.mk (R := fun _ => True) (w := w) (UInt8.ofNat z.toNat) b ((List.range len).map fun i => (f i).1) A c (some ⟨g, off, none⟩) cap g off (fun k => (f k).2.1) (fun k => (f k).2.2) hc (by omega) hcn hs (fun _ _ _ _ => trivial) (by rw [hll]; exact hl) (by rw [hll]; omega) (fun e => by cases e) (fun _ => ⟨rfl, trivial⟩)
              (fun k o hk => by obtain ⟨h1, rfl⟩ := hget k o hk; have h3 := (hf2 k h1).1; rw [add_eq] at h3; exact h3)
              (fun k o hk => by obtain ⟨h1, rfl⟩ := hget k o hk; have h3 := (hf2 k h1).2.1; rw [add_eq, add_eq] at h3; exact h3)
              (fun k o hk => by obtain ⟨h1, rfl⟩ := hget k o hk; have h3 := (hf2 k h1).2.2.1; rw [add_eq, add_eq] at h3; exact h3)
              (fun k o hk => by obtain ⟨h1, rfl⟩ := hget k o hk; exact (hf2 k h1).2.2.2)
            rw [hll] at hm
            exact hm
end
end Go.Proofs.Ytebldfobpbijgaa
