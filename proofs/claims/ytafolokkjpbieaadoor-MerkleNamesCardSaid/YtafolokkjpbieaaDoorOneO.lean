/-
  SHORT DIGESTS THAT CAME IN: one by value, a slice of them.
-/
import Derived.Test.YtafolokkjpbieaaDoorOneAll
import Derived.Deep.Slices
import Derived.OpenShut
namespace Go.Proofs.YtafolokkjpbieaaDoor
open Go.ChangeShapes Go.WideShapes Go.ChangeAt Go.RowKit Go.Joins
set_option linter.unusedVariables false
set_option maxRecDepth 100000
theorem Tryd.cellsShort : Tryd.prog.cellsOf 23 = 16 := by kernel_rfl
def u8of : Value → UInt8
  | .int _ n => UInt8.ofNat n.toNat
  | _ => 0
section
variable {H : Type} {enc : TypeId × Value → H} {w : World}
theorem row_of_trod {base : Nat} {spare : Nat → Bool} {held : Bool} {fuel : Nat} {cs : List Value} {x : DataW H × List MemPlace} (h : DataW.trod enc Tryd.prog w base spare held fuel 23 cs = some x) : ∃ l : List UInt8, l.length = 16 ∧ cs = bvals l := by
  obtain ⟨xs, m, _, _, hl, hxl, hx⟩ := DataW.trod_array Tryd.underlying23 h
  rw [Tryd.cellsShort] at hl
  have hat : ∀ i, i < 16 → ∃ n, cs[i]? = some (.int .u8 n) ∧ 0 ≤ n ∧ n ≤ 255 := fun i hi => by
    have h1 := hx i hi
    rw [Tryd.cellsByte, Nat.mul_one, List.getElem?_eq_getElem (by omega : i < xs.length)] at h1
    obtain ⟨n, h2, _, h3⟩ := DataW.trod_int Tryd.underlying5 h1
    refine ⟨n, ?_, bounds_u8 h3⟩
    have h4 := congrArg (fun l => l[0]?) h2
    simp only [List.getElem?_take, List.getElem?_drop] at h4
    simpa using h4
  refine ⟨cs.map u8of, by rw [List.length_map, hl], ?_⟩
  apply List.ext_getElem?
  intro i
  unfold bvals
  rw [List.getElem?_map, List.getElem?_map]
  by_cases hi : i < 16
  · obtain ⟨n, h1, h2, h3⟩ := hat i hi
    rw [h1]
    show some (Value.int .u8 n) = some (Value.int .u8 (((UInt8.ofNat n.toNat).toNat : Nat) : Int))
    rw [UInt8.toNat_ofNat']
    congr 2
    omega
  · rw [List.getElem?_eq_none (by omega)]
    rfl
theorem open_short {r : Reach} {b0 base : Nat} {spare : Nat → Bool} {held : Bool} {v : Value} {d : DataW H} {p : List MemPlace} (hv : Value.okWide Tryd.prog w r b0 23 v) (h : DataW.Trod enc Tryd.prog w base spare held 23 v d p) :
    ∃ l : List UInt8, l.length = 16 ∧ v = .agg (bcells l) := by
  obtain ⟨fuel, hf⟩ := h
  simp only [Value.okWide, Tryd.underlying23] at hv
  obtain ⟨cs, rfl, _, _⟩ := hv
  obtain ⟨l, h1, h2⟩ := row_of_trod hf
  refine ⟨l, h1, ?_⟩
  have h3 : cs.toList = bvals l := h2
  have h4 : cs = bcells l := by
    apply Array.ext'
    rw [h3]
    rfl
  rw [h4]
theorem open_shorts {r : Reach} {b0 : Nat} {v : Value} {d : DataW H} {p : List MemPlace} (hv : Value.okWide Tryd.prog w r b0 29 v) (h : DataW.Trod enc Tryd.prog w 0 (fun _ => true) true 29 v d p) :
    ∃ (A : Option Addr) (ls : List (List UInt8)) (c : Nat), v = .slice A ls.length c ∧ ls.length ≤ c ∧ c ≤ maxLen ∧ (A = none → c = 0) ∧ Shorts A ls w := by
  obtain ⟨a0, len0, cap0, rfl⟩ := okWide_slice Tryd.underlying29 hv
  obtain ⟨fuel, hf⟩ := h
  rcases Go.Deep.open_slice Tryd.underlying29 hf with ⟨hcs, _⟩ | ⟨a, len, cap, m, n, D, Pl, hcs, hb, hl, hm, hmm, _, hx⟩
  · simp [Value.cells] at hcs
    obtain ⟨rfl, rfl, rfl⟩ := hcs
    exact ⟨none, [], 0, rfl, Nat.le_refl _, Nat.zero_le _, fun _ => rfl, fun i l hi => by simp at hi, fun l hl => by simp at hl⟩
  · simp [Value.cells] at hcs
    obtain ⟨rfl, rfl, rfl⟩ := hcs
    simp only [if_true] at hmm
    subst hmm
    have each : ∀ i, i < m → ∃ l : List UInt8, l.length = 16 ∧ ∀ j, j < 16 → w.cell? ((a.add (i * 16)).add j) = (bvals l)[j]? := fun i hi => by
      obtain ⟨cs', h1, h2⟩ := hx i hi
      rw [Tryd.cellsShort] at h1
      obtain ⟨_, hlen, hcell⟩ := World.cells?_some h1
      obtain ⟨l, h3, h4⟩ := row_of_trod h2
      refine ⟨l, h3, fun j hj => ?_⟩
      have h5 := hcell j (by omega)
      rw [h5, h4]
    obtain ⟨f, hf2⟩ := Go.Deep.choose_lt each
    refine ⟨some a, (List.range len0).map f, m, by rw [List.length_map, List.length_range], by rw [List.length_map, List.length_range]; exact hl, hm, (fun e => by cases e), fun i l hi => ?_, fun l hl2 => ?_⟩
    · rw [List.getElem?_map] at hi
      obtain ⟨k, hk, rfl⟩ := Option.map_eq_some_iff.1 hi
      obtain ⟨h1, h2⟩ := List.getElem?_eq_some_iff.1 hk
      simp at h1 h2
      subst h2
      obtain ⟨h3, h4⟩ := hf2 i (by omega)
      obtain ⟨b, off, spot⟩ := a
      obtain ⟨h30, h40⟩ := hf2 0 (by omega)
      have h5 := h40 0 (by decide)
      rw [List.getElem?_eq_getElem (by rw [bvals_len, h30]; decide)] at h5
      have hsp : spot = none := by simpa [Addr.add] using World.cell?_spot h5
      subst hsp
      refine ⟨b, off, rfl, fun j v hj => ?_⟩
      have hj16 : j < 16 := by
        have := (List.getElem?_eq_some_iff.1 hj).1
        rw [bvals_len, h3] at this
        exact this
      have h6 := h4 j hj16
      rw [add_eq, add_eq, hj, Nat.mul_comm] at h6
      exact h6
    · obtain ⟨k, hk, rfl⟩ := List.mem_map.1 hl2
      exact (hf2 k (by have := List.mem_range.1 hk; omega)).1
/-- bytes that came in, and what nil is -/
theorem open_bytesN {r : Reach} {b0 : Nat} {v : Value} {d : DataW H} {p : List MemPlace} (hv : Value.okWide Tryd.prog w r b0 42 v) (h : DataW.Trod enc Tryd.prog w 0 (fun _ => true) true 42 v d p) :
    ∃ (A : Option Addr) (l : List UInt8) (c : Nat), v = .slice A l.length c ∧ l.length ≤ c ∧ c ≤ maxLen ∧ (A = none → c = 0) ∧ SrcAt A l w := by
  obtain ⟨A, l, c, rfl, h1, h2, h3⟩ := open_bytes hv h
  refine ⟨A, l, c, rfl, h1, h2, fun e => ?_, h3⟩
  subst e
  obtain ⟨fuel, hf⟩ := h
  rcases open_ints Tryd.underlying42 Tryd.underlying5 Tryd.cellsByte hf with ⟨hcs, hx⟩ | ⟨a, len', cap', zs, hcs, _⟩
  · simp [Value.cells] at hcs
    exact hcs.2
  · simp [Value.cells] at hcs
end
end Go.Proofs.YtafolokkjpbieaaDoor
