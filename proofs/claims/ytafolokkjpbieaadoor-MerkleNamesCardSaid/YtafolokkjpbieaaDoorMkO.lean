/-
  A PUBLIC KEY AND A SIGNATURE that came in; the reference's Great.
-/
import Derived.Test.YtafolokkjpbieaaDoorMkK
import Derived.Test.YtafolokkjpbieaaDoorOneO
import Derived.Deep.Strs
import Derived.Lib.SmallJoins
namespace Go.Proofs.YtafolokkjpbieaaDoor
open Go.ChangeShapes Go.WideShapes Go.ChangeAt Go.RowKit Go.Joins Sha Ots
set_option linter.unusedVariables false
set_option maxRecDepth 100000
theorem Tryd.cellsSig : Tryd.prog.cellsOf 31 = 3 := by kernel_rfl
theorem Tryd.cellsPk : Tryd.prog.cellsOf 25 = 17 := by kernel_rfl
theorem Tryd.cellsInt : Tryd.prog.cellsOf 3 = 1 := by kernel_rfl
section
variable {H : Type} {enc : TypeId × Value → H} {w : World}
theorem shorts_of_trod {fuel : Nat} {v : Value} {x : DataW H × List MemPlace} (hf : DataW.trod enc Tryd.prog w 0 (fun _ => true) true fuel 29 [v] = some x) :
    ∃ (A : Option Addr) (ls : List (List UInt8)) (c : Nat), v = .slice A ls.length c ∧ ls.length ≤ c ∧ c ≤ maxLen ∧ (A = none → c = 0) ∧ Shorts A ls w := by
  rcases Go.Deep.open_slice Tryd.underlying29 hf with ⟨hcs, _⟩ | ⟨a, len, cap, m, n, D, Pl, hcs, hb, hl, hm, hmm, _, hx⟩
  · simp at hcs
    subst hcs
    exact ⟨none, [], 0, rfl, Nat.le_refl _, Nat.zero_le _, fun _ => rfl, fun i l hi => by simp at hi, fun l hl => by simp at hl⟩
  · simp at hcs
    subst hcs
    simp only [if_true] at hmm
    subst hmm
    have each : ∀ i, i < m → ∃ l : List UInt8, l.length = 16 ∧ ∀ j, j < 16 → w.cell? ((a.add (i * 16)).add j) = (bvals l)[j]? := fun i hi => by
      obtain ⟨cs', h1, h2⟩ := hx i hi
      rw [Tryd.cellsShort] at h1
      obtain ⟨_, hlen, hcell⟩ := World.cells?_some h1
      obtain ⟨l, h3, h4⟩ := row_of_trod h2
      refine ⟨l, h3, fun j hj => ?_⟩
      have h5 := hcell j (by omega)
      rw [h5, h4]
    obtain ⟨f, hf2⟩ := Go.Deep.choose_lt each
    refine ⟨some a, (List.range len).map f, m, by rw [List.length_map, List.length_range], by rw [List.length_map, List.length_range]; exact hl, hm, (fun e => by cases e), fun i l hi => ?_, fun l hl2 => ?_⟩
    · rw [List.getElem?_map] at hi
      obtain ⟨k, hk, rfl⟩ := Option.map_eq_some_iff.1 hi
      obtain ⟨h1, h2⟩ := List.getElem?_eq_some_iff.1 hk
      simp at h1 h2
      subst h2
      obtain ⟨h3, h4⟩ := hf2 i (by omega)
      obtain ⟨b, off, spot⟩ := a
      obtain ⟨h30, h40⟩ := hf2 0 (by omega)
      have h5 := h40 0 (by decide)
      rw [List.getElem?_eq_getElem (by rw [bvals_len, h30]; decide)] at h5
      have hsp : spot = none := by simpa [Addr.add] using World.cell?_spot h5
      subst hsp
      refine ⟨b, off, rfl, fun j v hj => ?_⟩
      have hj16 : j < 16 := by
        have := (List.getElem?_eq_some_iff.1 hj).1
        rw [bvals_len, h3] at this
        exact this
      have h6 := h4 j hj16
      rw [add_eq, add_eq, hj, Nat.mul_comm] at h6
      exact h6
    · obtain ⟨k, hk, rfl⟩ := List.mem_map.1 hl2
      exact (hf2 k (by have := List.mem_range.1 hk; omega)).1
theorem open_pk {r : Reach} {b0 base : Nat} {spare : Nat → Bool} {held : Bool} {v : Value} {d : DataW H} {p : List MemPlace} (hv : Value.okWide Tryd.prog w r b0 25 v) (h : DataW.Trod enc Tryd.prog w base spare held 25 v d p) :
    ∃ (R : List UInt8) (x : Int), R.length = 16 ∧ v = .agg (pkc R x) := by
  obtain ⟨cs, rfl, hsz⟩ := okWide_struct Tryd.underlying25 hv
  obtain ⟨fuel, hf⟩ := h
  obtain ⟨y0, y1, n, hx, hl, h0, h1⟩ := trod_struct2 Tryd.underlying25 hf
  rw [Tryd.cellsPk] at hsz
  obtain ⟨R, hR, hr⟩ := row_of_trod h0
  obtain ⟨x, e1, _, _⟩ := DataW.trod_int Tryd.underlying3 h1
  rw [Tryd.cellsShort] at hr
  rw [Tryd.cellsInt] at e1
  refine ⟨R, x, hR, ?_⟩
  have h2 : cs.toList = bvals R ++ [Value.int .i64 x] := by
    have h3 : cs.toList = (cs.toList.take 16) ++ (cs.toList.drop 16) := (List.take_append_drop 16 _).symm
    have h4 : cs.toList.take 16 = bvals R := by simpa [Value.cells] using hr
    have h5 : cs.toList.drop 16 = [Value.int .i64 x] := by
      have h6 : (cs.toList.drop 16).take 1 = [Value.int .i64 x] := by simpa [Value.cells] using e1
      have h7 : (cs.toList.drop 16).length = 1 := by simp [hsz]
      rw [List.take_of_length_le (by omega)] at h6
      exact h6
    rw [h3, h4, h5]
  unfold pkc
  rw [← h2]
theorem open_sig {r : Reach} {b0 : Nat} {v : Value} {d : DataW H} {p : List MemPlace} (hv : Value.okWide Tryd.prog w r b0 31 v) (h : DataW.Trod enc Tryd.prog w 0 (fun _ => true) true 31 v d p) :
    ∃ (n : Int) (CA PA : Option Addr) (cs ps : List (List UInt8)) (cc pc : Nat), v = .agg #[.int .i64 n, .slice CA cs.length cc, .slice PA ps.length pc] ∧ cs.length ≤ cc ∧ cc ≤ maxLen ∧ (CA = none → cc = 0) ∧ ps.length ≤ pc ∧ pc ≤ maxLen ∧ (PA = none → pc = 0) ∧ Shorts CA cs w ∧ Shorts PA ps w := by
  obtain ⟨v0, v1, v2, y0, y1, y2, m, rfl, rfl, rfl, hy0, hy1, hy2⟩ := open_agg3 Tryd.underlying31 (by kernel_rfl) Tryd.cellsSig hv h
  obtain ⟨n, e0, _, _⟩ := DataW.trod_int Tryd.underlying3 hy0
  obtain ⟨CA, cs, cc, rfl, a1, a2, a3, a4⟩ := shorts_of_trod hy1
  obtain ⟨PA, ps, pc, rfl, b1, b2, b3, b4⟩ := shorts_of_trod hy2
  simp at e0
  subst e0
  exact ⟨n, CA, PA, cs, ps, cc, pc, rfl, a1, a2, a3, b1, b2, b3, a4, b4⟩
end
set_option maxHeartbeats 1000000 in
theorem great_any (n : Int) (CA PA : Option Addr) (cl cc pl pc : Nat) (w : World) :
    Calls Tryd.prog 19 #[.agg #[.int .i64 n, .slice CA cl cc, .slice PA pl pc]] w fun e w' => e = .returned (.bool (decide (100 < cl ∨ 100 < pl))) ∧ Below w.heap.size w w' := by
  have hb0 := below_new w (.cells #[.int .i64 n, .slice CA cl cc, .slice PA pl pc] 31)
  by_cases h1 : 100 < cl
  · have h1i : (100 : Int) < (cl : Int) := by omega
    rw [decide_eq_true (Or.inl h1)]
    clear h1
    go_enter Tryd.func19, Tryd.ntmps19
    go_wp2_with fail
    go_ret
    exact ⟨rfl, hb0⟩
  · have h1i : ¬ (100 : Int) < (cl : Int) := by omega
    by_cases h2 : 100 < pl
    · have h2i : (100 : Int) < (pl : Int) := by omega
      rw [decide_eq_true (Or.inr h2)]
      clear h1 h2
      go_enter Tryd.func19, Tryd.ntmps19
      go_wp2_with fail
      go_ret
      exact ⟨rfl, hb0⟩
    · have h2i : ¬ (100 : Int) < (pl : Int) := by omega
      rw [decide_eq_false (fun h => h.elim h1 h2)]
      clear h1 h2
      go_enter Tryd.func19, Tryd.ntmps19
      go_wp2_with fail
      go_ret
      exact ⟨rfl, hb0⟩
end Go.Proofs.YtafolokkjpbieaaDoor
