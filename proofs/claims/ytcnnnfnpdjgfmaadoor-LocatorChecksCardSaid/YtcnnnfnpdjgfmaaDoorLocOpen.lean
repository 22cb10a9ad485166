/-
  A LOCATOR THAT CAME IN.
-/
import Derived.Test.YtcnnnfnpdjgfmaaDoorLocWrap
import Derived.Lib.SmallJoins
import Derived.OpenShut
import Derived.Deep.Strs
namespace Go.Proofs.YtcnnnfnpdjgfmaaDoor
open Go.ChangeShapes Go.WideShapes Go.ChangeAt Go.RowKit Lo
set_option linter.unusedVariables false
set_option linter.unusedSimpArgs false
set_option maxRecDepth 100000
section
variable {H : Type} {enc : TypeId × Value → H}
theorem c22 : Tryd.prog.cellsOf 22 = 1 := by kernel_rfl
theorem c4 : Tryd.prog.cellsOf 4 = 1 := by kernel_rfl
theorem c24 : Tryd.prog.cellsOf 24 = 5 := by kernel_rfl
theorem five_of {cs : List Value} {a b c d e : Value} (hl : cs.length = 5) (h0 : (cs.drop 0).take 1 = [a]) (h1 : (cs.drop 1).take 1 = [b]) (h2 : (cs.drop 2).take 1 = [c]) (h3 : (cs.drop 3).take 1 = [d]) (h4 : (cs.drop 4).take 1 = [e]) : cs = [a, b, c, d, e] := by
  match cs, hl with
  | [x, y, z, u, v], _ =>
    simp at h0 h1 h2 h3 h4
    rw [h0, h1, h2, h3, h4]
theorem strs_of_trod {w : World} {fuel : Nat} {cs : List Value} {x : DataW H × List MemPlace} (hf : DataW.trod enc Tryd.prog w 0 (fun _ => true) true fuel 22 cs = some x) :
    ∃ (A : Option Addr) (L : List (List UInt8)) (c : Nat), cs = [.slice A L.length c] ∧ L.length ≤ c ∧ StrsAt A L w := by
  rcases Go.Deep.open_strs Tryd.underlying22 Tryd.underlying9 c9 hf with ⟨hcs, _⟩ | ⟨a, len, cap, m, Sx, hcs, hb, hl, hm, hmm, _, hx⟩
  · exact ⟨none, [], 0, hcs, Nat.le_refl _, fun e => absurd rfl e⟩
  · simp only [if_true] at hmm
    subst hmm
    refine ⟨some a, (List.range len).map fun i => (Sx i).data.toList, m, by rw [hcs, List.length_map, List.length_range], by rw [List.length_map, List.length_range]; exact hl, fun hne => ?_⟩
    have h0 : 0 < len := by
      rcases Nat.eq_zero_or_pos len with e | e
      · subst e; exact absurd rfl hne
      · exact e
    obtain ⟨b, off, spot⟩ := a
    have h1 := (hx 0 (by omega)).1
    have hsp : spot = none := by simpa [Addr.add] using World.cell?_spot h1
    subst hsp
    refine ⟨b, off, rfl, ?_, fun j y hj => ?_⟩
    · rw [addr_add] at h1
      exact World.block_lt_of_cell? _ _ h1
    · rw [List.getElem?_map] at hj
      obtain ⟨k, hk, rfl⟩ := Option.map_eq_some_iff.1 hj
      obtain ⟨h2, h3⟩ := List.getElem?_eq_some_iff.1 hk
      simp at h2 h3
      subst h3
      have h4 := (hx j (by omega)).1
      rw [addr_add] at h4
      rw [str_of]
      exact h4
/-- a locator that came in -/
theorem open_loc {w : World} {r : Reach} {b0 : Nat} {v : Value} {d : DataW H} {p : List MemPlace} (hv : Value.okWide Tryd.prog w r b0 24 v) (h : DataW.Trod enc Tryd.prog w 0 (fun _ => true) true 24 v d p) :
    ∃ (l : Lc) (A : Option Addr) (c : Nat), v = locV l A c ∧ l.sch < 256 ∧ StrsAt A l.parts w ∧ l.parts.length ≤ c := by
  obtain ⟨cs, rfl, hsz⟩ := okWide_struct Tryd.underlying24 hv
  obtain ⟨fuel, hf⟩ := h
  obtain ⟨xs, n, _, hx, hl, hlen, hfi⟩ := DataW.trod_struct Tryd.underlying24 hf
  have h5 : xs.length = 5 := hlen
  match xs, h5, hfi with
  | [x0, x1, x2, x3, x4], _, hfi =>
    have g0 := hfi 0 _ rfl
    have g1 := hfi 1 _ rfl
    have g2 := hfi 2 _ rfl
    have g3 := hfi 3 _ rfl
    have g4 := hfi 4 _ rfl
    simp only [List.getElem?_cons_zero, List.getElem?_cons_succ, c5, c9, c3, c22, c4] at g0 g1 g2 g3 g4
    obtain ⟨z, k0, _, k1⟩ := DataW.trod_int Tryd.underlying5 g0
    obtain ⟨h, k2, _, _⟩ := DataW.trod_string Tryd.underlying9 g1
    obtain ⟨q, k3, _, _⟩ := DataW.trod_int Tryd.underlying3 g2
    obtain ⟨A, L, c, k4, k5, k6⟩ := strs_of_trod g3
    obtain ⟨t, k7, _⟩ := DataW.trod_bool Tryd.underlying4 g4
    rw [c24] at hl
    have hz := bounds_u8 k1
    have e := five_of hl k0 k2 k3 k4 k7
    refine ⟨⟨z.toNat, h.data.toList, q, L, t⟩, A, c, ?_, ?_, k6, k5⟩
    · unfold locV
      simp only [str_of]
      rw [show ((z.toNat : Nat) : Int) = z by omega]
      have e2 : cs = #[.int .u8 z, .string h, .int .i64 q, .slice A L.length c, .bool t] := by
        apply Array.ext'
        exact e
      rw [e2]
    · show z.toNat < 256
      omega
end
end Go.Proofs.YtcnnnfnpdjgfmaaDoor
