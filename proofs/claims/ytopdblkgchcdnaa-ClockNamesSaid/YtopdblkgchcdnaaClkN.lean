/-
  THE WALKS over package clock and its reference: the next event.
-/
import Derived.Test.YtopdblkgchcdnaaClkKit
import Derived.ChangeSlices
import Derived.ReadAgain
namespace Go.Proofs.Ytopdblkgchcdnaa
open Go.RowKit Clk
set_option linter.unusedVariables false
set_option linter.unusedSimpArgs false
namespace Clk
/-- one event more -/
def nx (t : Int) (acc : Option Int) (x : Int) : Option Int := if t < x ∧ (acc = none ∨ x < acc.getD 0) then some x else acc
def nxt (t : Int) (zs : List Int) : Option Int := zs.foldl (nx t) none
theorem nxt_snoc (t : Int) (zs : List Int) (k : Nat) (h : k < zs.length) : nxt t (zs.take (k + 1)) = nx t (nxt t (zs.take k)) (zs.getD k 0) := by
  unfold nxt
  rw [List.take_add_one, List.foldl_append]
  simp [List.getD, List.getElem?_eq_getElem h]
/-- what the fold says -/
theorem nxt_take (t : Int) (zs : List Int) : ∀ k, k ≤ zs.length → (nxt t (zs.take k) = none ∧ ∀ j, j < k → ¬ t < zs.getD j 0) ∨ ∃ m, nxt t (zs.take k) = some m ∧ (∃ j, j < k ∧ zs.getD j 0 = m) ∧ t < m ∧ ∀ j, j < k → t < zs.getD j 0 → m ≤ zs.getD j 0 := by
  intro k
  induction k with
  | zero => intro _; left; exact ⟨rfl, fun j hj => by omega⟩
  | succ k ih =>
    intro hk
    rw [nxt_snoc t zs k (by omega)]
    rcases ih (by omega) with ⟨h1, h2⟩ | ⟨m, h1, ⟨i, h2, h2'⟩, h3, h4⟩
    · rw [h1]
      by_cases ht : t < zs.getD k 0
      · right
        refine ⟨zs.getD k 0, by unfold nx; rw [if_pos ⟨ht, Or.inl rfl⟩], ⟨k, by omega, rfl⟩, ht, fun j hj hx => ?_⟩
        by_cases hjk : j = k
        · subst hjk; exact Int.le_refl _
        · exact absurd hx (h2 j (by omega))
      · left
        refine ⟨by unfold nx; rw [if_neg (fun h => ht h.1)], fun j hj => ?_⟩
        by_cases hjk : j = k
        · subst hjk; exact ht
        · exact h2 j (by omega)
    · right
      rw [h1]
      by_cases ht : t < zs.getD k 0 ∧ zs.getD k 0 < m
      · refine ⟨zs.getD k 0, by unfold nx; rw [if_pos ⟨ht.1, Or.inr ht.2⟩], ⟨k, by omega, rfl⟩, ht.1, fun j hj hx => ?_⟩
        by_cases hjk : j = k
        · subst hjk; exact Int.le_refl _
        · have := h4 j (by omega) hx; omega
      · refine ⟨m, ?_, ⟨i, by omega, h2'⟩, h3, fun j hj hx => ?_⟩
        · unfold nx; rw [if_neg]; rintro ⟨a, b | b⟩
          · cases b
          · exact ht ⟨a, b⟩
        · by_cases hjk : j = k
          · subst hjk; exact Int.not_lt.1 fun hh => ht ⟨hx, hh⟩
          · exact h4 j (by omega) hx
theorem nxt_says (t : Int) (zs : List Int) : (nxt t zs = none ∧ ∀ j, j < zs.length → ¬ t < zs.getD j 0) ∨ ∃ m, nxt t zs = some m ∧ (∃ j, j < zs.length ∧ zs.getD j 0 = m) ∧ t < m ∧ ∀ j, j < zs.length → t < zs.getD j 0 → m ≤ zs.getD j 0 := by
  have := nxt_take t zs zs.length (Nat.le_refl _)
  rwa [List.take_length] at this
end Clk
set_option maxHeartbeats 1000000 in
theorem least_any (t : Int) (b off cap : Nat) (zs : List Int) (w : World) (hm : zs.length ≤ 1000) (hc : ∀ k, k < zs.length → w.cell? ⟨b, off + k, none⟩ = some (.int .i64 (zs.getD k 0))) :
    Calls Try.prog 28 #[.int .i64 t, .slice (some ⟨b, off, none⟩) zs.length cap] w fun e w' => e = .returned (.tuple #[.int .i64 ((Clk.nxt t zs).getD 0), .bool (Clk.nxt t zs).isSome]) ∧ w = w' := by
  have HC := Lib.hid hc
  clear hc
  go_enter Try.func28, Try.ntmps28
  go_wp2_with fail
  go_loop [4, 5, 10] (fun l s i => ∃ k : Nat, k ≤ zs.length ∧ i = .int .i64 k ∧ l = .int .i64 ((Clk.nxt t (zs.take k)).getD 0) ∧ s = .bool (Clk.nxt t (zs.take k)).isSome) (fun _ _ i => zs.length - (intOf i).toNat)
  case atStart => exact ⟨0, Nat.zero_le _, rfl, rfl, rfl⟩
  case round =>
    obtain ⟨k, hk, rfl, rfl, rfl⟩ := hrel
    by_cases hlt : k < zs.length
    · have hcell := HC.out k hlt
      have HS := Lib.hid (Clk.nxt_snoc t zs k hlt)
      obtain ⟨x, hx⟩ : ∃ x, zs.getD k 0 = x := ⟨_, rfl⟩
      obtain ⟨a, ha⟩ : ∃ a, Clk.nxt t (zs.take k) = a := ⟨_, rfl⟩
      have HN : RowKit.Hid (Clk.nxt t (zs.take (k + 1)) = Clk.nx t a x) := Lib.hid (by rw [HS.out, hx, ha])
      rw [hx] at hcell
      rw [ha]
      have HA := Lib.hid ha
      clear HS hx ha
      by_cases ht : t < x
      · cases a with
        | none =>
          simp only [Option.getD_none, Option.isSome_none]
          go_wp2_with fail
          go_round
          case rel => exact ⟨k + 1, by omega, by go_num, by rw [HN.out]; simp [Clk.nx, ht], by rw [HN.out]; simp [Clk.nx, ht]⟩
          case measure => simp [intOf]; omega
        | some m =>
          simp only [Option.getD_some, Option.isSome_some]
          by_cases hxm : x < m
          · go_wp2_with fail
            go_round
            case rel => exact ⟨k + 1, by omega, by go_num, by rw [HN.out]; simp [Clk.nx, ht, hxm], by rw [HN.out]; simp [Clk.nx, ht, hxm]⟩
            case measure => simp [intOf]; omega
          · go_wp2_with fail
            go_round
            case rel => exact ⟨k + 1, by omega, by go_num, by rw [HN.out]; simp [Clk.nx, ht, hxm], by rw [HN.out]; simp [Clk.nx, ht, hxm]⟩
            case measure => simp [intOf]; omega
      · go_wp2_with fail
        go_round
        case rel => exact ⟨k + 1, by omega, by go_num, by rw [HN.out]; simp [Clk.nx, ht], by rw [HN.out]; simp [Clk.nx, ht]⟩
        case measure => simp [intOf]; omega
    · have he : k = zs.length := by omega
      have hT : zs.take k = zs := by rw [he]; exact List.take_length
      rw [hT]
      clear hT
      go_wp2_with fail
      go_ret2
      exact ⟨rfl, rfl⟩
theorem least_nil (t : Int) (a : Option Addr) (cap : Nat) (w : World) :
    Calls Try.prog 28 #[.int .i64 t, .slice a 0 cap] w fun e w' => e = .returned (.tuple #[.int .i64 0, .bool false]) ∧ w = w' := by
  go_enter Try.func28, Try.ntmps28
  go_wp2
  go_loop [4, 5, 10] (fun l s i => i = .int .i64 0 ∧ l = .int .i64 0 ∧ s = .bool false) (fun _ _ _ => 0)
  case atStart => exact ⟨rfl, rfl, rfl⟩
  case round =>
    obtain ⟨rfl, rfl, rfl⟩ := hrel
    go_wp2
    go_ret2
    exact ⟨rfl, rfl⟩
/-- events in memory -/
def Evs (w : World) (v : Value) (zs : List Int) : Prop := (∃ a cap, v = .slice a 0 cap) ∧ zs = [] ∨ ∃ b off cap, v = .slice (some ⟨b, off, none⟩) zs.length cap ∧ ∀ k, k < zs.length → w.cell? ⟨b, off + k, none⟩ = some (.int .i64 (zs.getD k 0))
theorem Evs.on {w w' : World} {v : Value} {zs : List Int} (h : Evs w v zs) (hb : Below w.heap.size w w') : Evs w' v zs := by
  rcases h with h | ⟨b, off, cap, rfl, hc⟩
  · exact Or.inl h
  · refine Or.inr ⟨b, off, cap, rfl, fun k hk => ?_⟩
    have := hc k hk
    exact (hb.cell (p := ⟨b, off + k, none⟩) (World.block_lt_of_cell? _ _ this)).trans this
/-- what Next answers -/
def neV (t : Int) (zs : List Int) : Int := if zs.length ≤ 1000 then (Clk.nxt t zs).getD 0 else 0
def neE (t : Int) (zs : List Int) : Int := if zs.length ≤ 1000 then (if (Clk.nxt t zs).isSome = true then 0 else 6) else 4
theorem nxt_nil (t : Int) : Clk.nxt t [] = none := rfl
section
open Go.ChangeShapes Go.WideShapes Go.ChangeAt Go.Joins
variable {H : Type} {enc : TypeId × Value → H} {w : World}
theorem Try.cellsI64 : Try.prog.cellsOf 2 = 1 := by kernel_rfl
/-- a slice of events that came in -/
theorem open_events {r : Reach} {b0 : Nat} {v : Value} {d : DataW H} {p : List MemPlace} (hv : Value.okWide Try.prog w r b0 35 v) (h : DataW.Trod enc Try.prog w 0 (fun _ => true) true 35 v d p) :
    ∃ zs : List Int, zs.length ≤ 9223372036854775807 ∧ Evs w v zs := by
  obtain ⟨a0, len, cap, rfl⟩ := okWide_slice Try.underlying35 hv
  obtain ⟨fuel, hf⟩ := h
  rcases open_ints Try.underlying35 Try.underlying2 Try.cellsI64 hf with ⟨hcs, hx⟩ | ⟨a, len', cap', zs, hcs, _, hl, hm, hz, hx, hcell, hwz⟩
  · simp [Value.cells] at hcs
    obtain ⟨rfl, rfl, rfl⟩ := hcs
    exact ⟨[], by simp, Or.inl ⟨⟨_, _, rfl⟩, rfl⟩⟩
  · simp [Value.cells] at hcs
    obtain ⟨rfl, rfl, rfl⟩ := hcs
    simp only [if_true] at hz
    have hlt : (zs.take len).length = len := by simp; omega
    unfold maxLen at hm
    by_cases hl0 : len = 0
    · subst hl0
      exact ⟨[], by simp, Or.inl ⟨⟨_, _, rfl⟩, rfl⟩⟩
    · obtain ⟨b, off, spot⟩ := a
      have hspot : spot = none := by simpa [Addr.add] using World.cell?_spot (hcell 0 (by omega))
      subst hspot
      refine ⟨zs.take len, by omega, Or.inr ⟨b, off, cap, by rw [hlt], fun k hk => ?_⟩⟩
      rw [hlt] at hk
      have := hcell k (by omega)
      rw [add_plain] at this
      rw [this]
      simp [List.getD, List.getElem?_take, hk]
end
set_option maxHeartbeats 1000000 in
theorem next_any (t : Int) (v : Value) (zs : List Int) (w : World) (hz : zs.length ≤ 9223372036854775807) (hv : Evs w v zs) :
    Calls Try.prog 15 #[v, .int .i64 t] w fun e w' => e = .returned (.tuple #[.int .i64 (neV t zs), .int .i64 (neE t zs)]) ∧ w = w' := by
  rcases hv with ⟨⟨a, cap, rfl⟩, rfl⟩ | ⟨b, off, cap, rfl, hc⟩
  · rw [show neV t [] = 0 by simp [neV, nxt_nil], show neE t [] = 6 by simp [neE, nxt_nil]]
    go_enter Try.func15, Try.ntmps15
    go_wp2_with (go_at_call 28; refine (least_nil _ _ _ _).mono ?_; rintro e w1 ⟨rfl, rfl⟩)
    go_ret2
    exact ⟨rfl, rfl⟩
  · have HC := Lib.hid hc
    clear hc
    by_cases hl : zs.length ≤ 1000
    · cases ha : Clk.nxt t zs with
      | none =>
        rw [show neV t zs = 0 by simp [neV, ha], show neE t zs = 6 by simp [neE, ha, hl]]
        have h := least_any t b off cap zs w hl HC.out
        rw [ha] at h
        simp only [Option.getD_none, Option.isSome_none] at h
        have HL := Lib.hid h
        clear h ha
        go_enter Try.func15, Try.ntmps15
        go_wp2_with fail
        refine HL.out.mono ?_
        rintro e w1 ⟨rfl, rfl⟩
        go_wp2_with fail
        go_ret2
        exact ⟨rfl, rfl⟩
      | some m =>
        rw [show neV t zs = m by simp [neV, ha, hl], show neE t zs = 0 by simp [neE, ha, hl]]
        have h := least_any t b off cap zs w hl HC.out
        rw [ha] at h
        simp only [Option.getD_some, Option.isSome_some] at h
        have HL := Lib.hid h
        clear h ha
        go_enter Try.func15, Try.ntmps15
        go_wp2_with fail
        refine HL.out.mono ?_
        rintro e w1 ⟨rfl, rfl⟩
        go_wp2_with fail
        go_ret2
        exact ⟨rfl, rfl⟩
    · rw [show neV t zs = 0 by simp [neV, hl], show neE t zs = 4 by simp [neE, hl]]
      go_enter Try.func15, Try.ntmps15
      go_wp2_with fail
      go_ret2
      exact ⟨rfl, rfl⟩
end Go.Proofs.Ytopdblkgchcdnaa
