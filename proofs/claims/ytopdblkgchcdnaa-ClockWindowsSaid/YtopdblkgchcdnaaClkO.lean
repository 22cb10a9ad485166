/-
  THE WALKS over the reference of package clock: the next event.
-/
import Derived.Test.YtopdblkgchcdnaaClkN
namespace Go.Proofs.Ytopdblkgchcdnaa
open Go.RowKit Clk
set_option linter.unusedVariables false
set_option linter.unusedSimpArgs false
/-- the error of a next event -/
def ne6 (o : Option Int) : Int := if o.isSome = true then 0 else 6
theorem nx_no1 {t x m : Int} (h : ¬ x < m) : Clk.nx t (some m) x = some m := by
  unfold Clk.nx; rw [if_neg]; rintro ⟨a, b | b⟩
  · cases b
  · exact h b
theorem nx_no2 {t x : Int} {a : Option Int} (h : ¬ t < x) : Clk.nx t a x = a := by
  unfold Clk.nx; rw [if_neg (fun hh => h hh.1)]
set_option maxHeartbeats 2000000 in
theorem rnext_loop (t : Int) (b off cap : Nat) (zs : List Int) (w : World) (hm : zs.length ≤ 1000) (hc : ∀ k, k < zs.length → w.cell? ⟨b, off + k, none⟩ = some (.int .i64 (zs.getD k 0))) :
    Calls Try.prog 18 #[.slice (some ⟨b, off, none⟩) zs.length cap, .int .i64 t] w fun e w' => e = .returned (.tuple #[.int .i64 ((Clk.nxt t zs).getD 0), .int .i64 (ne6 (Clk.nxt t zs))]) ∧ Below w.heap.size w w' := by
  have HC := Lib.hid hc
  clear hc
  go_enter Try.func18, Try.ntmps18
  go_wp2_with fail
  go_loopw [6, 7] (fun l i wr => ∃ (k nq : Nat) (y : Int), k ≤ zs.length ∧ i = .int .i64 k ∧ l = .int .i64 y ∧ wr = w.drewN nq ∧ ((Clk.nxt t (zs.take k) = none ∧ y = -1) ∨ ∃ j : Nat, j < k ∧ y = j ∧ Clk.nxt t (zs.take k) = some (zs.getD j 0))) (fun _ i _ => zs.length - (intOf i).toNat)
  case atStart => exact ⟨0, 0, -1, Nat.zero_le _, rfl, rfl, rfl, Or.inl ⟨rfl, rfl⟩⟩
  case round =>
    obtain ⟨k, nq, y, hk, rfl, rfl, rfl, hy⟩ := hrel
    have HY := Lib.hid hy
    clear hy
    by_cases hlt : k < zs.length
    · have hcell := HC.out k hlt
      have HS := Lib.hid (Clk.nxt_snoc t zs k hlt)
      obtain ⟨x, hx⟩ : ∃ x, zs.getD k 0 = x := ⟨_, rfl⟩
      have HX := Lib.hid hx
      rw [hx] at hcell
      clear hx
      have hk0 : (0 : Int) ≤ (k : Int) := by omega
      have hkl : (k : Int) < (zs.length : Int) := by omega
      rcases HY.out with ⟨ha, rfl⟩ | ⟨j, hj, rfl, ha⟩
      · have HA := Lib.hid ha
        clear ha
        by_cases ht : t < x
        · go_wp2_with fail
          go_quiet (fail)
          go_wp2_with fail
          go_roundw
          case rel => exact ⟨k + 1, _, k, by omega, by go_num, rfl, rfl, Or.inr ⟨k, by omega, rfl, by rw [HS.out, HA.out, HX.out]; simp [Clk.nx, ht]⟩⟩
          case measure => simp [intOf]; omega
        · have hd : decide (t < x) = false := by simpa using ht
          go_wp2_with fail
          go_quiet (fail)
          go_wp2_with fail
          go_roundw
          case rel => exact ⟨k + 1, _, -1, by omega, by go_num, rfl, rfl, Or.inl ⟨by rw [HS.out, HA.out, HX.out]; simp [Clk.nx, ht], rfl⟩⟩
          case measure => simp [intOf]; omega
      · have HA := Lib.hid ha
        have hcj := HC.out j (by omega)
        obtain ⟨m, hm'⟩ : ∃ m, zs.getD j 0 = m := ⟨_, rfl⟩
        have HM := Lib.hid hm'
        rw [hm'] at hcj
        clear ha hm'
        have hj0 : (0 : Int) ≤ (j : Int) := by omega
        have hjl : (j : Int) < (zs.length : Int) := by omega
        by_cases ht : t < x
        · by_cases hxm : x < m
          · go_wp2_with fail
            go_quiet (fail)
            go_wp2_with fail
            go_roundw
            case rel => exact ⟨k + 1, _, k, by omega, by go_num, rfl, rfl, Or.inr ⟨k, by omega, rfl, by rw [HS.out, HA.out, HX.out, HM.out]; simp [Clk.nx, ht, hxm]⟩⟩
            case measure => simp [intOf]; omega
          · have hd : decide (x < m) = false := by simpa using hxm
            go_wp2_with fail
            go_quiet (fail)
            go_wp2_with fail
            go_roundw
            case rel => exact ⟨k + 1, _, j, by omega, by go_num, rfl, rfl, Or.inr ⟨j, by omega, rfl, by rw [HS.out, HA.out, HX.out, HM.out]; exact nx_no1 (by omega)⟩⟩
            case measure => simp [intOf]; omega
        · have hd : decide (t < x) = false := by simpa using ht
          go_wp2_with fail
          go_quiet (fail)
          go_wp2_with fail
          go_roundw
          case rel => exact ⟨k + 1, _, j, by omega, by go_num, rfl, rfl, Or.inr ⟨j, by omega, rfl, by rw [HS.out, HA.out, HX.out, HM.out]; exact nx_no2 (by omega)⟩⟩
          case measure => simp [intOf]; omega
    · have he : k = zs.length := by omega
      have hT : zs.take k = zs := by rw [he]; exact List.take_length
      rw [hT] at HY
      have HB := Lib.hid (below_drewN (Below.refl w.heap.size w) nq)
      clear hT
      rcases HY.out with ⟨ha, rfl⟩ | ⟨j, hj, rfl, ha⟩
      · have HA := Lib.hid ha
        clear ha HY
        go_wp2_with fail
        go_ret2
        exact ⟨by rw [HA.out]; rfl, HB.out⟩
      · have HA := Lib.hid ha
        clear ha HY
        have hcj := HC.out j (by omega)
        have hj0 : (0 : Int) ≤ (j : Int) := by omega
        have hjl : (j : Int) < (zs.length : Int) := by omega
        go_wp2_with fail
        go_ret2
        exact ⟨by rw [HA.out]; rfl, HB.out⟩
set_option maxHeartbeats 1000000 in
theorem rnext_nil (t : Int) (a : Option Addr) (cap : Nat) (w : World) :
    Calls Try.prog 18 #[.slice a 0 cap, .int .i64 t] w fun e w' => e = .returned (.tuple #[.int .i64 0, .int .i64 6]) ∧ Below w.heap.size w w' := by
  go_enter Try.func18, Try.ntmps18
  go_wp2_with fail
  go_loop [6, 7] (fun l i => i = .int .i64 0 ∧ l = .int .i64 (-1)) (fun _ _ => 0)
  case atStart => exact ⟨rfl, rfl⟩
  case round =>
    obtain ⟨rfl, rfl⟩ := hrel
    go_wp2
    go_ret2
    exact ⟨rfl, Below.refl _ _⟩
theorem rnext_any (t : Int) (v : Value) (zs : List Int) (w : World) (hz : zs.length ≤ 9223372036854775807) (hv : Evs w v zs) :
    Calls Try.prog 18 #[v, .int .i64 t] w fun e w' => e = .returned (.tuple #[.int .i64 (neV t zs), .int .i64 (neE t zs)]) ∧ Below w.heap.size w w' := by
  rcases hv with ⟨⟨a, cap, rfl⟩, rfl⟩ | ⟨b, off, cap, rfl, hc⟩
  · rw [show neV t [] = 0 by simp [neV, nxt_nil], show neE t [] = 6 by simp [neE, nxt_nil]]
    exact rnext_nil t a cap w
  · by_cases hl : zs.length ≤ 1000
    · rw [show neV t zs = (Clk.nxt t zs).getD 0 by simp [neV, hl], show neE t zs = ne6 (Clk.nxt t zs) by simp [neE, ne6, hl]]
      exact rnext_loop t b off cap zs w hl hc
    · rw [show neV t zs = 0 by simp [neV, hl], show neE t zs = 4 by simp [neE, hl]]
      clear hc
      go_enter Try.func18, Try.ntmps18
      go_wp2_with fail
      go_ret2
      exact ⟨rfl, Below.refl _ _⟩
end Go.Proofs.Ytopdblkgchcdnaa
