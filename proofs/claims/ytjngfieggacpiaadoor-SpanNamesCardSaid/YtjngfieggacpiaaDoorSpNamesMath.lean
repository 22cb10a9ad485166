/-
  The values of SpanNames: what package span's functions answer at them.
-/
import Derived.Test.YtjngfieggacpiaaDoorSpanK
import Derived.Test.YtjngfieggacpiaaDoorSpanI
namespace Go.Proofs.YtjngfieggacpiaaDoor
open Go.RowKit Adr Spn
set_option linter.unusedVariables false
def stepsL (W : Nat) : Nat → Nat → Nat → List (Nat × Nat)
  | 0, _, _ => []
  | k + 1, a, n => if n = 0 then [] else (a, gre W a n) :: stepsL W k (a + 2 ^ gre W a n) (n - 2 ^ gre W a n)
def stepsEnd (W : Nat) : Nat → Nat → Nat → Bool
  | 0, _, n => n == 0
  | k + 1, a, n => n == 0 || stepsEnd W k (a + 2 ^ gre W a n) (n - 2 ^ gre W a n)
theorem stepsL_ok (W : Nat) : ∀ (k a n : Nat), stepsEnd W k a n = true → Spn.Steps W a n (stepsL W k a n)
  | 0, a, n, h => by
    have : n = 0 := by simpa [stepsEnd] using h
    subst this
    exact .nil _
  | k + 1, a, n, h => by
    unfold stepsL
    by_cases h0 : n = 0
    · subst h0
      rw [if_pos rfl]
      exact .nil _
    · rw [if_neg h0]
      refine .cons a n _ (by omega) (stepsL_ok W k _ _ ?_)
      unfold stepsEnd at h
      simpa [h0] using h
/-- a prefix in a list's block -/
structure Lp4 (g : Nat) (W : World) (f h l n : Int) : Prop where
  lt : g < W.heap.size
  a0 : W.cell? ⟨g, 0, none⟩ = some (.int .u8 f)
  a1 : W.cell? ⟨g, 1, none⟩ = some (.int .u64 h)
  a2 : W.cell? ⟨g, 2, none⟩ = some (.int .u64 l)
  a3 : W.cell? ⟨g, 3, none⟩ = some (.int .i64 n)
theorem Lp4.on {N : Nat} {W W' : World} {f h l n : Int} (t : Lp4 N W f h l n) (hb : Below W.heap.size W W') : Lp4 N W' f h l n :=
  ⟨Nat.lt_of_lt_of_le t.lt hb.size, (hb.cell (p := ⟨N, 0, none⟩) t.lt).trans t.a0, (hb.cell (p := ⟨N, 1, none⟩) t.lt).trans t.a1, (hb.cell (p := ⟨N, 2, none⟩) t.lt).trans t.a2, (hb.cell (p := ⟨N, 3, none⟩) t.lt).trans t.a3⟩
theorem cell_lit {w : World} {l : List Value} {j : Nat} {x : Value} (t : TypeId) (h : l[j]? = some x) : (w.alloc (.cells l.toArray t)).cell? ⟨w.heap.size, j, none⟩ = some x := by
  rw [World.cell?_alloc_new]
  simpa using h
theorem sn_l_steps : stepsEnd 32 62 1 4294967294 = true := by decide +kernel
theorem sn_l_len : (stepsL 32 62 1 4294967294).length = 62 := by decide +kernel
theorem sn_l (w : World) : Calls Tryd.prog 15 #[.int .u8 4, .agg #[.int .u64 0, .int .u64 1, .int .u64 0, .int .u64 4294967294]] w fun e w' => ∃ (g cap : Nat), e = .returned (.tuple #[.slice (some ⟨g, 0, none⟩) 62 cap, .int .i64 0]) ∧ Below w.heap.size w w' := by
  have h := pfx_yes (Or.inl ⟨rfl, rfl⟩ : Fam 4 32) 1 4294967294 (by decide) (by decide) (stepsL 32 62 1 4294967294) (stepsL_ok 32 62 1 4294967294 sn_l_steps) w
  refine Calls.mono h ?_
  rintro e w' ⟨v, rfl, hown, hb⟩
  rw [sn_l_len] at hown
  obtain ⟨g, cap, rfl, _⟩ := own_cells hown (by decide)
  exact ⟨g, cap, rfl, hb⟩
theorem sn_m_steps : stepsEnd 128 254 1 340282366920938463463374607431768211454 = true := by decide +kernel
theorem sn_m_len : (stepsL 128 254 1 340282366920938463463374607431768211454).length = 254 := by decide +kernel
theorem sn_m (w : World) : Calls Tryd.prog 15 #[.int .u8 6, .agg #[.int .u64 0, .int .u64 1, .int .u64 18446744073709551615, .int .u64 18446744073709551614]] w fun e w' => ∃ (g cap : Nat), e = .returned (.tuple #[.slice (some ⟨g, 0, none⟩) 254 cap, .int .i64 0]) ∧ Below w.heap.size w w' := by
  have h := pfx_yes (Or.inr ⟨rfl, rfl⟩ : Fam 6 128) 1 340282366920938463463374607431768211454 (by decide) (by decide) (stepsL 128 254 1 340282366920938463463374607431768211454) (stepsL_ok 128 254 1 340282366920938463463374607431768211454 sn_m_steps) w
  refine Calls.mono h ?_
  rintro e w' ⟨v, rfl, hown, hb⟩
  rw [sn_m_len] at hown
  obtain ⟨g, cap, rfl, _⟩ := own_cells hown (by decide)
  exact ⟨g, cap, rfl, hb⟩
theorem sn_one (w : World) : Calls Tryd.prog 15 #[.int .u8 6, .agg #[.int .u64 0, .int .u64 0, .int .u64 18446744073709551615, .int .u64 18446744073709551615]] w fun e w' => ∃ (g cap : Nat), e = .returned (.tuple #[.slice (some ⟨g, 0, none⟩) 1 cap, .int .i64 0]) ∧ Lp4 g w' 6 0 0 0 ∧ 1 ≤ cap ∧ Below w.heap.size w w' := by
  have h := pfx_yes (Or.inr ⟨rfl, rfl⟩ : Fam 6 128) 0 340282366920938463463374607431768211455 (by decide) (by decide) [(0, 128)] (steps_mk (by decide +kernel) (by decide) (by rw [show (340282366920938463463374607431768211455 + 1 - 0 - 2 ^ 128 : Nat) = 0 by decide]; exact .nil _)) w
  refine Calls.mono h ?_
  rintro e w' ⟨v, rfl, hown, hb⟩
  obtain ⟨g, cap, rfl, h1, h2, h3, h4⟩ := own_cells hown (by decide)
  exact ⟨g, cap, rfl, ⟨h2, h4 0 _ rfl, h4 1 _ rfl, h4 2 _ rfl, h4 3 _ rfl⟩, h3, hb⟩
theorem sn_bad1 (w : World) : Calls Tryd.prog 15 #[.int .u8 4, .agg #[.int .u64 0, .int .u64 2, .int .u64 0, .int .u64 1]] w fun e w' => e = .returned (.tuple #[.slice none 0 0, .int .i64 8]) ∧ Below w.heap.size w w' := pfx_no 4 2 1 8 (by decide +kernel) (by decide) w
theorem sn_bad2 (w : World) : Calls Tryd.prog 15 #[.int .u8 0, .agg #[.int .u64 0, .int .u64 0, .int .u64 0, .int .u64 0]] w fun e w' => e = .returned (.tuple #[.slice none 0 0, .int .i64 2]) ∧ Below w.heap.size w w' := pfx_no 0 0 0 2 (by decide +kernel) (by decide) w
theorem sn_n1 (w : World) : Calls Tryd.prog 17 #[.int .u8 4, .agg #[.int .u64 0, .int .u64 4294967295]] w fun e w' => e = .returned (.tuple #[.agg #[.int .u64 0, .int .u64 0], .bool false]) ∧ Below w.heap.size w w' := next_no 4 4294967295 w (by decide) (by decide +kernel)
theorem sn_n2 (w : World) : Calls Tryd.prog 17 #[.int .u8 6, .agg #[.int .u64 0, .int .u64 4294967295]] w fun e w' => e = .returned (.tuple #[.agg #[.int .u64 0, .int .u64 4294967296], .bool true]) ∧ Below w.heap.size w w' := next_yes 6 4294967295 w (by decide +kernel)
theorem sn_n3 (w : World) : Calls Tryd.prog 17 #[.int .u8 6, .agg #[.int .u64 18446744073709551615, .int .u64 18446744073709551615]] w fun e w' => e = .returned (.tuple #[.agg #[.int .u64 0, .int .u64 0], .bool false]) ∧ Below w.heap.size w w' := next_no 6 340282366920938463463374607431768211455 w (by decide) (by decide +kernel)
theorem sn_n4 (w : World) : Calls Tryd.prog 17 #[.int .u8 6, .agg #[.int .u64 0, .int .u64 18446744073709551615]] w fun e w' => e = .returned (.tuple #[.agg #[.int .u64 1, .int .u64 0], .bool true]) ∧ Below w.heap.size w w' := next_yes 6 18446744073709551615 w (by decide +kernel)
theorem sn_n5 (w : World) : Calls Tryd.prog 17 #[.int .u8 4, .agg #[.int .u64 0, .int .u64 4294967296]] w fun e w' => e = .returned (.tuple #[.agg #[.int .u64 0, .int .u64 0], .bool false]) ∧ Below w.heap.size w w' := next_no 4 4294967296 w (by decide) (by decide +kernel)
set_option maxRecDepth 100000 in
theorem prev_no (w : World) : Calls Tryd.prog 18 #[.agg #[.int .u64 0, .int .u64 0]] w fun e w' => e = .returned (.tuple #[.agg #[.int .u64 0, .int .u64 0], .bool false]) ∧ Below w.heap.size w w' := by
  go_enter Tryd.func18, Tryd.ntmps18
  go_wp2_with fail
  refine bodyPost_ret (v := .tuple #[.agg #[.int .u64 0, .int .u64 0], .bool false]) (by simp [results, Tryd.results18, go_sem]) rfl ⟨rfl, ?_⟩
  first
    | exact ((Below.refl _ _).alloc (Nat.le_refl _) _).alloc (by simp) _
    | exact two_below (((Below.refl _ _).alloc (Nat.le_refl _) _).alloc (by simp) _) (by simp)
theorem sn_v1 (w : World) : Calls Tryd.prog 18 #[.agg #[.int .u64 0, .int .u64 0]] w fun e w' => e = .returned (.tuple #[.agg #[.int .u64 0, .int .u64 0], .bool false]) ∧ Below w.heap.size w w' := prev_no w
theorem sn_v2 (w : World) : Calls Tryd.prog 18 #[.agg #[.int .u64 1, .int .u64 0]] w fun e w' => e = .returned (.tuple #[.agg #[.int .u64 0, .int .u64 18446744073709551615], .bool true]) ∧ Below w.heap.size w w' := prev_yes 18446744073709551616 w (by decide) (by decide)
theorem sn_o1 (w : World) : Calls Tryd.prog 19 #[.agg #[.int .u8 6, .int .u64 9223372036854775808, .int .u64 0, .int .i64 1]] w fun e w' => e = .returned (.tuple #[.agg #[.int .u64 9223372036854775808, .int .u64 0, .int .u64 18446744073709551615, .int .u64 18446744073709551615], .int .i64 0]) ∧ Below w.heap.size w w' := of_yes (Or.inr ⟨rfl, rfl⟩ : Fam 6 128) 170141183460469231731687303715884105728 1 (by decide) (by decide) (by decide) w
theorem sn_o2 (w : World) : Calls Tryd.prog 19 #[.agg #[.int .u8 4, .int .u64 0, .int .u64 1, .int .i64 31]] w fun e w' => e = .returned (.tuple #[.agg #[.int .u64 0, .int .u64 0, .int .u64 0, .int .u64 0], .int .i64 8]) ∧ Below w.heap.size w w' := of_no 4 0 1 31 8 w ⟨by decide, by decide⟩ ⟨by decide, by decide⟩ (by decide +kernel) (by decide)
theorem sn_c1 (w : World) : Calls Tryd.prog 21 #[.int .u8 5, .agg #[.int .u64 0, .int .u64 0, .int .u64 0, .int .u64 0]] w fun e w' => e = .returned (.int .i64 2) ∧ Below w.heap.size w w' := by
  have h := schk_any 5 0 0 w
  rw [show schk 5 0 0 = 2 by decide +kernel] at h
  exact h
theorem sn_c2 (w : World) : Calls Tryd.prog 21 #[.int .u8 4, .agg #[.int .u64 0, .int .u64 0, .int .u64 1, .int .u64 0]] w fun e w' => e = .returned (.int .i64 8) ∧ Below w.heap.size w w' := by
  have h := schk_any 4 0 18446744073709551616 w
  rw [show schk 4 0 18446744073709551616 = 8 by decide +kernel] at h
  exact h
theorem sn_c3 (w : World) : Calls Tryd.prog 21 #[.int .u8 6, .agg #[.int .u64 0, .int .u64 0, .int .u64 1, .int .u64 0]] w fun e w' => e = .returned (.int .i64 0) ∧ Below w.heap.size w w' := by
  have h := schk_any 6 0 18446744073709551616 w
  rw [show schk 6 0 18446744073709551616 = 0 by decide +kernel] at h
  exact h
def snBad : List ByteArray := [⟨#[]⟩, ⟨#[49, 48, 46, 48, 46, 48, 46, 48, 45, 49, 48, 46, 48, 46, 48, 46, 50, 53, 53]⟩, ⟨#[49, 48, 46, 48, 46, 48, 46, 50, 45, 49, 48, 46, 48, 46, 48, 46, 49]⟩, ⟨#[49, 48, 46, 48, 46, 48, 46, 48]⟩, ⟨#[49, 48, 46, 48, 46, 48, 46, 48, 45]⟩, ⟨#[45]⟩, ⟨#[49, 48, 46, 48, 46, 48, 46, 49, 45, 58, 58, 49]⟩, ⟨#[49, 48, 46, 48, 46, 48, 46, 49, 45, 49, 48, 46, 48, 46, 48, 46, 52, 45, 49, 48, 46, 48, 46, 48, 46, 53]⟩, ⟨#[49, 48, 46, 48, 46, 48, 46, 49, 45, 49, 48, 46, 48, 46, 48, 46, 49]⟩, ⟨#[49, 48, 46, 48, 46, 48, 46, 49, 47, 56]⟩, ⟨#[58, 58, 45, 58, 58]⟩]
theorem snBad_all : (snBad.all fun s => decide (spE s = 12) && decide (s.size ≤ 1000)) = true := by decide +kernel
theorem sn_bad (s : ByteArray) (h : s ∈ snBad) : spE s = 12 ∧ s.size ≤ 1000 := by
  have := List.all_eq_true.1 snBad_all s h
  simpa using this
theorem sn_str : (spF ⟨#[58, 58, 49, 45, 58, 58, 50]⟩, spA ⟨#[58, 58, 49, 45, 58, 58, 50]⟩, spM ⟨#[58, 58, 49, 45, 58, 58, 50]⟩, spE ⟨#[58, 58, 49, 45, 58, 58, 50]⟩) = (6, 1, 2, 0) := by decide +kernel
theorem sn_p (w : World) (env : Env true w) : Calls Tryd.prog 20 #[.string ⟨#[58, 58, 49, 45, 58, 58, 50]⟩] w fun e w' => e = .returned (.tuple #[.int .u8 6, .agg #[.int .u64 0, .int .u64 1, .int .u64 0, .int .u64 2], .int .i64 0]) ∧ Below w.heap.size w w' := by
  have h := sparse_any ⟨#[58, 58, 49, 45, 58, 58, 50]⟩ w env (by decide)
  have e := sn_str
  simp only [Prod.mk.injEq] at e
  rw [e.1, e.2.1, e.2.2.1, e.2.2.2] at h
  exact h
end Go.Proofs.YtjngfieggacpiaaDoor
