/-
  THE WALK over the chapter's examples of package span (alive).
-/
import Derived.Test.YtjngfieggacpiaaGreatDoorSpanH
namespace Go.Proofs.YtjngfieggacpiaaGreatDoor
open Go.RowKit Adr Spn
set_option linter.unusedVariables false
set_option linter.unusedSimpArgs false
variable {fl : Bool}
theorem addr_any (x : Int) (w : World) : Calls Tryz.prog 55 #[.int .u64 x] w fun e w' => e = .returned (.agg #[.int .u64 0, .int .u64 x]) ∧ Below w.heap.size w w' := by
  go_enter Tryz.func55, Tryz.ntmps55
  go_wp2
  refine bodyPost_ret (v := .agg #[.int .u64 0, .int .u64 x]) (by simp [results, Tryz.results55, go_sem]) rfl ⟨rfl, ?_⟩
  exact below_new _ _
theorem own_cells {w : World} {base : Nat} {e : TypeId} {v : Value} {n : Nat} {xs : List Value} (h : w.ownsRow base e 4 v n xs) (hn : 0 < n) :
    ∃ g cap, v = .slice (some ⟨g, 0, none⟩) n cap ∧ base ≤ g ∧ g < w.heap.size ∧ n ≤ cap ∧ ∀ (j : Nat) x, xs[j]? = some x → w.cell? ⟨g, j, none⟩ = some x := by
  obtain ⟨hl, h | ⟨g, cap, cur, rfl, hb, hg, hnc, hcm, hcs, ht⟩⟩ := h
  · omega
  · have hlt : g < w.heap.size := (Array.getElem?_eq_some_iff.1 hg).1
    refine ⟨g, cap, rfl, hb, hlt, hnc, fun j x hj => ?_⟩
    have hjn : j < n * 4 := by have := (List.getElem?_eq_some_iff.1 hj).1; omega
    have h1 : cur.toList[j]? = some x := by
      have h2 : (cur.toList.take (n * 4))[j]? = cur.toList[j]? := by rw [List.getElem?_take]; rw [if_pos hjn]
      rw [← h2, ht]
      exact hj
    simp only [World.cell?, hg]
    simpa using h1
theorem steps_mk {W a n k : Nat} {l : List (Nat × Nat)} (hk : gre W a n = k) (h : 1 ≤ n) (t : Spn.Steps W (a + 2 ^ k) (n - 2 ^ k) l) : Spn.Steps W a n ((a, k) :: l) := by
  subst hk
  exact .cons a n l h t
theorem al_steps : Spn.Steps 32 167772161 6 [(167772161, 0), (167772162, 1), (167772164, 1), (167772166, 0)] :=
  steps_mk (by decide +kernel) (by decide) (steps_mk (by decide +kernel) (by decide) (steps_mk (by decide +kernel) (by decide) (steps_mk (by decide +kernel) (by decide) (.nil _))))
/-- the cells of the first example's list -/
def alc : List Value := [.int .u8 4, .int .u64 0, .int .u64 167772161, .int .i64 32, .int .u8 4, .int .u64 0, .int .u64 167772162, .int .i64 31, .int .u8 4, .int .u64 0, .int .u64 167772164, .int .i64 31, .int .u8 4, .int .u64 0, .int .u64 167772166, .int .i64 32]
theorem al_cells : pcells 4 32 [(167772161, 0), (167772162, 1), (167772164, 1), (167772166, 0)] = alc := by rfl
theorem al_pfx (w : World) : Calls Tryz.prog 25 #[.int .u8 4, .agg #[.int .u64 0, .int .u64 167772161, .int .u64 0, .int .u64 167772166]] w fun e w' => ∃ v, e = .returned (.tuple #[v, .int .i64 0]) ∧ w'.ownsRow w.heap.size 26 4 v 4 alc ∧ Below w.heap.size w w' := by
  have h := pfx_yes (Or.inl ⟨rfl, rfl⟩ : Fam 4 32) 167772161 167772166 (by decide) (by decide) _ al_steps w
  rw [al_cells] at h
  exact h
theorem al_stext (w : World) (env : Env fl w) : Calls Tryz.prog 18 #[.int .u8 4, .agg #[.int .u64 0, .int .u64 167772160, .int .u64 0, .int .u64 167772415]] w fun e w' => e = .returned (.tuple #[.string ⟨#[49, 48, 46, 48, 46, 48, 46, 48, 47, 50, 52]⟩, .int .i64 0]) ∧ Below w.heap.size w w' := by
  have h := stext_p (Or.inl ⟨rfl, rfl⟩ : Fam 4 32) 167772160 167772415 8 (by decide) (by decide) (by decide +kernel) (by decide) w env
  rw [show str (pfxS 4 (167772160 / 18446744073709551616) (167772160 % 18446744073709551616) (32 - 8)) = ⟨#[49, 48, 46, 48, 46, 48, 46, 48, 47, 50, 52]⟩ by decide +kernel] at h
  exact h
theorem al_world {w : World} {j : Nat} {x : Value} (t : TypeId) (h : alc[j]? = some x) : (w.alloc (.cells alc.toArray t)).cell? ⟨w.heap.size, j, none⟩ = some x := by
  rw [World.cell?_alloc_new]
  simpa using h
theorem al_far {w : World} {g : Nat} (hg : g < w.heap.size) (h : ∀ (j : Nat) x, alc[j]? = some x → w.cell? ⟨g, j, none⟩ = some x) (t : TypeId) :
    ∀ (j : Nat) x, alc[j]? = some x → (w.alloc (.cells alc.toArray t)).cell? ⟨g, j, none⟩ = some x := fun j x hx => by
  rw [World.cell?_alloc_lt w _ ⟨g, j, none⟩ hg]
  exact h j x hx
set_option maxRecDepth 100000 in
set_option maxHeartbeats 4000000 in
theorem alive2_any (w : World) (env : Env fl w) : Calls Tryz.prog 22 #[] w fun e w' => e = .returned (.bool true) ∧ Below w.heap.size w w' := by
  have hG := env.big
  have HE := Lib.hid env
  clear env
  go_enter Tryz.func22, Tryz.ntmps22
  go_wp2_with fail
  refine (addr_any _ _).mono ?_
  rintro e w1 ⟨rfl, hb1⟩
  go_wp2_with fail
  refine (addr_any _ _).mono ?_
  rintro e w2 ⟨rfl, hb2⟩
  have HB2 := Lib.hid (hb1.trans (hb2.mono hb1.size))
  clear hb1 hb2
  go_wp2_with fail
  refine (al_pfx w2).mono ?_
  rintro e w3 ⟨v, rfl, hown, hb3⟩
  obtain ⟨g, cap, rfl, hg1, hg2, hg3, hg4⟩ := own_cells hown (by decide)
  have HB3 := Lib.hid (HB2.out.trans (hb3.mono HB2.out.size))
  have HC3 := Lib.hid hg4
  clear hb3 HB2 hown hg4
  go_wp2_with fail
  refine (addr_any _ _).mono ?_
  rintro e w4 ⟨rfl, hb4⟩
  have HB4 := Lib.hid (HB3.out.trans (hb4.mono HB3.out.size))
  have HC4 := Lib.hid (fun j x hx => (hb4.cell (p := ⟨g, j, none⟩) hg2).trans (HC3.out j x hx))
  have hg4 : g < w4.heap.size := Nat.lt_of_lt_of_le hg2 hb4.size
  clear hb4 HB3 HC3 hg2
  go_wp2_with fail
  refine (addr_any _ _).mono ?_
  rintro e w5 ⟨rfl, hb5⟩
  have HB5 := Lib.hid (HB4.out.trans (hb5.mono HB4.out.size))
  have HC5 := Lib.hid (fun j x hx => (hb5.cell (p := ⟨g, j, none⟩) hg4).trans (HC4.out j x hx))
  have hg5 : g < w5.heap.size := Nat.lt_of_lt_of_le hg4 hb5.size
  clear hb5 HB4 HC4 hg4
  go_wp2_with fail
  refine (al_stext w5 (HE.out.below HB5.out hG)).mono ?_
  rintro e w6 ⟨rfl, hb6⟩
  have HB6 := Lib.hid (HB5.out.trans (hb6.mono HB5.out.size))
  have HC6 := Lib.hid (fun j x hx => (hb6.cell (p := ⟨g, j, none⟩) hg5).trans (HC5.out j x hx))
  have hg6 : g < w6.heap.size := Nat.lt_of_lt_of_le hg5 hb6.size
  clear hb6 HB5 HC5 hg5
  go_wp2_with (go_at_call 55; refine (addr_any _ _).mono ?_; rintro e w7 ⟨rfl, hb7⟩; have HB7 := Lib.hid (HB6.out.trans (hb7.mono HB6.out.size)); have HC7 := Lib.hid (fun j x hx => (hb7.cell (p := ⟨g, j, none⟩) hg6).trans (HC6.out j x hx)); have hg7 : g < w7.heap.size := Nat.lt_of_lt_of_le hg6 hb7.size; clear hb7 HB6 HC6 hg6; rename World => w6; have HB6 := HB7; have HC6 := HC7; have hg6 := hg7; clear HB7 HC7 hg7)
  have HV := Lib.hid (fun j x => @al_world w6 j x 26)
  have HG := Lib.hid (al_far (w := w6) hg6 HC6.out 26)
  have HB := Lib.hid (HB6.out.trans ((below_new w6 (.cells alc.toArray 26)).mono HB6.out.size))
  rw [show (#[Value.int IntKind.u8 4, Value.int IntKind.u64 0, Value.int IntKind.u64 167772161, Value.int IntKind.i64 32, Value.int IntKind.u8 4, Value.int IntKind.u64 0, Value.int IntKind.u64 167772162, Value.int IntKind.i64 31, Value.int IntKind.u8 4, Value.int IntKind.u64 0, Value.int IntKind.u64 167772164, Value.int IntKind.i64 31, Value.int IntKind.u8 4, Value.int IntKind.u64 0, Value.int IntKind.u64 167772166, Value.int IntKind.i64 32] : Array Value) = alc.toArray from rfl]
  generalize w6.alloc (.cells alc.toArray 26) = v at HV HG HB ⊢
  generalize w6.heap.size = P at HV ⊢
  clear HB6 HC6 hg6 HE hG
  have p0 := HV.out 0 _ rfl
  have p1 := HV.out 1 _ rfl
  have p2 := HV.out 2 _ rfl
  have p3 := HV.out 3 _ rfl
  have p4 := HV.out 4 _ rfl
  have p5 := HV.out 5 _ rfl
  have p6 := HV.out 6 _ rfl
  have p7 := HV.out 7 _ rfl
  have p8 := HV.out 8 _ rfl
  have p9 := HV.out 9 _ rfl
  have p10 := HV.out 10 _ rfl
  have p11 := HV.out 11 _ rfl
  have p12 := HV.out 12 _ rfl
  have p13 := HV.out 13 _ rfl
  have p14 := HV.out 14 _ rfl
  have p15 := HV.out 15 _ rfl
  have q0 := HG.out 0 _ rfl
  have q1 := HG.out 1 _ rfl
  have q2 := HG.out 2 _ rfl
  have q3 := HG.out 3 _ rfl
  have q4 := HG.out 4 _ rfl
  have q5 := HG.out 5 _ rfl
  have q6 := HG.out 6 _ rfl
  have q7 := HG.out 7 _ rfl
  have q8 := HG.out 8 _ rfl
  have q9 := HG.out 9 _ rfl
  have q10 := HG.out 10 _ rfl
  have q11 := HG.out 11 _ rfl
  have q12 := HG.out 12 _ rfl
  have q13 := HG.out 13 _ rfl
  have q14 := HG.out 14 _ rfl
  have q15 := HG.out 15 _ rfl
  clear HV HG
  refine wp_loop_rounds 5 ?_
  iterate 4 (rw [rounds_succ]; go_wp2_with fail; go_quiet (fail); go_wp2_with fail)
  rw [rounds_succ]
  go_wp2_with fail
  go_ret
  exact ⟨rfl, below_drewN HB.out _⟩
end Go.Proofs.YtjngfieggacpiaaGreatDoor
