/-
  THE WALKS over the texts of the reference of layer 1: numbers of systems, at every string; an address in four groups.
-/
import Derived.Test.YtlikgfmcialepaaGreatDoorTxRefI
namespace Go.Proofs.YtlikgfmcialepaaGreatDoor
open Go.RowKit Adr
set_option linter.unusedVariables false
set_option linter.unusedSimpArgs false
theorem rasparse_short (s : ByteArray) (h2 : s.size < 2) (w : World) :
    Calls Tryz.prog 14 #[.string s] w fun e w' => e = .returned (.tuple #[.int .u32 0, .int .i64 12]) ∧ w = w' := by
  have hz : (s.size : Int) < 2 := by omega
  go_enter Tryz.func14, Tryz.ntmps14
  go_wp2_with fail
  go_ret2
  exact ⟨rfl, rfl⟩
theorem rasparse_not (s : ByteArray) (hs : s.size ≤ 1000) (h2 : 2 ≤ s.size) (hA : ((s.extract 0 2).toList == [65, 83]) = false) (w : World) :
    Calls Tryz.prog 14 #[.string s] w fun e w' => e = .returned (.tuple #[.int .u32 0, .int .i64 12]) ∧ w = w' := by
  have hz : (2 : Int) ≤ (s.size : Int) := by omega
  go_enter Tryz.func14, Tryz.ntmps14
  go_wp2_with fail
  go_ret2
  exact ⟨rfl, rfl⟩
/-- the reference's AsParse is the program's -/
theorem rasparse_any (s : ByteArray) (hs : s.size ≤ 1000) (w : World) :
    Calls Tryz.prog 14 #[.string s] w fun e w' => e = .returned (.tuple #[.int .u32 ((asNum s).getD 0 : Nat), .int .i64 (if (asNum s).isSome = true then 0 else 12)]) ∧ w = w' := by
  rw [← asR_eq]
  unfold asR
  by_cases h2 : 2 ≤ s.size
  · by_cases hA : s.extract 0 2 = ⟨#[65, 83]⟩
    · have hsm : (s.extract 2 s.size).size ≤ 1000 := by simp; omega
      have hN := fun w => number_any (s.extract 2 s.size) 10 4294967295 (by omega) (by omega) (by omega) hsm w
      have hc := rasparse_core s hs (nuV 10 (s.extract 2 s.size)) (nuB 10 4294967295 (s.extract 2 s.size)) h2 hA (by
        cases hq : nuB 10 4294967295 (s.extract 2 s.size)
        · exact Or.inr rfl
        · refine Or.inl ?_
          unfold nuB at hq
          simp only [Bool.and_eq_true, decide_eq_true_eq] at hq
          omega) hN w
      refine hc.mono ?_
      rintro e w' ⟨rfl, rfl⟩
      refine ⟨?_, rfl⟩
      have hr : (if 2 ≤ s.size ∧ s.extract 0 2 = ⟨#[65, 83]⟩ ∧ nuB 10 4294967295 (s.extract 2 s.size) = true then some (nuV 10 (s.extract 2 s.size)) else none) = if nuB 10 4294967295 (s.extract 2 s.size) = true then some (nuV 10 (s.extract 2 s.size)) else none := by
        by_cases hq : nuB 10 4294967295 (s.extract 2 s.size) = true
        · rw [if_pos hq, if_pos ⟨h2, hA, hq⟩]
        · rw [if_neg hq, if_neg (fun h => hq h.2.2)]
      rw [hr]
      cases hq : nuB 10 4294967295 (s.extract 2 s.size) <;> rfl
    · rw [if_neg (fun h => hA h.2.1)]
      exact rasparse_not s hs h2 (by
        rw [ByteArray.toList_eq]
        refine beq_eq_false_iff_ne.2 (fun h => hA (by
          apply ByteArray.ext
          apply Array.ext'
          exact h))) w
  · rw [if_neg (fun h => h2 h.1)]
    exact rasparse_short s (by omega) w
/-! four groups -/
theorem wrap_s (x : Int) (h : 0 ≤ x) (h2 : x < 18446744073709551616) : IntKind.u64.wrap x = x := wrap_u64 ⟨h, h2⟩
/-- a row of numbers of the call's own, opened -/
theorem own_u64V {w : World} {base : Nat} {e : TypeId} {v : Value} {n : Nat} {xs : List Nat} (h : w.ownsRow base e 1 v n (u64sV xs)) (hn : 0 < n) :
    ∃ g cap, v = .slice (some ⟨g, 0, none⟩) n cap ∧ base ≤ g ∧ n ≤ cap ∧ cap ≤ maxLen ∧ g < w.heap.size ∧ (∀ (j : Nat) (x : Nat), xs[j]? = some x → w.cell? ⟨g, j, none⟩ = some (.int .u64 (x : Int))) := by
  obtain ⟨hl, h | ⟨g, cap, cur, rfl, hb, hg, hnc, hcm, hcs, ht⟩⟩ := h
  · omega
  · refine ⟨g, cap, rfl, hb, hnc, hcm, (Array.getElem?_eq_some_iff.1 hg).1, fun j p hj => ?_⟩
    have hjn : j < n := by
      have := (List.getElem?_eq_some_iff.1 hj).1
      unfold u64sV at hl
      simp at hl
      omega
    have h1 : cur.toList[j]? = some (.int .u64 (p : Int)) := by
      have h2 : (cur.toList.take (n * 1))[j]? = cur.toList[j]? := by rw [List.getElem?_take]; rw [if_pos (by omega)]
      rw [← h2, ht]
      unfold u64sV
      rw [List.getElem?_map, hj]
      rfl
    simp only [World.cell?, hg]
    simpa using h1
set_option maxRecDepth 100000 in
set_option maxHeartbeats 1000000 in
theorem rap_long (s : ByteArray) (h : 100 < s.size) (w : World) :
    Calls Tryz.prog 8 #[.string s] w fun e w' => e = .returned (.tuple #[.int .u8 0, .agg #[.int .u64 0, .int .u64 0], .int .i64 12]) ∧ Below w.heap.size w w' := by
  have hz : (100 : Int) < (s.size : Int) := by omega
  clear h
  go_enter Tryz.func8, Tryz.ntmps8
  go_wp2_with fail
  refine bodyPost_ret (v := .tuple #[.int .u8 0, .agg #[.int .u64 0, .int .u64 0], .int .i64 12]) (by simp [results, Tryz.results8, go_sem]) rfl ⟨rfl, ?_⟩
  exact (Below.refl _ _).alloc (Nat.le_refl _) _
set_option maxRecDepth 100000 in
set_option maxHeartbeats 4000000 in
theorem rap_four (s : ByteArray) (hs : s.size ≤ 100) (a b c d : Nat) (hg : grR 10 255 46 s = some [a, b, c, d]) (w : World) :
    Calls Tryz.prog 8 #[.string s] w fun e w' => e = .returned (.tuple #[.int .u8 4, .agg #[.int .u64 0, .int .u64 ((((a * 256 + b) * 256 + c) * 256 + d : Nat) : Int)], .int .i64 0]) ∧ Below w.heap.size w w' := by
  have HG : RowKit.Hid (∀ w, Calls Tryz.prog 33 #[.string s, .int .u8 46, .int .u64 10, .int .u64 255] w (GroupsLeft (some [a, b, c, d]) w)) := Lib.hid (fun w => by
    have h := groups_any s 46 10 255 (by omega) (by omega) (by omega) (by omega) w
    rw [hg] at h
    exact h)
  have hle := grR_le (by omega) (by omega) hg
  have la := hle a (by simp)
  have lb := hle b (by simp)
  have lc := hle c (by simp)
  have ld := hle d (by simp)
  obtain ⟨T, hT⟩ : ∃ T, ((a * 256 + b) * 256 + c) * 256 + d = T := ⟨_, rfl⟩
  rw [hT]
  have HT := Lib.hid hT
  have HLE := Lib.hid (⟨la, lb, lc, ld⟩ : a ≤ 255 ∧ b ≤ 255 ∧ c ≤ 255 ∧ d ≤ 255)
  have hz : (s.size : Int) ≤ 100 := by omega
  clear hle hg hs la lb lc ld hT
  go_enter Tryz.func8, Tryz.ntmps8
  go_wp2_with fail
  refine (HG.out _).mono ?_
  rintro e w2 ⟨v, rfl, hown, -, hb2⟩
  obtain ⟨g, cap, rfl, hgb, -, -, hg3, hg4⟩ := own_u64V hown (by simp)
  have c0 : w2.cell? ⟨g, 0, none⟩ = some (.int .u64 (a : Int)) := hg4 0 _ rfl
  have c1 : w2.cell? ⟨g, 1, none⟩ = some (.int .u64 (b : Int)) := hg4 1 _ rfl
  have c2 : w2.cell? ⟨g, 2, none⟩ = some (.int .u64 (c : Int)) := hg4 2 _ rfl
  have c3 : w2.cell? ⟨g, 3, none⟩ = some (.int .u64 (d : Int)) := hg4 3 _ rfl
  have x0 : w2.cell? ⟨w.heap.size, 0, none⟩ = some (.int .u64 0) := by rw [hb2.cell (p := ⟨w.heap.size, 0, none⟩) (by simp)]; simp
  have x1 : w2.cell? ⟨w.heap.size, 1, none⟩ = some (.int .u64 0) := by rw [hb2.cell (p := ⟨w.heap.size, 1, none⟩) (by simp)]; simp
  have y0 : w2.frozen? ⟨w.heap.size, 0, none⟩ = false := by rw [hb2.frozen (p := ⟨w.heap.size, 0, none⟩) (by simp)]; simp
  have y1 : w2.frozen? ⟨w.heap.size, 1, none⟩ = false := by rw [hb2.frozen (p := ⟨w.heap.size, 1, none⟩) (by simp)]; simp
  have HB2 := Lib.hid (((Below.refl w.heap.size w).alloc (Nat.le_refl _) _).trans (hb2.mono (by simp)))
  clear hb2 hown hg4
  have z0 : w.heap.size < w2.heap.size := by have := World.block_lt_of_cell? _ _ x0; simpa using this
  have hne0 : (⟨w.heap.size, 0, none⟩ : Addr) ≠ ⟨g, 0, none⟩ ∧ (⟨w.heap.size, 0, none⟩ : Addr) ≠ ⟨g, 1, none⟩ ∧ (⟨w.heap.size, 0, none⟩ : Addr) ≠ ⟨g, 2, none⟩ ∧ (⟨w.heap.size, 0, none⟩ : Addr) ≠ ⟨g, 3, none⟩ ∧ (⟨w.heap.size, 1, none⟩ : Addr) ≠ ⟨g, 0, none⟩ ∧ (⟨w.heap.size, 1, none⟩ : Addr) ≠ ⟨g, 1, none⟩ ∧ (⟨w.heap.size, 1, none⟩ : Addr) ≠ ⟨g, 2, none⟩ ∧ (⟨w.heap.size, 1, none⟩ : Addr) ≠ ⟨g, 3, none⟩ := by
    have hgw : w.heap.size ≠ g := by
      have h1 : w.heap.size + 1 ≤ g := by simpa using hgb
      omega
    refine ⟨?_, ?_, ?_, ?_, ?_, ?_, ?_, ?_⟩ <;> (intro h; exact hgw (congrArg Addr.block h))
  have hW : IntKind.u64.wrap (IntKind.u64.wrap (IntKind.u64.wrap (IntKind.u64.wrap (IntKind.u64.wrap (IntKind.u64.wrap ((a : Int) * 256) + (b : Int)) * 256) + (c : Int)) * 256) + (d : Int)) = (T : Int) := by
    obtain ⟨la, lb, lc, ld⟩ := HLE.out
    have hT := HT.out
    rw [wrap_s ((a : Int) * 256) (by omega) (by omega), wrap_s ((a : Int) * 256 + (b : Int)) (by omega) (by omega), wrap_s (((a : Int) * 256 + (b : Int)) * 256) (by omega) (by omega), wrap_s (((a : Int) * 256 + (b : Int)) * 256 + (c : Int)) (by omega) (by omega), wrap_s ((((a : Int) * 256 + (b : Int)) * 256 + (c : Int)) * 256) (by omega) (by omega), wrap_s ((((a : Int) * 256 + (b : Int)) * 256 + (c : Int)) * 256 + (d : Int)) (by omega) (by omega)]
    omega
  have HW := Lib.hid hW
  have HNE := Lib.hid hne0
  clear hW hne0 hgb
  go_upto_region 5 with fail
  go_region_held3 (fun z => z.cell? ⟨g, 0, none⟩ = some (.int .u64 (a : Int)) ∧ z.cell? ⟨g, 1, none⟩ = some (.int .u64 (b : Int)) ∧ z.cell? ⟨g, 2, none⟩ = some (.int .u64 (c : Int)) ∧ z.cell? ⟨g, 3, none⟩ = some (.int .u64 (d : Int))) (first | exact ⟨c0, c1, c2, c3⟩ | exact ⟨cell_far (cell_far c0 HNE.out.1) HNE.out.2.2.2.2.1, cell_far (cell_far c1 HNE.out.2.1) HNE.out.2.2.2.2.2.1, cell_far (cell_far c2 HNE.out.2.2.1) HNE.out.2.2.2.2.2.2.1, cell_far (cell_far c3 HNE.out.2.2.2.1) HNE.out.2.2.2.2.2.2.2⟩) (fail)
  rename_i hheld
  clear hheld
  rw [HW.out]
  have A := two_set (v0 := .int .u64 0) (v1 := .int .u64 (T : Int)) x0 x1
  have AB := Lib.hid (two_below (v0 := .int .u64 0) (v1 := .int .u64 (T : Int)) HB2.out (Nat.le_refl _))
  generalize hW3 : (w2.setCell { block := w.heap.size, off := 0 } (Value.int IntKind.u64 0)).setCell { block := w.heap.size, off := 1 } (Value.int IntKind.u64 (T : Int)) = W3 at A AB ⊢
  clear hW3 x0 x1 y0 y1 c0 c1 c2 c3
  obtain ⟨A1, A2⟩ := A
  go_wp2_with fail
  refine bodyPost_ret (v := .tuple #[.int .u8 4, .agg #[.int .u64 0, .int .u64 (T : Int)], .int .i64 0]) (by simp [results, Tryz.results8, go_sem, A1, A2]) rfl ⟨rfl, AB.out.drew⟩
end Go.Proofs.YtlikgfmcialepaaGreatDoor
