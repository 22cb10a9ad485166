/-
  What covers an address; the walk over covered.
-/
import Derived.Test.YtikhklnjjicfgaaDoorSpanI
import Derived.Deep.DeepCutAuto
namespace Go.Proofs.YtikhklnjjicfgaaDoor
open Go.RowKit Adr Spn
set_option linter.unusedVariables false
set_option linter.unusedSimpArgs false
variable {fl : Bool}
theorem block_iff (Y A k : Nat) (ha : A % 2 ^ k = 0) : Y / 2 ^ k * 2 ^ k = A ↔ (A ≤ Y ∧ Y < A + 2 ^ k) := by
  have hp := Nat.two_pow_pos k
  have h1 := Nat.div_add_mod Y (2 ^ k)
  have h2 := Nat.mod_lt Y hp
  rw [Nat.mul_comm] at h1
  obtain ⟨q, rfl⟩ := Nat.dvd_of_mod_eq_zero ha
  constructor
  · intro e
    omega
  · rintro ⟨e1, e2⟩
    have e3 : Y / 2 ^ k = q := by
      apply Nat.div_eq_of_lt_le
      · rw [Nat.mul_comm]; exact e1
      · rw [Nat.mul_comm, Nat.mul_add, Nat.mul_one]; exact e2
    rw [e3, Nat.mul_comm]
theorem ok_of_num {f : Int} {W i N : Nat} (hf : Fam f W) (hi : i ≤ W) (hN : N < 2 ^ W) (ha : N % 2 ^ (W - i) = 0) : ok f (aH N) (aL N) i = true := by
  have h := chk_of_num hf hi hN ha
  unfold chk at h
  by_cases hh : ok f (aH N) (aL N) i = true
  · exact hh
  · rw [if_neg hh] at h
    split at h <;> omega
theorem cov_hit {f : Int} {W : Nat} (hf : Fam f W) (A k Y : Nat) (hk : k ≤ W) (hA : A < 2 ^ W) (ha : A % 2 ^ k = 0) (hY : Y < 2 ^ W) :
    cov f (aH A) (aL A) ((W - k : Nat) : Int) f (aH Y) (aL Y) (W : Int) = hit Y (A, k) := by
  obtain ⟨w1, w2, w3, w4⟩ := hf.wid
  have o1 := ok_of_num hf (show W - k ≤ W by omega) hA (by rw [show W - (W - k) = k by omega]; exact ha)
  have o2 := ok_of_num hf (Nat.le_refl W) hY (by rw [Nat.sub_self]; exact Nat.mod_one _)
  unfold cov
  rw [o1, o2, w1, show ((W : Int) - (W - k : Nat)) = (k : Int) by omega, (clr_a Y k).1, (clr_a Y k).2]
  have e : (aH (Y / 2 ^ k * 2 ^ k) == aH A && aL (Y / 2 ^ k * 2 ^ k) == aL A) = decide (Y / 2 ^ k * 2 ^ k = A) := by
    rw [Bool.eq_iff_iff]
    simp only [Bool.and_eq_true, beq_iff_eq, decide_eq_true_eq]
    exact ⟨fun h => a_inj h.1 h.2, fun h => by rw [h]; exact ⟨rfl, rfl⟩⟩
  have e5 : decide (Y / 2 ^ k * 2 ^ k = A) = decide (A ≤ Y ∧ Y < A + 2 ^ k) := decide_eq_decide.2 (block_iff Y A k ha)
  rw [e, e5]
  rw [show decide (((W - k : Nat) : Int) ≤ (W : Int)) = true from decide_eq_true (by omega)]
  simp [hit]
/-- a list of blocks -/
def Blocks (W : Nat) (xs : List (Nat × Nat)) : Prop := ∀ p ∈ xs, p.1 < 2 ^ W ∧ p.2 ≤ W ∧ p.1 % 2 ^ p.2 = 0
theorem covp_any {f : Int} {W : Nat} (hf : Fam f W) (p : Nat × Nat) (Y : Nat) (hp : p.1 < 2 ^ W ∧ p.2 ≤ W ∧ p.1 % 2 ^ p.2 = 0) (hY : Y < 2 ^ W) (w : World) :
    Calls Tryd.prog 18 #[.agg #[.int .u8 f, .int .u64 (aH p.1), .int .u64 (aL p.1), .int .i64 ((W - p.2 : Nat) : Int)], .agg #[.int .u8 f, .int .u64 (aH Y), .int .u64 (aL Y), .int .i64 (W : Int)]] w fun e w' => e = .returned (.bool (hit Y p)) ∧ Below w.heap.size w w' := by
  have h := cov_any f (aH p.1) (aL p.1) ((W - p.2 : Nat) : Int) f (aH Y) (aL Y) (W : Int) w (aH_u (hf.lt hp.1)) (aL_u _) (aH_u (hf.lt hY)) (aL_u _)
  rw [cov_hit hf p.1 p.2 Y hp.2.1 hp.1 hp.2.2 hY] at h
  exact h
set_option maxRecDepth 100000 in
set_option maxHeartbeats 4000000 in
theorem covered_any {f : Int} {W : Nat} (hf : Fam f W) (xs : List (Nat × Nat)) (hxs : Blocks W xs) (hl : xs.length ≤ 254) (Y : Nat) (hY : Y < 2 ^ W) (g cap : Nat) (w : World) (hg : g < w.heap.size)
    (hc : ∀ (j : Nat) x, (pcells f W xs)[j]? = some x → w.cell? ⟨g, j, none⟩ = some x) :
    Calls Tryd.prog 31 #[.int .u8 f, .slice (some ⟨g, 0, none⟩) xs.length cap, .agg #[.int .u64 (aH Y), .int .u64 (aL Y)]] w fun e w' => e = .returned (.int .i64 ((xs.countP (hit Y) : Nat) : Int)) ∧ Below w.heap.size w w' := by
  have HV := Lib.hid (fun k p (h : xs[k]? = some p) w => covp_any hf p Y (hxs p (List.mem_of_getElem? h)) hY w)
  have HC := Lib.hid (fun k p (h : xs[k]? = some p) => pcells_at f W xs k p h)
  have HD := Lib.hid hc
  clear hc hxs hY
  rcases hf with ⟨rfl, rfl⟩ | ⟨rfl, rfl⟩
  all_goals
    go_enter Tryd.func31, Tryd.ntmps31
    go_wp2_with fail
    go_loopw [8, 9] (fun n i wr => ∃ k : Nat, k ≤ xs.length ∧ n = .int .i64 (((xs.take k).countP (hit Y) : Nat) : Int) ∧ i = .int .i64 (k : Int) ∧ Below w.heap.size w wr ∧ wr.cell? ⟨w.heap.size, 0, none⟩ = some (.int .u64 (aH Y)) ∧ wr.cell? ⟨w.heap.size, 1, none⟩ = some (.int .u64 (aL Y)) ∧ w.heap.size < wr.heap.size) (fun _ i _ => xs.length + 1 - (intOf i).toNat)
    case atStart => exact ⟨0, Nat.zero_le _, rfl, rfl, below_new _ _, by simp, by simp, by simp⟩
    case round =>
      obtain ⟨k, hk, rfl, rfl, hb, c0, c1, hz⟩ := hrel
      by_cases hkn : k < xs.length
      · obtain ⟨p, hp⟩ : ∃ p, xs[k]? = some p := ⟨xs[k], List.getElem?_eq_getElem hkn⟩
        obtain ⟨e0, e1, e2, e3⟩ := HC.out k p hp
        have d0 := (hb.cell (p := ⟨g, k * 4, none⟩) hg).trans (HD.out _ _ e0)
        have d1 := (hb.cell (p := ⟨g, k * 4 + 1, none⟩) hg).trans (HD.out _ _ e1)
        have d2 := (hb.cell (p := ⟨g, k * 4 + 2, none⟩) hg).trans (HD.out _ _ e2)
        have d3 := (hb.cell (p := ⟨g, k * 4 + 3, none⟩) hg).trans (HD.out _ _ e3)
        have hi : (k : Int) < (xs.length : Int) := by omega
        clear e0 e1 e2 e3
        have hcn : (xs.take k).countP (hit Y) ≤ k := Nat.le_trans List.countP_le_length (by rw [List.length_take]; omega)
        have hnext : (xs.take (k + 1)).countP (hit Y) = (xs.take k).countP (hit Y) + (if hit Y p = true then 1 else 0) := by
          rw [List.take_add_one, hp, List.countP_append]
          simp [List.countP_cons]
        obtain ⟨c, hcc⟩ : ∃ c, (xs.take k).countP (hit Y) = c := ⟨_, rfl⟩
        rw [hcc] at hcn hnext ⊢
        have HNX := Lib.hid hnext
        have HBB := Lib.hid hb
        clear hnext hcc hb
        go_wp2_with fail
        go_still_tail 8, (by kernel_rfl)
        change wpList _ _ _ _ _ wr.drew
        go_wp2_with fail
        refine (HV.out k p hp _).mono ?_
        rintro e w5 ⟨rfl, hb5⟩
        have HB5 := Lib.hid (HBB.out.trans ((((Below.refl wr.heap.size wr).drew).trans hb5).mono HBB.out.size))
        have q0 := ((((Below.refl wr.heap.size wr).drew).trans hb5).cell (p := ⟨w.heap.size, 0, none⟩) hz).trans c0
        have q1 := ((((Below.refl wr.heap.size wr).drew).trans hb5).cell (p := ⟨w.heap.size, 1, none⟩) hz).trans c1
        have hz5 : w.heap.size < w5.heap.size := Nat.lt_of_lt_of_le hz (((Below.refl wr.heap.size wr).drew).trans hb5).size
        clear hb5 c0 c1 d0 d1 d2 d3 hz
        cases hh : hit Y p
        · have hn := HNX.out
          rw [hh] at hn
          simp only [Bool.false_eq_true, if_false, Nat.add_zero] at hn
          have HN := Lib.hid hn
          clear hn
          go_wp2_with fail
          refine ⟨⟨k + 1, by omega, by rw [HN.out], by go_num, HB5.out, q0, q1, hz5⟩, by simp [intOf]; omega⟩
        · have hn := HNX.out
          rw [hh] at hn
          simp only [if_true] at hn
          have HN := Lib.hid hn
          clear hn
          go_wp2_with fail
          refine ⟨⟨k + 1, by omega, by rw [HN.out]; go_num, by go_num, HB5.out, q0, q1, hz5⟩, by simp [intOf]; omega⟩
      · have hi : ¬ (k : Int) < (xs.length : Int) := by omega
        have hkx : xs.take k = xs := List.take_of_length_le (by omega)
        rw [hkx]
        go_wp2_with fail
        go_ret
        exact ⟨rfl, hb⟩
end Go.Proofs.YtikhklnjjicfgaaDoor
