import Derived.Test.YtlikgfmcialepaaGreatDoorSpanAM
import Derived.Test.YtlikgfmcialepaaGreatDoorCells
import Derived.Shelf.Spec.BitsCarry
import Derived.Deep.RegionHeld3
import Derived.Deep.DeepCutAuto
import Derived.RangeFuncNested
import Derived.RangeFuncBound
import Derived.RangeFuncCalls
import Derived.RangeFuncLeaves
import Derived.Shelf.Abstract
import Derived.OwnWalkIn
import Derived.TacticsInMore
import Derived.LoopNIn
import Derived.LoopIn
import Derived.RangeFuncBox
import Derived.Maps.AppendAt
import Derived.Test.YtlikgfmcialepaaGreatDoorTextI
import Derived.Test.YtlikgfmcialepaaGreatDoorInvMath
namespace Go.Proofs.YtlikgfmcialepaaGreatDoor
open Go.RowKit Adr
set_option linter.unusedVariables false
set_option linter.unusedSimpArgs false
/-- the carry into the first word -/
def cy (N : Nat) : Int := ((N % 18446744073709551616 + 1) / 18446744073709551616 : Nat)
/-- is N an address of the family? -/
def isA (f : Int) (N : Nat) : Bool := if f = 4 then decide (N < 4294967296) else f == 6
theorem ca_num (f : Int) (N : Nat) : ca f (aH N) (aL N) = isA f N := by
  unfold ca isA
  split
  · rw [Bool.eq_iff_iff]
    simp only [Bool.and_eq_true, beq_iff_eq, decide_eq_true_eq]
    unfold aH aL
    omega
  · rfl
theorem isA_any (f : Int) (N : Nat) (w : World) :
    Calls Tryz.prog 21 #[.int .u8 f, .agg #[.int .u64 (aH N), .int .u64 (aL N)]] w fun e w' => e = .returned (.bool (isA f N)) ∧ Below w.heap.size w w' := by
  have h := ca_any f (aH N) (aL N) w (aL_u N).1
  rw [ca_num] at h
  exact h
abbrev adr (N : Nat) : Value := .agg #[.int .u64 (aH N), .int .u64 (aL N)]
def nextOk (f : Int) (N : Nat) : Bool := isA f N && decide (N + 1 < 2 ^ 128) && isA f (N + 1)
/-! the one before -/
end Go.Proofs.YtlikgfmcialepaaGreatDoor
namespace Go.Proofs.YtlikgfmcialepaaGreatDoor
open Go.RowKit Adr
set_option linter.unusedVariables false
set_option linter.unusedSimpArgs false
def cmpN (A B : Nat) : Int := if A = B then 0 else if A < B then -1 else 1
theorem cmp_num (A B : Nat) : cmp (aH A) (aL A) (aH B) (aL B) = cmpN A B := by
  unfold cmp cmpN
  by_cases h : A = B
  · subst h; rw [if_pos ⟨rfl, rfl⟩, if_pos rfl]
  · rw [if_neg (fun e => h (a_inj e.1 e.2)), if_neg h]
    by_cases h2 : A < B
    · rw [if_pos h2, if_pos (by unfold aH aL; omega)]
    · rw [if_neg h2, if_neg (by unfold aH aL; omega)]
theorem cmpN_any (A B : Nat) (w : World) :
    Calls Tryz.prog 68 #[.agg #[.int .u64 (aH A), .int .u64 (aL A)], .agg #[.int .u64 (aH B), .int .u64 (aL B)]] w fun e w' => e = .returned (.int .i64 (cmpN A B)) ∧ Below w.heap.size w w' := by
  have h := cmp_any (aH A) (aL A) (aH B) (aL B) w
  rw [cmp_num] at h
  exact h
def schk (f : Int) (A B : Nat) : Int := if isA f 0 = true then (if (isA f A && isA f B && decide (A ≤ B)) = true then 0 else 8) else 2
theorem isA_zero (f : Int) (w : World) :
    Calls Tryz.prog 21 #[.int .u8 f, .agg #[.int .u64 0, .int .u64 0]] w fun e w' => e = .returned (.bool (isA f 0)) ∧ Below w.heap.size w w' := isA_any f 0 w
set_option maxRecDepth 100000 in
set_option maxHeartbeats 2000000 in
theorem schk_core (f a b c d : Int) (w : World) (c0 c1 c2 : Bool) (k : Int)
    (h0 : ∀ w, Calls Tryz.prog 21 #[.int .u8 f, .agg #[.int .u64 0, .int .u64 0]] w fun e w' => e = .returned (.bool c0) ∧ Below w.heap.size w w')
    (h1 : ∀ w, Calls Tryz.prog 21 #[.int .u8 f, .agg #[.int .u64 a, .int .u64 b]] w fun e w' => e = .returned (.bool c1) ∧ Below w.heap.size w w')
    (h2 : ∀ w, Calls Tryz.prog 21 #[.int .u8 f, .agg #[.int .u64 c, .int .u64 d]] w fun e w' => e = .returned (.bool c2) ∧ Below w.heap.size w w')
    (h3 : ∀ w, Calls Tryz.prog 68 #[.agg #[.int .u64 a, .int .u64 b], .agg #[.int .u64 c, .int .u64 d]] w fun e w' => e = .returned (.int .i64 k) ∧ Below w.heap.size w w') :
    Calls Tryz.prog 43 #[.int .u8 f, .agg #[.int .u64 a, .int .u64 b, .int .u64 c, .int .u64 d]] w fun e w' => e = .returned (.int .i64 (if c0 = true then (if (c1 && c2 && decide (k ≤ 0)) = true then 0 else 8) else 2)) ∧ Below w.heap.size w w' := by
  have H0 := Lib.hid h0
  have H1 := Lib.hid h1
  have H2 := Lib.hid h2
  have H3 := Lib.hid h3
  clear h0 h1 h2 h3
  obtain ⟨R, hR⟩ : ∃ R : Int, (if c0 = true then (if (c1 && c2 && decide (k ≤ 0)) = true then 0 else 8) else 2) = R := ⟨_, rfl⟩
  have HR := Lib.hid hR
  rw [hR]
  clear hR
  go_enter Tryz.func43, Tryz.ntmps43
  go_wp2_with fail
  generalize hv : World.alloc _ _ = v
  have TS : RowKit.Hid (Sp4 w.heap.size v a b c d) := Lib.hid (by rw [← hv]; exact Sp4.new w a b c d _)
  have HB := Lib.hid (show Below w.heap.size w v by rw [← hv]; exact below_new _ _)
  clear hv
  refine (H0.out v).mono ?_
  rintro e w1 ⟨rfl, hb1⟩
  have TS1 := Lib.hid (TS.out.on hb1)
  have HB1 := Lib.hid (HB.out.trans (hb1.mono HB.out.size))
  clear hb1 TS HB
  cases c0
  · obtain rfl : 2 = R := by have := HR.out; simpa using this
    go_wp2_with fail
    go_ret
    exact ⟨rfl, HB1.out⟩
  · obtain ⟨s0, s1, s2, s3, _⟩ := TS1.out
    go_wp2_with fail
    refine (H1.out w1).mono ?_
    rintro e w2 ⟨rfl, hb2⟩
    have TS2 := Lib.hid (TS1.out.on hb2)
    have HB2 := Lib.hid (HB1.out.trans (hb2.mono HB1.out.size))
    clear hb2 TS1 HB1 s0 s1 s2 s3
    obtain ⟨s0, s1, s2, s3, _⟩ := TS2.out
    cases c1
    · obtain rfl : 8 = R := by have := HR.out; simpa using this
      go_wp2_with fail
      go_ret
      exact ⟨rfl, HB2.out⟩
    · go_wp2_with fail
      refine (H2.out w2).mono ?_
      rintro e w3 ⟨rfl, hb3⟩
      have TS3 := Lib.hid (TS2.out.on hb3)
      have HB3 := Lib.hid (HB2.out.trans (hb3.mono HB2.out.size))
      clear hb3 TS2 HB2 s0 s1 s2 s3
      obtain ⟨s0, s1, s2, s3, _⟩ := TS3.out
      cases c2
      · obtain rfl : 8 = R := by have := HR.out; simpa using this
        go_wp2_with fail
        go_ret
        exact ⟨rfl, HB3.out⟩
      · go_wp2_with fail
        refine (H3.out w3).mono ?_
        rintro e w4 ⟨rfl, hb4⟩
        have HB4 := Lib.hid (HB3.out.trans (hb4.mono HB3.out.size))
        clear hb4 TS3 HB3 s0 s1 s2 s3
        by_cases hk : k ≤ 0
        · obtain rfl : 0 = R := by have := HR.out; simpa [hk] using this
          go_wp2_with fail
          go_ret
          exact ⟨rfl, HB4.out⟩
        · obtain rfl : 8 = R := by have := HR.out; simpa [hk] using this
          have hk' : 0 < k := by omega
          go_wp2_with fail
          go_ret
          exact ⟨rfl, HB4.out⟩
theorem schk_any (f : Int) (A B : Nat) (w : World) :
    Calls Tryz.prog 43 #[.int .u8 f, .agg #[.int .u64 (aH A), .int .u64 (aL A), .int .u64 (aH B), .int .u64 (aL B)]] w fun e w' => e = .returned (.int .i64 (schk f A B)) ∧ Below w.heap.size w w' := by
  have h := schk_core f (aH A) (aL A) (aH B) (aL B) w (isA f 0) (isA f A) (isA f B) (cmpN A B) (fun w => isA_zero f w) (fun w => isA_any f A w) (fun w => isA_any f B w) (fun w => cmpN_any A B w)
  have e : decide (cmpN A B ≤ 0) = decide (A ≤ B) := by
    rw [decide_eq_decide]
    unfold cmpN
    split
    · omega
    · split <;> omega
  rw [e] at h
  exact h
end Go.Proofs.YtlikgfmcialepaaGreatDoor
namespace Go.Proofs.YtlikgfmcialepaaGreatDoor
open Go.RowKit Adr Spn
set_option linter.unusedVariables false
set_option linter.unusedSimpArgs false
/-- a family and the number of its bits -/
def Fam (f : Int) (W : Nat) : Prop := f = 4 ∧ W = 32 ∨ f = 6 ∧ W = 128
theorem Fam.wid {f : Int} {W : Nat} (h : Fam f W) : wid f = (W : Int) ∧ swid f = (W : Int) ∧ 2 ≤ W ∧ W ≤ 128 := by
  rcases h with ⟨rfl, rfl⟩ | ⟨rfl, rfl⟩ <;> exact ⟨rfl, rfl, by omega, by omega⟩
theorem Fam.isA {f : Int} {W : Nat} (h : Fam f W) (N : Nat) (hN : N < 2 ^ W) : isA f N = true := by
  rcases h with ⟨rfl, rfl⟩ | ⟨rfl, rfl⟩
  · have h3 : (2 : Nat) ^ 32 = 4294967296 := by decide
    unfold Go.Proofs.YtlikgfmcialepaaGreatDoor.isA
    rw [if_pos rfl]
    simp
    omega
  · rfl
theorem Fam.lt {f : Int} {W : Nat} (h : Fam f W) {N : Nat} (hN : N < 2 ^ W) : N < 2 ^ 128 := Nat.lt_of_lt_of_le hN (Nat.pow_le_pow_right (by omega) h.wid.2.2.2)
theorem num_a (N : Nat) : num (N / 18446744073709551616) (N % 18446744073709551616) = N := by
  have h64 : (2 : Nat) ^ 64 = 18446744073709551616 := by decide
  unfold num
  rw [h64]
  omega
/-- cutting, on numbers -/
theorem clr_a (N m : Nat) : clrH (aH N) m = aH (N / 2 ^ m * 2 ^ m) ∧ clrL (aL N) m = aL (N / 2 ^ m * 2 ^ m) := by
  have h64 : (2 : Nat) ^ 64 = 18446744073709551616 := by decide
  obtain ⟨H', L', e1, e2, hL', e3⟩ := clr_num (N / 18446744073709551616) (N % 18446744073709551616) m (by rw [h64]; omega)
  rw [num_a] at e3
  unfold aH aL
  rw [← e3, e1, e2]
  unfold num
  rw [h64] at hL' ⊢
  constructor <;> omega
theorem cutN_any {f : Int} {W : Nat} (hf : Fam f W) (N i : Nat) (hN : N < 2 ^ W) (hi : i ≤ W) (w : World) :
    Calls Tryz.prog 61 #[.int .u8 f, .agg #[.int .u64 (aH N), .int .u64 (aL N)], .int .i64 i] w fun e w' => e = .returned (.tuple #[.agg #[.int .u8 f, .int .u64 (aH (N / 2 ^ (W - i) * 2 ^ (W - i))), .int .u64 (aL (N / 2 ^ (W - i) * 2 ^ (W - i))), .int .i64 i], .int .i64 0]) ∧ Below w.heap.size w w' := by
  obtain ⟨h1, h2, h3, h4⟩ := hf.wid
  have hc : cutOk f (aH N) (aL N) (i : Int) = true := by
    unfold cutOk
    rw [ca_num, hf.isA N hN, h1]
    simp
    omega
  have h := cut_yes f (aH N) (aL N) i w (aH_u (hf.lt hN)) (aL_u N) hc
  rw [h1, show ((W : Int) - i) = ((W - i : Nat) : Int) by omega, (clr_a N (W - i)).1, (clr_a N (W - i)).2] at h
  exact h
theorem lastN_any {f : Int} {W : Nat} (hf : Fam f W) (N i : Nat) (hN : N < 2 ^ W) (hi : i ≤ W) (ha : N % 2 ^ (W - i) = 0) (w : World) :
    Calls Tryz.prog 45 #[.agg #[.int .u8 f, .int .u64 (aH N), .int .u64 (aL N), .int .i64 i]] w fun e w' => e = .returned (.agg #[.int .u64 (aH (N + 2 ^ (W - i) - 1)), .int .u64 (aL (N + 2 ^ (W - i) - 1))]) ∧ Below w.heap.size w w' := by
  obtain ⟨h1, h2, h3, h4⟩ := hf.wid
  have h := last_any f (aH N) (aL N) i w (by omega) (by rw [h2]; omega)
  obtain ⟨e1, e2⟩ := last_num N (W - i) (hf.lt hN) (by omega) ha
  rw [h2, show ((W : Int) - i) = ((W - i : Nat) : Int) by omega, e1, e2] at h
  exact h
theorem cut_same_iff (N m : Nat) : N / 2 ^ m * 2 ^ m = N ↔ N % 2 ^ m = 0 := by
  have := Nat.div_add_mod N (2 ^ m)
  rw [Nat.mul_comm] at this
  omega
theorem gre_hit (K a n : Nat) (h1 : a % 2 ^ K = 0) (h2 : 2 ^ K ≤ n) : gre K a n = K := by
  have := gre_max K a n K (Nat.le_refl _) h1 h2
  have := gre_le K a n
  omega
theorem gre_miss (K a n : Nat) (h : ¬ (a % 2 ^ (K + 1) = 0 ∧ 2 ^ (K + 1) ≤ n)) : gre (K + 1) a n = gre K a n := by
  conv => lhs; unfold gre
  rw [if_neg h]
structure GreRel (w : World) (f : Int) (N M : Nat) (wr : World) : Prop where
  wk : Wk5 w.heap.size wr f (aH N) (aL N) (aH M) (aL M)
  rs : Pf4 (w.heap.size + 1) wr 0 0 0 0
  pp : ∃ x y z n : Int, Pf4 (w.heap.size + 1 + 1) wr x y z n
  bl : Below w.heap.size w wr
theorem GreRel.on {w : World} {f : Int} {N M : Nat} {wr w' : World} (h : GreRel w f N M wr) (hb : Below wr.heap.size wr w') : GreRel w f N M w' := by
  obtain ⟨x, y, z, n, hp⟩ := h.pp
  exact ⟨h.wk.on hb, h.rs.on hb, ⟨x, y, z, n, hp.on hb⟩, h.bl.trans (hb.mono h.bl.size)⟩
theorem pf_set {B : Nat} {w : World} {x y z n x' y' z' n' : Int} (h : Pf4 B w x y z n) : Pf4 B ((((w.setCell ⟨B, 0, none⟩ (.int .u8 x')).setCell ⟨B, 1, none⟩ (.int .u64 y')).setCell ⟨B, 2, none⟩ (.int .u64 z')).setCell ⟨B, 3, none⟩ (.int .i64 n')) x' y' z' n' := by
  obtain ⟨a0, a1, a2, a3, f0, f1, f2, f3⟩ := h
  refine ⟨?_, ?_, ?_, ?_, by simpa using f0, by simpa using f1, by simpa using f2, by simpa using f3⟩
  · exact cset_far (cset_far (cset_far (cset_same a0) (by simp)) (by simp)) (by simp)
  · exact cset_far (cset_far (cset_same (cset_far a1 (by simp))) (by simp)) (by simp)
  · exact cset_far (cset_same (cset_far (cset_far a2 (by simp)) (by simp))) (by simp)
  · exact cset_same (cset_far (cset_far (cset_far a3 (by simp)) (by simp)) (by simp))
theorem pf_far {B D : Nat} {w : World} {x y z n : Int} {v0 v1 v2 v3 : Value} (h : Pf4 B w x y z n) (hn : D ≠ B) : Pf4 B ((((w.setCell ⟨D, 0, none⟩ v0).setCell ⟨D, 1, none⟩ v1).setCell ⟨D, 2, none⟩ v2).setCell ⟨D, 3, none⟩ v3) x y z n := by
  obtain ⟨a0, a1, a2, a3, f0, f1, f2, f3⟩ := h
  have q : ∀ (w : World) (j i : Nat) (v u : Value), w.cell? ⟨B, j, none⟩ = some u → (w.setCell ⟨D, i, none⟩ v).cell? ⟨B, j, none⟩ = some u := fun w j i v u hc => cset_far hc (by simp [hn])
  exact ⟨q _ _ _ _ _ (q _ _ _ _ _ (q _ _ _ _ _ (q _ _ _ _ _ a0))), q _ _ _ _ _ (q _ _ _ _ _ (q _ _ _ _ _ (q _ _ _ _ _ a1))), q _ _ _ _ _ (q _ _ _ _ _ (q _ _ _ _ _ (q _ _ _ _ _ a2))), q _ _ _ _ _ (q _ _ _ _ _ (q _ _ _ _ _ (q _ _ _ _ _ a3))), by simpa using f0, by simpa using f1, by simpa using f2, by simpa using f3⟩
theorem wk_far {B D : Nat} {w : World} {f a b c d : Int} {v0 v1 v2 v3 : Value} (h : Wk5 B w f a b c d) (hn : D ≠ B) : Wk5 B ((((w.setCell ⟨D, 0, none⟩ v0).setCell ⟨D, 1, none⟩ v1).setCell ⟨D, 2, none⟩ v2).setCell ⟨D, 3, none⟩ v3) f a b c d := by
  obtain ⟨a0, a1, a2, a3, a4, fz⟩ := h
  have q : ∀ (w : World) (j i : Nat) (v u : Value), w.cell? ⟨B, j, none⟩ = some u → (w.setCell ⟨D, i, none⟩ v).cell? ⟨B, j, none⟩ = some u := fun w j i v u hc => cset_far hc (by simp [hn])
  exact ⟨q _ _ _ _ _ (q _ _ _ _ _ (q _ _ _ _ _ (q _ _ _ _ _ a0))), q _ _ _ _ _ (q _ _ _ _ _ (q _ _ _ _ _ (q _ _ _ _ _ a1))), q _ _ _ _ _ (q _ _ _ _ _ (q _ _ _ _ _ (q _ _ _ _ _ a2))), q _ _ _ _ _ (q _ _ _ _ _ (q _ _ _ _ _ (q _ _ _ _ _ a3))), q _ _ _ _ _ (q _ _ _ _ _ (q _ _ _ _ _ (q _ _ _ _ _ a4))), fun j => by simpa using fz j⟩
theorem pf_below {B n : Nat} {u w : World} {v0 v1 v2 v3 : Value} (h : Below n u w) (hb : n ≤ B) : Below n u ((((w.setCell ⟨B, 0, none⟩ v0).setCell ⟨B, 1, none⟩ v1).setCell ⟨B, 2, none⟩ v2).setCell ⟨B, 3, none⟩ v3) := (((h.setCell hb _).setCell hb _).setCell hb _).setCell hb _
set_option maxRecDepth 100000 in
set_option maxHeartbeats 4000000 in
theorem gre_any {f : Int} {W : Nat} (hf : Fam f W) (N M : Nat) (hNM : N ≤ M) (hM : M < 2 ^ W) (w : World) :
    Calls Tryz.prog 44 #[.agg #[.int .u8 f, .int .u64 (aH N), .int .u64 (aL N), .int .u64 (aH M), .int .u64 (aL M)]] w fun e w' => e = .returned (.agg #[.int .u8 f, .int .u64 (aH N), .int .u64 (aL N), .int .i64 ((W - gre W N (M + 1 - N) : Nat) : Int)]) ∧ Below w.heap.size w w' := by
  obtain ⟨w1, w2, w3, w4⟩ := hf.wid
  have HF := Lib.hid hf
  have HM := Lib.hid hM
  have HN := Lib.hid hNM
  have HS := Lib.hid (fun w => swid_any f w)
  rw [w2] at HS
  have e1 : IntKind.i64.wrap ((W : Int) + 1) = (W : Int) + 1 := IntWalk.i64_in _ (by omega)
  clear hf hM hNM w1 w2
  go_enter Tryz.func44, Tryz.ntmps44
  go_wp2_with (go_at_call 69; refine (HS.out _).mono ?_; rintro e w' ⟨rfl, rfl⟩)
  go_loopw [10] (fun i wr => ∃ k : Nat, k ≤ W ∧ i = .int .i64 k ∧ GreRel w f N M wr ∧ gre W N (M + 1 - N) = gre (W - k) N (M + 1 - N)) (fun i _ => W + 1 - (intOf i).toNat)
  case atStart =>
    refine ⟨0, Nat.zero_le _, rfl, ⟨?_, ?_, ⟨0, 0, 0, 0, ?_⟩, ?_⟩, rfl⟩
    · exact ((Wk5.new w _ _ _ _ _ _).on (below_new _ _)).on (below_new _ _)
    · have := (Pf4.new (w.alloc (.cells #[.int .u8 f, .int .u64 (aH N), .int .u64 (aL N), .int .u64 (aH M), .int .u64 (aL M)] 93)) 0 0 0 0 26).on (below_new _ (.cells #[.int .u8 0, .int .u64 0, .int .u64 0, .int .i64 0] 26))
      simpa using this
    · have := Pf4.new ((w.alloc (.cells #[.int .u8 f, .int .u64 (aH N), .int .u64 (aL N), .int .u64 (aH M), .int .u64 (aL M)] 93)).alloc (.cells #[.int .u8 0, .int .u64 0, .int .u64 0, .int .i64 0] 26)) 0 0 0 0 26
      simpa using this
    · exact (((Below.refl _ _).alloc (Nat.le_refl _) _).alloc (by simp) _).alloc (by simp; omega) _
  case round =>
    obtain ⟨k, hk, rfl, hrel, hg⟩ := hrel
    have HR := Lib.hid hrel
    have HG := Lib.hid hg
    obtain ⟨⟨a0, a1, a2, a3, a4, afz⟩, _, _, _⟩ := hrel
    have HC := Lib.hid (fun w => cutN_any HF.out N k (by have := HM.out; have := HN.out; omega) hk w)
    obtain ⟨C, hCC⟩ : ∃ C, N / 2 ^ (W - k) * 2 ^ (W - k) = C := ⟨_, rfl⟩
    rw [hCC] at HC
    have HCC := Lib.hid hCC
    clear hg afz hCC
    go_wp2_with fail
    refine (HC.out _).mono ?_
    rintro e v1 ⟨rfl, hb1⟩
    have HR1 := Lib.hid (HR.out.on hb1)
    clear hb1 HR a0 a1 a2 a3 a4
    obtain ⟨x, y, z, n, hp⟩ := HR1.out.pp
    have HP1 := Lib.hid hp
    obtain ⟨p0, p1, p2, p3, g0, g1, g2, g3⟩ := hp
    go_upto_region 6 with fail
    generalize hv : World.setCell (World.setCell _ _ _) _ _ = v2
    have HP2 : RowKit.Hid (Pf4 (w.heap.size + 1 + 1) v2 f (aH C) (aL C) k) := Lib.hid (by rw [← hv]; exact pf_set HP1.out)
    have HR2 : RowKit.Hid (GreRel w f N M v2) := Lib.hid (by
      rw [← hv]
      obtain ⟨b1, b2, _, b4⟩ := HR1.out
      exact ⟨wk_far b1 (by omega), pf_far b2 (by omega), ⟨_, _, _, _, pf_set HP1.out⟩, pf_below b4 (by omega)⟩)
    clear hv HR1 HP1 p0 p1 p2 p3 g0 g1 g2 g3
    obtain ⟨q0, q1, q2, q3, h0, h1, h2, h3⟩ := HP2.out
    obtain ⟨a0, a1, a2, a3, a4, _⟩ := HR2.out.wk
    by_cases hal : N % 2 ^ (W - k) = 0
    · have hC : C = N := by rw [← HCC.out]; exact (cut_same_iff N (W - k)).2 hal
      subst hC
      have HL := Lib.hid (fun w => lastN_any HF.out C k (by have := HM.out; have := HN.out; omega) hk hal w)
      obtain ⟨E, hE⟩ : ∃ E, C + 2 ^ (W - k) - 1 = E := ⟨_, rfl⟩
      rw [hE] at HL
      have HK := Lib.hid (fun w => cmpN_any E M w)
      have HE := Lib.hid hE
      have HAL := Lib.hid hal
      clear hE hal
      have zq := HP2.out.lt
      have za := HR2.out.wk.lt
      obtain ⟨K, hK⟩ : ∃ K, cmpN E M = K := ⟨_, rfl⟩
      rw [hK] at HK
      have HKK := Lib.hid hK
      clear hK
      by_cases hfit : K ≤ 0
      all_goals
        have HFIT := Lib.hid hfit
        go_region_held3 (fun x => x.cell? ⟨w.heap.size + 1 + 1, 0, none⟩ = some (.int .u8 f) ∧ x.cell? ⟨w.heap.size + 1 + 1, 1, none⟩ = some (.int .u64 (aH C)) ∧ x.cell? ⟨w.heap.size + 1 + 1, 2, none⟩ = some (.int .u64 (aL C)) ∧ x.cell? ⟨w.heap.size + 1 + 1, 3, none⟩ = some (.int .i64 k) ∧ x.cell? ⟨w.heap.size, 0, none⟩ = some (.int .u8 f) ∧ x.cell? ⟨w.heap.size, 1, none⟩ = some (.int .u64 (aH C)) ∧ x.cell? ⟨w.heap.size, 2, none⟩ = some (.int .u64 (aL C)) ∧ x.cell? ⟨w.heap.size, 3, none⟩ = some (.int .u64 (aH M)) ∧ x.cell? ⟨w.heap.size, 4, none⟩ = some (.int .u64 (aL M)))
          (first | exact ⟨q0, q1, q2, q3, a0, a1, a2, a3, a4⟩ | exact ⟨(hc3 _ _ zq).trans q0, (hc3 _ _ zq).trans q1, (hc3 _ _ zq).trans q2, (hc3 _ _ zq).trans q3, (hc3 _ _ za).trans a0, (hc3 _ _ za).trans a1, (hc3 _ _ za).trans a2, (hc3 _ _ za).trans a3, (hc3 _ _ za).trans a4⟩ | exact ⟨(hc4 _ _ zq3).trans ((hc3 _ _ zq).trans q0), (hc4 _ _ zq3).trans ((hc3 _ _ zq).trans q1), (hc4 _ _ zq3).trans ((hc3 _ _ zq).trans q2), (hc4 _ _ zq3).trans ((hc3 _ _ zq).trans q3), (hc4 _ _ za3).trans ((hc3 _ _ za).trans a0), (hc4 _ _ za3).trans ((hc3 _ _ za).trans a1), (hc4 _ _ za3).trans ((hc3 _ _ za).trans a2), (hc4 _ _ za3).trans ((hc3 _ _ za).trans a3), (hc4 _ _ za3).trans ((hc3 _ _ za).trans a4)⟩)
          (first | (go_at_call 45; refine (HL.out _).mono ?_; rintro e w3 ⟨rfl, hb3⟩; obtain ⟨hc3, hf3⟩ := bcellD hb3; have zq3 : w.heap.size + 1 + 1 < w3.heap.size := (by (have := hb3.size; (try simp at this); omega)); have za3 : w.heap.size < w3.heap.size := (by omega)) | (go_at_call 68; refine (HK.out _).mono ?_; rintro e w4 ⟨rfl, hb4⟩; obtain ⟨hc4, hf4⟩ := bcell hb4))
      · have HB4 := Lib.hid ((((Below.refl v2.heap.size v2).drew).trans hb3).trans (hb4.mono (by have := hb3.size; simpa using this)))
        clear hb3 hb4 hc3 hc4 hf3 hf4 q0 q1 q2 q3 h0 h1 h2 h3 a0 a1 a2 a3 a4
        have HP4 := Lib.hid (HP2.out.on HB4.out)
        have HR4 := Lib.hid (HR2.out.on HB4.out)
        obtain ⟨q0, q1, q2, q3, _, _, _, _⟩ := HP4.out
        obtain ⟨r0, r1, r2, r3, g0, g1, g2, g3⟩ := HR4.out.rs
        have hk' : (W - gre W C (M + 1 - C) : Nat) = k := by
          rw [HG.out, gre_hit _ _ _ HAL.out (by
            have h1 := HFIT.out
            rw [← HKK.out] at h1
            have h2 := HE.out
            have hp := Nat.two_pow_pos (W - k)
            have h3 : E ≤ M := by
              unfold cmpN at h1
              split at h1
              · omega
              · split at h1 <;> omega
            omega)]
          omega
        have HK' := Lib.hid hk'
        clear hk'
        go_wp2_with fail
        have A := pf_set (x' := f) (y' := aH C) (z' := aL C) (n' := k) HR4.out.rs
        refine bodyPost_ret (v := .agg #[.int .u8 f, .int .u64 (aH C), .int .u64 (aL C), .int .i64 k]) (by simp [results, Tryz.results44, go_sem, A.a0, A.a1, A.a2, A.a3]) rfl ⟨by rw [HK'.out], pf_below HR4.out.bl (by omega)⟩
      · have HB4 := Lib.hid ((((Below.refl v2.heap.size v2).drew).trans hb3).trans (hb4.mono (by have := hb3.size; simpa using this)))
        clear hb3 hb4 hc3 hc4 hf3 hf4 q0 q1 q2 q3 h0 h1 h2 h3 a0 a1 a2 a3 a4
        have HR4 := Lib.hid (HR2.out.on HB4.out)
        have h3 : ¬ 2 ^ (W - k) ≤ M + 1 - C := by
          intro h
          have hf : 0 < K := by have := HFIT.out; omega
          rw [← HKK.out] at hf
          have h2 := HE.out
          have hp := Nat.two_pow_pos (W - k)
          have hn := HN.out
          unfold cmpN at hf
          split at hf
          · omega
          · split at hf <;> omega
        have hkW : k < W := by
          by_cases e : k = W
          · rw [e, Nat.sub_self] at h3
            have hn := HN.out
            omega
          · omega
        have hgn : gre W C (M + 1 - C) = gre (W - (k + 1)) C (M + 1 - C) := by
          rw [HG.out, show W - k = (W - (k + 1)) + 1 by omega]
          refine gre_miss _ _ _ (fun e => h3 ?_)
          rw [show W - k = (W - (k + 1)) + 1 by omega]
          exact e.2
        have HGN := Lib.hid hgn
        clear h3 hgn
        go_wp2_with fail
        refine ⟨⟨k + 1, by omega, by go_num, HR4.out, HGN.out⟩, by simp [intOf]; omega⟩
    · have hC : ¬ C = N := fun e => hal ((cut_same_iff N (W - k)).1 (by rw [HCC.out]; exact e))
      have hkW : k < W := by
        by_cases e : k = W
        · rw [e, Nat.sub_self, Nat.pow_zero, Nat.mod_one] at hal
          exact absurd rfl hal
        · omega
      have hgn : gre W N (M + 1 - N) = gre (W - (k + 1)) N (M + 1 - N) := by
        rw [HG.out, show W - k = (W - (k + 1)) + 1 by omega]
        refine gre_miss _ _ _ (fun e => hal ?_)
        rw [show W - k = (W - (k + 1)) + 1 by omega]
        exact e.1
      have HGN := Lib.hid hgn
      clear hgn hal
      by_cases hh : aH C = aH N
      · have hl : ¬ aL C = aL N := fun e => hC (a_inj hh e)
        rw [hh] at q1
        go_quiet (fail)
        go_wp2_with fail
        refine ⟨⟨k + 1, by omega, by go_num, HR2.out.on (below_drewN (Below.refl _ _) _), HGN.out⟩, by simp [intOf]; omega⟩
      · go_quiet (fail)
        go_wp2_with fail
        refine ⟨⟨k + 1, by omega, by go_num, HR2.out.on (below_drewN (Below.refl _ _) _), HGN.out⟩, by simp [intOf]; omega⟩
end Go.Proofs.YtlikgfmcialepaaGreatDoor
namespace Go.Proofs.YtlikgfmcialepaaGreatDoor
open Go.RowKit Adr Spn
set_option linter.unusedVariables false
set_option linter.unusedSimpArgs false
attribute [local go_sem] Oper.semAt_some
/-- the iterator's own steps: new blocks, and its own one -/
structure Stp (own : Nat) (A B : World) : Prop where
  size : A.heap.size ≤ B.heap.size
  same : ∀ b, b < A.heap.size → b ≠ own → B.heap[b]? = A.heap[b]?
  ow : own ≤ A.heap.size
  bl : Below own A B
theorem Stp.refl {own : Nat} {A : World} (h : own ≤ A.heap.size) : Stp own A A := ⟨Nat.le_refl _, fun _ _ _ => rfl, h, Below.refl _ _⟩
theorem Stp.below {own : Nat} {A B C : World} (h : Stp own A B) (hb : Below B.heap.size B C) : Stp own A C :=
  ⟨Nat.le_trans h.size hb.size, fun b h1 h2 => (hb.block b (Nat.lt_of_lt_of_le h1 h.size)).trans (h.same b h1 h2), h.ow, h.bl.trans (hb.mono (Nat.le_trans h.ow h.size))⟩
theorem cell_of_heap {V V' : World} {b : Nat} (h : V'.heap[b]? = V.heap[b]?) (o : Nat) : V'.cell? ⟨b, o, none⟩ = V.cell? ⟨b, o, none⟩ := by
  simp only [World.cell?, h]
theorem frozen_of_heap {V V' : World} {b : Nat} (h : V'.heap[b]? = V.heap[b]?) (o : Nat) : V'.frozen? ⟨b, o, none⟩ = V.frozen? ⟨b, o, none⟩ := by
  simp only [World.frozen?, h]
theorem Wk5.same {N : Nat} {V V' : World} {f a b c d : Int} (t : Wk5 N V f a b c d) (h : V'.heap[N]? = V.heap[N]?) : Wk5 N V' f a b c d :=
  ⟨(cell_of_heap h 0).trans t.a0, (cell_of_heap h 1).trans t.a1, (cell_of_heap h 2).trans t.a2, (cell_of_heap h 3).trans t.a3, (cell_of_heap h 4).trans t.a4, fun j => (frozen_of_heap h j).trans (t.fz j)⟩
/-- what a round of the caller's keeps -/
structure Kps (own : Nat) (V0 V V' : World) : Prop where
  size : V.heap.size ≤ V'.heap.size
  same : ∀ b, (b = own ∨ V0.heap.size ≤ b) → b < V.heap.size → V'.heap[b]? = V.heap[b]?
/-- the address that a walk has come to -/
def fromAt (B : Nat) (w : World) : Nat :=
  match w.cell? ⟨B, 1, none⟩, w.cell? ⟨B, 2, none⟩ with
  | some (.int _ h), some (.int _ l) => (h * 18446744073709551616 + l).toNat
  | _, _ => 0
theorem fromAt_wk {B : Nat} {w : World} {f : Int} {a : Nat} {c d : Int} (h : Wk5 B w f (aH a) (aL a) c d) : fromAt B w = a := by
  unfold fromAt
  rw [h.a1, h.a2]
  unfold aH aL
  simp only
  omega
structure ItRel (f : Int) (W A0 M : Nat) (xs : List (Nat × Nat)) (J : List (Nat × Nat) → World → Prop) (own : Nat) (wr : World) : Prop where
  ex : ∃ (pre : List (Nat × Nat)) (a : Nat) (rest : List (Nat × Nat)) (V0 : World), xs = pre ++ rest ∧ A0 ≤ a ∧ a ≤ M ∧ Spn.Steps W a (M + 1 - a) rest ∧ J pre V0 ∧ Stp own V0 wr ∧ Wk5 own wr f (aH a) (aL a) (aH M) (aL M)
end Go.Proofs.YtlikgfmcialepaaGreatDoor
namespace Go.Proofs.YtlikgfmcialepaaGreatDoor
open Go.RowKit Adr Spn
set_option linter.unusedVariables false
set_option linter.unusedSimpArgs false
attribute [local go_sem] Oper.semAt_some
/-- a range over a function whose rounds all go on, under the wide fence -/
theorem range_wide {P : Program} {n : Nat} {g : Operand} {ps : Array Tmp} {assign body : Code} {Q : Exit → Act → World → Prop} {a : Act} {w : World} {gf : Nat} {lb : Array Value}
    (hg : a.eval g = .func (.func gf) #[] lb) (eg : ∀ args w, (callFunc gf args).run P w = .ok (.enter gf args) w) (Z : World → Prop)
    (hcall : ∀ fn : FuncId, CallsIn Fence.wide (n - 1) P gf (#[.func (.yield (w.heap.size + 1)) #[] #[]] ++ lb)
      ((w.alloc (.deferred (some []))).alloc (.loop { state := .ready, pending := none, fn, tmps := a.tmps, params := ps, assign, body, defers := w.heap.size })) fun e V =>
        (∃ v, e = .returned v) ∧ V.heap[w.heap.size + 1]? = some (.loop { state := .ready, pending := none, fn, tmps := a.tmps, params := ps, assign, body, defers := w.heap.size }) ∧ Z V)
    (hdone : ∀ V o, Z V → Q .normal { a with defers := { target := .collected w.heap.size, args := #[] } :: a.defers } (V.putObj (w.heap.size + 1) o)) :
    (Code.rangeFunc g ps assign body).wpIn Fence.wide n P Q a w := by
  refine wpIn_rangeFunc ?_
  intro fn _
  have hro : Fence.wide.round = none := rfl
  rw [hro]
  have hc := hcall fn
  obtain ⟨r, hr⟩ : ∃ r : Loop, ({ state := .ready, pending := none, fn, tmps := a.tmps, params := ps, assign, body, defers := w.heap.size } : Loop) = r := ⟨_, rfl⟩
  have hen := run_enterLoop_outer (P := P) (w := w) fn a.tmps ps assign body
  have hst : r.state = .ready := by rw [← hr]
  have hpe : r.pending = none := by rw [← hr]
  rw [hr] at hc hen
  obtain ⟨W1, hW1⟩ : ∃ W1, (w.alloc (.deferred (some []))).alloc (.loop r) = W1 := ⟨_, rfl⟩
  rw [hW1] at hc hen
  refine ⟨w.heap.size + 1, [{ target := .collected w.heap.size, args := #[] }], W1, { target := .fn (.func gf) lb, args := #[.func (.yield (w.heap.size + 1)) #[] #[]] }, W1, gf,
    #[.func (.yield (w.heap.size + 1)) #[] #[]] ++ lb, W1, hen, ?_, ?_, ?_, ?_, ?_⟩
  · simp only [resolve, hg]
    simp [go_sem]
  · intro f' hf'; trivial
  · simp [invoke, go_sem, eg]
  · intro h; cases h
  · refine hc.mono ?_
    rintro e V ⟨⟨v, rfl⟩, hl, hz⟩
    have hend := run_endLoop (P := P) hl (by rw [hst]; simp)
    rw [hpe] at hend
    exact ⟨none, _, hend, hdone V _ hz⟩
/-- a round, out of its record -/
theorem yield_wide {P : Program} {m l : Nat} {args : Array Value} {V : World} {R : Ending → World → Prop} {r : Loop} (hl : V.heap[l]? = some (.loop r)) (hs : args.size = r.params.size)
    (h : r.assign.wpIn (Fence.wide.inRound l) m P (Exit.then (fun a₁ w₁ => ∃ w₂, (Instr.beginRound l).run P w₁ = .ok () w₂ ∧ r.body.wpIn (Fence.wide.inRound l) m P (roundPost P l R) a₁ w₂) (fun _ _ _ => False))
      { tmps := (r.params.zip args).foldl (fun tmps (t, a) => tmps.setIfInBounds t a) r.tmps, defers := [] } V) :
    YieldAt Fence.wide m P l args V R :=
  ⟨r.fn, _, r.assign, r.body, run_yield hl hs, roundIn_of_wpIn trivial h⟩
theorem Tryz.info_prefix : (Tryz.prog.info? 26).map (fun i => (i.zero, i.size, i.bytes)) = some (some (.agg #[.int .u8 0, .int .u64 0, .int .u64 0, .int .i64 0]), 4, 32) := by kernel_rfl
/-- the cells of a list of prefixes -/
def pcells (f : Int) (W : Nat) (l : List (Nat × Nat)) : List Value := l.flatMap fun p => [.int .u8 f, .int .u64 (aH p.1), .int .u64 (aL p.1), .int .i64 ((W - p.2 : Nat) : Int)]
theorem pcells_len (f : Int) (W : Nat) (l : List (Nat × Nat)) : (pcells f W l).length = l.length * 4 := by
  induction l with
  | nil => rfl
  | cons p l ih =>
    unfold pcells at ih ⊢
    rw [List.flatMap_cons, List.length_append, ih]
    simp
    omega
theorem pcells_snoc (f : Int) (W : Nat) (l : List (Nat × Nat)) (p : Nat × Nat) : pcells f W (l ++ [p]) = pcells f W l ++ [.int .u8 f, .int .u64 (aH p.1), .int .u64 (aL p.1), .int .i64 ((W - p.2 : Nat) : Int)] := by
  unfold pcells
  rw [List.flatMap_append]
  simp
theorem pcells_at (f : Int) (W : Nat) : ∀ (l : List (Nat × Nat)) (j : Nat) (p : Nat × Nat), l[j]? = some p → (pcells f W l)[j * 4]? = some (.int .u8 f) ∧ (pcells f W l)[j * 4 + 1]? = some (.int .u64 (aH p.1)) ∧ (pcells f W l)[j * 4 + 2]? = some (.int .u64 (aL p.1)) ∧ (pcells f W l)[j * 4 + 3]? = some (.int .i64 ((W - p.2 : Nat) : Int))
  | [], j, p, h => by simp at h
  | q :: l, 0, p, h => by
    have : q = p := by simpa using h
    subst this
    exact ⟨rfl, rfl, rfl, rfl⟩
  | q :: l, j + 1, p, h => by
    have ih := pcells_at f W l j p (by simpa using h)
    have e : pcells f W (q :: l) = [.int .u8 f, .int .u64 (aH q.1), .int .u64 (aL q.1), .int .i64 ((W - q.2 : Nat) : Int)] ++ pcells f W l := by unfold pcells; rw [List.flatMap_cons]
    rw [e]
    have g : ∀ i, ([.int .u8 f, .int .u64 (aH q.1), .int .u64 (aL q.1), .int .i64 ((W - q.2 : Nat) : Int)] ++ pcells f W l)[(j + 1) * 4 + i]? = (pcells f W l)[j * 4 + i]? := fun i => by
      rw [List.getElem?_append_right (by simp; omega)]
      congr 1
      simp
      omega
    exact ⟨(g 0).trans ih.1, (g 1).trans ih.2.1, (g 2).trans ih.2.2.1, (g 3).trans ih.2.2.2⟩
theorem below_putObj {n b : Nat} {u V : World} (h : Below n u V) (hb : n ≤ b) (o : Obj) : Below n u (V.putObj b o) :=
  h.trans ⟨rfl, rfl, rfl, by simp, fun k hk => World.putObj_heap_other (by omega)⟩
/-- between two rounds: the record, the mark's block, the list's box and its row -/
structure PJ (w : World) (D B own : Nat) (r : Loop) (f : Int) (W : Nat) (pre : List (Nat × Nat)) (V : World) : Prop where
  rc : V.heap[D + 1]? = some (.loop r)
  df : V.heap[D]? = some (.deferred (some []))
  bx : ∃ v, V.heap[B]? = some (.cells #[v] 96 (0, 0)) ∧ V.ownsRow (own + 1) 26 4 v pre.length (pcells f W pre)
  bl : Below w.heap.size w V
theorem owns_stp {own base n size : Nat} {e : TypeId} {v : Value} {xs : List Value} {A B : World} (h : A.ownsRow base e size v n xs) (hb : own < base) (hs : ∀ b, b < A.heap.size → b ≠ own → B.heap[b]? = A.heap[b]?) : B.ownsRow base e size v n xs := by
  obtain ⟨h1, h | ⟨g, cap, cur, rfl, hg1, hg2, h3, h4, h5, h6⟩⟩ := h
  · exact ⟨h1, Or.inl h⟩
  · have hlt : g < A.heap.size := (Array.getElem?_eq_some_iff.1 hg2).1
    exact ⟨h1, Or.inr ⟨g, cap, cur, rfl, hg1, (hs g hlt (by omega)).trans hg2, h3, h4, h5, h6⟩⟩
theorem cells_new4 (V : World) (a b c d : Value) (t : TypeId) : ∀ j u, [a, b, c, d][j]? = some u → (V.alloc (.cells #[a, b, c, d] t)).cell? ((⟨V.heap.size, 0, none⟩ : Addr).add j) = some u := by
  intro j u hj
  have : (⟨V.heap.size, 0, none⟩ : Addr).add j = ⟨V.heap.size, j, none⟩ := by
    by_cases h : j = 0
    · subst h; rfl
    · simp [Addr.add, h]
  rw [this, World.cell?_alloc_at _ _ _ _ rfl]
  simpa using hj
end Go.Proofs.YtlikgfmcialepaaGreatDoor
namespace Go.Proofs.YtlikgfmcialepaaGreatDoor
open Go.RowKit Adr Spn
set_option linter.unusedVariables false
set_option linter.unusedSimpArgs false
/-- a valid prefix, in numbers -/
theorem chk_num {f n : Int} {N : Nat} (hN : N < 2 ^ 128) (h : chk f (aH N) (aL N) n = 0) : ∃ W i : Nat, Fam f W ∧ n = (i : Int) ∧ i ≤ W ∧ N < 2 ^ W ∧ N < 2 ^ 128 ∧ N % 2 ^ (W - i) = 0 := by
  have hok : ok f (aH N) (aL N) n = true := by
    unfold chk at h
    by_cases hh : ok f (aH N) (aL N) n = true
    · exact hh
    · rw [if_neg hh] at h
      split at h <;> omega
  unfold ok cutOk at hok
  simp only [Bool.and_eq_true, decide_eq_true_eq, beq_iff_eq] at hok
  obtain ⟨⟨⟨h1, h2⟩, h3⟩, h4, h5⟩ := hok
  rw [ca_num] at h1
  have h32 : (2 : Nat) ^ 32 = 4294967296 := by decide
  have h128 : (2 : Nat) ^ 128 = 340282366920938463463374607431768211456 := by decide
  have key : ∀ W : Nat, Fam f W → N < 2 ^ W → ∃ W i : Nat, Fam f W ∧ n = (i : Int) ∧ i ≤ W ∧ N < 2 ^ W ∧ N < 2 ^ 128 ∧ N % 2 ^ (W - i) = 0 := fun W hf hN => by
    obtain ⟨w1, w2, w3, w4⟩ := hf.wid
    rw [w1] at h3 h4 h5
    obtain ⟨i, rfl⟩ : ∃ i : Nat, n = (i : Int) := ⟨n.toNat, by omega⟩
    refine ⟨W, i, hf, rfl, by omega, hN, hf.lt hN, ?_⟩
    rw [show ((W : Int) - i) = ((W - i : Nat) : Int) by omega] at h4 h5
    rw [(clr_a N (W - i)).1] at h4
    rw [(clr_a N (W - i)).2] at h5
    exact (cut_same_iff N (W - i)).1 (a_inj h4 h5)
  unfold isA at h1
  by_cases h4' : f = 4
  · rw [if_pos h4'] at h1
    exact key 32 (Or.inl ⟨h4', rfl⟩) (by simpa [h32] using h1)
  · rw [if_neg h4'] at h1
    have h6 : f = 6 := by simpa using h1
    exact key 128 (Or.inr ⟨h6, rfl⟩) hN
theorem chk_of_num {f : Int} {W i N : Nat} (hf : Fam f W) (hi : i ≤ W) (hN : N < 2 ^ W) (ha : N % 2 ^ (W - i) = 0) : chk f (aH N) (aL N) i = 0 := by
  obtain ⟨w1, w2, w3, w4⟩ := hf.wid
  have hok : ok f (aH N) (aL N) i = true := by
    unfold ok cutOk
    rw [ca_num, hf.isA N hN, w1, show ((W : Int) - i) = ((W - i : Nat) : Int) by omega, (clr_a N (W - i)).1, (clr_a N (W - i)).2, (cut_same_iff N (W - i)).2 ha]
    simp
    omega
  unfold chk
  rw [if_pos hok]
theorem sp_set {B : Nat} {w : World} {a b c d a' b' c' d' : Int} (h : Sp4 B w a b c d) : Sp4 B ((((w.setCell ⟨B, 0, none⟩ (.int .u64 a')).setCell ⟨B, 1, none⟩ (.int .u64 b')).setCell ⟨B, 2, none⟩ (.int .u64 c')).setCell ⟨B, 3, none⟩ (.int .u64 d')) a' b' c' d' := by
  obtain ⟨a0, a1, a2, a3, fz⟩ := h
  refine ⟨?_, ?_, ?_, ?_, fun j => by simpa using fz j⟩
  · exact cset_far (cset_far (cset_far (cset_same a0) (by simp)) (by simp)) (by simp)
  · exact cset_far (cset_far (cset_same (cset_far a1 (by simp))) (by simp)) (by simp)
  · exact cset_far (cset_same (cset_far (cset_far a2 (by simp)) (by simp))) (by simp)
  · exact cset_same (cset_far (cset_far (cset_far a3 (by simp)) (by simp)) (by simp))
set_option maxHeartbeats 1000000 in
theorem of_no (f h l n c : Int) (w : World) (uh : U64 h) (ul : U64 l) (hc : chk f h l n = c) (hc0 : (c != 0) = true) :
    Calls Tryz.prog 72 #[.agg #[.int .u8 f, .int .u64 h, .int .u64 l, .int .i64 n]] w fun e w' => e = .returned (.tuple #[.agg #[.int .u64 0, .int .u64 0, .int .u64 0, .int .u64 0], .int .i64 c]) ∧ Below w.heap.size w w' := by
  have HC := Lib.hid (fun w => chk_call f h l n w uh ul c hc)
  clear uh ul hc
  go_enter Tryz.func72, Tryz.ntmps72
  go_wp2_with fail
  generalize hv : World.alloc (World.alloc _ _) _ = v
  have TS : RowKit.Hid (Sp4 (w.heap.size + 1) v 0 0 0 0) := Lib.hid (by
    rw [← hv]
    have := Sp4.new (w.alloc (.cells #[.int .u8 f, .int .u64 h, .int .u64 l, .int .i64 n] 26)) 0 0 0 0 50
    simpa using this)
  have HB := Lib.hid (show Below w.heap.size w v by rw [← hv]; exact ((Below.refl _ _).alloc (Nat.le_refl _) _).alloc (by simp) _)
  clear hv
  refine (HC.out v).mono ?_
  rintro e w1 ⟨rfl, hb1⟩
  have TS1 := Lib.hid (TS.out.on hb1)
  have HB1 := Lib.hid (HB.out.trans (hb1.mono HB.out.size))
  clear hb1 TS HB
  obtain ⟨s0, s1, s2, s3, fz⟩ := TS1.out
  have g0 := fz 0
  have g1 := fz 1
  have g2 := fz 2
  have g3 := fz 3
  clear fz
  go_wp2_with fail
  have A := sp_set (a' := 0) (b' := 0) (c' := 0) (d' := 0) TS1.out
  refine bodyPost_ret (v := .tuple #[.agg #[.int .u64 0, .int .u64 0, .int .u64 0, .int .u64 0], .int .i64 c]) (by simp [results, Tryz.results72, go_sem, A.a0, A.a1, A.a2, A.a3]) rfl ⟨rfl, pf_below HB1.out (by omega)⟩
set_option maxRecDepth 100000 in
set_option maxHeartbeats 2000000 in
theorem of_yes {f : Int} {W : Nat} (hf : Fam f W) (N i : Nat) (hi : i ≤ W) (hN : N < 2 ^ W) (ha : N % 2 ^ (W - i) = 0) (w : World) :
    Calls Tryz.prog 72 #[.agg #[.int .u8 f, .int .u64 (aH N), .int .u64 (aL N), .int .i64 i]] w fun e w' => e = .returned (.tuple #[.agg #[.int .u64 (aH N), .int .u64 (aL N), .int .u64 (aH (N + 2 ^ (W - i) - 1)), .int .u64 (aL (N + 2 ^ (W - i) - 1))], .int .i64 0]) ∧ Below w.heap.size w w' := by
  have HC := Lib.hid (fun w => chk_call f (aH N) (aL N) i w (aH_u (hf.lt hN)) (aL_u N) 0 (chk_of_num hf hi hN ha))
  have HL := Lib.hid (fun w => lastN_any hf N i hN hi ha w)
  obtain ⟨E, hE⟩ : ∃ E, N + 2 ^ (W - i) - 1 = E := ⟨_, rfl⟩
  rw [hE] at HL ⊢
  clear hE hi hN ha hf
  go_enter Tryz.func72, Tryz.ntmps72
  go_wp2_with fail
  generalize hv : World.alloc (World.alloc _ _) _ = v
  have TP : RowKit.Hid (Pf4 w.heap.size v f (aH N) (aL N) i) := Lib.hid (by rw [← hv]; exact (Pf4.new w _ _ _ _ _).on (below_new _ _))
  have TS : RowKit.Hid (Sp4 (w.heap.size + 1) v 0 0 0 0) := Lib.hid (by
    rw [← hv]
    have := Sp4.new (w.alloc (.cells #[.int .u8 f, .int .u64 (aH N), .int .u64 (aL N), .int .i64 i] 26)) 0 0 0 0 50
    simpa using this)
  have HB := Lib.hid (show Below w.heap.size w v by rw [← hv]; exact ((Below.refl _ _).alloc (Nat.le_refl _) _).alloc (by simp) _)
  clear hv
  refine (HC.out v).mono ?_
  rintro e w1 ⟨rfl, hb1⟩
  have TS1 := Lib.hid (TS.out.on hb1)
  have TP1 := Lib.hid (TP.out.on hb1)
  have HB1 := Lib.hid (HB.out.trans (hb1.mono HB.out.size))
  clear hb1 TS TP HB
  obtain ⟨p0, p1, p2, p3, _, _, _, _⟩ := TP1.out
  obtain ⟨s0, s1, s2, s3, fz⟩ := TS1.out
  have g0 := fz 0
  have g1 := fz 1
  have g2 := fz 2
  have g3 := fz 3
  have zp := TP1.out.lt
  have zs := TS1.out.lt
  clear fz
  go_wp2_with fail
  go_region_with (go_at_call 45; refine (HL.out _).mono ?_; rintro e w3 ⟨rfl, hb3⟩; obtain ⟨hc3, hf3⟩ := bcellD hb3; have zp3 : w.heap.size < w3.heap.size := (by (have := hb3.size; (try simp at this); omega)); have zs3 : w.heap.size + 1 < w3.heap.size := (by (have := hb3.size; (try simp at this); omega)))
  all_goals
    have HB3 := Lib.hid ((((Below.refl w1.heap.size w1).drew).trans hb3))
    have TS3 := Lib.hid (TS1.out.on HB3.out)
    clear hb3 hc3 hf3
    go_wp2_with fail
    have A := sp_set (a' := aH N) (b' := aL N) (c' := aH E) (d' := aL E) TS3.out
    have HB4 := HB1.out.trans (HB3.out.mono HB1.out.size)
    refine bodyPost_ret (v := .tuple #[.agg #[.int .u64 (aH N), .int .u64 (aL N), .int .u64 (aH E), .int .u64 (aL E)], .int .i64 0]) (by simp [results, Tryz.results72, go_sem, A.a0, A.a1, A.a2, A.a3]) rfl ⟨rfl, ?_⟩
    first
      | exact pf_below HB4 (by omega)
      | exact (pf_below HB4 (by omega)).drew
end Go.Proofs.YtlikgfmcialepaaGreatDoor
namespace Go.Proofs.YtlikgfmcialepaaGreatDoor
open Go.RowKit Adr Spn
set_option linter.unusedVariables false
set_option linter.unusedSimpArgs false
variable {fl : Bool}
set_option maxRecDepth 100000 in
set_option maxHeartbeats 4000000 in
/-- the string of a span that is a prefix's -/
theorem stext_p {f : Int} {W : Nat} (hf : Fam f W) (A M k : Nat) (hAM : A ≤ M) (hM : M < 2 ^ W) (hk : gre W A (M + 1 - A) = k) (hpk : 2 ^ k = M + 1 - A) (w : World) (env : Env fl w) :
    Calls Tryz.prog 17 #[.int .u8 f, .agg #[.int .u64 (aH A), .int .u64 (aL A), .int .u64 (aH M), .int .u64 (aL M)]] w fun e w' => e = .returned (.tuple #[.string (str (pfxS f (A / 18446744073709551616) (A % 18446744073709551616) (W - k))), .int .i64 0]) ∧ Below w.heap.size w w' := by
  have hG := env.big
  have HE := Lib.hid env
  have HC := Lib.hid (fun w => schk_any f A M w)
  have hA : A < 2 ^ W := by omega
  have hs0 : schk f A M = 0 := by
    unfold schk
    rw [hf.isA 0 (Nat.two_pow_pos W), if_pos rfl, hf.isA A hA, hf.isA M hM]
    simp [hAM]
  rw [hs0] at HC
  obtain ⟨w1, w2, w3, w4⟩ := hf.wid
  have hfit := gre_fits W A (M + 1 - A) (by omega)
  have hkW := gre_le W A (M + 1 - A)
  rw [hk] at hfit hkW
  have HG := Lib.hid (fun w => gre_any hf A M hAM hM w)
  rw [hk] at HG
  have HL := Lib.hid (fun w => lastN_any hf A (W - k) hA (by omega) (by rw [show W - (W - k) = k by omega]; exact hfit.1) w)
  rw [show W - (W - k) = k by omega, show A + 2 ^ k - 1 = M by omega] at HL
  have h128 := hf.lt hA
  have h2 : (2 : Nat) ^ 128 = 340282366920938463463374607431768211456 := by decide
  have hchk : chk f (aH A) (aL A) ((W - k : Nat) : Int) = 0 := chk_of_num hf (by omega) hA (by rw [show W - (W - k) = k by omega]; exact hfit.1)
  have hca : ca f (aH A) (aL A) = true := by rw [ca_num]; exact hf.isA A hA
  have HT := Lib.hid (fun (w : World) (env : Env fl w) => ptext_yes f (A / 18446744073709551616) (A % 18446744073709551616) (W - k) w env (by omega) (by omega) hchk hca (by omega))
  obtain ⟨X, hX⟩ : ∃ X, str (pfxS f (A / 18446744073709551616) (A % 18446744073709551616) (W - k)) = X := ⟨_, rfl⟩
  rw [hX] at HT ⊢
  have hTT : RowKit.Hid (∀ w, Env fl w → Calls Tryz.prog 9 #[.agg #[.int .u8 f, .int .u64 (aH A), .int .u64 (aL A), .int .i64 ((W - k : Nat) : Int)]] w fun e w' => e = .returned (.tuple #[.string X, .int .i64 0]) ∧ Below w.heap.size w w') := HT
  obtain ⟨n, hn⟩ : ∃ n : Int, ((W - k : Nat) : Int) = n := ⟨_, rfl⟩
  rw [hn] at HG HL hTT
  clear env hs0 w1 w2 w3 w4 hfit hkW h128 h2 hchk hca HT hX hA hAM hM hk hpk hf hn
  go_enter Tryz.func17, Tryz.ntmps17
  go_wp2_with fail
  generalize hv : World.alloc _ _ = v
  have TS : RowKit.Hid (Sp4 w.heap.size v (aH A) (aL A) (aH M) (aL M)) := Lib.hid (by rw [← hv]; exact Sp4.new w _ _ _ _ _)
  have HB := Lib.hid (show Below w.heap.size w v by rw [← hv]; exact below_new _ _)
  clear hv
  refine (HC.out v).mono ?_
  rintro e w1 ⟨rfl, hb1⟩
  have TS1 := Lib.hid (TS.out.on hb1)
  have HB1 := Lib.hid (HB.out.trans (hb1.mono HB.out.size))
  clear hb1 TS HB
  obtain ⟨s0, s1, s2, s3, _⟩ := TS1.out
  go_wp2_with fail
  refine (HG.out w1).mono ?_
  rintro e w2 ⟨rfl, hb2⟩
  have TS2 := Lib.hid (TS1.out.on hb2)
  have HB2 := Lib.hid (HB1.out.trans (hb2.mono HB1.out.size))
  clear hb2 TS1 HB1 s0 s1 s2 s3
  go_upto_region 5 with fail
  obtain ⟨P, hP⟩ : ∃ P, w2.heap.size = P := ⟨_, rfl⟩
  generalize hv : World.alloc _ _ = v3
  have TP3 : RowKit.Hid (Pf4 P v3 f (aH A) (aL A) n) := Lib.hid (by rw [← hv, ← hP]; exact Pf4.new w2 _ _ _ _ _)
  have TS3 := Lib.hid (show Sp4 w.heap.size v3 (aH A) (aL A) (aH M) (aL M) by rw [← hv]; exact TS2.out.on (below_new _ _))
  have HB3 := Lib.hid (show Below w.heap.size w v3 by rw [← hv]; exact HB2.out.alloc HB2.out.size _)
  clear hv TS2 HB2
  try rw [hP]
  clear hP
  obtain ⟨s0, s1, s2, s3, _⟩ := TS3.out
  obtain ⟨p0, p1, p2, p3, _, _, _, _⟩ := TP3.out
  have zp := TP3.out.lt
  have zs := TS3.out.lt
  go_region_held3 (fun x => x.cell? ⟨P, 0, none⟩ = some (.int .u8 f) ∧ x.cell? ⟨P, 1, none⟩ = some (.int .u64 (aH A)) ∧ x.cell? ⟨P, 2, none⟩ = some (.int .u64 (aL A)) ∧ x.cell? ⟨P, 3, none⟩ = some (.int .i64 n) ∧ x.cell? ⟨w.heap.size, 2, none⟩ = some (.int .u64 (aH M)) ∧ x.cell? ⟨w.heap.size, 3, none⟩ = some (.int .u64 (aL M)))
    (first | exact ⟨p0, p1, p2, p3, s2, s3⟩ | exact ⟨(hc4 _ _ zp).trans p0, (hc4 _ _ zp).trans p1, (hc4 _ _ zp).trans p2, (hc4 _ _ zp).trans p3, (hc4 _ _ zs).trans s2, (hc4 _ _ zs).trans s3⟩)
    ((go_at_call 45; refine (HL.out _).mono ?_; rintro e w4 ⟨rfl, hb4⟩; obtain ⟨hc4, hf4⟩ := bcellD hb4))
  all_goals
    have HB4 := Lib.hid ((((Below.refl v3.heap.size v3).drew).trans hb4))
    clear hb4 hc4 hf4 p0 p1 p2 p3 s0 s1 s2 s3
    have TP4 := Lib.hid (TP3.out.on HB4.out)
    have HB5 := Lib.hid (HB3.out.trans (HB4.out.mono HB3.out.size))
    obtain ⟨p0, p1, p2, p3, _, _, _, _⟩ := TP4.out
    go_wp2_with fail
    refine (hTT.out w4 (HE.out.below HB5.out hG)).mono ?_
    rintro e w5 ⟨rfl, hb5⟩
    go_wp2_with fail
    go_ret2
    exact ⟨rfl, HB5.out.trans (hb5.mono HB5.out.size)⟩
end Go.Proofs.YtlikgfmcialepaaGreatDoor
namespace Go.Proofs.YtlikgfmcialepaaGreatDoor
open Go.RowKit Adr Spn
set_option linter.unusedVariables false
set_option linter.unusedSimpArgs false
variable {fl : Bool}
set_option maxRecDepth 100000 in
set_option maxHeartbeats 4000000 in
/-- the string of a span that is no prefix's -/
theorem stext_2 {f : Int} {W : Nat} (hf : Fam f W) (A M k : Nat) (hAM : A ≤ M) (hM : M < 2 ^ W) (hk : gre W A (M + 1 - A) = k) (hpk : ¬ 2 ^ k = M + 1 - A) (w : World) (env : Env fl w) :
    Calls Tryz.prog 17 #[.int .u8 f, .agg #[.int .u64 (aH A), .int .u64 (aL A), .int .u64 (aH M), .int .u64 (aL M)]] w fun e w' => e = .returned (.tuple #[.string (str (addrS f (A / 18446744073709551616) (A % 18446744073709551616)) ++ ⟨#[45]⟩ ++ str (addrS f (M / 18446744073709551616) (M % 18446744073709551616))), .int .i64 0]) ∧ Below w.heap.size w w' := by
  have hG := env.big
  have HE := Lib.hid env
  have HC := Lib.hid (fun w => schk_any f A M w)
  have hA : A < 2 ^ W := by omega
  have hs0 : schk f A M = 0 := by
    unfold schk
    rw [hf.isA 0 (Nat.two_pow_pos W), if_pos rfl, hf.isA A hA, hf.isA M hM]
    simp [hAM]
  rw [hs0] at HC
  obtain ⟨w1, w2, w3, w4⟩ := hf.wid
  have hfit := gre_fits W A (M + 1 - A) (by omega)
  have hkW := gre_le W A (M + 1 - A)
  rw [hk] at hfit hkW
  have HG := Lib.hid (fun w => gre_any hf A M hAM hM w)
  rw [hk] at HG
  have HL := Lib.hid (fun w => lastN_any hf A (W - k) hA (by omega) (by rw [show W - (W - k) = k by omega]; exact hfit.1) w)
  rw [show W - (W - k) = k by omega] at HL
  obtain ⟨E, hE⟩ : ∃ E, A + 2 ^ k - 1 = E := ⟨_, rfl⟩
  have hp := Nat.two_pow_pos k
  have hEM : ¬ E = M := by omega
  rw [hE] at HL
  have h128 := hf.lt hA
  have h128M := hf.lt hM
  have h2 : (2 : Nat) ^ 128 = 340282366920938463463374607431768211456 := by decide
  have hca : ca f (aH A) (aL A) = true := by rw [ca_num]; exact hf.isA A hA
  have hcm : ca f (aH M) (aL M) = true := by rw [ca_num]; exact hf.isA M hM
  have T1 := Lib.hid (fun (w : World) (env : Env fl w) => text_yes f (A / 18446744073709551616) (A % 18446744073709551616) w env hca (by omega) (by omega))
  have T2 := Lib.hid (fun (w : World) (env : Env fl w) => text_yes f (M / 18446744073709551616) (M % 18446744073709551616) w env hcm (by omega) (by omega))
  have s1 := str_size (addrS f (A / 18446744073709551616) (A % 18446744073709551616))
  have s2 := addrS_len f (A / 18446744073709551616) (A % 18446744073709551616)
  have s3 := str_size (addrS f (M / 18446744073709551616) (M % 18446744073709551616))
  have s4 := addrS_len f (M / 18446744073709551616) (M % 18446744073709551616)
  obtain ⟨X, hX⟩ : ∃ X, str (addrS f (A / 18446744073709551616) (A % 18446744073709551616)) = X := ⟨_, rfl⟩
  obtain ⟨Y, hY⟩ : ∃ Y, str (addrS f (M / 18446744073709551616) (M % 18446744073709551616)) = Y := ⟨_, rfl⟩
  rw [hX] at T1 s1 ⊢
  rw [hY] at T2 s3 ⊢
  have HT1 : RowKit.Hid (∀ w, Env fl w → Calls Tryz.prog 5 #[.int .u8 f, .agg #[.int .u64 (aH A), .int .u64 (aL A)]] w fun e w' => e = .returned (.tuple #[.string X, .int .i64 0]) ∧ Below w.heap.size w w') := T1
  have HT2 : RowKit.Hid (∀ w, Env fl w → Calls Tryz.prog 5 #[.int .u8 f, .agg #[.int .u64 (aH M), .int .u64 (aL M)]] w fun e w' => e = .returned (.tuple #[.string Y, .int .i64 0]) ∧ Below w.heap.size w w') := T2
  have t1 : X.size ≤ 83 := by omega
  have t2 : Y.size ≤ 83 := by omega
  have HEM := Lib.hid (show (¬ aH E = aH M) ∨ (aH E = aH M ∧ ¬ aL E = aL M) by
    by_cases h : aH E = aH M
    · exact Or.inr ⟨h, fun h' => hEM (a_inj h h')⟩
    · exact Or.inl h)
  obtain ⟨n, hn⟩ : ∃ n : Int, ((W - k : Nat) : Int) = n := ⟨_, rfl⟩
  rw [hn] at HG HL
  obtain ⟨x, hx⟩ : ∃ x, aH E = x := ⟨_, rfl⟩
  obtain ⟨y, hy⟩ : ∃ y, aL E = y := ⟨_, rfl⟩
  rw [hx] at HL HEM
  rw [hy] at HL HEM
  clear env hs0 w1 w2 w3 w4 hfit hkW h128 h128M h2 hca hcm T1 T2 hX hY hA hAM hM hk hpk hf hn s1 s2 s3 s4 hE hp hEM hx hy
  go_enter Tryz.func17, Tryz.ntmps17
  go_wp2_with fail
  generalize hv : World.alloc _ _ = v
  have TS : RowKit.Hid (Sp4 w.heap.size v (aH A) (aL A) (aH M) (aL M)) := Lib.hid (by rw [← hv]; exact Sp4.new w _ _ _ _ _)
  have HB := Lib.hid (show Below w.heap.size w v by rw [← hv]; exact below_new _ _)
  clear hv
  refine (HC.out v).mono ?_
  rintro e w1 ⟨rfl, hb1⟩
  have TS1 := Lib.hid (TS.out.on hb1)
  have HB1 := Lib.hid (HB.out.trans (hb1.mono HB.out.size))
  clear hb1 TS HB
  obtain ⟨s0, s1, s2, s3, _⟩ := TS1.out
  go_wp2_with fail
  refine (HG.out w1).mono ?_
  rintro e w2 ⟨rfl, hb2⟩
  have TS2 := Lib.hid (TS1.out.on hb2)
  have HB2 := Lib.hid (HB1.out.trans (hb2.mono HB1.out.size))
  clear hb2 TS1 HB1 s0 s1 s2 s3
  go_upto_region 5 with fail
  obtain ⟨P, hP⟩ : ∃ P, w2.heap.size = P := ⟨_, rfl⟩
  generalize hv : World.alloc _ _ = v3
  have TP3 : RowKit.Hid (Pf4 P v3 f (aH A) (aL A) n) := Lib.hid (by rw [← hv, ← hP]; exact Pf4.new w2 _ _ _ _ _)
  have TS3 := Lib.hid (show Sp4 w.heap.size v3 (aH A) (aL A) (aH M) (aL M) by rw [← hv]; exact TS2.out.on (below_new _ _))
  have HB3 := Lib.hid (show Below w.heap.size w v3 by rw [← hv]; exact HB2.out.alloc HB2.out.size _)
  clear hv TS2 HB2
  try rw [hP]
  clear hP
  obtain ⟨s0, s1, s2, s3, _⟩ := TS3.out
  obtain ⟨p0, p1, p2, p3, _, _, _, _⟩ := TP3.out
  have zp := TP3.out.lt
  have zs := TS3.out.lt
  rcases HEM.out with h | ⟨rfl, h⟩
  all_goals
    go_region_held3 (fun x => x.cell? ⟨P, 0, none⟩ = some (.int .u8 f) ∧ x.cell? ⟨P, 1, none⟩ = some (.int .u64 (aH A)) ∧ x.cell? ⟨P, 2, none⟩ = some (.int .u64 (aL A)) ∧ x.cell? ⟨P, 3, none⟩ = some (.int .i64 n) ∧ x.cell? ⟨w.heap.size, 2, none⟩ = some (.int .u64 (aH M)) ∧ x.cell? ⟨w.heap.size, 3, none⟩ = some (.int .u64 (aL M)))
      (first | exact ⟨p0, p1, p2, p3, s2, s3⟩ | exact ⟨(hc4 _ _ zp).trans p0, (hc4 _ _ zp).trans p1, (hc4 _ _ zp).trans p2, (hc4 _ _ zp).trans p3, (hc4 _ _ zs).trans s2, (hc4 _ _ zs).trans s3⟩)
      ((go_at_call 45; refine (HL.out _).mono ?_; rintro e w4 ⟨rfl, hb4⟩; obtain ⟨hc4, hf4⟩ := bcellD hb4))
  all_goals
    have HB4 := Lib.hid ((((Below.refl v3.heap.size v3).drew).trans hb4))
    clear hb4 hc4 hf4 p0 p1 p2 p3 s0 s1 s2 s3
    have TP4 := Lib.hid (TP3.out.on HB4.out)
    have HB5 := Lib.hid (HB3.out.trans (HB4.out.mono HB3.out.size))
    obtain ⟨p0, p1, p2, p3, _, _, _, _⟩ := TP4.out
    have TS4 := Lib.hid (TS3.out.on HB4.out)
    obtain ⟨s0, s1, s2, s3, _⟩ := TS4.out
    clear h HEM
    go_wp2_with fail
    refine (HT1.out _ (HE.out.below HB5.out hG)).mono ?_
    rintro e w5 ⟨rfl, hb5⟩
    have TS5 := Lib.hid (TS4.out.on hb5)
    have HB6 := Lib.hid (HB5.out.trans (hb5.mono HB5.out.size))
    clear hb5 TS4 s0 s1 s2 s3 p0 p1 p2 p3
    obtain ⟨s0, s1, s2, s3, _⟩ := TS5.out
    go_wp2_with fail
    refine (HT2.out _ (HE.out.below HB6.out hG)).mono ?_
    rintro e w6 ⟨rfl, hb6⟩
    have HB7 := Lib.hid (HB6.out.trans (hb6.mono HB6.out.size))
    clear hb6 TS5 s0 s1 s2 s3
    go_wp2_with fail
    go_ret2
    exact ⟨rfl, HB7.out⟩
/-- what is no span has no string -/
theorem stext_no (f : Int) (A M : Nat) (c : Int) (hc : schk f A M = c) (hc0 : (c != 0) = true) (w : World) :
    Calls Tryz.prog 17 #[.int .u8 f, .agg #[.int .u64 (aH A), .int .u64 (aL A), .int .u64 (aH M), .int .u64 (aL M)]] w fun e w' => e = .returned (.tuple #[.string ⟨#[]⟩, .int .i64 c]) ∧ Below w.heap.size w w' := by
  have HC := Lib.hid (fun w => schk_any f A M w)
  rw [hc] at HC
  clear hc
  go_enter Tryz.func17, Tryz.ntmps17
  go_wp2_with fail
  refine (HC.out _).mono ?_
  rintro e w1 ⟨rfl, hb1⟩
  have HB1 := Lib.hid (((Below.refl w.heap.size w).alloc (Nat.le_refl _) (.cells #[.int .u64 (aH A), .int .u64 (aL A), .int .u64 (aH M), .int .u64 (aL M)] 50)).trans (hb1.mono (by simp)))
  clear hb1
  go_wp2_with fail
  go_ret2
  exact ⟨rfl, HB1.out⟩
end Go.Proofs.YtlikgfmcialepaaGreatDoor
namespace Go.Proofs.YtlikgfmcialepaaGreatDoor
open Go.RowKit Adr Spn
set_option linter.unusedVariables false
set_option linter.unusedSimpArgs false
variable {fl : Bool}
theorem own_cells {w : World} {base : Nat} {e : TypeId} {v : Value} {n : Nat} {xs : List Value} (h : w.ownsRow base e 4 v n xs) (hn : 0 < n) :
    ∃ g cap, v = .slice (some ⟨g, 0, none⟩) n cap ∧ base ≤ g ∧ g < w.heap.size ∧ n ≤ cap ∧ ∀ (j : Nat) x, xs[j]? = some x → w.cell? ⟨g, j, none⟩ = some x := by
  obtain ⟨hl, h | ⟨g, cap, cur, rfl, hb, hg, hnc, hcm, hcs, ht⟩⟩ := h
  · omega
  · have hlt : g < w.heap.size := (Array.getElem?_eq_some_iff.1 hg).1
    refine ⟨g, cap, rfl, hb, hlt, hnc, fun j x hj => ?_⟩
    have hjn : j < n * 4 := by have := (List.getElem?_eq_some_iff.1 hj).1; omega
    have h1 : cur.toList[j]? = some x := by
      have h2 : (cur.toList.take (n * 4))[j]? = cur.toList[j]? := by rw [List.getElem?_take]; rw [if_pos hjn]
      rw [← h2, ht]
      exact hj
    simp only [World.cell?, hg]
    simpa using h1
theorem steps_mk {W a n k : Nat} {l : List (Nat × Nat)} (hk : gre W a n = k) (h : 1 ≤ n) (t : Spn.Steps W (a + 2 ^ k) (n - 2 ^ k) l) : Spn.Steps W a n ((a, k) :: l) := by
  subst hk
  exact .cons a n l h t
theorem al_steps : Spn.Steps 32 167772161 6 [(167772161, 0), (167772162, 1), (167772164, 1), (167772166, 0)] :=
  steps_mk (by decide +kernel) (by decide) (steps_mk (by decide +kernel) (by decide) (steps_mk (by decide +kernel) (by decide) (steps_mk (by decide +kernel) (by decide) (.nil _))))
/-- the cells of the first example's list -/
def alc : List Value := [.int .u8 4, .int .u64 0, .int .u64 167772161, .int .i64 32, .int .u8 4, .int .u64 0, .int .u64 167772162, .int .i64 31, .int .u8 4, .int .u64 0, .int .u64 167772164, .int .i64 31, .int .u8 4, .int .u64 0, .int .u64 167772166, .int .i64 32]
theorem al_cells : pcells 4 32 [(167772161, 0), (167772162, 1), (167772164, 1), (167772166, 0)] = alc := by rfl
theorem al_stext (w : World) (env : Env fl w) : Calls Tryz.prog 17 #[.int .u8 4, .agg #[.int .u64 0, .int .u64 167772160, .int .u64 0, .int .u64 167772415]] w fun e w' => e = .returned (.tuple #[.string ⟨#[49, 48, 46, 48, 46, 48, 46, 48, 47, 50, 52]⟩, .int .i64 0]) ∧ Below w.heap.size w w' := by
  have h := stext_p (Or.inl ⟨rfl, rfl⟩ : Fam 4 32) 167772160 167772415 8 (by decide) (by decide) (by decide +kernel) (by decide) w env
  rw [show str (pfxS 4 (167772160 / 18446744073709551616) (167772160 % 18446744073709551616) (32 - 8)) = ⟨#[49, 48, 46, 48, 46, 48, 46, 48, 47, 50, 52]⟩ by decide +kernel] at h
  exact h
theorem al_world {w : World} {j : Nat} {x : Value} (t : TypeId) (h : alc[j]? = some x) : (w.alloc (.cells alc.toArray t)).cell? ⟨w.heap.size, j, none⟩ = some x := by
  rw [World.cell?_alloc_new]
  simpa using h
theorem al_far {w : World} {g : Nat} (hg : g < w.heap.size) (h : ∀ (j : Nat) x, alc[j]? = some x → w.cell? ⟨g, j, none⟩ = some x) (t : TypeId) :
    ∀ (j : Nat) x, alc[j]? = some x → (w.alloc (.cells alc.toArray t)).cell? ⟨g, j, none⟩ = some x := fun j x hx => by
  rw [World.cell?_alloc_lt w _ ⟨g, j, none⟩ hg]
  exact h j x hx
end Go.Proofs.YtlikgfmcialepaaGreatDoor
namespace Go.Proofs.YtlikgfmcialepaaGreatDoor
open Go.RowKit Adr Spn
set_option linter.unusedVariables false
set_option linter.unusedSimpArgs false
variable {fl : Bool}
theorem block_iff (Y A k : Nat) (ha : A % 2 ^ k = 0) : Y / 2 ^ k * 2 ^ k = A ↔ (A ≤ Y ∧ Y < A + 2 ^ k) := by
  have hp := Nat.two_pow_pos k
  have h1 := Nat.div_add_mod Y (2 ^ k)
  have h2 := Nat.mod_lt Y hp
  rw [Nat.mul_comm] at h1
  obtain ⟨q, rfl⟩ := Nat.dvd_of_mod_eq_zero ha
  constructor
  · intro e
    omega
  · rintro ⟨e1, e2⟩
    have e3 : Y / 2 ^ k = q := by
      apply Nat.div_eq_of_lt_le
      · rw [Nat.mul_comm]; exact e1
      · rw [Nat.mul_comm, Nat.mul_add, Nat.mul_one]; exact e2
    rw [e3, Nat.mul_comm]
theorem ok_of_num {f : Int} {W i N : Nat} (hf : Fam f W) (hi : i ≤ W) (hN : N < 2 ^ W) (ha : N % 2 ^ (W - i) = 0) : ok f (aH N) (aL N) i = true := by
  have h := chk_of_num hf hi hN ha
  unfold chk at h
  by_cases hh : ok f (aH N) (aL N) i = true
  · exact hh
  · rw [if_neg hh] at h
    split at h <;> omega
theorem cov_hit {f : Int} {W : Nat} (hf : Fam f W) (A k Y : Nat) (hk : k ≤ W) (hA : A < 2 ^ W) (ha : A % 2 ^ k = 0) (hY : Y < 2 ^ W) :
    cov f (aH A) (aL A) ((W - k : Nat) : Int) f (aH Y) (aL Y) (W : Int) = hit Y (A, k) := by
  obtain ⟨w1, w2, w3, w4⟩ := hf.wid
  have o1 := ok_of_num hf (show W - k ≤ W by omega) hA (by rw [show W - (W - k) = k by omega]; exact ha)
  have o2 := ok_of_num hf (Nat.le_refl W) hY (by rw [Nat.sub_self]; exact Nat.mod_one _)
  unfold cov
  rw [o1, o2, w1, show ((W : Int) - (W - k : Nat)) = (k : Int) by omega, (clr_a Y k).1, (clr_a Y k).2]
  have e : (aH (Y / 2 ^ k * 2 ^ k) == aH A && aL (Y / 2 ^ k * 2 ^ k) == aL A) = decide (Y / 2 ^ k * 2 ^ k = A) := by
    rw [Bool.eq_iff_iff]
    simp only [Bool.and_eq_true, beq_iff_eq, decide_eq_true_eq]
    exact ⟨fun h => a_inj h.1 h.2, fun h => by rw [h]; exact ⟨rfl, rfl⟩⟩
  have e5 : decide (Y / 2 ^ k * 2 ^ k = A) = decide (A ≤ Y ∧ Y < A + 2 ^ k) := decide_eq_decide.2 (block_iff Y A k ha)
  rw [e, e5]
  rw [show decide (((W - k : Nat) : Int) ≤ (W : Int)) = true from decide_eq_true (by omega)]
  simp [hit]
/-- a list of blocks -/
def Blocks (W : Nat) (xs : List (Nat × Nat)) : Prop := ∀ p ∈ xs, p.1 < 2 ^ W ∧ p.2 ≤ W ∧ p.1 % 2 ^ p.2 = 0
end Go.Proofs.YtlikgfmcialepaaGreatDoor
namespace Go.Proofs.YtlikgfmcialepaaGreatDoor
open Go.RowKit Adr Spn
set_option linter.unusedVariables false
set_option linter.unusedSimpArgs false
variable {fl : Bool}
theorem schk_fam {f : Int} {A M : Nat} (hM : M < 2 ^ 128) (h : schk f A M = 0) : ∃ W : Nat, Fam f W ∧ A ≤ M ∧ M < 2 ^ W := by
  unfold schk at h
  split at h
  · split at h
    · rename_i h1 h2
      simp only [Bool.and_eq_true, decide_eq_true_eq] at h2
      obtain ⟨⟨h3, h4⟩, h5⟩ := h2
      unfold isA at h4
      by_cases h4' : f = 4
      · rw [if_pos h4'] at h4
        exact ⟨32, Or.inl ⟨h4', rfl⟩, h5, by simpa using h4⟩
      · rw [if_neg h4'] at h4
        exact ⟨128, Or.inr ⟨by simpa using h4, rfl⟩, h5, hM⟩
    · omega
  · omega
end Go.Proofs.YtlikgfmcialepaaGreatDoor
namespace Go.Proofs.YtlikgfmcialepaaGreatDoor
open Go.RowKit Adr Spn
set_option linter.unusedVariables false
set_option linter.unusedSimpArgs false
variable {fl : Bool}
/-- the number of bits of a family -/
def famW (f : Int) : Nat := if f = 4 then 32 else 128
theorem Fam.famW {f : Int} {W : Nat} (h : Fam f W) : famW f = W := by
  rcases h with ⟨rfl, rfl⟩ | ⟨rfl, rfl⟩ <;> decide
/-- the string of a span -/
def sxS (f : Int) (W A M : Nat) : ByteArray :=
  if 2 ^ gre W A (M + 1 - A) = M + 1 - A then str (pfxS f (A / 18446744073709551616) (A % 18446744073709551616) (W - gre W A (M + 1 - A)))
  else str (addrS f (A / 18446744073709551616) (A % 18446744073709551616)) ++ ⟨#[45]⟩ ++ str (addrS f (M / 18446744073709551616) (M % 18446744073709551616))
def stX (f : Int) (A M : Nat) : ByteArray := if schk f A M = 0 then sxS f (famW f) A M else ⟨#[]⟩
/-- span.Text at every span -/
theorem stext_any (f : Int) (A M : Nat) (hM : M < 2 ^ 128) (w : World) (env : Env fl w) :
    Calls Tryz.prog 17 #[.int .u8 f, .agg #[.int .u64 (aH A), .int .u64 (aL A), .int .u64 (aH M), .int .u64 (aL M)]] w fun e w' => e = .returned (.tuple #[.string (stX f A M), .int .i64 (schk f A M)]) ∧ Below w.heap.size w w' := by
  unfold stX
  by_cases hs : schk f A M = 0
  · rw [if_pos hs, hs]
    obtain ⟨W, hf, hAM, hMW⟩ := schk_fam hM hs
    rw [hf.famW]
    unfold sxS
    by_cases hp : 2 ^ gre W A (M + 1 - A) = M + 1 - A
    · rw [if_pos hp]
      exact stext_p hf A M _ hAM hMW rfl hp w env
    · rw [if_neg hp]
      exact stext_2 hf A M _ hAM hMW rfl hp w env
  · rw [if_neg hs]
    exact stext_no f A M _ rfl (by rw [bne_iff_ne]; exact hs) w
/-- the address that is read of a string -/
def apN (s : ByteArray) : Nat := apH s * 18446744073709551616 + apL s
theorem apN_h (s : ByteArray) : aH (apN s) = (apH s : Int) ∧ aL (apN s) = (apL s : Int) := by
  have h := ap_u64 s
  unfold aH aL apN
  constructor <;> omega
theorem apN_lt (s : ByteArray) : apN s < 2 ^ 128 := by
  have h := ap_u64 s
  have h2 : (2 : Nat) ^ 128 = 340282366920938463463374607431768211456 := by decide
  unfold apN
  omega
/-- what stands before and behind a dash -/
def cutL (s : ByteArray) : ByteArray := ⟨(Lib.cut s.data.toList [45]).1.toArray⟩
def cutR (s : ByteArray) : ByteArray := ⟨(Lib.cut s.data.toList [45]).2.1.toArray⟩
def cutM (s : ByteArray) : Bool := (Lib.cut s.data.toList [45]).2.2
set_option maxRecDepth 100000 in
set_option maxHeartbeats 4000000 in
theorem ends_core (s X Y : ByteArray) (f1 h1 l1 e1 f2 h2 l2 e2 : Int) (b1 b2 b3 : Bool) (hb1 : (e1 != 0) = b1) (hb2 : (e2 != 0) = b2) (hb3 : (f1 != f2) = b3)
    (hX : cutL s = X) (hY : cutR s = Y) (H1 : ApIs X f1 h1 l1 e1) (H2 : ApIs Y f2 h2 l2 e2) (w : World) (env : Env true w) (hs : s.size ≤ 1000) :
    Calls Tryz.prog 47 #[.string s] w fun e w' => e = .returned (.tuple #[.int .u8 (bif (b1 || b2 || b3) then 0 else f1), .agg #[.int .u64 (bif (b1 || b2 || b3) then 0 else h1), .int .u64 (bif (b1 || b2 || b3) then 0 else l1), .int .u64 (bif (b1 || b2 || b3) then 0 else h2), .int .u64 (bif (b1 || b2 || b3) then 0 else l2)]]) ∧ Below w.heap.size w w' := by
  have hG := env.big
  have HE := Lib.hid env
  have hcut : ∀ w, Env true w → Calls Tryz.prog 37 #[.string s, .string ⟨#[45]⟩] w fun e w' => e = .returned (.tuple #[.string X, .string Y, .bool (cutM s)]) ∧ ∃ n, w' = w.drewN n := by
    intro w env
    obtain ⟨m, hm⟩ := env.mx
    have h := Tryz.strings_Cut s ⟨#[45]⟩ m w (by omega) hm
    rw [← hX, ← hY]
    exact h
  have HCUT := Lib.hid hcut
  have HA := Lib.hid H1
  have HB := Lib.hid H2
  obtain ⟨mm, hmm⟩ : ∃ mm, cutM s = mm := ⟨_, rfl⟩
  rw [hmm] at HCUT
  clear hcut env hs H1 H2 hX hY hmm
  cases b1 <;> cases b2 <;> cases b3
  all_goals
    simp only [Bool.or_false, Bool.or_true, Bool.or_self, cond_true, cond_false]
    go_enter Tryz.func47, Tryz.ntmps47
    go_wp2_with fail
    generalize hv : World.alloc _ _ = v
    have TS : RowKit.Hid (Sp4 w.heap.size v 0 0 0 0) := Lib.hid (by rw [← hv]; exact Sp4.new w _ _ _ _ _)
    have HV := Lib.hid (show Below w.heap.size w v by rw [← hv]; exact below_new _ _)
    clear hv
    refine (HCUT.out v (HE.out.below HV.out hG)).mono ?_
    rintro e w1 ⟨rfl, nq, rfl⟩
    have TS1 := Lib.hid (TS.out.on (below_drewN (Below.refl _ _) nq))
    have HB1 := Lib.hid (below_drewN HV.out nq)
    clear TS HV
    generalize World.drewN _ nq = v1 at TS1 HB1 ⊢
    go_wp2_with fail
    refine (HA.out _ (HE.out.below HB1.out hG)).mono ?_
    rintro e w2 ⟨rfl, hb2⟩
    have TS2 := Lib.hid (TS1.out.on hb2)
    have HB2 := Lib.hid (HB1.out.trans (hb2.mono HB1.out.size))
    clear hb2 HB1 TS1
    go_wp2_with fail
    generalize hv : World.alloc _ _ = v3
    have TA3 : RowKit.Hid (Ad2 w2.heap.size v3 h1 l1) := Lib.hid (by rw [← hv]; exact Ad2.new w2 h1 l1 _)
    have TS3 : RowKit.Hid (Sp4 w.heap.size v3 0 0 0 0) := Lib.hid (by rw [← hv]; exact TS2.out.on (below_new _ _))
    have HB3 := Lib.hid (show Below w.heap.size w v3 by rw [← hv]; exact HB2.out.alloc HB2.out.size _)
    clear hv HB2 TS2
    obtain ⟨P, hP⟩ : ∃ P, w2.heap.size = P := ⟨_, rfl⟩
    try rw [hP] at TA3
    try rw [hP]
    clear hP
    refine (HB.out _ (HE.out.below HB3.out hG)).mono ?_
    rintro e w4 ⟨rfl, hb4⟩
    have HB4 := Lib.hid (HB3.out.trans (hb4.mono HB3.out.size))
    have TA4 := Lib.hid (TA3.out.on hb4)
    have TS4 := Lib.hid (TS3.out.on hb4)
    clear hb4 HB3 TA3 TS3
    go_upto_region 4 with fail
    generalize hv : World.alloc _ _ = v5
    have TB5 : RowKit.Hid (Ad2 w4.heap.size v5 h2 l2) := Lib.hid (by rw [← hv]; exact Ad2.new w4 h2 l2 _)
    have TA5 : RowKit.Hid (Ad2 P v5 h1 l1) := Lib.hid (by rw [← hv]; exact TA4.out.on (below_new _ _))
    have TS5 : RowKit.Hid (Sp4 w.heap.size v5 0 0 0 0) := Lib.hid (by rw [← hv]; exact TS4.out.on (below_new _ _))
    have HB5 := Lib.hid (show Below w.heap.size w v5 by rw [← hv]; exact HB4.out.alloc HB4.out.size _)
    clear hv TA4 TS4 HB4
    obtain ⟨Q, hQ⟩ : ∃ Q, w4.heap.size = Q := ⟨_, rfl⟩
    try rw [hQ] at TB5
    try rw [hQ]
    clear hQ
    obtain ⟨a0, a1, _, _⟩ := TA5.out
    obtain ⟨c0, c1, _, _⟩ := TB5.out
    obtain ⟨s0, s1, s2, s3, fz⟩ := TS5.out
    have g0 := fz 0
    have g1 := fz 1
    have g2 := fz 2
    have g3 := fz 3
    clear fz
    go_wp2_with fail
    first
      | (have A := sp_set (a' := 0) (b' := 0) (c' := 0) (d' := 0) TS5.out
         exact bodyPost_ret (v := .tuple #[.int .u8 0, .agg #[.int .u64 0, .int .u64 0, .int .u64 0, .int .u64 0]]) (by simp [results, Tryz.results47, go_sem, A.a0, A.a1, A.a2, A.a3]) rfl ⟨rfl, pf_below HB5.out (Nat.le_refl _)⟩)
      | (go_region
         all_goals
           go_wp2_with fail
           have A := sp_set (a' := h1) (b' := l1) (c' := h2) (d' := l2) TS5.out
           refine bodyPost_ret (v := .tuple #[.int .u8 f1, .agg #[.int .u64 h1, .int .u64 l1, .int .u64 h2, .int .u64 l2]]) (by simp [results, Tryz.results47, go_sem, A.a0, A.a1, A.a2, A.a3]) rfl ⟨rfl, ?_⟩
           first
             | exact pf_below HB5.out (Nat.le_refl _)
             | exact (pf_below HB5.out (Nat.le_refl _)).drew)
set_option maxRecDepth 100000 in
set_option maxHeartbeats 4000000 in
theorem rdpf_no (s : ByteArray) (f h l n : Int) (e1 : Int) (he : (e1 != 0) = true) (H1 : ∀ w, Env true w → Calls Tryz.prog 11 #[.string s] w (PfxLeft f h l n e1 w)) (w : World) (env : Env true w) :
    Calls Tryz.prog 48 #[.string s] w fun e w' => e = .returned (.tuple #[.int .u8 0, .agg #[.int .u64 0, .int .u64 0, .int .u64 0, .int .u64 0]]) ∧ Below w.heap.size w w' := by
  have hG := env.big
  have HE := Lib.hid env
  have HP := Lib.hid H1
  clear H1 env
  go_enter Tryz.func48, Tryz.ntmps48
  go_wp2_with fail
  generalize hv : World.alloc _ _ = v
  have TS : RowKit.Hid (Sp4 w.heap.size v 0 0 0 0) := Lib.hid (by rw [← hv]; exact Sp4.new w _ _ _ _ _)
  have HV := Lib.hid (show Below w.heap.size w v by rw [← hv]; exact below_new _ _)
  clear hv
  refine (HP.out v (HE.out.below HV.out hG)).mono ?_
  rintro e w1 ⟨rfl, hb1⟩
  have TS1 := Lib.hid (TS.out.on hb1)
  have HB1 := Lib.hid (HV.out.trans (hb1.mono HV.out.size))
  clear hb1 HV TS
  go_upto_region 2 with fail
  generalize hv : World.alloc _ _ = v2
  have TS2 : RowKit.Hid (Sp4 w.heap.size v2 0 0 0 0) := Lib.hid (by rw [← hv]; exact TS1.out.on (below_new _ _))
  have HB2 := Lib.hid (show Below w.heap.size w v2 by rw [← hv]; exact HB1.out.alloc HB1.out.size _)
  clear hv TS1 HB1
  obtain ⟨s0, s1, s2, s3, fz⟩ := TS2.out
  have g0 := fz 0
  have g1 := fz 1
  have g2 := fz 2
  have g3 := fz 3
  clear fz
  go_wp2_with fail
  have A := sp_set (a' := 0) (b' := 0) (c' := 0) (d' := 0) TS2.out
  exact bodyPost_ret (v := .tuple #[.int .u8 0, .agg #[.int .u64 0, .int .u64 0, .int .u64 0, .int .u64 0]]) (by simp [results, Tryz.results48, go_sem, A.a0, A.a1, A.a2, A.a3]) rfl ⟨rfl, pf_below HB2.out (Nat.le_refl _)⟩
set_option maxRecDepth 100000 in
set_option maxHeartbeats 4000000 in
theorem rdpf_yes (s : ByteArray) (f h l n a b c d : Int) (H1 : ∀ w, Env true w → Calls Tryz.prog 11 #[.string s] w (PfxLeft f h l n 0 w))
    (H2 : ∀ w, Calls Tryz.prog 72 #[.agg #[.int .u8 f, .int .u64 h, .int .u64 l, .int .i64 n]] w fun e w' => e = .returned (.tuple #[.agg #[.int .u64 a, .int .u64 b, .int .u64 c, .int .u64 d], .int .i64 0]) ∧ Below w.heap.size w w') (w : World) (env : Env true w) :
    Calls Tryz.prog 48 #[.string s] w fun e w' => e = .returned (.tuple #[.int .u8 f, .agg #[.int .u64 a, .int .u64 b, .int .u64 c, .int .u64 d]]) ∧ Below w.heap.size w w' := by
  have hG := env.big
  have HE := Lib.hid env
  have HP := Lib.hid H1
  have HO := Lib.hid H2
  clear H1 H2 env
  go_enter Tryz.func48, Tryz.ntmps48
  go_wp2_with fail
  generalize hv : World.alloc _ _ = v
  have TS : RowKit.Hid (Sp4 w.heap.size v 0 0 0 0) := Lib.hid (by rw [← hv]; exact Sp4.new w _ _ _ _ _)
  have HV := Lib.hid (show Below w.heap.size w v by rw [← hv]; exact below_new _ _)
  clear hv
  refine (HP.out v (HE.out.below HV.out hG)).mono ?_
  rintro e w1 ⟨rfl, hb1⟩
  have TS1 := Lib.hid (TS.out.on hb1)
  have HB1 := Lib.hid (HV.out.trans (hb1.mono HV.out.size))
  clear hb1 HV TS
  go_upto_region 2 with fail
  generalize hv : World.alloc _ _ = v2
  have TP2 : RowKit.Hid (Pf4 w1.heap.size v2 f h l n) := Lib.hid (by rw [← hv]; exact Pf4.new w1 _ _ _ _ _)
  have TS2 : RowKit.Hid (Sp4 w.heap.size v2 0 0 0 0) := Lib.hid (by rw [← hv]; exact TS1.out.on (below_new _ _))
  have HB2 := Lib.hid (show Below w.heap.size w v2 by rw [← hv]; exact HB1.out.alloc HB1.out.size _)
  clear hv TS1 HB1
  obtain ⟨P, hP⟩ : ∃ P, w1.heap.size = P := ⟨_, rfl⟩
  try rw [hP] at TP2
  try rw [hP]
  clear hP
  obtain ⟨p0, p1, p2, p3, _, _, _, _⟩ := TP2.out
  go_wp2_with fail
  refine (HO.out v2).mono ?_
  rintro e w3 ⟨rfl, hb3⟩
  have TP3 := Lib.hid (TP2.out.on hb3)
  have TS3 := Lib.hid (TS2.out.on hb3)
  have HB3 := Lib.hid (HB2.out.trans (hb3.mono HB2.out.size))
  clear hb3 TP2 TS2 HB2 p0 p1 p2 p3
  go_upto_region 5 with fail
  generalize hv : World.alloc _ _ = v4
  have TO4 : RowKit.Hid (Sp4 w3.heap.size v4 a b c d) := Lib.hid (by rw [← hv]; exact Sp4.new w3 _ _ _ _ _)
  have TP4 : RowKit.Hid (Pf4 P v4 f h l n) := Lib.hid (by rw [← hv]; exact TP3.out.on (below_new _ _))
  have TS4 : RowKit.Hid (Sp4 w.heap.size v4 0 0 0 0) := Lib.hid (by rw [← hv]; exact TS3.out.on (below_new _ _))
  have HB4 := Lib.hid (show Below w.heap.size w v4 by rw [← hv]; exact HB3.out.alloc HB3.out.size _)
  clear hv TP3 TS3 HB3
  obtain ⟨Q, hQ⟩ : ∃ Q, w3.heap.size = Q := ⟨_, rfl⟩
  try rw [hQ] at TO4
  try rw [hQ]
  clear hQ
  obtain ⟨p0, p1, p2, p3, _, _, _, _⟩ := TP4.out
  obtain ⟨o0, o1, o2, o3, _⟩ := TO4.out
  obtain ⟨s0, s1, s2, s3, fz⟩ := TS4.out
  have g0 := fz 0
  have g1 := fz 1
  have g2 := fz 2
  have g3 := fz 3
  clear fz
  go_region
  all_goals
    go_wp2_with fail
    have A := sp_set (a' := a) (b' := b) (c' := c) (d' := d) TS4.out
    refine bodyPost_ret (v := .tuple #[.int .u8 f, .agg #[.int .u64 a, .int .u64 b, .int .u64 c, .int .u64 d]]) (by simp [results, Tryz.results48, go_sem, A.a0, A.a1, A.a2, A.a3]) rfl ⟨rfl, ?_⟩
    first
      | exact pf_below HB4.out (Nat.le_refl _)
      | exact (pf_below HB4.out (Nat.le_refl _)).drew
set_option maxRecDepth 100000 in
set_option maxHeartbeats 4000000 in
theorem sparse_core (s X : ByteArray) (bc : Bool) (f a b c d ec rf ra rb rc rd re : Int) (hc : decide (0 ≤ Lib.indexByte s.data.toList 45) = bc)
    (H1 : bc = true → ∀ w, Env true w → Calls Tryz.prog 47 #[.string s] w fun e w' => e = .returned (.tuple #[.int .u8 f, .agg #[.int .u64 a, .int .u64 b, .int .u64 c, .int .u64 d]]) ∧ Below w.heap.size w w')
    (H2 : bc = false → ∀ w, Env true w → Calls Tryz.prog 48 #[.string s] w fun e w' => e = .returned (.tuple #[.int .u8 f, .agg #[.int .u64 a, .int .u64 b, .int .u64 c, .int .u64 d]]) ∧ Below w.heap.size w w')
    (H3 : ∀ w, Env true w → Calls Tryz.prog 17 #[.int .u8 f, .agg #[.int .u64 a, .int .u64 b, .int .u64 c, .int .u64 d]] w fun e w' => e = .returned (.tuple #[.string X, .int .i64 ec]) ∧ Below w.heap.size w w')
    (k : (ec = 0 ∧ X = s ∧ f = rf ∧ a = ra ∧ b = rb ∧ c = rc ∧ d = rd ∧ re = 0) ∨ (ec = 0 ∧ (X.toList == s.toList) = false ∧ rf = 0 ∧ ra = 0 ∧ rb = 0 ∧ rc = 0 ∧ rd = 0 ∧ re = 12) ∨ ((ec != 0) = true ∧ rf = 0 ∧ ra = 0 ∧ rb = 0 ∧ rc = 0 ∧ rd = 0 ∧ re = 12))
    (w : World) (env : Env true w) :
    Calls Tryz.prog 19 #[.string s] w fun e w' => e = .returned (.tuple #[.int .u8 rf, .agg #[.int .u64 ra, .int .u64 rb, .int .u64 rc, .int .u64 rd], .int .i64 re]) ∧ Below w.heap.size w w' := by
  have hG := env.big
  have HE := Lib.hid env
  have hct := fun w => Tryz.strings_Contains_one s 45 w
  rw [hc] at hct
  have HCT := Lib.hid hct
  have HA := Lib.hid H1
  have HB := Lib.hid H2
  have HT := Lib.hid H3
  have K := Lib.hid k
  clear hct env hc H1 H2 H3 k
  cases bc
  all_goals
    rcases K.out with ⟨rfl, rfl, rfl, rfl, rfl, rfl, rfl, rfl⟩ | ⟨rfl, hk, rfl, rfl, rfl, rfl, rfl, rfl⟩ | ⟨hk, rfl, rfl, rfl, rfl, rfl, rfl⟩
  all_goals
    clear K
    go_enter Tryz.func19, Tryz.ntmps19
    go_wp2_with fail
    generalize hv : World.alloc _ _ = v
    have TS : RowKit.Hid (Sp4 w.heap.size v 0 0 0 0) := Lib.hid (by rw [← hv]; exact Sp4.new w _ _ _ _ _)
    have HV := Lib.hid (show Below w.heap.size w v by rw [← hv]; exact below_new _ _)
    clear hv
    refine (HCT.out v).mono ?_
    rintro e w1 ⟨rfl, rfl⟩
    go_wp2_with fail
    first
      | refine (HA.out (by first | exact rfl | trivial) _ (HE.out.below HV.out hG)).mono ?_
      | refine (HB.out (by first | exact rfl | trivial) _ (HE.out.below HV.out hG)).mono ?_
    rintro e w2 ⟨rfl, hb2⟩
    have TS2 := Lib.hid (TS.out.on hb2)
    have HV2 := Lib.hid (HV.out.trans (hb2.mono HV.out.size))
    clear hb2 TS HV
    obtain ⟨s0, s1, s2, s3, fz⟩ := TS2.out
    have g0 := fz 0
    have g1 := fz 1
    have g2 := fz 2
    have g3 := fz 3
    clear fz
    go_wp2_with fail
    have A3 := Lib.hid (sp_set (a' := a) (b' := b) (c' := c) (d' := d) TS2.out)
    have HV3 := Lib.hid (pf_below (v0 := .int .u64 a) (v1 := .int .u64 b) (v2 := .int .u64 c) (v3 := .int .u64 d) HV2.out (Nat.le_refl _))
    generalize hW3 : World.setCell (World.setCell (World.setCell (World.setCell w2 _ _) _ _) _ _) _ _ = W3 at A3 HV3 ⊢
    clear hW3 s0 s1 s2 s3 g0 g1 g2 g3 TS2 HV2
    refine (HT.out W3 (HE.out.below HV3.out hG)).mono ?_
    rintro e w4 ⟨rfl, hb4⟩
    have TS4 := Lib.hid (A3.out.on hb4)
    have HV4 := Lib.hid (HV3.out.trans (hb4.mono HV3.out.size))
    clear hb4 A3 HV3
    obtain ⟨s0, s1, s2, s3, fz⟩ := TS4.out
    have g0 := fz 0
    have g1 := fz 1
    have g2 := fz 2
    have g3 := fz 3
    have zs := TS4.out.lt
    clear fz
    go_wp2_with fail
    first
      | (have B := sp_set (a' := 0) (b' := 0) (c' := 0) (d' := 0) TS4.out
         refine bodyPost_ret (v := .tuple #[.int .u8 0, .agg #[.int .u64 0, .int .u64 0, .int .u64 0, .int .u64 0], .int .i64 12]) (by simp [results, Tryz.results19, go_sem, B.a0, B.a1, B.a2, B.a3]) rfl ⟨rfl, pf_below HV4.out (Nat.le_refl _)⟩)
      | (go_region
         all_goals
           go_wp2_with fail
           have B := sp_set (a' := a) (b' := b) (c' := c) (d' := d) TS4.out
           refine bodyPost_ret (v := .tuple #[.int .u8 f, .agg #[.int .u64 a, .int .u64 b, .int .u64 c, .int .u64 d], .int .i64 0]) (by simp [results, Tryz.results19, go_sem, B.a0, B.a1, B.a2, B.a3]) rfl ⟨rfl, (pf_below HV4.out (Nat.le_refl _)).drew⟩)
/-! what is read of a string -/
def dashed (s : ByteArray) : Bool := decide (0 ≤ Lib.indexByte s.data.toList 45)
def reOk (s : ByteArray) : Bool := (apE (cutL s) == 0) && (apE (cutR s) == 0) && (apF (cutL s) == apF (cutR s))
def rdF (s : ByteArray) : Nat := if dashed s = true then (if reOk s = true then apF (cutL s) else 0) else paF s
def rdA (s : ByteArray) : Nat := if dashed s = true then (if reOk s = true then apN (cutL s) else 0) else paH s * 18446744073709551616 + paL s
def rdM (s : ByteArray) : Nat := if dashed s = true then (if reOk s = true then apN (cutR s) else 0) else if paE s = 0 then paH s * 18446744073709551616 + paL s + 2 ^ (famW (paF s) - paN s) - 1 else 0
theorem ap_e2 (s : ByteArray) : apE s = 0 ∨ apE s = 12 := by
  unfold apE; split <;> simp
theorem ends_any (s : ByteArray) (hd : dashed s = true) (w : World) (env : Env true w) (hs : s.size ≤ 1000) :
    Calls Tryz.prog 47 #[.string s] w fun e w' => e = .returned (.tuple #[.int .u8 (rdF s), .agg #[.int .u64 (aH (rdA s)), .int .u64 (aL (rdA s)), .int .u64 (aH (rdM s)), .int .u64 (aL (rdM s))]]) ∧ Below w.heap.size w w' := by
  have h := ends_core s _ _ _ _ _ _ _ _ _ _ _ _ _ rfl rfl rfl rfl rfl (ap_any (cutL s)) (ap_any (cutR s)) w env hs
  unfold rdF rdA rdM
  rw [if_pos hd, if_pos hd, if_pos hd]
  by_cases hr : reOk s = true
  · rw [if_pos hr, if_pos hr, if_pos hr, (apN_h (cutL s)).1, (apN_h (cutL s)).2, (apN_h (cutR s)).1, (apN_h (cutR s)).2]
    have hr2 := hr
    unfold reOk at hr2
    simp only [Bool.and_eq_true, beq_iff_eq] at hr2
    obtain ⟨⟨r1, r2⟩, r3⟩ := hr2
    have hb : ((apE (cutL s) != 0) || (apE (cutR s) != 0) || ((apF (cutL s) : Int) != apF (cutR s))) = false := by
      rw [r1, r2, r3]; simp
    rw [hb] at h
    exact h
  · rw [if_neg hr, if_neg hr, if_neg hr]
    have hb : ((apE (cutL s) != 0) || (apE (cutR s) != 0) || ((apF (cutL s) : Int) != apF (cutR s))) = true := by
      by_cases e1 : apE (cutL s) = 0
      · by_cases e2 : apE (cutR s) = 0
        · by_cases e3 : apF (cutL s) = apF (cutR s)
          · exact absurd (by unfold reOk; rw [e1, e2, e3]; simp) hr
          · have e4 : ((apF (cutL s) : Int) != apF (cutR s)) = true := by rw [bne_iff_ne]; omega
            rw [e4, Bool.or_true]
        · have e4 : (apE (cutR s) != 0) = true := by rw [bne_iff_ne]; exact e2
          rw [e4]; simp
      · have e4 : (apE (cutL s) != 0) = true := by rw [bne_iff_ne]; exact e1
        rw [e4]; simp
    rw [hb] at h
    exact h
theorem rdpf_any (s : ByteArray) (hd : dashed s = false) (w : World) (env : Env true w) (hs : s.size ≤ 1000) :
    Calls Tryz.prog 48 #[.string s] w fun e w' => e = .returned (.tuple #[.int .u8 (rdF s), .agg #[.int .u64 (aH (rdA s)), .int .u64 (aL (rdA s)), .int .u64 (aH (rdM s)), .int .u64 (aL (rdM s))]]) ∧ Below w.heap.size w w' := by
  have hd2 : ¬ dashed s = true := by rw [hd]; simp
  unfold rdF rdA rdM
  rw [if_neg hd2, if_neg hd2, if_neg hd2]
  by_cases he : paE s = 0
  · rw [if_pos he]
    obtain ⟨q1, q2, q3, q4, q5, q6⟩ := pa_forth he
    obtain ⟨N, hN⟩ : ∃ N, paH s * 18446744073709551616 + paL s = N := ⟨_, rfl⟩
    have hN1 : (paH s : Int) = aH N ∧ (paL s : Int) = aL N := by
      unfold aH aL
      constructor <;> omega
    have hN2 : N < 2 ^ 128 := by
      have h2 : (2 : Nat) ^ 128 = 340282366920938463463374607431768211456 := by decide
      omega
    rw [hN]
    have hq := q2
    rw [hN1.1, hN1.2] at hq
    obtain ⟨W, i, hf, hi, hiW, hNW, _, ha⟩ := chk_num hN2 hq
    have hi2 : paN s = i := by omega
    have hof := fun w => of_yes hf N i hiW hNW ha w
    rw [hf.famW, hi2]
    refine rdpf_yes s _ (aH N) (aL N) i _ _ _ _ (fun w env => ?_) hof w env
    have h := pa_any s w env hs
    rw [hN1.1, hN1.2, hi2, he] at h
    exact h
  · rw [if_neg he]
    obtain ⟨z1, z2, z3, z4, z5⟩ := pa_zero he
    rw [z1, z2, z3]
    exact rdpf_no s _ _ _ _ (paE s) (by rw [z5]; decide) (fun w env => pa_any s w env hs) w env
theorem rdM_lt (s : ByteArray) : rdM s < 2 ^ 128 := by
  unfold rdM
  split
  · split
    · exact apN_lt _
    · exact Nat.two_pow_pos _
  · split
    · rename_i he
      obtain ⟨q1, q2, q3, q4, q5, q6⟩ := pa_forth he
      obtain ⟨N, hN⟩ : ∃ N, paH s * 18446744073709551616 + paL s = N := ⟨_, rfl⟩
      have hN1 : (paH s : Int) = aH N ∧ (paL s : Int) = aL N := by
        unfold aH aL
        constructor <;> omega
      have hN2 : N < 2 ^ 128 := by
        have h2 : (2 : Nat) ^ 128 = 340282366920938463463374607431768211456 := by decide
        omega
      rw [hN]
      have hq := q2
      rw [hN1.1, hN1.2] at hq
      obtain ⟨W, i, hf, hi, hiW, hNW, _, ha⟩ := chk_num hN2 hq
      have hi2 : paN s = i := by omega
      rw [hf.famW, hi2]
      obtain ⟨q, hq⟩ := Nat.dvd_of_mod_eq_zero ha
      have e : 2 ^ W = 2 ^ (W - i) * 2 ^ i := by rw [← Nat.pow_add]; congr 1; omega
      have hroom : N + 2 ^ (W - i) ≤ 2 ^ W := by
        rw [e] at hNW ⊢
        subst hq
        have hlt : q < 2 ^ i := Nat.lt_of_mul_lt_mul_left hNW
        calc 2 ^ (W - i) * q + 2 ^ (W - i) = 2 ^ (W - i) * (q + 1) := by rw [Nat.mul_add, Nat.mul_one]
          _ ≤ 2 ^ (W - i) * 2 ^ i := Nat.mul_le_mul_left _ hlt
      have h1 : 2 ^ W ≤ 2 ^ 128 := Nat.pow_le_pow_right (by omega) hf.wid.2.2.2
      have h3 := Nat.two_pow_pos (W - i)
      omega
    · exact Nat.two_pow_pos _
/-- what span.Parse answers -/
def spOk (s : ByteArray) : Bool := (schk (rdF s) (rdA s) (rdM s) == 0) && decide (stX (rdF s) (rdA s) (rdM s) = s)
def spF (s : ByteArray) : Nat := if spOk s = true then rdF s else 0
def spA (s : ByteArray) : Nat := if spOk s = true then rdA s else 0
def spM (s : ByteArray) : Nat := if spOk s = true then rdM s else 0
def spE (s : ByteArray) : Int := if spOk s = true then 0 else 12
theorem sparse_any (s : ByteArray) (w : World) (env : Env true w) (hs : s.size ≤ 1000) :
    Calls Tryz.prog 19 #[.string s] w fun e w' => e = .returned (.tuple #[.int .u8 (spF s), .agg #[.int .u64 (aH (spA s)), .int .u64 (aL (spA s)), .int .u64 (aH (spM s)), .int .u64 (aL (spM s))], .int .i64 (spE s)]) ∧ Below w.heap.size w w' := by
  refine sparse_core s (stX (rdF s) (rdA s) (rdM s)) (dashed s) (rdF s) _ _ _ _ (schk (rdF s) (rdA s) (rdM s)) _ _ _ _ _ _ rfl (fun hd w env => ends_any s hd w env hs) (fun hd w env => rdpf_any s hd w env hs) (fun w env => stext_any _ _ _ (rdM_lt s) w env) ?_ w env
  unfold spF spA spM spE spOk
  by_cases h1 : schk (rdF s) (rdA s) (rdM s) = 0
  · by_cases h2 : stX (rdF s) (rdA s) (rdM s) = s
    · left
      simp [h1, h2]
    · right; left
      have : (( stX (rdF s) (rdA s) (rdM s)).toList == s.toList) = false := bytes_ne (fun h => h2 (by
        rw [← str_list (stX _ _ _), h, str_list]))
      simp [h1, h2, this, aH, aL]
  · right; right
    have : (schk (rdF s) (rdA s) (rdM s) == 0) = false := beq_eq_false_iff_ne.2 h1
    simp [h1, this, aH, aL]
end Go.Proofs.YtlikgfmcialepaaGreatDoor
namespace Go.Proofs.YtlikgfmcialepaaGreatDoor
open Go.RowKit Adr Spn
set_option linter.unusedVariables false
set_option linter.unusedSimpArgs false
theorem pfxS_dash (f : Int) (H L n : Nat) : (45 : UInt8) ∉ pfxS f H L n := by
  unfold pfxS
  have h1 := (addrS_slash f H L).2
  have h2 := dec_not n 45 (Or.inl (by decide))
  simp [h1, h2]
theorem dash_app (a b : List UInt8) : str a ++ ⟨#[45]⟩ ++ str b = str (a ++ 45 :: b) := by
  rw [show a ++ 45 :: b = (a ++ [45]) ++ b by simp, str_app, str_app]
  rfl
theorem sp_back (f : Int) (A M : Nat) (hM : M < 2 ^ 128) (h : schk f A M = 0) :
    (rdF (stX f A M) : Int) = f ∧ rdA (stX f A M) = A ∧ rdM (stX f A M) = M := by
  obtain ⟨W, hf, hAM, hMW⟩ := schk_fam hM h
  obtain ⟨w1, w2, w3, w4⟩ := hf.wid
  have hA : A < 2 ^ W := by omega
  have h128 := hf.lt hA
  have h2 : (2 : Nat) ^ 128 = 340282366920938463463374607431768211456 := by decide
  have hfit := gre_fits W A (M + 1 - A) (by omega)
  have hkW := gre_le W A (M + 1 - A)
  have hcA : ca f ((A / 18446744073709551616 : Nat) : Int) ((A % 18446744073709551616 : Nat) : Int) = true := by
    have := ca_num f A
    rw [show aH A = ((A / 18446744073709551616 : Nat) : Int) from rfl, show aL A = ((A % 18446744073709551616 : Nat) : Int) from rfl] at this
    rw [this]; exact hf.isA A hA
  have hcM : ca f ((M / 18446744073709551616 : Nat) : Int) ((M % 18446744073709551616 : Nat) : Int) = true := by
    have := ca_num f M
    rw [show aH M = ((M / 18446744073709551616 : Nat) : Int) from rfl, show aL M = ((M % 18446744073709551616 : Nat) : Int) from rfl] at this
    rw [this]; exact hf.isA M hMW
  unfold stX
  rw [if_pos h, hf.famW]
  unfold sxS
  by_cases hp : 2 ^ gre W A (M + 1 - A) = M + 1 - A
  · rw [if_pos hp]
    obtain ⟨k, hk⟩ : ∃ k, gre W A (M + 1 - A) = k := ⟨_, rfl⟩
    rw [hk] at hp hfit hkW ⊢
    have hd : ¬ dashed (str (pfxS f (A / 18446744073709551616) (A % 18446744073709551616) (W - k))) = true := by
      unfold dashed
      rw [str_dat]
      simpa using indexByte_no 45 _ (pfxS_dash f _ _ _)
    have hchk : chk f (aH A) (aL A) ((W - k : Nat) : Int) = 0 := chk_of_num hf (by omega) hA (by rw [show W - (W - k) = k by omega]; exact hfit.1)
    obtain ⟨b1, b2, b3, b4, b5⟩ := pa_back f (A / 18446744073709551616) (A % 18446744073709551616) (W - k) hchk hcA (by omega) (by omega) (by omega)
    unfold rdF rdA rdM
    rw [if_neg hd, if_neg hd, if_neg hd, if_pos b5, b2, b3, b4, b1, hf.famW]
    have hp0 := Nat.two_pow_pos k
    rw [show W - (W - k) = k by omega]
    exact ⟨rfl, by omega, by omega⟩
  · rw [if_neg hp, dash_app]
    obtain ⟨X, hX⟩ : ∃ X, addrS f (A / 18446744073709551616) (A % 18446744073709551616) = X := ⟨_, rfl⟩
    obtain ⟨Y, hY⟩ : ∃ Y, addrS f (M / 18446744073709551616) (M % 18446744073709551616) = Y := ⟨_, rfl⟩
    have hnX : (45 : UInt8) ∉ X := by rw [← hX]; exact (addrS_slash f _ _).2
    have bA := ap_back f (A / 18446744073709551616) (A % 18446744073709551616) hcA (by omega) (by omega)
    have bM := ap_back f (M / 18446744073709551616) (M % 18446744073709551616) hcM (by omega) (by omega)
    rw [hX] at bA ⊢
    rw [hY] at bM ⊢
    have hd : dashed (str (X ++ 45 :: Y)) = true := by
      unfold dashed
      rw [str_dat]
      simpa using indexByte_yes 45 (X ++ 45 :: Y) (by simp)
    have cL : cutL (str (X ++ 45 :: Y)) = str X := by
      unfold cutL
      rw [str_dat, cut_at 45 X Y hnX]; rfl
    have cR : cutR (str (X ++ 45 :: Y)) = str Y := by
      unfold cutR
      rw [str_dat, cut_at 45 X Y hnX]; rfl
    have hr : reOk (str (X ++ 45 :: Y)) = true := by
      unfold reOk
      rw [cL, cR, bA.2.2.2, bM.2.2.2]
      have : apF (str X) = apF (str Y) := by have h1 := bA.1; have h2 := bM.1; omega
      rw [this]; simp
    unfold rdF rdA rdM
    rw [if_pos hd, if_pos hd, if_pos hd, if_pos hr, if_pos hr, if_pos hr, cL, cR]
    unfold apN
    rw [bA.2.1, bA.2.2.1, bM.2.1, bM.2.2.1]
    exact ⟨bA.1, by omega, by omega⟩
theorem spOk_back (f : Int) (A M : Nat) (hM : M < 2 ^ 128) (h : schk f A M = 0) :
    (spF (stX f A M) : Int) = f ∧ spA (stX f A M) = A ∧ spM (stX f A M) = M ∧ spE (stX f A M) = 0 := by
  obtain ⟨b1, b2, b3⟩ := sp_back f A M hM h
  have hok : spOk (stX f A M) = true := by
    unfold spOk
    rw [b1, b2, b3, h]
    simp
  unfold spF spA spM spE
  rw [if_pos hok, if_pos hok, if_pos hok, if_pos hok]
  exact ⟨b1, b2, b3, rfl⟩
theorem sp_forth {s : ByteArray} (h : spE s = 0) : schk (spF s) (spA s) (spM s) = 0 ∧ stX (spF s) (spA s) (spM s) = s := by
  have hok : spOk s = true := by
    unfold spE at h
    by_cases hh : spOk s = true
    · exact hh
    · rw [if_neg hh] at h; cases h
  unfold spF spA spM
  rw [if_pos hok, if_pos hok, if_pos hok]
  unfold spOk at hok
  simp only [Bool.and_eq_true, beq_iff_eq, decide_eq_true_eq] at hok
  exact hok
theorem sp_e2 (s : ByteArray) : spE s = 0 ∨ spE s = 12 := by
  unfold spE; split <;> simp
theorem spM_lt (s : ByteArray) : spM s < 2 ^ 128 := by
  unfold spM
  split
  · exact rdM_lt s
  · exact Nat.two_pow_pos _
theorem stX_size (f : Int) (A M : Nat) : (stX f A M).size ≤ 1000 := by
  have e0 : (⟨#[45]⟩ : ByteArray).size = 1 := rfl
  unfold stX
  split
  · unfold sxS
    split
    · have s1 := str_size (pfxS f (A / 18446744073709551616) (A % 18446744073709551616) (famW f - gre (famW f) A (M + 1 - A)))
      have s2 := addrS_len f (A / 18446744073709551616) (A % 18446744073709551616)
      have s3 : (Lib.decDigits (famW f - gre (famW f) A (M + 1 - A))).length ≤ 20 := by
        rw [Lib.decDigits_length]
        exact Lib.nDigits_le20 _ (by unfold famW; split <;> omega)
      unfold pfxS at s1 ⊢
      simp only [List.length_append, List.length_cons, List.length_nil] at s1
      omega
    · have s1 := str_size (addrS f (A / 18446744073709551616) (A % 18446744073709551616))
      have s2 := addrS_len f (A / 18446744073709551616) (A % 18446744073709551616)
      have s3 := str_size (addrS f (M / 18446744073709551616) (M % 18446744073709551616))
      have s4 := addrS_len f (M / 18446744073709551616) (M % 18446744073709551616)
      rw [ByteArray.size_append, ByteArray.size_append, s1, s3, e0]
      omega
  · show (0 : Nat) ≤ 1000
    omega
/-- the list of a prefix's span -/
theorem gre_whole (W N k : Nat) (hk : k ≤ W) (ha : N % 2 ^ k = 0) : gre W N (2 ^ k) = k := by
  have h1 := gre_max W N (2 ^ k) k hk ha (Nat.le_refl _)
  have h2 := (gre_fits W N (2 ^ k) (Nat.two_pow_pos k)).2
  have h3 := pow_inj_le h2
  omega
theorem steps_whole (W N k : Nat) (hk : k ≤ W) (ha : N % 2 ^ k = 0) : Spn.Steps W N (2 ^ k) [(N, k)] :=
  steps_mk (gre_whole W N k hk ha) (Nat.two_pow_pos k) (by rw [Nat.sub_self]; exact .nil _)
end Go.Proofs.YtlikgfmcialepaaGreatDoor
