import Derived.Test.YtlikgfmcialepaaGreatDoorNumWalkD
import Derived.Test.YtlikgfmcialepaaGreatDoorNumMathC
import Derived.Test.YtlikgfmcialepaaGreatDoorNumCmp
import Derived.StillTailTactics
import Derived.Laws.Shifts
namespace Go.Proofs.YtlikgfmcialepaaGreatDoor
open Go.RowKit Adr
set_option linter.unusedVariables false
def swid (f : Int) : Int := if f = 4 then 32 else 128
theorem swid_any (f : Int) (w : World) : Calls Tryz.prog 69 #[.int .u8 f] w fun e w' => e = .returned (.int .i64 (swid f)) ∧ w = w' := by
  unfold swid
  by_cases h : f = 4
  · subst h
    go_enter Tryz.func69, Tryz.ntmps69
    go_wp2
    go_ret
    exact ⟨rfl, rfl⟩
  · have hb : (f == 4) = false := beq_eq_false_iff_ne.2 h
    rw [if_neg h]
    go_enter Tryz.func69, Tryz.ntmps69
    go_wp2
    go_ret
    exact ⟨rfl, rfl⟩
/-- a word whose last n bits are 1 -/
def onesV (n : Int) : Int := if n ≤ 0 then 0 else if 64 ≤ n then 18446744073709551615 else 2 ^ n.toNat - 1
theorem wrap_u (x : Int) (h : 0 ≤ x) (h2 : x < 18446744073709551616) : IntKind.u64.wrap x = x := wrap_u64 ⟨h, h2⟩
theorem ones_lo (n : Int) (w : World) (h : n ≤ 0) : Calls Tryz.prog 70 #[.int .i64 n] w fun e w' => e = .returned (.int .u64 0) ∧ w = w' := by
  go_enter Tryz.func70, Tryz.ntmps70
  go_wp2
  · go_ret
    exact ⟨rfl, rfl⟩
  · obtain rfl : n = 0 := by omega
    go_ret
    exact ⟨rfl, rfl⟩
theorem ones_mid (n : Int) (w : World) (h : 0 < n) (h2 : n < 64) : Calls Tryz.prog 70 #[.int .i64 n] w fun e w' => e = .returned (.int .u64 (2 ^ n.toNat - 1)) ∧ w = w' := by
  have hp : (1 : Int) ≤ 2 ^ n.toNat := by
    have : (0 : Int) < 2 ^ n.toNat := Int.pow_pos (by omega)
    omega
  have hq : (2 : Int) ^ n.toNat < 18446744073709551616 := by
    have h3 : (2 : Nat) ^ n.toNat ≤ 2 ^ 63 := Nat.pow_le_pow_right (by omega) (by omega)
    have h4 : (2 : Nat) ^ 63 = 9223372036854775808 := by decide
    have h5 : ((2 : Int) ^ n.toNat) = ((2 ^ n.toNat : Nat) : Int) := by simp
    omega
  have HP := Lib.hid hp
  have HQ := Lib.hid hq
  clear hp hq
  go_enter Tryz.func70, Tryz.ntmps70
  go_wp2
  go_ret
  refine ⟨?_, rfl⟩
  show Ending.returned (.int .u64 (IntKind.u64.wrap (IntKind.u64.wrap (2 ^ n.toNat) - 1))) = _
  rw [wrap_u _ (by have := HP.out; omega) HQ.out, wrap_u _ (by have := HP.out; omega) (by have := HQ.out; omega)]
theorem ones_hi (n : Int) (w : World) (h : 64 ≤ n) (h2 : n ≤ 128) : Calls Tryz.prog 70 #[.int .i64 n] w fun e w' => e = .returned (.int .u64 18446744073709551615) ∧ w = w' := by
  have hs : Op.shift .shl .u64 1 .i64 n = pure (.int .u64 0) := by
    rw [shift_shl_any .u64 .i64 1 n (by omega)]
    rw [show min n.toNat IntKind.u64.bits = 64 by rw [show IntKind.u64.bits = 64 from rfl]; omega]
    rfl
  go_enter Tryz.func70, Tryz.ntmps70
  go_wp2
  go_ret
  exact ⟨rfl, rfl⟩
theorem ones_any (n : Int) (w : World) (h2 : n ≤ 128) : Calls Tryz.prog 70 #[.int .i64 n] w fun e w' => e = .returned (.int .u64 (onesV n)) ∧ w = w' := by
  unfold onesV
  by_cases h0 : n ≤ 0
  · rw [if_pos h0]; exact ones_lo n w h0
  · rw [if_neg h0]
    by_cases h1 : 64 ≤ n
    · rw [if_pos h1]; exact ones_hi n w h1 h2
    · rw [if_neg h1]; exact ones_mid n w (by omega) (by omega)
theorem two_set0 {w : World} {b : Nat} {v0 v1 u0 u1 : Value} (c0 : w.cell? ⟨b, 0, none⟩ = some u0) (c1 : w.cell? ⟨b, 1, none⟩ = some u1) :
    ((w.setCell ⟨b, 0, none⟩ v0).setCell ⟨b, 1, none⟩ v1).cell? ⟨b, 0, none⟩ = some v0 ∧ ((w.setCell ⟨b, 0, none⟩ v0).setCell ⟨b, 1, none⟩ v1).cell? ⟨b, 1, none⟩ = some v1 := by
  have e0 : (w.setCell ⟨b, 0, none⟩ v0).cell? ⟨b, 0, none⟩ = some v0 := World.cell?_setCell_same (h := c0) ..
  have e1 : (w.setCell ⟨b, 0, none⟩ v0).cell? ⟨b, 1, none⟩ = some u1 := by rw [World.cell?_setCell_other (h := by simp)]; exact c1
  exact ⟨by rw [World.cell?_setCell_other (h := by simp)]; exact e0, World.cell?_setCell_same (h := e1) ..⟩
set_option maxRecDepth 100000 in
set_option maxHeartbeats 1000000 in
theorem last_any (f h l n : Int) (w : World) (h0 : 0 ≤ n) (h1 : n ≤ swid f) :
    Calls Tryz.prog 45 #[.agg #[.int .u8 f, .int .u64 h, .int .u64 l, .int .i64 n]] w fun e w' => e = .returned (.agg #[.int .u64 (bits .or .u64 h (onesV (swid f - n - 64))), .int .u64 (bits .or .u64 l (onesV (swid f - n)))]) ∧ Below w.heap.size w w' := by
  have hw : 0 ≤ swid f ∧ swid f ≤ 128 := by unfold swid; split <;> omega
  obtain ⟨W, hW⟩ : ∃ W, swid f = W := ⟨_, rfl⟩
  have HS := Lib.hid (fun w => swid_any f w)
  rw [hW] at HS hw h1 ⊢
  have e1 : IntKind.i64.wrap (W - n) = W - n := IntWalk.i64_in _ (by omega)
  have e2 : IntKind.i64.wrap (W - n - 64) = W - n - 64 := IntWalk.i64_in _ (by omega)
  obtain ⟨o1, ho1⟩ : ∃ o1, onesV (W - n - 64) = o1 := ⟨_, rfl⟩
  obtain ⟨o2, ho2⟩ : ∃ o2, onesV (W - n) = o2 := ⟨_, rfl⟩
  have H1 := Lib.hid (fun w => ones_any (W - n - 64) w (by omega))
  have H2 := Lib.hid (fun w => ones_any (W - n) w (by omega))
  rw [ho1] at H1 ⊢
  rw [ho2] at H2 ⊢
  clear hW hw h0 h1 ho1 ho2
  go_enter Tryz.func45, Tryz.ntmps45
  go_wp2_with fail
  go_quiet ((go_at_call 69; exact Calls.quiet_of_same ((HS.out _).mono fun e w' h => ⟨h.1, h.2.symm⟩)))
  go_wp2_with fail
  generalize hv : World.drewN _ _ = v
  have c1 : v.cell? ⟨w.heap.size, 1, none⟩ = some (.int .u64 h) := by rw [← hv]; simp
  have c2 : v.cell? ⟨w.heap.size, 2, none⟩ = some (.int .u64 l) := by rw [← hv]; simp
  have r0 : v.cell? ⟨w.heap.size + 1, 0, none⟩ = some (.int .u64 0) := by rw [← hv]; simp
  have r1 : v.cell? ⟨w.heap.size + 1, 1, none⟩ = some (.int .u64 0) := by rw [← hv]; simp
  have f0 : v.frozen? ⟨w.heap.size + 1, 0, none⟩ = false := by rw [← hv]; simp
  have f1 : v.frozen? ⟨w.heap.size + 1, 1, none⟩ = false := by rw [← hv]; simp
  have HB := Lib.hid (show Below w.heap.size w v by rw [← hv]; exact below_drewN (((Below.refl _ _).alloc (Nat.le_refl _) _).alloc (by simp) _) _)
  clear hv
  go_still_tail 14, (by kernel_rfl)
  still_call ((H1.out _).mono fun _ _ h => ⟨h.1, h.2.symm⟩)
  repeat still_step
  still_call ((H2.out _).mono fun _ _ h => ⟨h.1, h.2.symm⟩)
  repeat still_step
  refine wpStill_nil ?_
  change wpList _ _ _ _ _ v.drew
  go_wp2_with fail
  have A := two_set0 (v0 := .int .u64 (bits .or .u64 h o1)) (v1 := .int .u64 (bits .or .u64 l o2)) r0 r1
  refine bodyPost_ret (v := .agg #[.int .u64 (bits .or .u64 h o1), .int .u64 (bits .or .u64 l o2)]) (by simp [results, Tryz.results45, go_sem, A.1, A.2]) rfl ⟨rfl, ((HB.out.setCell (by simp) _).setCell (by simp) _).drew⟩
end Go.Proofs.YtlikgfmcialepaaGreatDoor
namespace Spn
/-- the greatest k up to K at which a block of 2^k begins at a and has room in n -/
def gre : Nat → Nat → Nat → Nat
  | 0, _, _ => 0
  | k + 1, a, n => if a % 2 ^ (k + 1) = 0 ∧ 2 ^ (k + 1) ≤ n then k + 1 else gre k a n
theorem gre_le : ∀ K a n, gre K a n ≤ K
  | 0, _, _ => Nat.le_refl _
  | K + 1, a, n => by
    unfold gre
    split
    · exact Nat.le_refl _
    · have := gre_le K a n; omega
theorem gre_fits : ∀ K a n, 1 ≤ n → a % 2 ^ gre K a n = 0 ∧ 2 ^ gre K a n ≤ n
  | 0, a, n, h => by simp [gre]; exact ⟨Nat.mod_one a, h⟩
  | K + 1, a, n, h => by
    unfold gre
    split
    · assumption
    · exact gre_fits K a n h
theorem gre_max : ∀ K a n j, j ≤ K → a % 2 ^ j = 0 → 2 ^ j ≤ n → j ≤ gre K a n
  | 0, a, n, j, hj, _, _ => by omega
  | K + 1, a, n, j, hj, h1, h2 => by
    unfold gre
    split
    · exact hj
    · rename_i hn
      by_cases e : j = K + 1
      · subst e; exact absurd ⟨h1, h2⟩ hn
      · exact gre_max K a n j (by omega) h1 h2
/-- what is told from a on, n addresses -/
inductive Steps (W : Nat) : Nat → Nat → List (Nat × Nat) → Prop
  | nil (a : Nat) : Steps W a 0 []
  | cons (a n : Nat) (l : List (Nat × Nat)) (h : 1 ≤ n) (t : Steps W (a + 2 ^ gre W a n) (n - 2 ^ gre W a n) l) : Steps W a n ((a, gre W a n) :: l)
theorem steps_ex (W : Nat) : ∀ n a, ∃ l, Steps W a n l := by
  intro n
  induction n using Nat.strongRecOn with
  | _ n ih =>
    intro a
    by_cases h : n = 0
    · subst h; exact ⟨[], .nil a⟩
    · have hp : 0 < 2 ^ gre W a n := Nat.two_pow_pos _
      obtain ⟨l, hl⟩ := ih (n - 2 ^ gre W a n) (by omega) (a + 2 ^ gre W a n)
      exact ⟨_, .cons a n l (by omega) hl⟩
theorem Steps.inv0 {W a : Nat} {l : List (Nat × Nat)} (h : Steps W a 0 l) : l = [] := by
  cases h with
  | nil => rfl
  | cons _ _ _ h => omega
theorem Steps.inv {W a n : Nat} {l : List (Nat × Nat)} (h : Steps W a n l) (hn : 1 ≤ n) : ∃ t, l = (a, gre W a n) :: t ∧ Steps W (a + 2 ^ gre W a n) (n - 2 ^ gre W a n) t := by
  cases h with
  | nil => omega
  | cons _ _ l _ t => exact ⟨l, rfl, t⟩
theorem dvd_of_le {a j k : Nat} (h : a % 2 ^ k = 0) (hj : j ≤ k) : a % 2 ^ j = 0 := by
  have h1 : 2 ^ j ∣ 2 ^ k := Nat.pow_dvd_pow 2 hj
  exact Nat.mod_eq_zero_of_dvd (Nat.dvd_trans h1 (Nat.dvd_of_mod_eq_zero h))
theorem add_dvd {a j k : Nat} (h : a % 2 ^ j = 0) (hj : j ≤ k) : (a + 2 ^ k) % 2 ^ j = 0 := by
  have h1 : 2 ^ j ∣ 2 ^ k := Nat.pow_dvd_pow 2 hj
  exact Nat.mod_eq_zero_of_dvd (Nat.dvd_add (Nat.dvd_of_mod_eq_zero h) h1)
/-- all that is told lies in the span, and is aligned -/
theorem steps_mem {W a n : Nat} {l : List (Nat × Nat)} (h : Steps W a n l) : ∀ p ∈ l, a ≤ p.1 ∧ p.1 % 2 ^ p.2 = 0 ∧ p.1 + 2 ^ p.2 ≤ a + n ∧ p.2 ≤ W := by
  induction h with
  | nil => simp
  | cons a n l h t ih =>
    intro p hp
    have hf := gre_fits W a n h
    rcases List.mem_cons.1 hp with rfl | hp
    · exact ⟨Nat.le_refl _, hf.1, by simp only; omega, gre_le _ _ _⟩
    · have := ih p hp
      omega
def hit (y : Nat) (p : Nat × Nat) : Bool := decide (p.1 ≤ y ∧ y < p.1 + 2 ^ p.2)
/-- an address of the span is hit just once, another one never -/
theorem steps_hit {W a n : Nat} {l : List (Nat × Nat)} (h : Steps W a n l) (y : Nat) : l.countP (hit y) = if a ≤ y ∧ y < a + n then 1 else 0 := by
  induction h with
  | nil a => rw [if_neg (by omega)]; rfl
  | cons a n l h t ih =>
    have hf := gre_fits W a n h
    rw [List.countP_cons, ih]
    by_cases h1 : a ≤ y ∧ y < a + 2 ^ gre W a n
    · have : hit y (a, gre W a n) = true := by simp [hit]; exact h1
      simp only [this, if_true]
      rw [if_neg (by omega), if_pos (by omega)]
    · have : hit y (a, gre W a n) = false := by simp [hit]; omega
      simp only [this]
      by_cases h2 : a ≤ y ∧ y < a + n
      · rw [if_pos (by omega), if_pos h2]; rfl
      · rw [if_neg (by omega), if_neg h2]; rfl
/-- fewer than 2^K from an address that is aligned so far: at most K -/
theorem len_down (W : Nat) : ∀ K a n l, K ≤ W → a % 2 ^ K = 0 → n < 2 ^ K → Steps W a n l → l.length ≤ K
  | 0, a, n, l, _, _, hn, h => by
    have : n = 0 := by simpa using hn
    subst this
    rw [h.inv0]
    exact Nat.le_refl _
  | K + 1, a, n, l, hK, ha, hn, h => by
    have ha' : a % 2 ^ K = 0 := dvd_of_le ha (by omega)
    by_cases h1 : n < 2 ^ K
    · have := len_down W K a n l (by omega) ha' h1 h
      omega
    · have hp : 0 < 2 ^ K := Nat.two_pow_pos _
      obtain ⟨t, rfl, ht⟩ := h.inv (by omega)
      have hg : gre W a n = K := by
        have h2 := gre_max W a n K (by omega) ha' (by omega)
        have h3 := (gre_fits W a n (by omega)).2
        by_cases h4 : K + 1 ≤ gre W a n
        · have : 2 ^ (K + 1) ≤ 2 ^ gre W a n := Nat.pow_le_pow_right (by omega) h4
          omega
        · omega
      rw [hg] at ht
      rw [Nat.pow_succ] at hn
      have := len_down W K (a + 2 ^ K) (n - 2 ^ K) t (by omega) (add_dvd ha' (Nat.le_refl _)) (by omega) ht
      simp only [List.length_cons]
      omega
theorem not_dvd_next {a k : Nat} (h1 : a % 2 ^ k = 0) (h2 : ¬ a % 2 ^ (k + 1) = 0) : (a + 2 ^ k) % 2 ^ (k + 1) = 0 := by
  obtain ⟨q, rfl⟩ := Nat.dvd_of_mod_eq_zero h1
  have hq : q % 2 = 1 := by
    have : q % 2 = 0 ∨ q % 2 = 1 := by omega
    rcases this with h | h
    · exfalso
      apply h2
      have : q = 2 * (q / 2) := by omega
      rw [this, Nat.pow_succ]
      refine Nat.mod_eq_zero_of_dvd ⟨q / 2, ?_⟩
      rw [Nat.mul_assoc]
    · exact h
  have : q + 1 = 2 * ((q + 1) / 2) := by omega
  rw [show 2 ^ k * q + 2 ^ k = 2 ^ k * (q + 1) by rw [Nat.mul_add, Nat.mul_one], this, Nat.pow_succ]
  refine Nat.mod_eq_zero_of_dvd ⟨(q + 1) / 2, ?_⟩
  rw [Nat.mul_assoc]
theorem pow_inj_le {j k : Nat} (h : 2 ^ j ≤ 2 ^ k) : j ≤ k := by
  by_cases hh : j ≤ k
  · exact hh
  · have : 2 ^ k < 2 ^ j := Nat.pow_lt_pow_right (by omega) (by omega)
    omega
theorem pow_inj_lt {j k : Nat} (h : 2 ^ j < 2 ^ k) : j < k := by
  by_cases hh : j < k
  · exact hh
  · have : 2 ^ k ≤ 2 ^ j := Nat.pow_le_pow_right (by omega) (by omega)
    omega
theorem dvd_pos_le {a k : Nat} (h : a % 2 ^ k = 0) (h0 : 0 < a) : 2 ^ k ≤ a := Nat.le_of_dvd h0 (Nat.dvd_of_mod_eq_zero h)
/-- from an address that is not 0 -/
theorem len_up (W : Nat) (hW : 2 ≤ W) : ∀ d j a n l, j + d = W - 1 → a % 2 ^ j = 0 → 0 < a → a + n ≤ 2 ^ W → Steps W a n l → l.length ≤ d + (W - 1) := by
  intro d
  induction d using Nat.strongRecOn with
  | _ d ih =>
    intro j a n l hj ha h0 han h
    by_cases hn : n = 0
    · subst hn
      rw [h.inv0]
      exact Nat.zero_le _
    obtain ⟨k, hk⟩ : ∃ k, gre W a n = k := ⟨_, rfl⟩
    have hf := gre_fits W a n (by omega)
    have hkW := gre_le W a n
    have hm := gre_max W a n (k + 1)
    obtain ⟨t, rfl, ht⟩ := h.inv (by omega)
    rw [hk] at hf hkW hm ht
    have hka := dvd_pos_le hf.1 h0
    have hk1 : k + 1 ≤ W := by
      have : 2 ^ k < 2 ^ W := by have := Nat.two_pow_pos k; omega
      exact pow_inj_lt this
    by_cases hd : a % 2 ^ (k + 1) = 0
    · have hnk : n < 2 ^ (k + 1) := by
        by_cases hh : n < 2 ^ (k + 1)
        · exact hh
        · have := hm hk1 hd (by omega); omega
      have hk2 := dvd_pos_le hd h0
      have hk3 : k + 1 < W := pow_inj_lt (by omega)
      have := len_down W (k + 1) a n _ hk1 hd hnk h
      omega
    · have hjk : j ≤ k := by
        by_cases hh : j ≤ k
        · exact hh
        · exact absurd (dvd_of_le ha (by omega)) hd
      have hnext := not_dvd_next hf.1 hd
      by_cases hkW1 : k + 1 = W
      · have hp : 2 ^ W = 2 * 2 ^ k := by rw [← hkW1, Nat.pow_succ]; omega
        have hn2 : n - 2 ^ k = 0 := by omega
        rw [hn2] at ht
        rw [ht.inv0]
        simp only [List.length_cons, List.length_nil]
        omega
      · have := ih (W - 1 - (k + 1)) (by omega) (k + 1) (a + 2 ^ k) (n - 2 ^ k) t (by omega) hnext (by omega) (by omega) ht
        simp only [List.length_cons]
        omega
/-- the longest lists -/
theorem len_all (W : Nat) (hW : 2 ≤ W) (a n : Nat) (l : List (Nat × Nat)) (h : a + n ≤ 2 ^ W) (hs : Steps W a n l) : l.length ≤ 2 * (W - 1) := by
  by_cases h0 : 0 < a
  · have := len_up W hW (W - 1) 0 a n l (by omega) (Nat.mod_one a) h0 h hs
    omega
  · have ha : a = 0 := by omega
    subst ha
    by_cases hn : n < 2 ^ W
    · have := len_down W W 0 n l (Nat.le_refl _) (Nat.zero_mod _) hn hs
      omega
    · have hn2 : n = 2 ^ W := by omega
      have hp := Nat.two_pow_pos W
      obtain ⟨t, rfl, ht⟩ := hs.inv (by omega)
      have hg := gre_max W 0 n W (Nat.le_refl _) (Nat.zero_mod _) (by omega)
      have hg2 := gre_le W 0 n
      have hg3 : gre W 0 n = W := by omega
      rw [hg3, hn2, Nat.sub_self] at ht
      rw [ht.inv0]
      simp
      omega
/-- two neighbours of one length are no halves -/
theorem no_halves {W a n k : Nat} {x : Nat} {l : List (Nat × Nat)} (h : Steps W a n ((a, k) :: (x, k) :: l)) (hk : k < W) : ¬ a % 2 ^ (k + 1) = 0 := by
  intro hd
  cases h with
  | cons _ _ _ hn t =>
    have hn2 : 1 ≤ n - 2 ^ gre W a n := by
      rcases Nat.eq_zero_or_pos (n - 2 ^ gre W a n) with h | h
      · rw [h] at t; have := t.inv0; cases this
      · exact h
    obtain ⟨t', e, _⟩ := t.inv hn2
    simp only [List.cons.injEq, Prod.mk.injEq] at e
    obtain ⟨⟨e1, e2⟩, _⟩ := e
    have f2 := (gre_fits W (a + 2 ^ gre W a n) (n - 2 ^ gre W a n) hn2).2
    rw [← e2] at f2
    have := gre_max W a n (gre W a n + 1) hk hd (by rw [Nat.pow_succ]; omega)
    omega
/-- a tail is told from its own head on -/
theorem steps_tail {W a n : Nat} {p : Nat × Nat} {l : List (Nat × Nat)} (h : Steps W a n (p :: l)) : p.1 = a ∧ 2 ^ p.2 ≤ n ∧ p.2 = gre W a n ∧ 1 ≤ n ∧ Steps W (a + 2 ^ p.2) (n - 2 ^ p.2) l := by
  cases h with
  | cons _ _ _ hn t => exact ⟨rfl, (gre_fits W a n hn).2, rfl, hn, t⟩
end Spn
namespace Go.Proofs.YtlikgfmcialepaaGreatDoor
open Go.RowKit Adr
set_option linter.unusedVariables false
/-- the two words of an address -/
def aH (N : Nat) : Int := ((N / 18446744073709551616 : Nat) : Int)
def aL (N : Nat) : Int := ((N % 18446744073709551616 : Nat) : Int)
theorem aH_u {N : Nat} (h : N < 2 ^ 128) : U64 (aH N) := by
  have : N / 18446744073709551616 < 18446744073709551616 := by
    have h2 : (2 : Nat) ^ 128 = 340282366920938463463374607431768211456 := by decide
    omega
  unfold aH U64
  omega
theorem aL_u (N : Nat) : U64 (aL N) := by
  unfold aL U64
  omega
theorem a_inj {N M : Nat} (h : aH N = aH M) (l : aL N = aL M) : N = M := by
  unfold aH at h
  unfold aL at l
  omega
theorem a_of {h l : Int} (uh : U64 h) (ul : U64 l) : ∃ N : Nat, N < 2 ^ 128 ∧ h = aH N ∧ l = aL N := by
  have h2 : (2 : Nat) ^ 128 = 340282366920938463463374607431768211456 := by decide
  obtain ⟨h0, h1⟩ := uh
  obtain ⟨l0, l1⟩ := ul
  refine ⟨h.toNat * 18446744073709551616 + l.toNat, by omega, ?_, ?_⟩
  · unfold aH; omega
  · unfold aL; omega
theorem onesV_nat (k : Nat) : onesV (k : Int) = ((if 64 ≤ k then 18446744073709551615 else 2 ^ k - 1 : Nat) : Int) := by
  unfold onesV
  by_cases h0 : k = 0
  · subst h0; rfl
  · rw [if_neg (by omega)]
    by_cases h1 : 64 ≤ k
    · rw [if_pos (by omega), if_pos h1]; rfl
    · rw [if_neg (by omega), if_neg h1]
      have hp : 0 < 2 ^ k := Nat.two_pow_pos k
      have e : (k : Int).toNat = k := by omega
      rw [e]
      have : ((2 ^ k - 1 : Nat) : Int) = ((2 ^ k : Nat) : Int) - 1 := by omega
      rw [this]
      simp
theorem or_low (q k r : Nat) (h : r < 2 ^ k) : 2 ^ k * q ||| r = 2 ^ k * q + r := (Nat.two_pow_add_eq_or_of_lt h q).symm
theorem last_num (N k : Nat) (hN : N < 2 ^ 128) (hk : k ≤ 128) (ha : N % 2 ^ k = 0) :
    bits .or .u64 (aH N) (onesV ((k : Int) - 64)) = aH (N + 2 ^ k - 1) ∧ bits .or .u64 (aL N) (onesV (k : Int)) = aL (N + 2 ^ k - 1) := by
  have h2 : (2 : Nat) ^ 128 = 340282366920938463463374607431768211456 := by decide
  have h64 : (2 : Nat) ^ 64 = 18446744073709551616 := by decide
  by_cases h : 64 ≤ k
  · obtain ⟨j, rfl⟩ : ∃ j, k = 64 + j := ⟨k - 64, by omega⟩
    obtain ⟨q, rfl⟩ := Nat.dvd_of_mod_eq_zero ha
    have hp : 0 < 2 ^ j := Nat.two_pow_pos j
    have hj : 2 ^ j ≤ 2 ^ 64 := Nat.pow_le_pow_right (by omega) (by omega)
    rw [show ((64 + j : Nat) : Int) - 64 = (j : Int) by omega, onesV_nat j, onesV_nat (64 + j), if_pos (show 64 ≤ 64 + j by omega)]
    rw [Nat.pow_add, h64] at hN ⊢
    have e1 : 18446744073709551616 * 2 ^ j * q = 18446744073709551616 * (2 ^ j * q) := Nat.mul_assoc _ _ _
    rw [e1] at hN ⊢
    have e2 : 18446744073709551616 * (2 ^ j * q) / 18446744073709551616 = 2 ^ j * q := by omega
    have e3 : 18446744073709551616 * (2 ^ j * q) % 18446744073709551616 = 0 := by omega
    have e4 : (18446744073709551616 * (2 ^ j * q) + 18446744073709551616 * 2 ^ j - 1) / 18446744073709551616 = 2 ^ j * q + (2 ^ j - 1) := by omega
    have e5 : (18446744073709551616 * (2 ^ j * q) + 18446744073709551616 * 2 ^ j - 1) % 18446744073709551616 = 18446744073709551615 := by omega
    unfold aH aL
    rw [e2, e3, e4, e5]
    constructor
    · by_cases hj64 : 64 ≤ j
      · have ej : j = 64 := by omega
        subst ej
        rw [if_pos (Nat.le_refl _)]
        have hq0 : q = 0 := by
          rw [h64] at hN
          omega
        subst hq0
        rw [h64]
        rfl
      · rw [if_neg hj64]
        have hlt : 2 ^ j * q < 18446744073709551616 := by omega
        have hlt2 : 2 ^ j - 1 < 18446744073709551616 := by omega
        have := bits_or_u64_nat (2 ^ j * q) (2 ^ j - 1) (by omega) (by omega)
        rw [or_low q j (2 ^ j - 1) (by omega)] at this
        exact this
    · rfl
  · have hp : 0 < 2 ^ k := Nat.two_pow_pos k
    have e0 : onesV ((k : Int) - 64) = 0 := by unfold onesV; rw [if_pos (by omega)]
    rw [e0, onesV_nat k, if_neg h]
    have hdvd : 2 ^ k ∣ 18446744073709551616 := by rw [← h64]; exact Nat.pow_dvd_pow 2 (by omega)
    obtain ⟨m, hm⟩ := hdvd
    obtain ⟨q, rfl⟩ := Nat.dvd_of_mod_eq_zero ha
    have hmq : 2 ^ k * q % 18446744073709551616 = 2 ^ k * (q % m) := by rw [hm, Nat.mul_mod_mul_left]
    have hml : q % m < m := Nat.mod_lt _ (by
      rcases Nat.eq_zero_or_pos m with h0 | h0
      · subst h0; omega
      · exact h0)
    have hle : 2 ^ k * (q % m) + 2 ^ k ≤ 18446744073709551616 := by
      rw [hm]
      calc 2 ^ k * (q % m) + 2 ^ k = 2 ^ k * (q % m + 1) := by rw [Nat.mul_add, Nat.mul_one]
        _ ≤ 2 ^ k * m := Nat.mul_le_mul_left _ hml
    obtain ⟨X, hX⟩ : ∃ X, 2 ^ k * q = X := ⟨_, rfl⟩
    obtain ⟨Y, hY⟩ : ∃ Y, 2 ^ k * (q % m) = Y := ⟨_, rfl⟩
    rw [hX] at hN hmq ⊢
    have e4 : (X + 2 ^ k - 1) / 18446744073709551616 = X / 18446744073709551616 := by rw [hY] at hmq hle; omega
    have e5 : (X + 2 ^ k - 1) % 18446744073709551616 = 2 ^ k * (q % m) + (2 ^ k - 1) := by rw [hY] at hmq hle ⊢; omega
    unfold aH aL
    rw [e4, e5, hmq]
    constructor
    · have := bits_or_u64_nat (X / 18446744073709551616) 0 (by omega) (by omega)
      rw [Nat.or_zero] at this
      exact this
    · have := bits_or_u64_nat (2 ^ k * (q % m)) (2 ^ k - 1) (by omega) (by omega)
      rw [or_low (q % m) k (2 ^ k - 1) (by omega)] at this
      exact this
end Go.Proofs.YtlikgfmcialepaaGreatDoor
