import Derived.Test.YtlikgfmcialepaaGreatDoorNumRefC
import Derived.StillTailTactics
import Derived.BigRegion
import Derived.Test.YtlikgfmcialepaaGreatDoorSpanAll
import Derived.Deep.DeepCutAuto
import Derived.IntWalk
import Derived.Test.YtlikgfmcialepaaGreatDoorOwnTwo
import Derived.Maps.AppendAt
import Derived.Deep.AppendLies
import Derived.Deep.RegionHeld3
namespace Go.Proofs.YtlikgfmcialepaaGreatDoor
open Go.RowKit Adr
set_option maxRecDepth 100000
def hiP (N k : Nat) : Int := ((N / 2 ^ k / 2 ^ 64 : Nat) : Int)
def loP (N k : Nat) : Int := ((N / 2 ^ k % 2 ^ 64 : Nat) : Int)
def biP (N k : Nat) : Int := ((N / 2 ^ k % 2 : Nat) : Int)
theorem hiP_nn (N k : Nat) : 0 ≤ hiP N k := Int.natCast_nonneg _
theorem loP_nn (N k : Nat) : 0 ≤ loP N k := Int.natCast_nonneg _
theorem biP_nn (N k : Nat) : 0 ≤ biP N k := Int.natCast_nonneg _
theorem cellR_same {w : World} {a : Addr} {v u : Value} (h : w.cell? a = some u) : (w.setCell a v).cell? a = some v := World.cell?_setCell_same (h := h) ..
theorem cellR_far {w : World} {a b : Addr} {v u : Value} (h : w.cell? b = some u) (hne : a ≠ b) : (w.setCell a v).cell? b = some u := by
  rw [World.cell?_setCell_other (h := hne)]; exact h
theorem set_same {w : World} {a : Addr} {v u : Value} (h : w.cell? a = some u) : (w.setCell a v).drew.cell? a = some v := by
  rw [World.cell?_drew]; exact World.cell?_setCell_same (h := h) ..
theorem set_far {w : World} {a b : Addr} {v u : Value} (h : w.cell? b = some u) (hne : a ≠ b) : (w.setCell a v).drew.cell? b = some u := by
  rw [World.cell?_drew, World.cell?_setCell_other (h := hne)]; exact h
theorem power_still (n : Int) (w : World) (h0 : 0 ≤ n) (h1 : n ≤ 63) (p : Int) (hp : (2 : Int) ^ n.toNat = p) :
    Calls Tryz.prog 55 #[.int .i64 n] w fun e w' => e = .returned (.int .u64 p) ∧ w' = w :=
  (power_call n w h0 h1 p hp).mono fun _ _ ⟨a, b⟩ => ⟨a, b.symm⟩
set_option maxHeartbeats 1000000 in
theorem raddr_any (g cap W N : Nat) (w : World) (hg : g < w.heap.size) (hW : W ≤ 128) (hN : N < 2 ^ 128) (hNW : N < 2 ^ W)
    (hc : ∀ j, j < W → w.cell? ⟨g, j, none⟩ = some (.int .i64 (biP N (W - 1 - j)))) :
    Calls Tryz.prog 92 #[.slice (some ⟨g, 0, none⟩) W cap] w fun e w' => e = .returned (.agg #[.int .u64 (hiP N 0), .int .u64 (loP N 0)]) ∧ Below w.heap.size w w' := by
  have HN := Lib.hid hN
  have HNW := Lib.hid hNW
  have HC := Lib.hid hc
  clear hN hNW hc
  go_enter Tryz.func92, Tryz.ntmps92
  go_wp2_with fail
  go_loopw [4] (fun i wr => ∃ k : Nat, k ≤ W ∧ i = .int .i64 k ∧ Below w.heap.size w wr ∧ w.heap.size + 1 < wr.heap.size ∧ wr.cell? ⟨w.heap.size + 1, 0, none⟩ = some (.int .u64 (hiP N (W - k))) ∧ wr.cell? ⟨w.heap.size + 1, 1, none⟩ = some (.int .u64 (loP N (W - k))) ∧ wr.frozen? ⟨w.heap.size + 1, 0, none⟩ = false ∧ wr.frozen? ⟨w.heap.size + 1, 1, none⟩ = false ∧ wr.frozen? ⟨w.heap.size, 0, none⟩ = false ∧ wr.frozen? ⟨w.heap.size, 1, none⟩ = false ∧ (∃ a, wr.cell? ⟨w.heap.size, 0, none⟩ = some a) ∧ (∃ a, wr.cell? ⟨w.heap.size, 1, none⟩ = some a)) (fun i _ => W - (intOf i).toNat)
  case atStart =>
    have e1 : hiP N W = 0 := by unfold hiP; rw [Nat.div_eq_of_lt HNW.out]; rfl
    have e2 : loP N W = 0 := by unfold loP; rw [Nat.div_eq_of_lt HNW.out]; rfl
    exact ⟨0, by omega, rfl, ((Below.refl _ _).alloc (Nat.le_refl _) _).alloc (by simp) _, by simp, by simp [e1], by simp [e2], by simp, by simp, by simp, by simp, ⟨_, by simp; rfl⟩, ⟨_, by simp; rfl⟩⟩
  case round =>
    obtain ⟨k, hk, rfl, hbel, hsz, hcH, hcL, hfH, hfL, hfA, hfB, hA, hB⟩ := hrel
    by_cases hlt : k < W
    · have hck : wr.cell? ⟨g, k, none⟩ = some (.int .i64 (biP N (W - 1 - k))) := (hbel.cell (p := ⟨g, k, none⟩) hg).trans (HC.out k hlt)
      have HB := Lib.hid hbel
      have HA1 := Lib.hid hA
      have HB1 := Lib.hid hB
      have hne : ¬ g = w.heap.size + 1 := by omega
      have hne' : ¬ w.heap.size + 1 = g := by omega
      have n1 := hiP_nn N (W - k)
      have n2 := loP_nn N (W - k)
      clear hbel hA hB
      obtain ⟨p, hp⟩ : ∃ p : Int, (2 : Int) ^ (63 : Int).toNat = p := ⟨_, rfl⟩
      have p1 : 1 ≤ p := by rw [← hp]; decide
      have hp0 : ¬ p = 0 := by omega
      have hp1 : (p == 0) = false := by simp; omega
      have HP := Lib.hid hp
      clear hp
      go_wp2_with fail
      go_still_tail 11, (by kernel_rfl)
      still_call (power_still 63 _ (by omega) (by omega) p HP.out)
      repeat still_step
      refine wpStill_nil ?_
      change wpList _ _ _ _ _ wr.drew
      go_wp2_with fail
      generalize hq : IntKind.u64.wrap (IntKind.u64.wrap (hiP N (W - k) + hiP N (W - k)) + IntKind.u64.wrap ((loP N (W - k)).tdiv p)) = q
      generalize hw2 : (wr.setCell { block := w.heap.size + 1, off := 0 } (Value.int IntKind.u64 q)).drew = w2
      have hB2 := Lib.hid (show Below w.heap.size w w2 by rw [← hw2]; exact (HB.out.setCell (by simp) _).drew)
      have c0 : w2.cell? ⟨w.heap.size + 1, 0, none⟩ = some (.int .u64 q) := by rw [← hw2]; exact set_same hcH
      have c1 : w2.cell? ⟨w.heap.size + 1, 1, none⟩ = some (.int .u64 (loP N (W - k))) := by rw [← hw2]; exact set_far hcL (by simp)
      have cA := Lib.hid (show ∃ a, w2.cell? ⟨w.heap.size, 0, none⟩ = some a by obtain ⟨a, ha⟩ := HA1.out; exact ⟨a, by rw [← hw2]; exact set_far ha (by simp)⟩)
      have cB := Lib.hid (show ∃ a, w2.cell? ⟨w.heap.size, 1, none⟩ = some a by obtain ⟨a, ha⟩ := HB1.out; exact ⟨a, by rw [← hw2]; exact set_far ha (by simp)⟩)
      have f0 : w2.frozen? ⟨w.heap.size + 1, 0, none⟩ = false := by rw [← hw2]; simpa using hfH
      have f1 : w2.frozen? ⟨w.heap.size + 1, 1, none⟩ = false := by rw [← hw2]; simpa using hfL
      have fA : w2.frozen? ⟨w.heap.size, 0, none⟩ = false := by rw [← hw2]; simpa using hfA
      have fB : w2.frozen? ⟨w.heap.size, 1, none⟩ = false := by rw [← hw2]; simpa using hfB
      have s2 : w.heap.size + 1 < w2.heap.size := by rw [← hw2]; simpa using hsz
      have ck : w2.cell? ⟨g, k, none⟩ = some (.int .i64 (biP N (W - 1 - k))) := by rw [← hw2]; exact set_far hck (by simp <;> omega)
      have HQ := Lib.hid hq
      clear hw2 hq hcH hcL hfH hfL hfA hfB hsz hck HA1 HB1 HB
      go_still_tail 12, (by kernel_rfl)
      change wpList _ _ _ _ _ (World.drew _)
      go_wp2_with fail
      have HZ := addr_step N W k HN.out hlt
      rw [show p = 9223372036854775808 by rw [← HP.out]; decide] at HQ
      have e1 : q = hiP N (W - (k + 1)) := by rw [← HQ.out]; exact HZ.1
      have e2 : IntKind.u64.wrap (IntKind.u64.wrap (loP N (W - k) + loP N (W - k)) + IntKind.u64.wrap (biP N (W - 1 - k))) = loP N (W - (k + 1)) := HZ.2
      rw [e2]
      rw [e1] at c0
      refine ⟨⟨k + 1, by omega, by go_num, (hB2.out.setCell (by simp) _).drew, by simpa using s2, set_far c0 (by simp), set_same c1, by simpa using f0, by simpa using f1, by simpa using fA, by simpa using fB, ?_, ?_⟩, by simp [intOf] <;> omega⟩
      · obtain ⟨a, ha⟩ := cA.out
        exact ⟨a, set_far ha (by simp)⟩
      · obtain ⟨a, ha⟩ := cB.out
        exact ⟨a, set_far ha (by simp)⟩
    · have e : k = W := by omega
      subst e
      obtain ⟨a, ha⟩ := hA
      obtain ⟨b, hb⟩ := hB
      have HB := Lib.hid hbel
      clear hbel
      rw [Nat.sub_self] at hcH hcL
      go_wp2
      refine bodyPost_ret (v := .agg #[.int .u64 (hiP N 0), .int .u64 (loP N 0)]) (by simp [results, Tryz.results92, go_sem, ha, hb]) rfl ⟨rfl, (HB.out.setCell (by simp) _).setCell (by simp) _⟩
theorem cut_final {h l : Int} (uh : U64 h) (ul : U64 l) (f : Int) (c : ca f h l = true) (W n : Nat) (hW : wid f = (W : Int)) (hw : W ≤ 128) (hn : n ≤ W) :
    ∃ N : Nat, N < 2 ^ W ∧ N < 2 ^ 128 ∧ (∀ j, j < W → biP N (W - 1 - j) = if j < n then bt h l ((W : Int) - 1 - j) else 0) ∧ hiP N 0 = clrH h ((W : Int) - n) ∧ loP N 0 = clrL l ((W : Int) - n) := by
  have hb := fun j hj => cut_bits uh ul W n j hn hj
  obtain ⟨H, rfl, hH⟩ := u64_nat uh
  obtain ⟨L, rfl, hL⟩ := u64_nat ul
  obtain ⟨H', L', e1, e2, hL', e3⟩ := clr_num H L (W - n) hL
  have eWn : ((W : Int) - n) = ((W - n : Nat) : Int) := by omega
  have lt1 := ca_lt hH hL c
  have eW : (wid f).toNat = W := by omega
  rw [eW] at lt1
  have lt2 : num H' L' < 2 ^ W := by rw [e3]; exact Nat.lt_of_le_of_lt (Nat.div_mul_le_self _ _) lt1
  refine ⟨num H' L', lt2, Nat.lt_of_lt_of_le lt2 (Nat.pow_le_pow_right (by omega) hw), fun j hj => ?_, ?_, ?_⟩
  · rw [← hb j hj, eWn, e1, e2, bt_at H' L' W j hL' hj]
    rfl
  · rw [eWn, e1]
    unfold hiP
    rw [Nat.pow_zero, Nat.div_one, num_div H' L' hL']
  · rw [eWn, e2]
    unfold loP
    rw [Nat.pow_zero, Nat.div_one, num_mod H' L' hL']
end Go.Proofs.YtlikgfmcialepaaGreatDoor
namespace Go.Proofs.YtlikgfmcialepaaGreatDoor
open Go.RowKit Adr Spn
set_option linter.unusedVariables false
theorem bit_up {M k : Nat} (h : M / 2 ^ k % 2 = 0) (m : Nat) : (M + 2 ^ k) / 2 ^ m % 2 = if m = k then 1 else M / 2 ^ m % 2 := by
  have hk := Nat.two_pow_pos k
  have hm := Nat.two_pow_pos m
  by_cases e : m = k
  · subst e
    rw [if_pos rfl, Nat.add_div_right _ hm]
    omega
  · rw [if_neg e]
    by_cases hlt : m < k
    · obtain ⟨d, rfl⟩ : ∃ d, k = m + (d + 1) := ⟨k - m - 1, by omega⟩
      rw [Nat.pow_add, Nat.add_mul_div_left _ _ hm, Nat.pow_succ]
      omega
    · obtain ⟨d, rfl⟩ : ∃ d, m = k + (1 + d) := ⟨m - k - 1, by omega⟩
      rw [Nat.pow_add, ← Nat.div_div_eq_div_mul, ← Nat.div_div_eq_div_mul, Nat.add_div_right _ hk, Nat.pow_add, ← Nat.div_div_eq_div_mul, ← Nat.div_div_eq_div_mul]
      have : (M / 2 ^ k).succ / 2 ^ 1 = M / 2 ^ k / 2 ^ 1 := by omega
      rw [this]
theorem bit_dn {M k : Nat} (h : M / 2 ^ k % 2 = 1) (m : Nat) : (M - 2 ^ k) / 2 ^ m % 2 = if m = k then 0 else M / 2 ^ m % 2 := by
  have hk := Nat.two_pow_pos k
  have hle : 2 ^ k ≤ M := by
    rcases Nat.lt_or_ge M (2 ^ k) with h2 | h2
    · rw [Nat.div_eq_of_lt h2] at h; omega
    · exact h2
  obtain ⟨Q, rfl⟩ : ∃ Q, M = Q + 2 ^ k := ⟨M - 2 ^ k, by omega⟩
  rw [Nat.add_div_right _ hk] at h
  have h0 : Q / 2 ^ k % 2 = 0 := by omega
  rw [Nat.add_sub_cancel]
  have := bit_up h0 m
  by_cases e : m = k
  · subst e; rw [if_pos rfl]; exact h0
  · rw [if_neg e] at this ⊢
    exact this.symm
theorem mod_succ (N k : Nat) : N % 2 ^ (k + 1) = N % 2 ^ k + 2 ^ k * (N / 2 ^ k % 2) := Nat.mod_pow_succ
theorem low_div {N k : Nat} : (N - N % 2 ^ k) / 2 ^ k = N / 2 ^ k := by
  have hk := Nat.two_pow_pos k
  have := Nat.div_add_mod N (2 ^ k)
  rw [show N - N % 2 ^ k = 2 ^ k * (N / 2 ^ k) by omega, Nat.mul_div_cancel_left _ hk]
theorem low_add {N k : Nat} (h : N % 2 ^ k = 0) : (N + (2 ^ k - 1)) / 2 ^ k = N / 2 ^ k := by
  have hk := Nat.two_pow_pos k
  obtain ⟨q, rfl⟩ := Nat.dvd_of_mod_eq_zero h
  rw [Nat.mul_div_cancel_left _ hk, Nat.mul_add_div hk, Nat.div_eq_of_lt (by omega)]
  rfl
theorem dvd_bit {M k : Nat} (h : M % 2 ^ (k + 1) = 0) : M / 2 ^ k % 2 = 0 := by
  obtain ⟨q, rfl⟩ := Nat.dvd_of_mod_eq_zero h
  rw [Nat.pow_succ, Nat.mul_assoc, Nat.mul_div_cancel_left _ (Nat.two_pow_pos k)]
  omega
theorem dvd_last {N c k : Nat} (h : N % 2 ^ c = 0) (hk : k + 1 ≤ c) : (N + (2 ^ c - 2 ^ (k + 1))) % 2 ^ (k + 1) = 0 := by
  have h1 := dvd_of_le h hk
  obtain ⟨q, rfl⟩ := Nat.dvd_of_mod_eq_zero h1
  obtain ⟨d, rfl⟩ : ∃ d, c = k + 1 + d := ⟨c - (k + 1), by omega⟩
  rw [Nat.pow_add 2 (k + 1) d]
  have : 2 ^ (k + 1) * 2 ^ d - 2 ^ (k + 1) = 2 ^ (k + 1) * (2 ^ d - 1) := by rw [Nat.mul_sub, Nat.mul_one]
  rw [this, ← Nat.mul_add, Nat.mul_mod_right]
theorem biP_up {M k : Nat} (h : biP M k = 0) (m : Nat) : biP (M + 2 ^ k) m = if m = k then 1 else biP M m := by
  unfold biP at h ⊢
  have h0 : M / 2 ^ k % 2 = 0 := by omega
  rw [bit_up h0 m]
  split <;> rfl
theorem biP_dn {M k : Nat} (h : biP M k = 1) (m : Nat) : biP (M - 2 ^ k) m = if m = k then 0 else biP M m := by
  unfold biP at h ⊢
  have h0 : M / 2 ^ k % 2 = 1 := by omega
  rw [bit_dn h0 m]
  split <;> rfl
theorem biP_01 (M k : Nat) : biP M k = 0 ∨ biP M k = 1 := by
  unfold biP
  have := Nat.mod_two_eq_zero_or_one (M / 2 ^ k)
  omega
theorem hi_aH (N : Nat) : hiP N 0 = aH N := by
  unfold hiP aH
  rw [Nat.pow_zero, Nat.div_one]
theorem lo_aL (N : Nat) : loP N 0 = aL N := by
  unfold loP aL
  rw [Nat.pow_zero, Nat.div_one]
/-- the bits of a number, in a block -/
structure BitsAt (g W M : Nat) (w : World) : Prop where
  lt : g < w.heap.size
  cell : ∀ j, j < W → w.cell? ⟨g, j, none⟩ = some (.int .i64 (biP M (W - 1 - j)))
  free : ∀ j, j < W → w.frozen? ⟨g, j, none⟩ = false
theorem BitsAt.on {g W M : Nat} {w w' : World} (h : BitsAt g W M w) (hb : Below w.heap.size w w') : BitsAt g W M w' :=
  ⟨Nat.lt_of_lt_of_le h.lt hb.size, fun j hj => (hb.cell (p := ⟨g, j, none⟩) h.lt).trans (h.cell j hj), fun j hj => (hb.frozen (p := ⟨g, j, none⟩) h.lt).trans (h.free j hj)⟩
theorem BitsAt.set {g W M M' k : Nat} {w : World} {b : Int} (h : BitsAt g W M w) (hk : k < W) (hM : ∀ m, biP M' m = if m = k then b else biP M m) : BitsAt g W M' (w.setCell ⟨g, W - 1 - k, none⟩ (.int .i64 b)) := by
  refine ⟨by simpa using h.lt, fun j hj => ?_, fun j hj => by simpa using h.free j hj⟩
  by_cases e : j = W - 1 - k
  · subst e
    rw [show W - 1 - (W - 1 - k) = k by omega, hM k, if_pos rfl]
    exact cellR_same (h.cell _ hj)
  · rw [cellR_far (h.cell j hj) (by simp <;> omega), hM, if_neg (by omega)]
/-! ## halves -/
def clampN (A M x : Nat) : Nat := max A (min x (M + 1))
/-- what lies in [A, M] of the block of 2^k addresses at P -/
def win (A M : Nat) : Nat → Nat → List (Nat × Nat)
  | k, P => if P + 2 ^ k ≤ A ∨ M < P then [] else if A ≤ P ∧ P + 2 ^ k ≤ M + 1 then [(P, k)] else
    match k with
    | 0 => []
    | k + 1 => win A M k P ++ win A M k (P + 2 ^ k)
theorem win_none {A M k P : Nat} (h : P + 2 ^ k ≤ A ∨ M < P) : win A M k P = [] := by
  unfold win; rw [if_pos h]
theorem win_one {A M k P : Nat} (h : A ≤ P ∧ P + 2 ^ k ≤ M + 1) (h2 : ¬ (P + 2 ^ k ≤ A ∨ M < P)) : win A M k P = [(P, k)] := by
  unfold win; rw [if_neg h2, if_pos h]
theorem win_two {A M k P : Nat} (h : ¬ (A ≤ P ∧ P + 2 ^ (k + 1) ≤ M + 1)) (h2 : ¬ (P + 2 ^ (k + 1) ≤ A ∨ M < P)) : win A M (k + 1) P = win A M k P ++ win A M k (P + 2 ^ k) := by
  rw [win]; rw [if_neg h2, if_neg h]
theorem win_head {W A M P k : Nat} {t : List (Nat × Nat)} (hk : k ≤ W) (ha : P % 2 ^ k = 0) (hx : k = W ∨ P % 2 ^ (k + 1) ≠ 0 ∨ ¬ (A ≤ P ∧ P + 2 ^ (k + 1) ≤ M + 1)) (h1 : A ≤ P ∧ P + 2 ^ k ≤ M + 1)
    (ht : Spn.Steps W (P + 2 ^ k) (M + 1 - (P + 2 ^ k)) t) : Spn.Steps W P (M + 1 - P) ([(P, k)] ++ t) := by
  have hp := Nat.two_pow_pos k
  have hn : 1 ≤ M + 1 - P := by omega
  have hg : gre W P (M + 1 - P) = k := by
    have g1 := gre_max W P (M + 1 - P) k hk ha (by omega)
    have g2 := gre_fits W P (M + 1 - P) hn
    have g3 := gre_le W P (M + 1 - P)
    rcases Nat.lt_or_ge k (gre W P (M + 1 - P)) with hlt | hge
    · exfalso
      have d := dvd_of_le g2.1 hlt
      have l := Nat.le_trans (Nat.pow_le_pow_right (by omega : 0 < 2) hlt) g2.2
      rcases hx with h | h | h
      · omega
      · exact h d
      · exact h ⟨h1.1, by omega⟩
    · omega
  have hs := Spn.Steps.cons P (M + 1 - P) t hn (by rw [hg, show M + 1 - P - 2 ^ k = M + 1 - (P + 2 ^ k) by omega]; exact ht)
  rw [hg] at hs
  exact hs
theorem win_steps {W A M : Nat} (hAM : A ≤ M) : ∀ (k P : Nat) (t : List (Nat × Nat)), k ≤ W → P % 2 ^ k = 0 → (k = W ∨ P % 2 ^ (k + 1) ≠ 0 ∨ ¬ (A ≤ P ∧ P + 2 ^ (k + 1) ≤ M + 1)) →
    Spn.Steps W (clampN A M (P + 2 ^ k)) (M + 1 - clampN A M (P + 2 ^ k)) t → Spn.Steps W (clampN A M P) (M + 1 - clampN A M P) (win A M k P ++ t) := by
  intro k
  induction k with
  | zero =>
    intro P t hk ha hx ht
    by_cases h2 : P + 2 ^ 0 ≤ A ∨ M < P
    · rw [win_none h2, List.nil_append]
      have : clampN A M (P + 2 ^ 0) = clampN A M P := by
        unfold clampN
        have : (2 : Nat) ^ 0 = 1 := rfl
        omega
      rw [this] at ht
      exact ht
    · have e0 : (2 : Nat) ^ 0 = 1 := rfl
      have h1 : A ≤ P ∧ P + 2 ^ 0 ≤ M + 1 := by omega
      rw [win_one h1 h2]
      have c1 : clampN A M P = P := by unfold clampN; omega
      have c2 : clampN A M (P + 2 ^ 0) = P + 2 ^ 0 := by unfold clampN; omega
      rw [c1]
      rw [c2] at ht
      exact win_head hk ha hx h1 ht
  | succ k ih =>
    intro P t hk ha hx ht
    by_cases h2 : P + 2 ^ (k + 1) ≤ A ∨ M < P
    · rw [win_none h2, List.nil_append]
      have : clampN A M (P + 2 ^ (k + 1)) = clampN A M P := by
        unfold clampN
        omega
      rw [this] at ht
      exact ht
    · by_cases h1 : A ≤ P ∧ P + 2 ^ (k + 1) ≤ M + 1
      · rw [win_one h1 h2]
        have hp := Nat.two_pow_pos (k + 1)
        have c1 : clampN A M P = P := by unfold clampN; omega
        have c2 : clampN A M (P + 2 ^ (k + 1)) = P + 2 ^ (k + 1) := by unfold clampN; omega
        rw [c1]
        rw [c2] at ht
        exact win_head hk ha hx h1 ht
      · rw [win_two h1 h2, List.append_assoc]
        have hd : P % 2 ^ k = 0 := dvd_of_le ha (by omega)
        refine ih P _ (by omega) hd (Or.inr (Or.inr h1)) ?_
        refine ih (P + 2 ^ k) t (by omega) (by rw [Nat.add_mod_right]; exact hd) (Or.inr (Or.inl ?_)) ?_
        · have hp := Nat.two_pow_pos k
          have e : 2 ^ (k + 1) = 2 ^ k + 2 ^ k := by rw [Nat.pow_succ]; omega
          obtain ⟨q, rfl⟩ := Nat.dvd_of_mod_eq_zero ha
          rw [Nat.mul_add_mod, Nat.mod_eq_of_lt (by omega)]
          omega
        · rw [show P + 2 ^ k + 2 ^ k = P + 2 ^ (k + 1) by rw [Nat.pow_succ]; omega]
          exact ht
end Go.Proofs.YtlikgfmcialepaaGreatDoor
namespace Go.Proofs.YtlikgfmcialepaaGreatDoor
open Go.RowKit Adr Spn
set_option linter.unusedVariables false
set_option linter.unusedSimpArgs false
theorem rcmpN_any (A B : Nat) (w : World) :
    Calls Tryz.prog 74 #[.agg #[.int .u64 (aH A), .int .u64 (aL A)], .agg #[.int .u64 (aH B), .int .u64 (aL B)]] w fun e w' => e = .returned (.int .i64 (cmpN A B)) ∧ Below w.heap.size w w' := by
  have h := rcmp_any (aH A) (aL A) (aH B) (aL B) w
  rw [cmp_num] at h
  exact h
theorem risA_any (f : Int) (N : Nat) (w : World) :
    Calls Tryz.prog 25 #[.int .u8 f, .agg #[.int .u64 (aH N), .int .u64 (aL N)]] w fun e w' => e = .returned (.bool (isA f N)) ∧ Below w.heap.size w w' := by
  have h := rca_any f (aH N) (aL N) w (aL_u N).1
  rw [ca_num] at h
  exact h
theorem wid_isA (f : Int) : (wid f == 0) = !isA f 0 := by
  unfold wid isA
  by_cases h4 : f = 4
  · subst h4; rfl
  · rw [if_neg h4, if_neg h4]
    by_cases h6 : f = 6
    · subst h6; rfl
    · rw [if_neg h6]
      simp [h6]
set_option maxRecDepth 100000 in
set_option maxHeartbeats 2000000 in
theorem rschk_core (f a b c d wd : Int) (w : World) (c1 c2 : Bool) (k : Int)
    (h0 : ∀ w, Calls Tryz.prog 54 #[.int .u8 f] w fun e w' => e = .returned (.int .i64 wd) ∧ w = w')
    (h1 : ∀ w, Calls Tryz.prog 25 #[.int .u8 f, .agg #[.int .u64 a, .int .u64 b]] w fun e w' => e = .returned (.bool c1) ∧ Below w.heap.size w w')
    (h2 : ∀ w, Calls Tryz.prog 25 #[.int .u8 f, .agg #[.int .u64 c, .int .u64 d]] w fun e w' => e = .returned (.bool c2) ∧ Below w.heap.size w w')
    (h3 : ∀ w, Calls Tryz.prog 74 #[.agg #[.int .u64 a, .int .u64 b], .agg #[.int .u64 c, .int .u64 d]] w fun e w' => e = .returned (.int .i64 k) ∧ Below w.heap.size w w') :
    Calls Tryz.prog 50 #[.int .u8 f, .agg #[.int .u64 a, .int .u64 b, .int .u64 c, .int .u64 d]] w fun e w' => e = .returned (.int .i64 (if (wd == 0) = false then (if (c1 && c2 && decide (k ≤ 0)) = true then 0 else 8) else 2)) ∧ Below w.heap.size w w' := by
  have H0 := Lib.hid h0
  have H1 := Lib.hid h1
  have H2 := Lib.hid h2
  have H3 := Lib.hid h3
  clear h0 h1 h2 h3
  obtain ⟨R, hR⟩ : ∃ R : Int, (if (wd == 0) = false then (if (c1 && c2 && decide (k ≤ 0)) = true then 0 else 8) else 2) = R := ⟨_, rfl⟩
  have HR := Lib.hid hR
  rw [hR]
  clear hR
  obtain ⟨c0, hc0⟩ : ∃ c0, (wd == 0) = c0 := ⟨_, rfl⟩
  go_enter Tryz.func50, Tryz.ntmps50
  go_wp2_with fail
  generalize hv : World.alloc _ _ = v
  have TS : RowKit.Hid (Sp4 w.heap.size v a b c d) := Lib.hid (by rw [← hv]; exact Sp4.new w a b c d _)
  have HB := Lib.hid (show Below w.heap.size w v by rw [← hv]; exact below_new _ _)
  clear hv
  refine (H0.out v).mono ?_
  rintro e w1 ⟨rfl, rfl⟩
  cases c0
  rotate_left
  · obtain rfl : 2 = R := by have := HR.out; rw [hc0] at this; simpa using this
    go_wp2_with fail
    go_ret
    exact ⟨rfl, HB.out⟩
  · obtain ⟨s0, s1, s2, s3, _⟩ := TS.out
    have HC0 := Lib.hid hc0
    go_wp2_with fail
    refine (H1.out v).mono ?_
    rintro e w2 ⟨rfl, hb2⟩
    have TS2 := Lib.hid (TS.out.on hb2)
    have HB2 := Lib.hid (HB.out.trans (hb2.mono HB.out.size))
    clear hb2 TS HB s0 s1 s2 s3
    obtain ⟨s0, s1, s2, s3, _⟩ := TS2.out
    cases c1
    · obtain rfl : 8 = R := by have := HR.out; rw [HC0.out] at this; simpa using this
      go_wp2_with fail
      go_ret
      exact ⟨rfl, HB2.out⟩
    · go_wp2_with fail
      refine (H2.out w2).mono ?_
      rintro e w3 ⟨rfl, hb3⟩
      have TS3 := Lib.hid (TS2.out.on hb3)
      have HB3 := Lib.hid (HB2.out.trans (hb3.mono HB2.out.size))
      clear hb3 TS2 HB2 s0 s1 s2 s3
      obtain ⟨s0, s1, s2, s3, _⟩ := TS3.out
      cases c2
      · obtain rfl : 8 = R := by have := HR.out; rw [HC0.out] at this; simpa using this
        go_wp2_with fail
        go_ret
        exact ⟨rfl, HB3.out⟩
      · go_wp2_with fail
        refine (H3.out w3).mono ?_
        rintro e w4 ⟨rfl, hb4⟩
        have HB4 := Lib.hid (HB3.out.trans (hb4.mono HB3.out.size))
        clear hb4 TS3 HB3 s0 s1 s2 s3
        by_cases hk : k ≤ 0
        · obtain rfl : 0 = R := by have := HR.out; rw [HC0.out] at this; simpa [hk] using this
          go_wp2_with fail
          go_ret
          exact ⟨rfl, HB4.out⟩
        · obtain rfl : 8 = R := by have := HR.out; rw [HC0.out] at this; simpa [hk] using this
          have hk' : 0 < k := by omega
          go_wp2_with fail
          go_ret
          exact ⟨rfl, HB4.out⟩
theorem cmpN_le (A B : Nat) : decide (cmpN A B ≤ 0) = decide (A ≤ B) := by
  rw [decide_eq_decide]
  unfold cmpN
  split
  · omega
  · split <;> omega
theorem rschk_any (f : Int) (A B : Nat) (w : World) :
    Calls Tryz.prog 50 #[.int .u8 f, .agg #[.int .u64 (aH A), .int .u64 (aL A), .int .u64 (aH B), .int .u64 (aL B)]] w fun e w' => e = .returned (.int .i64 (schk f A B)) ∧ Below w.heap.size w w' := by
  have h := rschk_core f (aH A) (aL A) (aH B) (aL B) (wid f) w (isA f A) (isA f B) (cmpN A B) (fun w => rwidth_any f w) (fun w => risA_any f A w) (fun w => risA_any f B w) (fun w => rcmpN_any A B w)
  rw [cmpN_le, wid_isA] at h
  have e : ((!isA f 0) = false) = (isA f 0 = true) := by simp
  rw [show (if (!isA f 0) = false then (if (isA f A && isA f B && decide (A ≤ B)) = true then (0 : Int) else 8) else 2) = schk f A B by unfold schk; cases isA f 0 <;> rfl] at h
  exact h
/-- is an address in a span? -/
theorem rin_core (a b c d x y : Int) (k1 k2 : Int) (w : World)
    (h1 : ∀ w, Calls Tryz.prog 74 #[.agg #[.int .u64 a, .int .u64 b], .agg #[.int .u64 x, .int .u64 y]] w fun e w' => e = .returned (.int .i64 k1) ∧ Below w.heap.size w w')
    (h2 : ∀ w, Calls Tryz.prog 74 #[.agg #[.int .u64 x, .int .u64 y], .agg #[.int .u64 c, .int .u64 d]] w fun e w' => e = .returned (.int .i64 k2) ∧ Below w.heap.size w w') :
    Calls Tryz.prog 90 #[.agg #[.int .u64 a, .int .u64 b, .int .u64 c, .int .u64 d], .agg #[.int .u64 x, .int .u64 y]] w fun e w' => e = .returned (.bool (decide (k1 ≤ 0) && decide (k2 ≤ 0))) ∧ Below w.heap.size w w' := by
  have H1 := Lib.hid h1
  have H2 := Lib.hid h2
  clear h1 h2
  obtain ⟨R, hR⟩ : ∃ R : Bool, (decide (k1 ≤ 0) && decide (k2 ≤ 0)) = R := ⟨_, rfl⟩
  have HR := Lib.hid hR
  rw [hR]
  clear hR
  go_enter Tryz.func90, Tryz.ntmps90
  go_wp2_with fail
  generalize hv : World.alloc (World.alloc _ _) _ = v
  have TS : RowKit.Hid (Sp4 w.heap.size v a b c d) := Lib.hid (by rw [← hv]; exact (Sp4.new w a b c d _).on (below_new _ _))
  have TA : RowKit.Hid (Ad2 (w.heap.size + 1) v x y) := Lib.hid (by
    rw [← hv]
    have := Ad2.new (w.alloc (.cells #[.int .u64 a, .int .u64 b, .int .u64 c, .int .u64 d] 50)) x y 24
    simpa using this)
  have HB := Lib.hid (show Below w.heap.size w v by rw [← hv]; exact ((Below.refl _ _).alloc (Nat.le_refl _) _).alloc (by simp) _)
  clear hv
  obtain ⟨s0, s1, s2, s3, _⟩ := TS.out
  obtain ⟨a0, a1, _, _⟩ := TA.out
  go_wp2_with fail
  refine (H1.out v).mono ?_
  rintro e w2 ⟨rfl, hb2⟩
  have TS2 := Lib.hid (TS.out.on hb2)
  have TA2 := Lib.hid (TA.out.on hb2)
  have HB2 := Lib.hid (HB.out.trans (hb2.mono HB.out.size))
  clear hb2 TS HB TA s0 s1 s2 s3 a0 a1
  obtain ⟨s0, s1, s2, s3, _⟩ := TS2.out
  obtain ⟨a0, a1, _, _⟩ := TA2.out
  by_cases hk1 : k1 ≤ 0
  · go_wp2_with fail
    refine (H2.out w2).mono ?_
    rintro e w3 ⟨rfl, hb3⟩
    have HB3 := Lib.hid (HB2.out.trans (hb3.mono HB2.out.size))
    clear hb3 TS2 HB2 TA2 s0 s1 s2 s3 a0 a1
    by_cases hk2 : k2 ≤ 0
    · obtain rfl : true = R := by have := HR.out; simpa [hk1, hk2] using this
      go_wp2_with fail
      go_ret
      exact ⟨rfl, HB3.out⟩
    · obtain rfl : false = R := by have := HR.out; simpa [hk1, hk2] using this
      have hk2' : 0 < k2 := by omega
      have d2 : decide (k2 ≤ 0) = false := by simpa using hk2
      go_wp2_with fail
      go_ret
      exact ⟨rfl, HB3.out⟩
  · obtain rfl : false = R := by have := HR.out; simpa [hk1] using this
    have hk1' : 0 < k1 := by omega
    have d1 : decide (k1 ≤ 0) = false := by simpa using hk1
    go_wp2_with fail
    go_ret
    exact ⟨rfl, HB2.out⟩
theorem rin_any (A M X : Nat) (w : World) :
    Calls Tryz.prog 90 #[.agg #[.int .u64 (aH A), .int .u64 (aL A), .int .u64 (aH M), .int .u64 (aL M)], .agg #[.int .u64 (aH X), .int .u64 (aL X)]] w fun e w' => e = .returned (.bool (decide (A ≤ X) && decide (X ≤ M))) ∧ Below w.heap.size w w' := by
  have h := rin_core (aH A) (aL A) (aH M) (aL M) (aH X) (aL X) (cmpN A X) (cmpN X M) w (fun w => rcmpN_any A X w) (fun w => rcmpN_any X M w)
  rw [cmpN_le, cmpN_le] at h
  exact h
/-- the bits of an address of a family -/
theorem rbits_call {f : Int} {W : Nat} (hf : Fam f W) (N : Nat) (hN : N < 2 ^ 128) (w : World) :
    Calls Tryz.prog 26 #[.int .u8 f, .agg #[.int .u64 (aH N), .int .u64 (aL N)]] w fun e w' => ∃ g cap : Nat, e = .returned (.slice (some ⟨g, 0, none⟩) W cap) ∧ w.heap.size < g ∧ BitsAt g W N w' ∧ W ≤ cap ∧ cap ≤ maxLen ∧ Below w.heap.size w w' := by
  obtain ⟨w1, w2, w3, w4⟩ := hf.wid
  refine (bits_call f (aH N) (aL N) w (aH_u hN) (aL_u N) W w1 (by omega)).mono ?_
  rintro e w' ⟨g, cap, rfl, hg1, hg2, hc1, hc2, hcell, hfr, hb⟩
  refine ⟨g, cap, rfl, by omega, ⟨hg2, fun j hj => ?_, hfr⟩, hc1, hc2, hb⟩
  rw [hcell j hj]
  have h64 : N % 18446744073709551616 < 2 ^ 64 := Nat.mod_lt _ (by decide)
  have := bt_at (N / 18446744073709551616) (N % 18446744073709551616) W j h64 hj
  rw [show aH N = ((N / 18446744073709551616 : Nat) : Int) from rfl, show aL N = ((N % 18446744073709551616 : Nat) : Int) from rfl, this]
  have e : num (N / 18446744073709551616) (N % 18446744073709551616) = N := by
    unfold num
    omega
  rw [e]
  rfl
/-- the address with the bits -/
theorem raddr_call (g cap W N : Nat) (hW : W ≤ 128) (hN : N < 2 ^ W) (w : World) (hb : BitsAt g W N w) :
    Calls Tryz.prog 92 #[.slice (some ⟨g, 0, none⟩) W cap] w fun e w' => e = .returned (.agg #[.int .u64 (aH N), .int .u64 (aL N)]) ∧ Below w.heap.size w w' := by
  have h := raddr_any g cap W N w hb.lt hW (Nat.lt_of_lt_of_le hN (Nat.pow_le_pow_right (by omega) hW)) hN hb.cell
  rw [hi_aH, lo_aL] at h
  exact h
end Go.Proofs.YtlikgfmcialepaaGreatDoor
namespace Go.Proofs.YtlikgfmcialepaaGreatDoor
open Go.RowKit Adr Spn
set_option linter.unusedVariables false
set_option linter.unusedSimpArgs false
theorem ones_bit {W k : Nat} (h : k < W) : (2 ^ W - 1) / 2 ^ k % 2 = 1 := by
  have h1 := Nat.testBit_two_pow_sub_one W k
  rw [Nat.testBit_eq_decide_div_mod_eq] at h1
  simpa [h] using h1
theorem bit_room {N W k : Nat} (hN : N < 2 ^ W) (hk : k < W) (h : biP N k = 0) : N + 1 < 2 ^ W := by
  rcases Nat.lt_or_ge (N + 1) (2 ^ W) with h1 | h1
  · exact h1
  · exfalso
    have e : N = 2 ^ W - 1 := by omega
    subst e
    have := ones_bit hk
    unfold biP at h
    omega
theorem Ad2.set {B : Nat} {w : World} {a b a' b' : Int} (h : Ad2 B w a b) : Ad2 B ((w.setCell ⟨B, 0, none⟩ (.int .u64 a')).setCell ⟨B, 1, none⟩ (.int .u64 b')) a' b' := by
  obtain ⟨a0, a1, f0, f1⟩ := h
  refine ⟨?_, ?_, by simpa using f0, by simpa using f1⟩
  · exact cset_far (cset_same a0) (by simp)
  · exact cset_same (cset_far a1 (by simp))
theorem ad_below {n b : Nat} {u w : World} {v0 v1 : Value} (h : Below n u w) (hb : n ≤ b) : Below n u ((w.setCell ⟨b, 0, none⟩ v0).setCell ⟨b, 1, none⟩ v1) := (h.setCell hb _).setCell hb _
theorem Ad2.away {B g : Nat} {w : World} {a b : Int} {j : Nat} {v : Value} (h : Ad2 B w a b) (hne : g ≠ B) : Ad2 B (w.setCell ⟨g, j, none⟩ v) a b := by
  obtain ⟨a0, a1, f0, f1⟩ := h
  refine ⟨cset_far a0 (by simp [hne]), cset_far a1 (by simp [hne]), by simpa using f0, by simpa using f1⟩
theorem blk_le {W N k : Nat} (ha : N % 2 ^ k = 0) (hN : N < 2 ^ W) (hk : k ≤ W) : N + 2 ^ k ≤ 2 ^ W := by
  obtain ⟨q, rfl⟩ := Nat.dvd_of_mod_eq_zero ha
  have e : 2 ^ W = 2 ^ k * 2 ^ (W - k) := by rw [← Nat.pow_add]; congr 1; omega
  rw [e] at hN ⊢
  have hlt : q < 2 ^ (W - k) := Nat.lt_of_mul_lt_mul_left hN
  rw [show 2 ^ k * q + 2 ^ k = 2 ^ k * (q + 1) by rw [Nat.mul_add, Nat.mul_one]]
  exact Nat.mul_le_mul_left _ hlt
set_option maxRecDepth 100000 in
set_option maxHeartbeats 2000000 in
theorem rlast_any {f : Int} {W : Nat} (hf : Fam f W) (N n : Nat) (hn : n ≤ W) (hN : N < 2 ^ W) (ha : N % 2 ^ (W - n) = 0) (w : World) :
    Calls Tryz.prog 73 #[.agg #[.int .u8 f, .int .u64 (aH N), .int .u64 (aL N), .int .i64 n]] w fun e w' => e = .returned (.agg #[.int .u64 (aH (N + 2 ^ (W - n) - 1)), .int .u64 (aL (N + 2 ^ (W - n) - 1))]) ∧ Below w.heap.size w w' := by
  have HBits := Lib.hid (fun w => rbits_call hf N (hf.lt hN) w)
  have HAddr := Lib.hid (fun g cap M (hM : M < 2 ^ W) w hb => raddr_call g cap W M hf.wid.2.2.2 hM w hb)
  have HBLK := Lib.hid (blk_le ha hN (Nat.sub_le W n))
  have HAl := Lib.hid ha
  have HN := Lib.hid hN
  obtain ⟨w1, w2, w3, w4⟩ := hf.wid
  obtain ⟨E, hE⟩ : ∃ E, N + 2 ^ (W - n) - 1 = E := ⟨_, rfl⟩
  rw [hE]
  have HEq := Lib.hid hE
  clear hN hf ha w1 w2 hE
  go_enter Tryz.func73, Tryz.ntmps73
  go_wp2_with fail
  generalize hv : World.alloc (World.alloc _ _) _ = v
  have TA : RowKit.Hid (Ad2 (w.heap.size + 1) v 0 0) := Lib.hid (by
    rw [← hv]
    have := Ad2.new (w.alloc (.cells #[.int .u8 f, .int .u64 (aH N), .int .u64 (aL N), .int .i64 n] 26)) 0 0 24
    simpa using this)
  have TP : RowKit.Hid (Pf4 w.heap.size v f (aH N) (aL N) n) := Lib.hid (by rw [← hv]; exact (Pf4.new w _ _ _ _ _).on (below_new _ _))
  have HB := Lib.hid (show Below w.heap.size w v by rw [← hv]; exact ((Below.refl _ _).alloc (Nat.le_refl _) _).alloc (by simp) _)
  clear hv
  obtain ⟨p0, p1, p2, p3, _, _, _, _⟩ := TP.out
  go_wp2_with fail
  refine (HBits.out v).mono ?_
  rintro e w2 ⟨g, cap, rfl, hg, hbits, hc1, hc2, hb2⟩
  have TA2 := Lib.hid (TA.out.on hb2)
  have TP2 := Lib.hid (TP.out.on hb2)
  have HB2 := Lib.hid (HB.out.trans (hb2.mono HB.out.size))
  have HG := Lib.hid (show w.heap.size + 1 < g by have := TA.out.lt; omega)
  have HBI := Lib.hid hbits
  clear hb2 TA HB TP hbits hg p0 p1 p2 p3
  obtain ⟨p0, p1, p2, p3, _, _, _, _⟩ := TP2.out
  go_wp2_with fail
  clear p0 p1 p2 p3
  go_loopw [4] (fun i wr => ∃ k : Nat, n ≤ k ∧ k ≤ W ∧ i = .int .i64 k ∧ Below w.heap.size w wr ∧ Ad2 (w.heap.size + 1) wr 0 0 ∧ BitsAt g W (N + (2 ^ (W - n) - 2 ^ (W - k))) wr) (fun i _ => W - (intOf i).toNat)
  case atStart =>
    refine ⟨n, Nat.le_refl _, hn, rfl, HB2.out, TA2.out, by simpa using HBI.out⟩
  case round =>
    obtain ⟨k, hk1, hk2, rfl, hbel, hA, hB⟩ := hrel
    have HBL := Lib.hid hbel
    have HA2 := Lib.hid hA
    have HB4 := Lib.hid hB
    have hgr := hB.lt
    have hg := HG.out
    by_cases hlt : k < W
    · have fk := hB.free k hlt
      obtain ⟨x, hx⟩ := (⟨_, hB.cell k hlt⟩ : ∃ x, wr.cell? ⟨g, k, none⟩ = some x)
      have hS : BitsAt g W (N + (2 ^ (W - n) - 2 ^ (W - (k + 1)))) (wr.setCell ⟨g, k, none⟩ (.int .i64 1)) := by
        have hd : biP (N + (2 ^ (W - n) - 2 ^ (W - k))) (W - 1 - k) = 0 := by
          unfold biP
          have := dvd_last HAl.out (k := W - 1 - k) (by omega)
          rw [show W - 1 - k + 1 = W - k by omega] at this
          rw [dvd_bit (by rw [show W - 1 - k + 1 = W - k by omega]; exact this)]
          rfl
        have h := HB4.out.set (show W - 1 - k < W by omega) (biP_up hd)
        rw [show W - 1 - (W - 1 - k) = k by omega] at h
        have e1 : 2 ^ (W - k) = 2 * 2 ^ (W - (k + 1)) := by rw [show W - k = W - (k + 1) + 1 by omega, Nat.pow_succ]; omega
        have e2 : 2 ^ (W - k) ≤ 2 ^ (W - n) := Nat.pow_le_pow_right (by omega) (by omega)
        have e3 : 2 ^ (W - 1 - k) = 2 ^ (W - (k + 1)) := by congr 1; omega
        have e4 : ∀ X Y Z T : Nat, Y = 2 * Z → Y ≤ X → T = Z → N + (X - Y) + T = N + (X - Z) := by omega
        rw [e4 _ _ _ _ e1 e2 e3] at h
        exact h
      have HS := Lib.hid hS
      clear hS hbel hA hB
      go_wp2_with fail
      generalize hv : World.setCell _ _ _ = v3 at HS
      have HB5 := Lib.hid (show Below w.heap.size w v3 by rw [← hv]; exact HBL.out.setCell (by show w.heap.size ≤ g; omega) _)
      have TA3 := Lib.hid (show Ad2 (w.heap.size + 1) v3 0 0 by rw [← hv]; exact HA2.out.away (by omega))
      clear hv
      go_roundw
      case rel => exact ⟨k + 1, by omega, by omega, by go_num, HB5.out, TA3.out, HS.out⟩
      case measure => simp [intOf]; omega
    · have hk : k = W := by omega
      subst hk
      have hE : N + (2 ^ (k - n) - 2 ^ (k - k)) = N + 2 ^ (k - n) - 1 := by
        have hp := Nat.two_pow_pos (k - n)
        rw [Nat.sub_self, Nat.pow_zero]
        omega
      rw [hE] at HB4
      have hltE : N + 2 ^ (k - n) - 1 < 2 ^ k := by
        have := HBLK.out
        have hp := Nat.two_pow_pos (k - n)
        omega
      have HLT := Lib.hid hltE
      clear hE hltE hbel hA hB
      rw [HEq.out] at HB4 HLT
      go_wp2_with fail
      refine (HAddr.out g cap E HLT.out wr HB4.out).mono ?_
      rintro e w4 ⟨rfl, hb4⟩
      have TA4 := Lib.hid (HA2.out.on hb4)
      have HB6 := Lib.hid (HBL.out.trans (hb4.mono HBL.out.size))
      clear hb4
      obtain ⟨a0, a1, f0, f1⟩ := TA4.out
      go_wp2_with fail
      have A := TA4.out.set (a' := aH E) (b' := aL E)
      refine bodyPost_ret (v := .agg #[.int .u64 (aH E), .int .u64 (aL E)]) (by simp [results, Tryz.results73, go_sem, A.a0, A.a1]) rfl ⟨rfl, ad_below HB6.out (by omega)⟩
set_option maxHeartbeats 1000000 in
theorem rof_no (f h l n c : Int) (w : World) (uh : U64 h) (ul : U64 l) (hc : chk f h l n = c) (hc0 : (c != 0) = true) :
    Calls Tryz.prog 49 #[.agg #[.int .u8 f, .int .u64 h, .int .u64 l, .int .i64 n]] w fun e w' => e = .returned (.tuple #[.agg #[.int .u64 0, .int .u64 0, .int .u64 0, .int .u64 0], .int .i64 c]) ∧ Below w.heap.size w w' := by
  have HC : RowKit.Hid (∀ w, Calls Tryz.prog 36 #[.agg #[.int .u8 f, .int .u64 h, .int .u64 l, .int .i64 n]] w fun e w' => e = .returned (.int .i64 c) ∧ Below w.heap.size w w') := Lib.hid (fun w => by rw [← hc]; exact rchk_any f h l n w uh ul)
  clear uh ul hc
  go_enter Tryz.func49, Tryz.ntmps49
  go_wp2_with fail
  generalize hv : World.alloc (World.alloc _ _) _ = v
  have TP : RowKit.Hid (Pf4 w.heap.size v f h l n) := Lib.hid (by rw [← hv]; exact (Pf4.new w _ _ _ _ _).on (below_new _ _))
  have TS : RowKit.Hid (Sp4 (w.heap.size + 1) v 0 0 0 0) := Lib.hid (by
    rw [← hv]
    have := Sp4.new (w.alloc (.cells #[.int .u8 f, .int .u64 h, .int .u64 l, .int .i64 n] 26)) 0 0 0 0 50
    simpa using this)
  have HB := Lib.hid (show Below w.heap.size w v by rw [← hv]; exact ((Below.refl _ _).alloc (Nat.le_refl _) _).alloc (by simp) _)
  clear hv
  obtain ⟨p0, p1, p2, p3, _, _, _, _⟩ := TP.out
  go_wp2_with fail
  refine (HC.out v).mono ?_
  rintro e w1 ⟨rfl, hb1⟩
  have TS1 := Lib.hid (TS.out.on hb1)
  have TP1 := Lib.hid (TP.out.on hb1)
  have HB1 := Lib.hid (HB.out.trans (hb1.mono HB.out.size))
  clear hb1 TS HB TP p0 p1 p2 p3
  obtain ⟨p0, p1, p2, p3, _, _, _, _⟩ := TP1.out
  go_wp2_with fail
  refine (HC.out w1).mono ?_
  rintro e w2 ⟨rfl, hb2⟩
  have TS2 := Lib.hid (TS1.out.on hb2)
  have HB2 := Lib.hid (HB1.out.trans (hb2.mono HB1.out.size))
  clear hb2 TS1 HB1 TP1 p0 p1 p2 p3
  obtain ⟨s0, s1, s2, s3, fz⟩ := TS2.out
  have g0 := fz 0
  have g1 := fz 1
  have g2 := fz 2
  have g3 := fz 3
  clear fz
  go_wp2_with fail
  have A := sp_set (a' := 0) (b' := 0) (c' := 0) (d' := 0) TS2.out
  refine bodyPost_ret (v := .tuple #[.agg #[.int .u64 0, .int .u64 0, .int .u64 0, .int .u64 0], .int .i64 c]) (by simp [results, Tryz.results49, go_sem, A.a0, A.a1, A.a2, A.a3]) rfl ⟨rfl, pf_below HB2.out (by omega)⟩
set_option maxRecDepth 100000 in
set_option maxHeartbeats 2000000 in
theorem rof_yes {f : Int} {W : Nat} (hf : Fam f W) (N i : Nat) (hi : i ≤ W) (hN : N < 2 ^ W) (ha : N % 2 ^ (W - i) = 0) (w : World) :
    Calls Tryz.prog 49 #[.agg #[.int .u8 f, .int .u64 (aH N), .int .u64 (aL N), .int .i64 i]] w fun e w' => e = .returned (.tuple #[.agg #[.int .u64 (aH N), .int .u64 (aL N), .int .u64 (aH (N + 2 ^ (W - i) - 1)), .int .u64 (aL (N + 2 ^ (W - i) - 1))], .int .i64 0]) ∧ Below w.heap.size w w' := by
  have HC : RowKit.Hid (∀ w, Calls Tryz.prog 36 #[.agg #[.int .u8 f, .int .u64 (aH N), .int .u64 (aL N), .int .i64 i]] w fun e w' => e = .returned (.int .i64 0) ∧ Below w.heap.size w w') := Lib.hid (fun w => by rw [← chk_of_num hf hi hN ha]; exact rchk_any f (aH N) (aL N) i w (aH_u (hf.lt hN)) (aL_u N))
  have HL := Lib.hid (fun w => rlast_any hf N i hi hN ha w)
  obtain ⟨E, hE⟩ : ∃ E, N + 2 ^ (W - i) - 1 = E := ⟨_, rfl⟩
  rw [hE] at HL ⊢
  clear hE hi hN ha hf
  go_enter Tryz.func49, Tryz.ntmps49
  go_wp2_with fail
  generalize hv : World.alloc (World.alloc _ _) _ = v
  have TP : RowKit.Hid (Pf4 w.heap.size v f (aH N) (aL N) i) := Lib.hid (by rw [← hv]; exact (Pf4.new w _ _ _ _ _).on (below_new _ _))
  have TS : RowKit.Hid (Sp4 (w.heap.size + 1) v 0 0 0 0) := Lib.hid (by
    rw [← hv]
    have := Sp4.new (w.alloc (.cells #[.int .u8 f, .int .u64 (aH N), .int .u64 (aL N), .int .i64 i] 26)) 0 0 0 0 50
    simpa using this)
  have HB := Lib.hid (show Below w.heap.size w v by rw [← hv]; exact ((Below.refl _ _).alloc (Nat.le_refl _) _).alloc (by simp) _)
  clear hv
  obtain ⟨p0, p1, p2, p3, _, _, _, _⟩ := TP.out
  go_wp2_with fail
  refine (HC.out v).mono ?_
  rintro e w1 ⟨rfl, hb1⟩
  have TS1 := Lib.hid (TS.out.on hb1)
  have TP1 := Lib.hid (TP.out.on hb1)
  have HB1 := Lib.hid (HB.out.trans (hb1.mono HB.out.size))
  clear hb1 TS TP HB p0 p1 p2 p3
  obtain ⟨p0, p1, p2, p3, _, _, _, _⟩ := TP1.out
  obtain ⟨s0, s1, s2, s3, fz⟩ := TS1.out
  have g0 := fz 0
  have g1 := fz 1
  have g2 := fz 2
  have g3 := fz 3
  have zp := TP1.out.lt
  have zs := TS1.out.lt
  clear fz
  go_wp2_with fail
  go_region_with (go_at_call 73; refine (HL.out _).mono ?_; rintro e w3 ⟨rfl, hb3⟩; obtain ⟨hc3, hf3⟩ := bcellD hb3; have zp3 : w.heap.size < w3.heap.size := (by (have := hb3.size; (try simp at this); omega)); have zs3 : w.heap.size + 1 < w3.heap.size := (by (have := hb3.size; (try simp at this); omega)))
  all_goals
    have HB3 := Lib.hid ((((Below.refl w1.heap.size w1).drew).trans hb3))
    have TS3 := Lib.hid (TS1.out.on HB3.out)
    clear hb3 hc3 hf3
    go_wp2_with fail
    have A := sp_set (a' := aH N) (b' := aL N) (c' := aH E) (d' := aL E) TS3.out
    have HB4 := HB1.out.trans (HB3.out.mono HB1.out.size)
    refine bodyPost_ret (v := .tuple #[.agg #[.int .u64 (aH N), .int .u64 (aL N), .int .u64 (aH E), .int .u64 (aL E)], .int .i64 0]) (by simp [results, Tryz.results49, go_sem, A.a0, A.a1, A.a2, A.a3]) rfl ⟨rfl, ?_⟩
    first
      | exact pf_below HB4 (by omega)
      | exact (pf_below HB4 (by omega)).drew
end Go.Proofs.YtlikgfmcialepaaGreatDoor
namespace Go.Proofs.YtlikgfmcialepaaGreatDoor
open Go.RowKit Adr Spn
set_option linter.unusedVariables false
set_option linter.unusedSimpArgs false
theorem Pf4.set {B : Nat} {w : World} {a b c d a' b' c' d' : Int} (h : Pf4 B w a b c d) : Pf4 B ((((w.setCell ⟨B, 0, none⟩ (.int .u8 a')).setCell ⟨B, 1, none⟩ (.int .u64 b')).setCell ⟨B, 2, none⟩ (.int .u64 c')).setCell ⟨B, 3, none⟩ (.int .i64 d')) a' b' c' d' := by
  obtain ⟨a0, a1, a2, a3, f0, f1, f2, f3⟩ := h
  refine ⟨?_, ?_, ?_, ?_, by simpa using f0, by simpa using f1, by simpa using f2, by simpa using f3⟩
  · exact cset_far (cset_far (cset_far (cset_same a0) (by simp)) (by simp)) (by simp)
  · exact cset_far (cset_far (cset_same (cset_far a1 (by simp))) (by simp)) (by simp)
  · exact cset_far (cset_same (cset_far (cset_far a2 (by simp)) (by simp))) (by simp)
  · exact cset_same (cset_far (cset_far (cset_far a3 (by simp)) (by simp)) (by simp))
theorem Pf4.away {B g : Nat} {w : World} {a b c d : Int} {j : Nat} {v : Value} (h : Pf4 B w a b c d) (hne : g ≠ B) : Pf4 B (w.setCell ⟨g, j, none⟩ v) a b c d := by
  obtain ⟨a0, a1, a2, a3, f0, f1, f2, f3⟩ := h
  exact ⟨cset_far a0 (by simp [hne]), cset_far a1 (by simp [hne]), cset_far a2 (by simp [hne]), cset_far a3 (by simp [hne]), by simpa using f0, by simpa using f1, by simpa using f2, by simpa using f3⟩
set_option maxRecDepth 100000 in
set_option maxHeartbeats 2000000 in
theorem rhalf_any {f : Int} {W : Nat} (hf : Fam f W) (N n : Nat) (b : Nat) (hb : b = 0 ∨ b = 1) (hn : n < W) (hN : N < 2 ^ W) (ha : N % 2 ^ (W - n) = 0) (w : World) :
    Calls Tryz.prog 91 #[.agg #[.int .u8 f, .int .u64 (aH N), .int .u64 (aL N), .int .i64 n], .int .i64 b] w fun e w' => e = .returned (.agg #[.int .u8 f, .int .u64 (aH (N + b * 2 ^ (W - 1 - n))), .int .u64 (aL (N + b * 2 ^ (W - 1 - n))), .int .i64 ((n + 1 : Nat) : Int)]) ∧ Below w.heap.size w w' := by
  have HBits := Lib.hid (fun w => rbits_call hf N (hf.lt hN) w)
  have HAddr := Lib.hid (fun g cap M (hM : M < 2 ^ W) w hb => raddr_call g cap W M hf.wid.2.2.2 hM w hb)
  have e1 : 2 ^ (W - n) = 2 ^ (W - 1 - n) + 2 ^ (W - 1 - n) := by rw [show W - n = W - 1 - n + 1 by omega, Nat.pow_succ]; omega
  have hd : biP N (W - 1 - n) = 0 := by
    unfold biP
    rw [dvd_bit (by rw [show W - 1 - n + 1 = W - n by omega]; exact ha)]
    rfl
  have hblk := blk_le ha hN (Nat.sub_le W n)
  have hE : N + b * 2 ^ (W - 1 - n) < 2 ^ W := by
    have hp := Nat.two_pow_pos (W - 1 - n)
    rcases hb with rfl | rfl
    · omega
    · omega
  have hS : ∀ g (wr : World), BitsAt g W N wr → BitsAt g W (N + b * 2 ^ (W - 1 - n)) (wr.setCell ⟨g, n, none⟩ (.int .i64 b)) := fun g wr hB => by
    have e2 : W - 1 - (W - 1 - n) = n := by omega
    rcases hb with rfl | rfl
    · have h := hB.set (M' := N) (b := 0) (show W - 1 - n < W by omega) (fun m => by
        by_cases e : m = W - 1 - n
        · subst e; rw [if_pos rfl]; exact hd
        · rw [if_neg e])
      rw [e2] at h
      simpa using h
    · have h := hB.set (show W - 1 - n < W by omega) (biP_up hd)
      rw [e2] at h
      simpa using h
  obtain ⟨E, hEE⟩ : ∃ E, N + b * 2 ^ (W - 1 - n) = E := ⟨_, rfl⟩
  rw [hEE] at hE hS ⊢
  have HS := Lib.hid hS
  have HE := Lib.hid hE
  obtain ⟨w1, w2, w3, w4⟩ := hf.wid
  clear hN hf ha w1 w2 hS hE hEE hblk hd e1 hb
  go_enter Tryz.func91, Tryz.ntmps91
  go_wp2_with fail
  generalize hv : World.alloc (World.alloc _ _) _ = v
  have TR : RowKit.Hid (Pf4 (w.heap.size + 1) v 0 0 0 0) := Lib.hid (by
    rw [← hv]
    have := Pf4.new (w.alloc (.cells #[.int .u8 f, .int .u64 (aH N), .int .u64 (aL N), .int .i64 n] 26)) 0 0 0 0 26
    simpa using this)
  have TP : RowKit.Hid (Pf4 w.heap.size v f (aH N) (aL N) n) := Lib.hid (by rw [← hv]; exact (Pf4.new w _ _ _ _ _).on (below_new _ _))
  have HB := Lib.hid (show Below w.heap.size w v by rw [← hv]; exact ((Below.refl _ _).alloc (Nat.le_refl _) _).alloc (by simp) _)
  clear hv
  obtain ⟨p0, p1, p2, p3, _, _, _, _⟩ := TP.out
  go_wp2_with fail
  refine (HBits.out v).mono ?_
  rintro e w2 ⟨g, cap, rfl, hg, hbits, hc1, hc2, hb2⟩
  have TR2 := Lib.hid (TR.out.on hb2)
  have TP2 := Lib.hid (TP.out.on hb2)
  have HB2 := Lib.hid (HB.out.trans (hb2.mono HB.out.size))
  have hg1 : w.heap.size + 1 < g := by have := TR.out.lt; omega
  have HBI := Lib.hid hbits
  have fk := hbits.free n hn
  obtain ⟨x, hx⟩ := (⟨_, hbits.cell n hn⟩ : ∃ x, w2.cell? ⟨g, n, none⟩ = some x)
  clear hb2 TR HB TP hbits p0 p1 p2 p3
  obtain ⟨p0, p1, p2, p3, _, _, _, _⟩ := TP2.out
  have hgr := HBI.out.lt
  go_wp2_with fail
  generalize hv : World.setCell _ _ _ = v3
  have HS3 := Lib.hid (show BitsAt g W E v3 by rw [← hv]; exact HS.out g w2 HBI.out)
  have HB3 := Lib.hid (show Below w.heap.size w v3 by rw [← hv]; exact HB2.out.setCell (by show w.heap.size ≤ g; omega) _)
  have TR3 := Lib.hid (show Pf4 (w.heap.size + 1) v3 0 0 0 0 by rw [← hv]; exact TR2.out.away (by omega))
  have TP3 := Lib.hid (show Pf4 w.heap.size v3 f (aH N) (aL N) n by rw [← hv]; exact TP2.out.away (by omega))
  clear hv p0 p1 p2 p3 HB2 TR2 TP2 HBI fk hx
  obtain ⟨p0, p1, p2, p3, _, _, _, _⟩ := TP3.out
  obtain ⟨s0, s1, s2, s3, g0, g1, g2, g3⟩ := TR3.out
  have zp := TP3.out.lt
  have zs := TR3.out.lt
  have hwn : IntKind.i64.wrap ((n : Int) + 1) = (n : Int) + 1 := IntWalk.i64_in _ (by omega)
  go_region_with (go_at_call 92; refine (HAddr.out g cap E HE.out _ (HS3.out.on ((Below.refl _ _).drew))).mono ?_; rintro e w5 ⟨rfl, hb5⟩; obtain ⟨hc5, hf5⟩ := bcellD hb5; have zp5 : w.heap.size < w5.heap.size := (by (have := hb5.size; (try simp at this); omega)); have zs5 : w.heap.size + 1 < w5.heap.size := (by (have := hb5.size; (try simp at this); omega)))
  all_goals
    have HB5 := Lib.hid ((((Below.refl v3.heap.size v3).drew).trans hb5))
    have TR5 := Lib.hid (TR3.out.on HB5.out)
    clear hb5 hc5 hf5 hwn
    go_wp2_with fail
    have A := TR5.out.set (a' := f) (b' := aH E) (c' := aL E) (d' := (n : Int) + 1)
    have HB6 := HB3.out.trans (HB5.out.mono HB3.out.size)
    refine bodyPost_ret (v := .agg #[.int .u8 f, .int .u64 (aH E), .int .u64 (aL E), .int .i64 ((n + 1 : Nat) : Int)]) (by simp [results, Tryz.results91, go_sem, A.a0, A.a1, A.a2, A.a3]) rfl ⟨rfl, ?_⟩
    first
      | exact pf_below HB6 (by omega)
      | exact (pf_below HB6 (by omega)).drew
end Go.Proofs.YtlikgfmcialepaaGreatDoor
namespace Go.Proofs.YtlikgfmcialepaaGreatDoor
open Go.RowKit Adr Spn
set_option linter.unusedVariables false
set_option linter.unusedSimpArgs false
/-- a list of prefixes of the call's own; none: nil -/
def WinLeft (f : Int) (W : Nat) (xs : List (Nat × Nat)) (w : World) (e : Ending) (w' : World) : Prop :=
  ∃ v, e = .returned v ∧ w'.ownsRow w.heap.size 26 4 v xs.length (pcells f W xs) ∧ (v = .slice none 0 0 ↔ xs.length = 0) ∧ Below w.heap.size w w'
theorem win_len {W A M k P : Nat} (hAM : A ≤ M) (hM : M < 2 ^ W) (hW : 2 ≤ W) (hW2 : W ≤ 128) (hk : k ≤ W) (ha : P % 2 ^ k = 0) (hx : k = W ∨ P % 2 ^ (k + 1) ≠ 0 ∨ ¬ (A ≤ P ∧ P + 2 ^ (k + 1) ≤ M + 1)) : (win A M k P).length ≤ 254 := by
  obtain ⟨t, ht⟩ := steps_ex W (M + 1 - clampN A M (P + 2 ^ k)) (clampN A M (P + 2 ^ k))
  have h := win_steps hAM k P t hk ha hx ht
  have hl := len_all W hW _ _ _ (by unfold clampN; omega) h
  rw [List.length_append] at hl
  omega
theorem pcells_one (f : Int) (W : Nat) (l : List (Nat × Nat)) : ∀ y ∈ pcells f W l, y.oneCell' = true := by
  intro y hy
  unfold pcells at hy
  rw [List.mem_flatMap] at hy
  obtain ⟨p, _, hy⟩ := hy
  simp only [List.mem_cons, List.not_mem_nil, or_false] at hy
  rcases hy with rfl | rfl | rfl | rfl <;> rfl
theorem pcells_app (f : Int) (W : Nat) (l l' : List (Nat × Nat)) : pcells f W (l ++ l') = pcells f W l ++ pcells f W l' := by
  unfold pcells
  rw [List.flatMap_append]
theorem win_top {W A M : Nat} (hAM : A ≤ M) (hM : M < 2 ^ W) : Spn.Steps W A (M + 1 - A) (win A M W 0) := by
  have h := win_steps (W := W) hAM W 0 [] (Nat.le_refl _) (Nat.zero_mod _) (Or.inl rfl) (by
    have : clampN A M (0 + 2 ^ W) = M + 1 := by unfold clampN; omega
    rw [this, Nat.sub_self]
    exact .nil _)
  have e : clampN A M 0 = A := by unfold clampN; omega
  rw [e, List.append_nil] at h
  exact h
theorem rcmp_k (A B : Nat) (k : Int) (hk : cmpN A B = k) (w : World) :
    Calls Tryz.prog 74 #[.agg #[.int .u64 (aH A), .int .u64 (aL A)], .agg #[.int .u64 (aH B), .int .u64 (aL B)]] w fun e w' => e = .returned (.int .i64 k) ∧ Below w.heap.size w w' := by
  rw [← hk]; exact rcmpN_any A B w
theorem rin_b (A M X : Nat) (b : Bool) (hb : (decide (A ≤ X) && decide (X ≤ M)) = b) (w : World) :
    Calls Tryz.prog 90 #[.agg #[.int .u64 (aH A), .int .u64 (aL A), .int .u64 (aH M), .int .u64 (aL M)], .agg #[.int .u64 (aH X), .int .u64 (aL X)]] w fun e w' => e = .returned (.bool b) ∧ Below w.heap.size w w' := by
  rw [← hb]; exact rin_any A M X w
theorem cmpN_neg {A B : Nat} (h : A < B) : cmpN A B = -1 := by
  unfold cmpN
  rw [if_neg (by omega), if_pos h]
theorem cmpN_nn {A B : Nat} (h : ¬ A < B) : 0 ≤ cmpN A B := by
  unfold cmpN
  by_cases e : A = B
  · rw [if_pos e]; omega
  · rw [if_neg e, if_neg h]; omega
/-- what the walk reads again: the span and the prefix -/
structure C8 (N : Nat) (z : World) (a b c d f h l n : Int) : Prop where
  lt : N + 1 < z.heap.size
  s0 : z.cell? ⟨N, 0, none⟩ = some (.int .u64 a)
  s1 : z.cell? ⟨N, 1, none⟩ = some (.int .u64 b)
  s2 : z.cell? ⟨N, 2, none⟩ = some (.int .u64 c)
  s3 : z.cell? ⟨N, 3, none⟩ = some (.int .u64 d)
  p0 : z.cell? ⟨N + 1, 0, none⟩ = some (.int .u8 f)
  p1 : z.cell? ⟨N + 1, 1, none⟩ = some (.int .u64 h)
  p2 : z.cell? ⟨N + 1, 2, none⟩ = some (.int .u64 l)
  p3 : z.cell? ⟨N + 1, 3, none⟩ = some (.int .i64 n)
theorem C8.same {N : Nat} {z y : World} {a b c d f h l n : Int} (t : C8 N z a b c d f h l n) (hs : z.heap.size ≤ y.heap.size) (h0 : y.heap[N]? = z.heap[N]?) (h1 : y.heap[N + 1]? = z.heap[N + 1]?) : C8 N y a b c d f h l n :=
  ⟨Nat.lt_of_lt_of_le t.lt hs, (World.cell?_of_block (a := ⟨N, 0, none⟩) h0).trans t.s0, (World.cell?_of_block (a := ⟨N, 1, none⟩) h0).trans t.s1, (World.cell?_of_block (a := ⟨N, 2, none⟩) h0).trans t.s2, (World.cell?_of_block (a := ⟨N, 3, none⟩) h0).trans t.s3,
   (World.cell?_of_block (a := ⟨N + 1, 0, none⟩) h1).trans t.p0, (World.cell?_of_block (a := ⟨N + 1, 1, none⟩) h1).trans t.p1, (World.cell?_of_block (a := ⟨N + 1, 2, none⟩) h1).trans t.p2, (World.cell?_of_block (a := ⟨N + 1, 3, none⟩) h1).trans t.p3⟩
theorem C8.on {N : Nat} {z y : World} {a b c d f h l n : Int} (t : C8 N z a b c d f h l n) (hb : Below z.heap.size z y) : C8 N y a b c d f h l n :=
  t.same hb.size (hb.block N (by have := t.lt; omega)) (hb.block (N + 1) t.lt)
theorem C8.grown {N : Nat} {z y : World} {a b c d f h l n : Int} {row : Option Nat} (t : C8 N z a b c d f h l n) (hg : z.grownBy y row) (hr : ∀ g, row = some g → N + 1 < g) : C8 N y a b c d f h l n :=
  t.same hg.size (hg.block N (by have := t.lt; omega) (fun e => by have := hr _ e.symm; omega)) (hg.block (N + 1) t.lt (fun e => by have := hr _ e.symm; omega))
set_option maxRecDepth 100000 in
set_option maxHeartbeats 4000000 in
theorem within_core (f : Int) (W A M P E k : Nat) (w : World) (xs : List (Nat × Nat))
    (hlast : ∀ w, Calls Tryz.prog 73 #[.agg #[.int .u8 f, .int .u64 (aH P), .int .u64 (aL P), .int .i64 ((W - k : Nat) : Int)]] w fun e w' => e = .returned (.agg #[.int .u64 (aH E), .int .u64 (aL E)]) ∧ Below w.heap.size w w')
    (hno : E < A ∨ M < P → xs = []) (hone : A ≤ P ∧ E ≤ M → xs = [(P, k)]) (hPE : P ≤ E)
    (htwo : ¬ (E < A ∨ M < P) → ¬ (A ≤ P ∧ E ≤ M) → ∃ n1 h1 l1 h2 l2 xs0 xs1, (∀ w, Calls Tryz.prog 91 #[.agg #[.int .u8 f, .int .u64 (aH P), .int .u64 (aL P), .int .i64 ((W - k : Nat) : Int)], .int .i64 0] w fun e w' => e = .returned (.agg #[.int .u8 f, .int .u64 h1, .int .u64 l1, .int .i64 n1]) ∧ Below w.heap.size w w') ∧
      (∀ w, Calls Tryz.prog 91 #[.agg #[.int .u8 f, .int .u64 (aH P), .int .u64 (aL P), .int .i64 ((W - k : Nat) : Int)], .int .i64 1] w fun e w' => e = .returned (.agg #[.int .u8 f, .int .u64 h2, .int .u64 l2, .int .i64 n1]) ∧ Below w.heap.size w w') ∧
      (∀ w, Calls Tryz.prog 71 #[.agg #[.int .u64 (aH A), .int .u64 (aL A), .int .u64 (aH M), .int .u64 (aL M)], .agg #[.int .u8 f, .int .u64 h1, .int .u64 l1, .int .i64 n1]] w (WinLeft f W xs0 w)) ∧
      (∀ w, Calls Tryz.prog 71 #[.agg #[.int .u64 (aH A), .int .u64 (aL A), .int .u64 (aH M), .int .u64 (aL M)], .agg #[.int .u8 f, .int .u64 h2, .int .u64 l2, .int .i64 n1]] w (WinLeft f W xs1 w)) ∧ xs = xs0 ++ xs1 ∧ xs0.length ≤ 254 ∧ xs1.length ≤ 254) :
    Calls Tryz.prog 71 #[.agg #[.int .u64 (aH A), .int .u64 (aL A), .int .u64 (aH M), .int .u64 (aL M)], .agg #[.int .u8 f, .int .u64 (aH P), .int .u64 (aL P), .int .i64 ((W - k : Nat) : Int)]] w (WinLeft f W xs w) := by
  have HL := Lib.hid hlast
  have HNO := Lib.hid hno
  have HONE := Lib.hid hone
  have HTWO := Lib.hid htwo
  have HPE := Lib.hid hPE
  clear hlast hno hone htwo hPE
  obtain ⟨n, hn⟩ : ∃ n : Int, ((W - k : Nat) : Int) = n := ⟨_, rfl⟩
  have HNN := Lib.hid hn
  rw [hn] at HL HTWO ⊢
  clear hn
  go_enter Tryz.func71, Tryz.ntmps71
  go_wp2_with fail
  generalize hv : World.alloc (World.alloc _ _) _ = v
  have TS : RowKit.Hid (Sp4 w.heap.size v (aH A) (aL A) (aH M) (aL M)) := Lib.hid (by rw [← hv]; exact (Sp4.new w _ _ _ _ _).on (below_new _ _))
  have TP : RowKit.Hid (Pf4 (w.heap.size + 1) v f (aH P) (aL P) n) := Lib.hid (by
    rw [← hv]
    have := Pf4.new (w.alloc (.cells #[.int .u64 (aH A), .int .u64 (aL A), .int .u64 (aH M), .int .u64 (aL M)] 50)) f (aH P) (aL P) n 26
    simpa using this)
  have HB := Lib.hid (show Below w.heap.size w v by rw [← hv]; exact ((Below.refl _ _).alloc (Nat.le_refl _) _).alloc (by simp) _)
  clear hv
  obtain ⟨p0, p1, p2, p3, _, _, _, _⟩ := TP.out
  go_wp2_with fail
  refine (HL.out v).mono ?_
  rintro e w1 ⟨rfl, hb1⟩
  have TS1 := Lib.hid (TS.out.on hb1)
  have TP1 := Lib.hid (TP.out.on hb1)
  have HB1 := Lib.hid (HB.out.trans (hb1.mono HB.out.size))
  clear hb1 TS TP HB p0 p1 p2 p3
  go_upto_region 2 with fail
  obtain ⟨Q, hQ⟩ : ∃ Q, w1.heap.size = Q := ⟨_, rfl⟩
  generalize hv : World.alloc _ _ = v2
  have TA2 : RowKit.Hid (Ad2 Q v2 (aH E) (aL E)) := Lib.hid (by rw [← hv, ← hQ]; exact Ad2.new w1 _ _ _)
  have TS2 := Lib.hid (show Sp4 w.heap.size v2 (aH A) (aL A) (aH M) (aL M) by rw [← hv]; exact TS1.out.on (below_new _ _))
  have TP2 := Lib.hid (show Pf4 (w.heap.size + 1) v2 f (aH P) (aL P) n by rw [← hv]; exact TP1.out.on (below_new _ _))
  have HB2 := Lib.hid (show Below w.heap.size w v2 by rw [← hv]; exact HB1.out.alloc HB1.out.size _)
  clear hv TS1 TP1 HB1
  try rw [hQ]
  clear hQ
  obtain ⟨s0, s1, s2, s3, _⟩ := TS2.out
  obtain ⟨p0, p1, p2, p3, _, _, _, _⟩ := TP2.out
  obtain ⟨a0, a1, _, _⟩ := TA2.out
  by_cases hEA : E < A
  · obtain rfl : xs = [] := HNO.out (Or.inl hEA)
    have HC1 := Lib.hid (fun w => rcmp_k E A (-1) (cmpN_neg hEA) w)
    clear hEA
    go_wp2_with fail
    refine (HC1.out v2).mono ?_
    rintro e w3 ⟨rfl, hb3⟩
    have HB3 := Lib.hid (HB2.out.trans (hb3.mono HB2.out.size))
    clear hb3 s0 s1 s2 s3 p0 p1 p2 p3 a0 a1
    go_wp2_with fail
    go_ret
    exact ⟨_, rfl, World.ownsRow_nil _ _ _ _, by simp, HB3.out⟩
  · obtain ⟨k1, hk1⟩ : ∃ k1, cmpN E A = k1 := ⟨_, rfl⟩
    have hk1n : ¬ k1 < 0 := by have := cmpN_nn hEA; omega
    have HC1 := Lib.hid (fun w => rcmp_k E A k1 hk1 w)
    have HEA := Lib.hid hEA
    clear hEA hk1
    go_wp2_with fail
    refine (HC1.out v2).mono ?_
    rintro e w3 ⟨rfl, hb3⟩
    have HB3 := Lib.hid (HB2.out.trans (hb3.mono HB2.out.size))
    have TS3 := Lib.hid (TS2.out.on hb3)
    have TP3 := Lib.hid (TP2.out.on hb3)
    have TA3 := Lib.hid (TA2.out.on hb3)
    clear hb3 s0 s1 s2 s3 p0 p1 p2 p3 a0 a1 HB2 TS2 TP2 TA2 HC1
    obtain ⟨s0, s1, s2, s3, _⟩ := TS3.out
    obtain ⟨p0, p1, p2, p3, _, _, _, _⟩ := TP3.out
    obtain ⟨a0, a1, _, _⟩ := TA3.out
    by_cases hMP : M < P
    · obtain rfl : xs = [] := HNO.out (Or.inr hMP)
      have HC2 := Lib.hid (fun w => rcmp_k M P (-1) (cmpN_neg hMP) w)
      clear hMP
      go_wp2_with fail
      refine (HC2.out w3).mono ?_
      rintro e w4 ⟨rfl, hb4⟩
      have HB4 := Lib.hid (HB3.out.trans (hb4.mono HB3.out.size))
      clear hb4 s0 s1 s2 s3 p0 p1 p2 p3 a0 a1
      go_wp2_with fail
      go_ret
      exact ⟨_, rfl, World.ownsRow_nil _ _ _ _, by simp, HB4.out⟩
    · obtain ⟨k2, hk2⟩ : ∃ k2, cmpN M P = k2 := ⟨_, rfl⟩
      have hk2n : ¬ k2 < 0 := by have := cmpN_nn hMP; omega
      have HC2 := Lib.hid (fun w => rcmp_k M P k2 hk2 w)
      have HMP := Lib.hid hMP
      clear hMP hk2
      go_wp2_with fail
      refine (HC2.out w3).mono ?_
      rintro e w4 ⟨rfl, hb4⟩
      have HB4 := Lib.hid (HB3.out.trans (hb4.mono HB3.out.size))
      have TS4 := Lib.hid (TS3.out.on hb4)
      have TP4 := Lib.hid (TP3.out.on hb4)
      have TA4 := Lib.hid (TA3.out.on hb4)
      clear hb4 s0 s1 s2 s3 p0 p1 p2 p3 a0 a1 HB3 TS3 TP3 TA3 HC2
      obtain ⟨s0, s1, s2, s3, _⟩ := TS4.out
      obtain ⟨p0, p1, p2, p3, _, _, _, _⟩ := TP4.out
      obtain ⟨a0, a1, _, _⟩ := TA4.out
      by_cases hin : A ≤ P ∧ E ≤ M
      · obtain rfl : xs = [(P, k)] := HONE.out hin
        have HI1 := Lib.hid (fun w => rin_b A M P true (by have := HPE.out; simp; omega) w)
        have HI2 := Lib.hid (fun w => rin_b A M E true (by have := HPE.out; simp; omega) w)
        clear hin
        go_wp2_with fail
        refine (HI1.out w4).mono ?_
        rintro e w5 ⟨rfl, hb5⟩
        have HB5 := Lib.hid (HB4.out.trans (hb5.mono HB4.out.size))
        have TS5 := Lib.hid (TS4.out.on hb5)
        have TP5 := Lib.hid (TP4.out.on hb5)
        have TA5 := Lib.hid (TA4.out.on hb5)
        clear hb5 s0 s1 s2 s3 p0 p1 p2 p3 a0 a1 HB4 TS4 TP4 TA4
        obtain ⟨s0, s1, s2, s3, _⟩ := TS5.out
        obtain ⟨a0, a1, _, _⟩ := TA5.out
        go_wp2_with fail
        refine (HI2.out w5).mono ?_
        rintro e w6 ⟨rfl, hb6⟩
        have HB6 := Lib.hid (HB5.out.trans (hb6.mono HB5.out.size))
        have TP6 := Lib.hid (TP5.out.on hb6)
        clear hb6 s0 s1 s2 s3 a0 a1 HB5 TS5 TP5 TA5
        obtain ⟨p0, p1, p2, p3, _, _, _, _⟩ := TP6.out
        go_wp2_with fail
        go_ret
        refine ⟨_, rfl, ?_, by simp, HB6.out.alloc HB6.out.size _⟩
        rw [← HNN.out]
        exact ⟨rfl, .inr ⟨w6.heap.size, 1, _, rfl, HB6.out.size, heap_alloc_new w6 _, Nat.le_refl _, by unfold maxLen; omega, rfl, rfl⟩⟩
      · obtain ⟨n1, h1, l1, h2, l2, xs0, xs1, q1, q2, q3, q4, rfl, q6, q7⟩ := HTWO.out (by have := HEA.out; have := HMP.out; omega) hin
        have Q1 := Lib.hid q1
        have Q2 := Lib.hid q2
        have Q3 := Lib.hid q3
        have Q4 := Lib.hid q4
        have L0 := Lib.hid q6
        have L1 := Lib.hid q7
        have HIN := Lib.hid hin
        clear q1 q2 q3 q4 q6 q7 hin
        go_upto_region 4 with fail
        go_cut [29] (fun s29 wx => s29 = .bool false ∧ Below w4.heap.size w4 wx)
        case first =>
          by_cases hAP : A ≤ P
          · have HI1 := Lib.hid (fun w => rin_b A M P true (by have := HMP.out; simp; omega) w)
            have HI2 := Lib.hid (fun w => rin_b A M E false (by have := HIN.out; simp; omega) w)
            clear hAP
            go_wp2_with fail
            refine (HI1.out w4).mono ?_
            rintro e w5 ⟨rfl, hb5⟩
            have HB5 := Lib.hid hb5
            have TS5 := Lib.hid (TS4.out.on hb5)
            have TA5 := Lib.hid (TA4.out.on hb5)
            clear hb5 s0 s1 s2 s3 p0 p1 p2 p3 a0 a1
            obtain ⟨s0, s1, s2, s3, _⟩ := TS5.out
            obtain ⟨a0, a1, _, _⟩ := TA5.out
            go_wp2_with fail
            refine (HI2.out w5).mono ?_
            rintro e w6 ⟨rfl, hb6⟩
            have HB6 := Lib.hid (HB5.out.trans (hb6.mono HB5.out.size))
            clear hb6 s0 s1 s2 s3 a0 a1
            go_wp2_with fail
            go_meet
            exact ⟨rfl, HB6.out⟩
          · have HI1 := Lib.hid (fun w => rin_b A M P false (by simp; omega) w)
            clear hAP
            go_wp2_with fail
            refine (HI1.out w4).mono ?_
            rintro e w5 ⟨rfl, hb5⟩
            have HB5 := Lib.hid hb5
            clear hb5 s0 s1 s2 s3 p0 p1 p2 p3 a0 a1
            go_wp2_with fail
            go_meet
            exact ⟨rfl, HB5.out⟩
        obtain ⟨rfl, hbc⟩ := hcut
        have HBC := Lib.hid (HB4.out.trans (hbc.mono HB4.out.size))
        have C0 : RowKit.Hid (C8 w.heap.size wc (aH A) (aL A) (aH M) (aL M) f (aH P) (aL P) n) := Lib.hid ((C8.mk TP4.out.lt s0 s1 s2 s3 p0 p1 p2 p3).on hbc)
        clear hbc s0 s1 s2 s3 p0 p1 p2 p3 a0 a1 HB4 TS4 TP4 TA4
        obtain ⟨i0, hi, hz0, hz1, hz2⟩ := info_parts Tryz.info_prefix
        go_upto_region 6 with fail
        go_region_held3 (fun z => z.cell? ⟨w.heap.size, 0, none⟩ = some (.int .u64 (aH A)) ∧ z.cell? ⟨w.heap.size, 1, none⟩ = some (.int .u64 (aL A)) ∧ z.cell? ⟨w.heap.size, 2, none⟩ = some (.int .u64 (aH M)) ∧ z.cell? ⟨w.heap.size, 3, none⟩ = some (.int .u64 (aL M)) ∧ z.cell? ⟨w.heap.size + 1, 0, none⟩ = some (.int .u8 f) ∧ z.cell? ⟨w.heap.size + 1, 1, none⟩ = some (.int .u64 (aH P)) ∧ z.cell? ⟨w.heap.size + 1, 2, none⟩ = some (.int .u64 (aL P)) ∧ z.cell? ⟨w.heap.size + 1, 3, none⟩ = some (.int .i64 n))
          (first | exact ⟨C0.out.s0, C0.out.s1, C0.out.s2, C0.out.s3, C0.out.p0, C0.out.p1, C0.out.p2, C0.out.p3⟩ | exact ⟨Ca.out.s0, Ca.out.s1, Ca.out.s2, Ca.out.s3, Ca.out.p0, Ca.out.p1, Ca.out.p2, Ca.out.p3⟩ | exact ⟨Cb.out.s0, Cb.out.s1, Cb.out.s2, Cb.out.s3, Cb.out.p0, Cb.out.p1, Cb.out.p2, Cb.out.p3⟩ | exact ⟨Cc.out.s0, Cc.out.s1, Cc.out.s2, Cc.out.s3, Cc.out.p0, Cc.out.p1, Cc.out.p2, Cc.out.p3⟩ | exact ⟨Cd.out.s0, Cd.out.s1, Cd.out.s2, Cd.out.s3, Cd.out.p0, Cd.out.p1, Cd.out.p2, Cd.out.p3⟩ | exact ⟨Ce.out.s0, Ce.out.s1, Ce.out.s2, Ce.out.s3, Ce.out.p0, Ce.out.p1, Ce.out.p2, Ce.out.p3⟩)
          (first
            | (go_at_call 91; (with_reducible refine (Q1.out _).mono ?_); rintro e wa ⟨rfl, hba⟩; have HBa := Lib.hid (((Below.refl wc.heap.size wc).drew).trans hba); have Ca := Lib.hid (C0.out.on HBa.out); clear hba)
            | (go_at_call 91; (with_reducible refine (Q2.out _).mono ?_); rintro e wd ⟨rfl, hbd⟩; have HBd := Lib.hid hbd; have Cc := Lib.hid (Cb.out.on hbd); clear hbd)
            | (go_at_call 71; (with_reducible refine (Q3.out _).mono ?_); rintro e wb ⟨v0, rfl, hown0, hnil0, hbb⟩; have HBb := Lib.hid hbb; have HO0 := Lib.hid hown0; have HNil0 := Lib.hid hnil0; have Cb := Lib.hid (Ca.out.on hbb); clear hbb hown0 hnil0)
            | (go_at_call 71; (with_reducible refine (Q4.out _).mono ?_); rintro e we ⟨v1, rfl, hown1, hnil1, hbe⟩; have HBe := Lib.hid hbe; have HO1 := Lib.hid hown1; have HNil1 := Lib.hid hnil1; have Cd := Lib.hid (Cc.out.on hbe); have hle : w.heap.size ≤ wa.heap.size := Nat.le_trans HBC.out.size HBa.out.size; have hle2 : w.heap.size ≤ we.heap.size := Nat.le_trans hle (Nat.le_trans HBb.out.size (Nat.le_trans HBd.out.size hbe.size)); have HV := Lib.hid (owns_mono (owns_on (owns_on HO0.out HBd.out) hbe) hle); have HLE := Lib.hid hle2; clear hbe hown1 hnil1 hle hle2)
            | (refine step_app_two (by rfl) (.tmp 35) (.tmp 39) 96 (by rfl) Tryz.underlying96 hi hz0 hz1 hz2 rfl (by decide) (by rfl) (by rfl) HV.out HO1.out (pcells_one f W xs1) (by have := L0.out; have := L1.out; unfold maxLen; omega) (by have := L0.out; have := L1.out; omega) HLE.out ?_; intro vf wf hownf hgf hnilf; have HOF := Lib.hid hownf; have HGF := Lib.hid hgf; have HNF := Lib.hid hnilf; have Ce := Lib.hid (Cd.out.grown hgf (fun g hg => Nat.lt_of_lt_of_le Ca.out.lt (HO0.out.lt g hg).1)); clear hownf hgf hnilf))
        go_wp2_with fail
        go_ret
        have hle : w.heap.size ≤ wa.heap.size := Nat.le_trans HBC.out.size HBa.out.size
        refine ⟨vf, rfl, ?_, ?_, ?_⟩
        · rw [pcells_app, List.length_append]
          exact HOF.out
        · have h1 := HNF.out
          have h2 := HNil0.out
          have h3 := HNil1.out
          rw [List.length_append, h1, h2]
          omega
        · refine Below.grown ?_ HGF.out HLE.out (fun g hg => Nat.le_trans hle (HO0.out.lt g hg).1)
          exact (((HBC.out.trans (HBa.out.mono HBC.out.size)).trans (HBb.out.mono hle)).trans (HBd.out.mono (Nat.le_trans hle HBb.out.size))).trans (HBe.out.mono (Nat.le_trans hle (Nat.le_trans HBb.out.size HBd.out.size)))
/-- what lies in a block -/
theorem within_any {f : Int} {W A M : Nat} (hf : Fam f W) (hAM : A ≤ M) (hM : M < 2 ^ W) : ∀ (k P : Nat), k ≤ W → P % 2 ^ k = 0 → P < 2 ^ W → (k = W ∨ P % 2 ^ (k + 1) ≠ 0 ∨ ¬ (A ≤ P ∧ P + 2 ^ (k + 1) ≤ M + 1)) → ∀ w : World,
    Calls Tryz.prog 71 #[.agg #[.int .u64 (aH A), .int .u64 (aL A), .int .u64 (aH M), .int .u64 (aL M)], .agg #[.int .u8 f, .int .u64 (aH P), .int .u64 (aL P), .int .i64 ((W - k : Nat) : Int)]] w (WinLeft f W (win A M k P) w) := by
  obtain ⟨w1, w2, w3, w4⟩ := hf.wid
  intro k
  induction k with
  | zero =>
    intro P hk ha hP hx w
    have hp : 2 ^ 0 = 1 := rfl
    have hl := fun w => rlast_any hf P (W - 0) (Nat.sub_le _ _) hP (by rw [show W - (W - 0) = 0 by omega]; exact ha) w
    rw [show P + 2 ^ (W - (W - 0)) - 1 = P by rw [show W - (W - 0) = 0 by omega]; omega] at hl
    refine within_core f W A M P P 0 w _ hl (fun h => win_none (by omega)) (fun h => win_one (by omega) (by omega)) (Nat.le_refl _) (fun h1 h2 => ?_)
    exact absurd (show A ≤ P ∧ P ≤ M by omega) h2
  | succ k ih =>
    intro P hk ha hP hx w
    have hp := Nat.two_pow_pos k
    have e2 : 2 ^ (k + 1) = 2 ^ k + 2 ^ k := by rw [Nat.pow_succ]; omega
    have ek : W - (W - (k + 1)) = k + 1 := by omega
    have hl := fun w => rlast_any hf P (W - (k + 1)) (Nat.sub_le _ _) hP (by rw [ek]; exact ha) w
    rw [ek] at hl
    refine within_core f W A M P (P + 2 ^ (k + 1) - 1) (k + 1) w _ hl (fun h => win_none (by omega)) (fun h => win_one (by omega) (by omega)) (by omega) (fun h1 h2 => ?_)
    have hn1 : ¬ (A ≤ P ∧ P + 2 ^ (k + 1) ≤ M + 1) := by omega
    have hd : P % 2 ^ k = 0 := dvd_of_le ha (by omega)
    have hd2 : (P + 2 ^ k) % 2 ^ k = 0 := by rw [Nat.add_mod_right]; exact hd
    have hx2 : (P + 2 ^ k) % 2 ^ (k + 1) ≠ 0 := by
      obtain ⟨q, rfl⟩ := Nat.dvd_of_mod_eq_zero ha
      rw [Nat.mul_add_mod, Nat.mod_eq_of_lt (by omega)]
      omega
    have hblk := blk_le ha hP hk
    have h5 := fun w => rhalf_any hf P (W - (k + 1)) 0 (Or.inl rfl) (by omega) hP (by rw [ek]; exact ha) w
    have h6 := fun w => rhalf_any hf P (W - (k + 1)) 1 (Or.inr rfl) (by omega) hP (by rw [ek]; exact ha) w
    rw [show W - 1 - (W - (k + 1)) = k by omega, show W - (k + 1) + 1 = W - k by omega] at h5 h6
    rw [Nat.zero_mul, Nat.add_zero] at h5
    rw [Nat.one_mul] at h6
    exact ⟨_, _, _, _, _, win A M k P, win A M k (P + 2 ^ k), h5, h6, ih P (by omega) hd hP (Or.inr (Or.inr hn1)), ih (P + 2 ^ k) (by omega) hd2 (by omega) (Or.inr (Or.inl hx2)), win_two hn1 (by omega), win_len hAM hM w3 w4 (by omega) hd (Or.inr (Or.inr hn1)), win_len hAM hM w3 w4 (by omega) hd2 (Or.inr (Or.inl hx2))⟩
end Go.Proofs.YtlikgfmcialepaaGreatDoor
namespace Go.Proofs.YtlikgfmcialepaaGreatDoor
open Go.RowKit Adr Spn
set_option linter.unusedVariables false
set_option linter.unusedSimpArgs false
theorem rpfx_no (f : Int) (A M : Nat) (c : Int) (hc : schk f A M = c) (hc0 : (c != 0) = true) (w : World) :
    Calls Tryz.prog 46 #[.int .u8 f, .agg #[.int .u64 (aH A), .int .u64 (aL A), .int .u64 (aH M), .int .u64 (aL M)]] w fun e w' => e = .returned (.tuple #[.slice none 0 0, .int .i64 c]) ∧ Below w.heap.size w w' := by
  have HC := Lib.hid (fun w => rschk_any f A M w)
  rw [hc] at HC
  clear hc
  go_enter Tryz.func46, Tryz.ntmps46
  go_wp2_with fail
  generalize hv : World.alloc _ _ = v
  have TS : RowKit.Hid (Sp4 w.heap.size v (aH A) (aL A) (aH M) (aL M)) := Lib.hid (by rw [← hv]; exact Sp4.new w _ _ _ _ _)
  have HB := Lib.hid (show Below w.heap.size w v by rw [← hv]; exact below_new _ _)
  clear hv
  refine (HC.out v).mono ?_
  rintro e w1 ⟨rfl, hb1⟩
  have HB1 := Lib.hid (HB.out.trans (hb1.mono HB.out.size))
  have TS1 := Lib.hid (TS.out.on hb1)
  clear hb1 HB TS
  obtain ⟨s0, s1, s2, s3, _⟩ := TS1.out
  go_wp2_with fail
  refine (HC.out w1).mono ?_
  rintro e w2 ⟨rfl, hb2⟩
  have HB2 := Lib.hid (HB1.out.trans (hb2.mono HB1.out.size))
  clear hb2 HB1 TS1 s0 s1 s2 s3
  go_wp2_with fail
  go_ret2
  exact ⟨rfl, HB2.out⟩
theorem rpfx_yes {f : Int} {W : Nat} (hf : Fam f W) (A M : Nat) (hAM : A ≤ M) (hM : M < 2 ^ W) (hs : schk f A M = 0) (w : World) :
    Calls Tryz.prog 46 #[.int .u8 f, .agg #[.int .u64 (aH A), .int .u64 (aL A), .int .u64 (aH M), .int .u64 (aL M)]] w fun e w' => ∃ v, e = .returned (.tuple #[v, .int .i64 0]) ∧ w'.ownsRow w.heap.size 26 4 v (win A M W 0).length (pcells f W (win A M W 0)) ∧ Below w.heap.size w w' := by
  have HC := Lib.hid (fun w => rschk_any f A M w)
  rw [hs] at HC
  have hW := within_any hf hAM hM W 0 (Nat.le_refl _) (Nat.zero_mod _) (Nat.two_pow_pos _) (Or.inl rfl)
  rw [Nat.sub_self, show aH 0 = 0 from rfl, show aL 0 = 0 from rfl, show ((0 : Nat) : Int) = 0 from rfl] at hW
  obtain ⟨xs, hxs⟩ : ∃ xs, win A M W 0 = xs := ⟨_, rfl⟩
  rw [hxs] at hW ⊢
  have HW := Lib.hid hW
  clear hW hxs hs hf hAM hM
  go_enter Tryz.func46, Tryz.ntmps46
  go_wp2_with fail
  generalize hv : World.alloc _ _ = v
  have TS : RowKit.Hid (Sp4 w.heap.size v (aH A) (aL A) (aH M) (aL M)) := Lib.hid (by rw [← hv]; exact Sp4.new w _ _ _ _ _)
  have HB := Lib.hid (show Below w.heap.size w v by rw [← hv]; exact below_new _ _)
  clear hv
  refine (HC.out v).mono ?_
  rintro e w1 ⟨rfl, hb1⟩
  have HB1 := Lib.hid (HB.out.trans (hb1.mono HB.out.size))
  have TS1 := Lib.hid (TS.out.on hb1)
  clear hb1 HB TS
  obtain ⟨s0, s1, s2, s3, _⟩ := TS1.out
  go_wp2_with fail
  refine (HW.out w1).mono ?_
  rintro e w2 ⟨v, rfl, hown, hnil, hb2⟩
  have HB2 := Lib.hid (HB1.out.trans (hb2.mono HB1.out.size))
  have HO := Lib.hid (owns_mono hown HB1.out.size)
  clear hb2 HB1 TS1 s0 s1 s2 s3 hown hnil
  go_wp2_with fail
  go_ret2
  exact ⟨v, rfl, HO.out, HB2.out⟩
theorem own4 {w : World} {base : Nat} {e : TypeId} {v : Value} {n : Nat} {xs : List Value} (h : w.ownsRow base e 4 v n xs) (hn : 0 < n) :
    ∃ g cap, v = .slice (some ⟨g, 0, none⟩) n cap ∧ base ≤ g ∧ g < w.heap.size ∧ n ≤ cap ∧ cap ≤ maxLen ∧ ∀ (j : Nat) x, xs[j]? = some x → w.cell? ⟨g, j, none⟩ = some x := by
  obtain ⟨hl, h | ⟨g, cap, cur, rfl, hb, hg, hnc, hcm, hcs, ht⟩⟩ := h
  · omega
  · have hlt : g < w.heap.size := (Array.getElem?_eq_some_iff.1 hg).1
    refine ⟨g, cap, rfl, hb, hlt, hnc, hcm, fun j x hj => ?_⟩
    have hjn : j < n * 4 := by have := (List.getElem?_eq_some_iff.1 hj).1; omega
    have h1 : cur.toList[j]? = some x := by
      have h2 : (cur.toList.take (n * 4))[j]? = cur.toList[j]? := by rw [List.getElem?_take]; rw [if_pos hjn]
      rw [← h2, ht]
      exact hj
    simp only [World.cell?, hg]
    simpa using h1
end Go.Proofs.YtlikgfmcialepaaGreatDoor
