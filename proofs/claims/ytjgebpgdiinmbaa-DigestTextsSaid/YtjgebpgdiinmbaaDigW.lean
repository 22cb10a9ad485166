/-
  What is written is read again: mathematics.
-/
import Derived.Test.YtjgebpgdiinmbaaDigV
namespace Go.Proofs.Ytjgebpgdiinmbaa
open Go.RowKit Sha
set_option linter.unusedVariables false
set_option linter.unusedSimpArgs false
theorem dv_hexF : ∀ d : Fin 16, dv hexL (ch hexL d.val) = (d.val : Int) := by decide +kernel
theorem dv_b64F : ∀ d : Fin 64, dv b64L (ch b64L d.val) = (d.val : Int) := by decide +kernel
theorem dv_hex (d : Nat) (h : d < 16) : dv hexL (ch hexL d) = (d : Int) := dv_hexF ⟨d, h⟩
theorem dv_b64 (d : Nat) (h : d < 64) : dv b64L (ch b64L d) = (d : Int) := dv_b64F ⟨d, h⟩
theorem dv_pad : dv b64L 61 < 0 := by decide +kernel
theorem und_step (W : Nat) (al : ByteArray) (P K : Nat) (c : UInt8) (r : List UInt8) (d : Nat) (hd : dv al c = (d : Int)) :
    und W al P K (c :: r) = if 8 ≤ K + W then UInt8.ofNat ((P * 2 ^ W + d) / 2 ^ (K + W - 8)) :: und W al ((P * 2 ^ W + d) % 2 ^ (K + W - 8)) (K + W - 8) r else und W al (P * 2 ^ W + d) (K + W) r := by
  rw [und, hd, if_neg (by omega), Int.toNat_natCast]
theorem ofNat_eq (a : UInt8) (n : Nat) (h : n = a.toNat) : UInt8.ofNat n = a := by
  rw [h]
  exact UInt8.ofNat_toNat
theorem undX_hex (b : List UInt8) : und 4 hexL 0 0 (hexS b) = b := by
  unfold hexS
  induction b with
  | nil => rfl
  | cons a r ih =>
    have ha := a.toNat_lt
    rw [dgB4_cons, List.map_append, List.map_cons, List.map_cons, List.map_nil, List.cons_append, List.cons_append, List.nil_append]
    rw [und_step 4 hexL 0 0 _ _ (a.toNat / 16) (dv_hex _ (by omega)), if_neg (by decide)]
    rw [und_step 4 hexL _ _ _ _ (a.toNat % 16) (dv_hex _ (by omega)), if_pos (by decide)]
    refine List.cons_eq_cons.2 ⟨?_, ?_⟩
    · apply ofNat_eq
      simp only [Nat.reduceAdd, Nat.reduceSub, Nat.reducePow, Nat.pow_zero, Nat.div_one, Nat.zero_mul, Nat.zero_add]
      omega
    · simp only [Nat.reduceAdd, Nat.reduceSub, Nat.reducePow, Nat.pow_zero, Nat.mod_one, Nat.zero_mul, Nat.zero_add]
      exact ih
theorem undB_pads (P K n : Nat) : und 6 b64L P K (List.replicate n 61) = [] := by
  cases n with
  | zero => rfl
  | succ n => rw [List.replicate_succ, und, if_pos dv_pad]
theorem undB_b64 (b : List UInt8) (n : Nat) : und 6 b64L 0 0 (b64D b ++ List.replicate n 61) = b := by
  unfold b64D
  refine three_rec (P := fun b => und 6 b64L 0 0 ((dgB 6 0 0 b).map (ch b64L) ++ List.replicate n 61) = b) ?_ ?_ ?_ ?_ b
  · exact undB_pads 0 0 n
  · intro a
    have ha := a.toNat_lt
    rw [dgB6_one, List.map_cons, List.map_cons, List.map_nil, List.cons_append, List.cons_append, List.nil_append]
    rw [und_step 6 b64L 0 0 _ _ (a.toNat / 4) (dv_b64 _ (by omega)), if_neg (by decide)]
    rw [und_step 6 b64L _ _ _ _ (a.toNat % 4 * 16) (dv_b64 _ (by omega)), if_pos (by decide)]
    rw [undB_pads]
    refine List.cons_eq_cons.2 ⟨?_, rfl⟩
    apply ofNat_eq
    simp only [Nat.reduceAdd, Nat.reduceSub, Nat.reducePow, Nat.zero_mul, Nat.zero_add]
    omega
  · intro a b
    have ha := a.toNat_lt
    have hb := b.toNat_lt
    rw [dgB6_two, List.map_cons, List.map_cons, List.map_cons, List.map_nil, List.cons_append, List.cons_append, List.cons_append, List.nil_append]
    rw [und_step 6 b64L 0 0 _ _ (a.toNat / 4) (dv_b64 _ (by omega)), if_neg (by decide)]
    rw [und_step 6 b64L _ _ _ _ ((a.toNat * 256 + b.toNat) / 16 % 64) (dv_b64 _ (by omega)), if_pos (by decide)]
    rw [und_step 6 b64L _ _ _ _ (b.toNat % 16 * 4) (dv_b64 _ (by omega)), if_pos (by decide)]
    rw [undB_pads]
    refine List.cons_eq_cons.2 ⟨?_, List.cons_eq_cons.2 ⟨?_, rfl⟩⟩
    · apply ofNat_eq
      simp only [Nat.reduceAdd, Nat.reduceSub, Nat.reducePow, Nat.zero_mul, Nat.zero_add]
      omega
    · apply ofNat_eq
      simp only [Nat.reduceAdd, Nat.reduceSub, Nat.reducePow, Nat.zero_mul, Nat.zero_add]
      omega
  · intro a b c r ih
    have ha := a.toNat_lt
    have hb := b.toNat_lt
    have hc := c.toNat_lt
    obtain ⟨N, hN⟩ : ∃ N, a.toNat * 65536 + b.toNat * 256 + c.toNat = N := ⟨_, rfl⟩
    have hNb : N < 16777216 := by omega
    rw [dgB6_three, hN, List.map_append, List.map_cons, List.map_cons, List.map_cons, List.map_cons, List.map_nil]
    simp only [List.cons_append, List.nil_append]
    rw [und_step 6 b64L 0 0 _ _ (N / 262144) (dv_b64 _ (by omega)), if_neg (by decide)]
    rw [und_step 6 b64L _ _ _ _ (N / 4096 % 64) (dv_b64 _ (by omega)), if_pos (by decide)]
    rw [und_step 6 b64L _ _ _ _ (N / 64 % 64) (dv_b64 _ (by omega)), if_pos (by decide)]
    rw [und_step 6 b64L _ _ _ _ (N % 64) (dv_b64 _ (by omega)), if_pos (by decide)]
    simp only [Nat.reduceAdd, Nat.reduceSub, Nat.reducePow, Nat.pow_zero, Nat.mod_one, Nat.div_one, Nat.zero_mul, Nat.zero_add]
    rw [ih]
    refine List.cons_eq_cons.2 ⟨?_, List.cons_eq_cons.2 ⟨?_, List.cons_eq_cons.2 ⟨?_, rfl⟩⟩⟩
    · apply ofNat_eq; omega
    · apply ofNat_eq; omega
    · apply ofNat_eq; omega
theorem undX_back (b : List UInt8) : undX (bs (hexS b)) = b := by
  have : (bs (hexS b)).data.toList = hexS b := rfl
  unfold undX
  rw [this, undX_hex]
theorem undB_back (b : List UInt8) : undB (bs (b64S b)) = b := by
  have : (bs (b64S b)).data.toList = b64S b := rfl
  unfold undB
  rw [this]
  unfold b64S
  exact undB_b64 b _
end Go.Proofs.Ytjgebpgdiinmbaa
