/-
  THE WALKS over layer 8: Great, numberOf.
-/
import Derived.Test.YthagoafcphaadaaOcE
import Derived.Laws.Bits64b
namespace Go.Proofs.Ythagoafcphaadaa
open Go.RowKit Sha Oc
set_option linter.unusedVariables false
set_option linter.unusedSimpArgs false
/-- are these the bytes of a number? -/
def okN (b : List UInt8) : Bool := decide (b.length ≤ 8) && (match b with | [] => true | x :: _ => x != 0)
def numN (b : List UInt8) : Nat := if okN b then vl b else 0
theorem vl_take (b : List UInt8) (k : Nat) (h : k < b.length) : vl (b.take (k + 1)) = 256 * vl (b.take k) + (b.getD k 0).toNat := by
  rw [take_snoc8 b k h, vl_snoc]
theorem vl_bound (b : List UInt8) (k : Nat) (h : k < 8) (hl : k ≤ b.length) : vl (b.take k) < 72057594037927936 := by
  have h1 := vl_lt k (b.take k) (by rw [List.length_take]; omega)
  have h2 : (256 : Nat) ^ k ≤ 256 ^ 7 := Nat.pow_le_pow_right (by decide) (by omega)
  have h3 : (256 : Nat) ^ 7 = 72057594037927936 := by decide
  omega
theorem or_byte (v : Nat) (y : UInt8) (hv : v < 72057594037927936) : bits .or .u64 ((v : Int) * 256) (y.toNat : Int) = ((256 * v + y.toNat : Nat) : Int) := by
  have hy := y.toNat_lt
  rw [show (v : Int) * 256 = ((256 * v : Nat) : Int) by omega, bits_or_u64_nat _ _ (by omega) (by omega)]
  congr 1
  have h := Nat.two_pow_add_eq_or_of_lt (i := 8) (b := y.toNat) (by omega) v
  exact h.symm
set_option maxRecDepth 100000 in
set_option maxHeartbeats 2000000 in
theorem number_any (b : List UInt8) (A : Option Addr) (c : Nat) (hbm : b.length ≤ 140737488355328) (w : World) (hs : SrcAt A b w) :
    Calls Try.prog 22 #[.slice A b.length c] w fun e w' => e = .returned (.tuple #[.int .u64 (numN b : Int), .bool (okN b)]) ∧ w = w' := by
  by_cases h8 : 8 < b.length
  · have e1 : okN b = false := by unfold okN; rw [show decide (b.length ≤ 8) = false by simp; omega]; rfl
    have e2 : numN b = 0 := by unfold numN; rw [e1]; rfl
    rw [e1, e2]
    obtain ⟨n, hn⟩ : ∃ n, b.length = n := ⟨_, rfl⟩
    rw [hn] at h8 hbm ⊢
    have h8i : (8 : Int) < (n : Int) := by omega
    clear e1 e2 hn hs h8
    go_enter Try.func22, Try.ntmps22
    go_wp2_with fail
    go_ret2
    exact ⟨rfl, rfl⟩
  · have h8i : ¬ (8 : Int) < (b.length : Int) := by omega
    have main : ∀ (hok : okN b = true) (hne : b ≠ [] → ∃ g off, A = some ⟨g, off, none⟩ ∧ (∀ j x, b[j]? = some x → w.cell? ⟨g, off + j, none⟩ = some (.int .u8 (x.toNat : Int))) ∧ ((((b.getD 0 0).toNat : Nat) : Int) == 0) = false), Calls Try.prog 22 #[.slice A b.length c] w fun e w' => e = .returned (.tuple #[.int .u64 (numN b : Int), .bool (okN b)]) ∧ w = w' := fun hok hne => by
      have e2 : numN b = vl b := by unfold numN; rw [hok]; rfl
      rw [hok, e2]
      have HNE := Lib.hid hne
      obtain ⟨n, hn⟩ : ∃ n, b.length = n := ⟨_, rfl⟩
      have HN := Lib.hid hn
      rw [hn] at h8 h8i ⊢
      have hn8 : n ≤ 8 := by omega
      have HN8 := Lib.hid hn8
      clear hbm hs hok hne e2 hn h8
      by_cases h0 : n = 0
      · subst h0
        have hb0 : b = [] := List.length_eq_zero_iff.1 HN.out
        have hv : vl b = 0 := by rw [hb0]; rfl
        rw [hv]
        clear hb0 hv hn8 h8i
        go_enter Try.func22, Try.ntmps22
        go_wp2_with fail
        go_loop [4, 6, 23] (fun x _ i => x = .int .u64 0 ∧ i = .int .i64 0) (fun _ _ _ => 0)
        case atStart => exact ⟨rfl, rfl⟩
        case round =>
          obtain ⟨rfl, rfl⟩ := hrel
          go_wp2_with fail
          go_ret2
          exact ⟨rfl, rfl⟩
      · obtain ⟨g, off, rfl, hcell, h00⟩ := HNE.out (fun e => by have := HN.out; rw [e] at this; exact h0 this.symm)
        have hc0 : w.cell? ⟨g, off, none⟩ = some (.int .u8 ((b.getD 0 0).toNat : Int)) := by
          have h1 : b[0]? = some (b.getD 0 0) := by rw [List.getD_eq_getElem?_getD, List.getElem?_eq_getElem (by rw [HN.out]; omega)]; rfl
          exact hcell 0 _ h1
        have HCELL := Lib.hid hcell
        have h0i : (0 : Int) < (n : Int) := by omega
        have HE : RowKit.Hid (vl (b.take n) = vl b) := Lib.hid (by rw [List.take_of_length_le (by rw [HN.out]; exact Nat.le_refl _)])
        have HV0 : RowKit.Hid (vl (b.take 0) = 0) := Lib.hid rfl
        obtain ⟨c0, hc00⟩ : ∃ c0 : Int, ((b.getD 0 0).toNat : Int) = c0 := ⟨_, rfl⟩
        rw [hc00] at hc0 h00
        have hn0 : 0 < n := by omega
        clear hcell hc00
        go_enter Try.func22, Try.ntmps22
        go_wp2_with fail
        clear hc0 h00
        go_loop [4, 6, 23] (fun x _ i => ∃ k : Nat, k ≤ n ∧ i = .int .i64 (k : Int) ∧ x = .int .u64 (vl (b.take k) : Int)) (fun _ _ i => n - (intOf i).toNat)
        case atStart => exact ⟨0, by omega, rfl, by rw [HV0.out]; rfl⟩
        case round =>
          obtain ⟨k, hk, rfl, rfl⟩ := hrel
          by_cases hlt : k < n
          · have hki : (k : Int) < (n : Int) := by omega
            have hck : w.cell? ⟨g, off + k, none⟩ = some (.int .u8 ((b.getD k 0).toNat : Int)) := by
              have h1 : b[k]? = some (b.getD k 0) := by rw [List.getD_eq_getElem?_getD, List.getElem?_eq_getElem (by rw [HN.out]; exact hlt)]; rfl
              exact HCELL.out k _ h1
            have HS := Lib.hid (vl_take b k (by rw [HN.out]; exact hlt))
            have hvb := vl_bound b k (by have := HN8.out; omega) (by rw [HN.out]; omega)
            obtain ⟨v, hv⟩ : ∃ v, vl (b.take k) = v := ⟨_, rfl⟩
            obtain ⟨y, hy⟩ : ∃ y : UInt8, b.getD k 0 = y := ⟨_, rfl⟩
            rw [hv] at hvb ⊢
            rw [hy] at hck
            have hyb := y.toNat_lt
            have HV := Lib.hid hv
            have HY := Lib.hid hy
            clear hv hy
            go_wp2_with fail
            refine ⟨⟨k + 1, by omega, by go_num, ?_⟩, by simp [intOf]; omega⟩
            rw [or_byte v y hvb, HS.out, HV.out, HY.out]
          · have hkk : k = n := by omega
            subst hkk
            have hge : ¬ (k : Int) < (k : Int) := by omega
            rw [HE.out]
            go_wp2_with fail
            go_ret2
            exact ⟨rfl, rfl⟩
    cases hb : b with
    | nil =>
      subst hb
      exact main rfl (fun h => absurd rfl h)
    | cons x r =>
      rw [← hb]
      have hne : b ≠ [] := by rw [hb]; simp
      obtain ⟨g, off, rfl, hcell⟩ := hs hne
      by_cases hx : x = 0
      · have e1 : okN b = false := by unfold okN; rw [hb, hx]; simp
        have e2 : numN b = 0 := by unfold numN; rw [e1]; rfl
        rw [e1, e2]
        have hc0 : w.cell? ⟨g, off, none⟩ = some (.int .u8 0) := by
          have h1 := hcell 0 x (by rw [hb]; rfl)
          rw [hx] at h1
          exact h1
        obtain ⟨n, hn⟩ : ∃ n, b.length = n := ⟨_, rfl⟩
        have hn0 : 0 < n := by rw [← hn, hb]; simp
        rw [hn] at h8 h8i hbm ⊢
        have h0i : (0 : Int) < (n : Int) := by omega
        clear main e1 e2 hb hs hcell hne hx hn h8
        go_enter Try.func22, Try.ntmps22
        go_wp2_with fail
        go_ret2
        exact ⟨rfl, rfl⟩
      · refine main ?_ (fun _ => ⟨g, off, rfl, hcell, ?_⟩)
        · unfold okN
          rw [hb]
          have h1 : ((x :: r).length ≤ 8) := by rw [← hb]; omega
          simp [hx]
          simpa using h1
        · rw [hb]
          show ((((x.toNat) : Nat) : Int) == 0) = false
          have h1 : x.toNat ≠ 0 := fun e => hx (UInt8.toNat_inj.1 e)
          simp
          omega
end Go.Proofs.Ythagoafcphaadaa
