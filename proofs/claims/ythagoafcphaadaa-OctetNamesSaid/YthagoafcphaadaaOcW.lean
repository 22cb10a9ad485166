/-
  THE WALK over layer 8: the program's lengthOf.
-/
import Derived.Test.YthagoafcphaadaaOcV
namespace Go.Proofs.Ythagoafcphaadaa
open Go.RowKit Sha Oc
set_option linter.unusedVariables false
set_option linter.unusedSimpArgs false
theorem lenb_nb (n : Nat) (h1 : 128 ≤ n) (h2 : n < 16777216) : lenb n = UInt8.ofNat (128 + (nb n).length) :: nb n := by
  have hn : n ≠ 0 := by omega
  unfold lenb
  rw [if_neg (by omega)]
  by_cases h3 : n < 256
  · rw [if_pos h3, nb_pos n hn, show n / 256 = 0 by omega, nb_zero, show n % 256 = n by omega]
    rfl
  · rw [if_neg h3]
    by_cases h4 : n < 65536
    · rw [if_pos h4, nb_pos n hn, nb_pos (n / 256) (by omega), show n / 256 / 256 = 0 by omega, nb_zero, show n / 256 % 256 = n / 256 by omega]
      rfl
    · rw [if_neg h4, nb_pos n hn, nb_pos (n / 256) (by omega), nb_pos (n / 256 / 256) (by omega), show n / 256 / 256 / 256 = 0 by omega, nb_zero, show n / 256 / 256 % 256 = n / 65536 by omega]
      rfl
set_option maxRecDepth 100000 in
set_option maxHeartbeats 4000000 in
theorem lengthof_any (n : Nat) (hn : n < 16777216) (w : World) : Calls Try.prog 28 #[.int .u64 (n : Int)] w (fun e w' => ∃ v, e = .returned v ∧ w'.ownsRow w.heap.size 5 1 v (lenb n).length (bvals (lenb n)) ∧ Below w.heap.size w w') := by
  by_cases h1 : n < 128
  · have h1i : (n : Int) < 128 := by omega
    have hl : lenb n = [UInt8.ofNat n] := by unfold lenb; rw [if_pos h1]
    rw [hl]
    clear hl
    go_enter Try.func28, Try.ntmps28
    go_wp2_with fail
    go_ret
    refine ⟨_, rfl, ?_, below_new w _⟩
    refine ⟨rfl, .inr ⟨w.heap.size, 1, _, rfl, Nat.le_refl _, heap_alloc_new w _, Nat.le_refl _, by decide, rfl, ?_⟩⟩
    simp [bvals]
    all_goals omega
  · have h1i : ¬ (n : Int) < 128 := by omega
    have hx : n < 256 ^ 8 := Nat.lt_trans hn (by decide)
    have hcall := bytesof_any 8 n hx (Nat.le_refl _) w
    unfold NbPost at hcall
    have HC := Lib.hid hcall
    have hlb := lenb_nb n (by omega) hn
    have hnl := nb_len 8 n hx
    obtain ⟨m, hm⟩ : ∃ m, (nb n).length = m := ⟨_, rfl⟩
    rw [hm] at hnl hlb
    have HLB := Lib.hid hlb
    have HM := Lib.hid hm
    have HM8 := Lib.hid hnl
    clear hcall hlb h1 hn hx hm
    go_enter Try.func28, Try.ntmps28
    go_wp2_with fail
    refine (HC.out).mono ?_
    rintro e w1 ⟨v, rfl, hown, hb1⟩
    obtain ⟨A, c, rfl, hc, hcn, hs, hw⟩ := own_rd3 hown
    rw [HM.out]
    have HB1 := Lib.hid hb1
    have HCN := Lib.hid hcn
    have HS := Lib.hid hs
    have HSZ := Lib.hid hb1.size
    clear hown hb1 hc hcn hs hw
    have hown1 : ∀ z : Value, (w1.alloc (.cells #[z] 5)).ownsRow w.heap.size 5 1 (.slice (some ⟨w1.heap.size, 0, none⟩) 1 1) 1 [z] := fun z => ⟨rfl, .inr ⟨w1.heap.size, 1, _, rfl, HSZ.out, heap_alloc_new w1 _, Nat.le_refl _, by decide, rfl, rfl⟩⟩
    have HO1 := Lib.hid hown1
    clear hown1
    go_wp2_with (at_builtin; refine append_src rfl (.tmp 15) (.tmp 16) rfl w.heap.size _ _ _ rfl (HO1.out _) A (nb n) c m HM.out rfl HCN.out (HS.out.on (below_new w1 _)) (by omega) (by have := HSZ.out; simp; omega) ?_; intro v5 w5 hown5 hgrow5; have HO5 := Lib.hid hown5; have HG5 := Lib.hid hgrow5; clear hown5 hgrow5)
    go_ret
    refine ⟨_, rfl, ?_, (HB1.out.alloc HSZ.out _).grown HG5.out (by have := HSZ.out; simp; omega) (fun j hj => by have := Option.some.inj (show some w1.heap.size = some j from hj); have := HSZ.out; omega)⟩
    have h9 := HO5.out
    have hl : (lenb n).length = 1 + m := by rw [HLB.out, List.length_cons, HM.out]; omega
    rw [hl, HLB.out]
    have hv : bvals (UInt8.ofNat (128 + m) :: nb n) = [Value.int .u8 ((128 + (m : Int)))] ++ bvals (nb n) := by
      have := HM8.out
      simp [bvals]
      omega
    rw [hv]
    exact h9
end Go.Proofs.Ythagoafcphaadaa
