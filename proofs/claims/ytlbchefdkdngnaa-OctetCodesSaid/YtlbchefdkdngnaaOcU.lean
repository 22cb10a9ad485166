/-
  THE WALK over layer 8's reference: size. Written by wip/gen-oc13.py.
-/
import Derived.Test.YtlbchefdkdngnaaOcT
namespace Go.Proofs.Ytlbchefdkdngnaa
open Go.RowKit Sha Oc
set_option linter.unusedVariables false
set_option linter.unusedSimpArgs false
theorem lenb_le (n : Nat) : (lenb n).length ≤ 4 := by
  unfold lenb
  split
  · exact (by decide : 1 ≤ 4)
  · split
    · exact (by decide : 2 ≤ 4)
    · split
      · exact (by decide : 3 ≤ 4)
      · exact (by decide : 4 ≤ 4)
mutual
theorem siz_le : ∀ o : Oct, siz o ≤ tot o + 5 * cnt o
  | .mk t b l => by
    have h1 := sizs_le l
    have h2 := lenb_le (b.length + sizs l)
    rw [siz, tot, cnt]
    omega
theorem sizs_le : ∀ l : List Oct, sizs l ≤ tots l + 5 * cnts l
  | [] => by rw [sizs]; exact Nat.zero_le _
  | v :: r => by
    have h1 := siz_le v
    have h2 := sizs_le r
    rw [sizs, tots, cnts]
    omega
end
theorem sizs_snoc : ∀ (l : List Oct) (o : Oct), sizs (l ++ [o]) = sizs l + siz o
  | [], o => by rw [List.nil_append, sizs, sizs, sizs]; omega
  | x :: r, o => by rw [List.cons_append, sizs, sizs_snoc r o, sizs]; omega
theorem tots_take : ∀ (l : List Oct) (k : Nat), tots (l.take k) ≤ tots l
  | [], k => by rw [List.take_nil]; exact Nat.le_refl _
  | v :: r, 0 => by rw [List.take_zero, tots]; exact Nat.zero_le _
  | v :: r, k + 1 => by rw [List.take_succ_cons, tots, tots]; have := tots_take r k; omega
set_option maxRecDepth 100000 in
set_option maxHeartbeats 4000000 in
theorem size_of (t : UInt8) (b : List UInt8) (l : List Oct) (hcn : cnt (.mk t b l) ≤ 100000) (htt : tot (.mk t b l) ≤ 200000) (hW : ∀ (k : Nat) (o : Oct), l[k]? = some o → ∀ (V : World) (x y : Value), At (fun _ => True) V o x y → Calls Try.prog 56 #[.agg (cell3 o x y)] V (fun e w' => e = .returned (.int .i64 (siz o : Int)) ∧ Below V.heap.size V w'))
    (w : World) (x y : Value) (hat : At (fun _ => True) w (.mk t b l) x y) : Calls Try.prog 56 #[.agg (cell3 (.mk t b l) x y)] w (fun e w' => e = .returned (.int .i64 (siz (.mk t b l) : Int)) ∧ Below w.heap.size w w') := by
  obtain ⟨A, c, B, d, g, off, vb, vl, rfl, rfl, hc, hbm, hcn0, hs, hd, hdn, he⟩ := hat.els
  show Calls Try.prog 56 #[.agg #[.int .u8 (t.toNat : Int), .slice A b.length c, .slice B l.length d]] w _
  obtain ⟨n, hn⟩ : ∃ n, l.length = n := ⟨_, rfl⟩
  have hll := len_cnts l
  rw [cnt] at hcn
  rw [tot] at htt
  obtain ⟨m, hm⟩ : ∃ m, b.length = m := ⟨_, rfl⟩
  obtain ⟨AC, hAC⟩ : ∃ AC : Nat → Nat, ∀ k, m + sizs (l.take k) = AC k := ⟨_, fun _ => rfl⟩
  have hA0 : AC 0 = m := by rw [← hAC, List.take_zero, sizs]; omega
  have hAs : ∀ k o, l[k]? = some o → AC (k + 1) = AC k + siz o := fun k o hk => by rw [← hAC, ← hAC, List.take_add_one, hk]; show m + sizs (l.take k ++ [o]) = _; rw [sizs_snoc]; omega
  have hAb : ∀ k, AC k ≤ 1000000 := fun k => by
    rw [← hAC]
    have h1 := sizs_le (l.take k)
    have h2 := cnts_take l k
    have h3 := tots_take l k
    omega
  have hAe : siz (.mk t b l) = 1 + (lenb (AC n)).length + AC n := by rw [siz, ← hAC, List.take_of_length_le (by omega), hm]
  have hn5 : n ≤ 100000 := by omega
  rw [hn, hm]
  have HWW := Lib.hid hW
  have HE := Lib.hid he
  have HN := Lib.hid hn
  have HA0 := Lib.hid hA0
  have HAS := Lib.hid hAs
  have HAB := Lib.hid hAb
  have HAE := Lib.hid hAe
  have HN5 := Lib.hid hn5
  have HROW := Lib.hid (heap_alloc_new w (.cells #[.int .u8 (t.toNat : Int), .slice A m c, .slice B n d] 28))
  have HB0 := Lib.hid (below_new w (.cells #[.int .u8 (t.toNat : Int), .slice A m c, .slice B n d] 28))
  clear hW he hn hAs hAb hAe hAC hat hs hc hbm hcn0 hd hdn hll hcn htt hA0 hn5 hm
  go_enter Try.func56, Try.ntmps56
  go_upto_region 1 with (fail)
  generalize hV : World.alloc w _ = V at HROW HB0 ⊢
  clear hV
  have hlt := (Array.getElem?_eq_some_iff.1 HROW.out).1
  obtain ⟨_, hc0, hc1, hc2⟩ := facts3 HROW.out
  go_wp2_with fail
  clear hlt hc0 hc1 hc2
  go_loopw [3, 4] (fun aa ix wr => ∃ k : Nat, k ≤ n ∧ ix = .int .i64 (k : Int) ∧ aa = .int .i64 (AC k : Int) ∧ RowKit.Hid (Below V.heap.size V wr)) (fun _ ix _ => n - (intOf ix).toNat)
  case atStart => exact ⟨0, by omega, rfl, by rw [HA0.out], Lib.hid (Below.refl _ _)⟩
  case round =>
    obtain ⟨k, hk, rfl, rfl, HBW⟩ := hrel
    have HR := Lib.hid (row_on HROW.out HBW.out)
    have hlt0 := (Array.getElem?_eq_some_iff.1 HR.out).1
    have hq2 := (facts3 HR.out).2.2.2
    by_cases hlt : k < n
    · have hki : (k : Int) < (n : Int) := by omega
      have hn5 := HN5.out
      obtain ⟨o, ho⟩ : ∃ o, l[k]? = some o := ⟨_, List.getElem?_eq_getElem (by rw [HN.out]; exact hlt)⟩
      have hne : l ≠ [] := fun e => by rw [e] at ho; simp at ho
      have hBB := HE.out.hB hne
      subst hBB
      have hew := HE.out.on (chain HB0.out HBW.out)
      have hc0 := hew.h0 k o ho
      have hc1 := hew.h1 k o ho
      have hc2 := hew.h2 k o ho
      have hat := hew.hr k o ho
      obtain ⟨A1, m1, c1, B1, n1, d1, e1, e2⟩ := hat.slices
      rw [e1] at hc1 hat
      rw [e2] at hc2 hat
      have HCALL := Lib.hid (HWW.out k o ho wr _ _ hat)
      have HAK := Lib.hid (HAS.out k o ho)
      have HA1 := HAB.out (k + 1)
      have HAK0 := HAB.out k
      have hak := HAK.out
      clear hne hew hat ho e1 e2
      go_wp2_with fail
      refine HCALL.out.mono ?_
      rintro e w2 ⟨rfl, hb2⟩
      have HB2 := Lib.hid (chain HBW.out hb2)
      clear hc0 hc1 hc2 hq2 hlt0 hb2
      go_wp2_with fail
      exact ⟨⟨k + 1, by omega, by go_num, by rw [HAK.out]; first | rfl | (congr 1; omega) | (congr 1; simp; omega), HB2⟩, by simp [intOf]; omega⟩
    · have hkk : k = n := by omega
      subst hkk
      have hge : ¬ (k : Int) < (k : Int) := by omega
      have HAK0 := HAB.out k
      have HCALL := Lib.hid (length_ref (AC k) (by omega) wr)
      have HLB := lenb_le (AC k)
      go_wp2_with fail
      refine HCALL.out.mono ?_
      rintro e w2 ⟨v, rfl, hown, hb2⟩
      obtain ⟨A9, c9, rfl, _, _, _, _⟩ := own_rd3 hown
      have HB2 := Lib.hid (chain HBW.out hb2)
      clear hown hb2
      go_wp2_with fail
      go_ret
      exact ⟨by rw [HAE.out]; first | rfl | (congr 2; omega), chain HB0.out HB2.out⟩
theorem size_all : ∀ (n : Nat) (o : Oct), cnt o ≤ n → n ≤ 100000 → tot o ≤ 200000 → ∀ (V : World) (x y : Value), At (fun _ => True) V o x y → Calls Try.prog 56 #[.agg (cell3 o x y)] V (fun e w' => e = .returned (.int .i64 (siz o : Int)) ∧ Below V.heap.size V w') := fun n => by
  induction n with
  | zero => intro o h; have := cnt_pos o; omega
  | succ n ih =>
    intro o h hn ht V x y hat
    cases o with
    | mk t b l =>
      exact size_of t b l (by omega) ht (fun k o ho V x y hat => ih o (by rw [cnt] at h; have := cnt_le l o (List.mem_of_getElem? ho); omega) (by omega) (by rw [tot] at ht; have := tot_le l o (List.mem_of_getElem? ho); omega) V x y hat) V x y hat
end Go.Proofs.Ytlbchefdkdngnaa
