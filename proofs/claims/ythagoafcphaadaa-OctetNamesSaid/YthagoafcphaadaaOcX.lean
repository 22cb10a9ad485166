/-
  THE WALKS over layer 8: the program's contentSize and size. Written by wip/gen-oc15.py.
-/
import Derived.Test.YthagoafcphaadaaOcW
namespace Go.Proofs.Ythagoafcphaadaa
open Go.RowKit Sha Oc
set_option linter.unusedVariables false
set_option linter.unusedSimpArgs false
set_option maxRecDepth 100000 in
set_option maxHeartbeats 4000000 in
theorem csize_of (t : UInt8) (b : List UInt8) (l : List Oct) (hcn : cnt (.mk t b l) ≤ 5000) (htt : tot (.mk t b l) ≤ 400000) (hW : ∀ (k : Nat) (o : Oct), l[k]? = some o → ∀ (V : World) (x y : Value), At (fun _ => True) V o x y → Calls Try.prog 17 #[.agg (cell3 o x y)] V (fun e w' => e = .returned (.int .u64 (siz o : Int)) ∧ Below V.heap.size V w'))
    (w : World) (x y : Value) (hat : At (fun _ => True) w (.mk t b l) x y) : Calls Try.prog 29 #[.agg (cell3 (.mk t b l) x y)] w (fun e w' => e = .returned (.int .u64 ((b.length + sizs l : Nat) : Int)) ∧ Below w.heap.size w w') := by
  obtain ⟨A, c, B, d, g, off, vb, vl, rfl, rfl, hc, hbm, hcn0, hs, hd, hdn, he⟩ := hat.els
  show Calls Try.prog 29 #[.agg #[.int .u8 (t.toNat : Int), .slice A b.length c, .slice B l.length d]] w _
  obtain ⟨n, hn⟩ : ∃ n, l.length = n := ⟨_, rfl⟩
  have hll := len_cnts l
  rw [cnt] at hcn
  rw [tot] at htt
  obtain ⟨m, hm⟩ : ∃ m, b.length = m := ⟨_, rfl⟩
  obtain ⟨AC, hAC⟩ : ∃ AC : Nat → Nat, ∀ k, m + sizs (l.take k) = AC k := ⟨_, fun _ => rfl⟩
  have hA0 : AC 0 = m := by rw [← hAC, List.take_zero, sizs]; omega
  have hAs : ∀ k o, l[k]? = some o → AC (k + 1) = AC k + siz o := fun k o hk => by rw [← hAC, ← hAC, List.take_add_one, hk]; show m + sizs (l.take k ++ [o]) = _; rw [sizs_snoc]; omega
  have hAb : ∀ k, AC k ≤ 1000000 := fun k => by
    rw [← hAC]
    have h1 := sizs_le (l.take k)
    have h2 := cnts_take l k
    have h3 := tots_take l k
    omega
  have hAe : b.length + sizs l = AC n := by rw [← hAC, List.take_of_length_le (by omega), hm]
  have hn5 : n ≤ 5000 := by omega
  rw [hn, hm]
  have HWW := Lib.hid hW
  have HE := Lib.hid he
  have HN := Lib.hid hn
  have HA0 := Lib.hid hA0
  have HAS := Lib.hid hAs
  have HAB := Lib.hid hAb
  have HAE := Lib.hid hAe
  have HN5 := Lib.hid hn5
  have HMM := Lib.hid hm
  have HWR : RowKit.Hid (IntKind.u64.wrap (m : Int) = (m : Int)) := Lib.hid (by simp [IntKind.wrap, IntKind.signed, IntKind.bits]; omega)
  have HROW := Lib.hid (heap_alloc_new w (.cells #[.int .u8 (t.toNat : Int), .slice A m c, .slice B n d] 28))
  have HB0 := Lib.hid (below_new w (.cells #[.int .u8 (t.toNat : Int), .slice A m c, .slice B n d] 28))
  clear hW he hn hAs hAb hAe hAC hat hs hc hbm hcn0 hd hdn hll hcn htt hA0 hn5 hm
  go_enter Try.func29, Try.ntmps29
  go_upto_region 1 with (fail)
  generalize hV : World.alloc w _ = V at HROW HB0 ⊢
  clear hV
  have hlt := (Array.getElem?_eq_some_iff.1 HROW.out).1
  obtain ⟨_, hc0, hc1, hc2⟩ := facts3 HROW.out
  go_wp2_with fail
  clear hlt hc0 hc1 hc2
  go_loopw [3, 5, 13] (fun aa _ ix wr => ∃ k : Nat, k ≤ n ∧ ix = .int .i64 (k : Int) ∧ aa = .int .u64 (AC k : Int) ∧ RowKit.Hid (Below V.heap.size V wr)) (fun _ _ ix _ => n - (intOf ix).toNat)
  case atStart => exact ⟨0, by omega, rfl, by rw [HA0.out]; first | rfl | (rw [HWR.out]), Lib.hid (Below.refl _ _)⟩
  case round =>
    obtain ⟨k, hk, rfl, rfl, HBW⟩ := hrel
    have HR := Lib.hid (row_on HROW.out HBW.out)
    have hlt0 := (Array.getElem?_eq_some_iff.1 HR.out).1
    have hq2 := (facts3 HR.out).2.2.2
    by_cases hlt : k < n
    · have hki : (k : Int) < (n : Int) := by omega
      have hn5 := HN5.out
      obtain ⟨o, ho⟩ : ∃ o, l[k]? = some o := ⟨_, List.getElem?_eq_getElem (by rw [HN.out]; exact hlt)⟩
      have hne : l ≠ [] := fun e => by rw [e] at ho; simp at ho
      have hBB := HE.out.hB hne
      subst hBB
      have hew := HE.out.on (chain HB0.out HBW.out)
      have hc0 := hew.h0 k o ho
      have hc1 := hew.h1 k o ho
      have hc2 := hew.h2 k o ho
      have hat := hew.hr k o ho
      obtain ⟨A1, m1, c1, B1, n1, d1, e1, e2⟩ := hat.slices
      rw [e1] at hc1 hat
      rw [e2] at hc2 hat
      have HCALL := Lib.hid (fun (V : World) (hb : Below wr.heap.size wr V) => HWW.out k o ho V _ _ (hat.on hb))
      have HAK := Lib.hid (HAS.out k o ho)
      have HA1 := HAB.out (k + 1)
      have HAK0 := HAB.out k
      have hak := HAK.out
      clear hne hew hat ho e1 e2
      go_wp2_with fail
      refine (HCALL.out _ (below_new _ _)).mono ?_
      rintro e w2 ⟨rfl, hb2⟩
      have HB2 := Lib.hid (chain (chain HBW.out (below_new _ _)) hb2)
      clear hc0 hc1 hc2 hq2 hlt0 hb2
      go_wp2_with fail
      exact ⟨⟨k + 1, by omega, by go_num, by rw [HAK.out]; first | rfl | (congr 1; omega) | (congr 1; simp; omega), HB2⟩, by simp [intOf]; omega⟩
    · have hkk : k = n := by omega
      subst hkk
      have hge : ¬ (k : Int) < (k : Int) := by omega
      have HAK0 := HAB.out k
      go_wp2_with fail
      go_ret
      refine ⟨?_, chain HB0.out HBW.out⟩
      show Ending.returned (Value.int .u64 (AC k : Int)) = _
      have h9 := HAE.out
      rw [← h9, HMM.out, Int.natCast_add]
set_option maxRecDepth 100000 in
set_option maxHeartbeats 4000000 in
theorem psize_of (o : Oct) (hcn : cnt o ≤ 5000) (htt : tot o ≤ 400000) (hC : ∀ (V : World) (x y : Value), At (fun _ => True) V o x y → Calls Try.prog 29 #[.agg (cell3 o x y)] V (fun e w' => e = .returned (.int .u64 (((bytO o).length + sizs (kids o) : Nat) : Int)) ∧ Below V.heap.size V w'))
    (w : World) (x y : Value) (hat : At (fun _ => True) w o x y) : Calls Try.prog 17 #[.agg (cell3 o x y)] w (fun e w' => e = .returned (.int .u64 (siz o : Int)) ∧ Below w.heap.size w w') := by
  obtain ⟨t, b, l⟩ := o
  have hb := siz_le (.mk t b l)
  obtain ⟨A1, m1, c1, B1, n1, d1, rfl, rfl⟩ := hat.slices
  have hs : siz (.mk t b l) = 1 + (lenb (b.length + sizs l)).length + (b.length + sizs l) := by rw [siz]
  obtain ⟨Z, hZ⟩ : ∃ Z, b.length + sizs l = Z := ⟨_, rfl⟩
  have hC2 : ∀ V : World, Below w.heap.size w V → Calls Try.prog 29 #[.agg #[.int .u8 (t.toNat : Int), .slice A1 m1 c1, .slice B1 n1 d1]] V (fun e w' => e = .returned (.int .u64 (Z : Int)) ∧ Below V.heap.size V w') := fun V hb => by rw [← hZ]; exact hC V _ _ (hat.on hb)
  rw [hZ] at hs
  have hz : Z ≤ 1000000 := by omega
  have HC := Lib.hid hC2
  have HS := Lib.hid hs
  have HLB := Lib.hid (lenb_le Z)
  have HLN := Lib.hid (fun V => lengthof_any Z (by omega) V)
  show Calls Try.prog 17 #[.agg #[.int .u8 (t.toNat : Int), .slice A1 m1 c1, .slice B1 n1 d1]] w _
  clear hC hC2 hs hZ hb hat hcn htt
  go_enter Try.func17, Try.ntmps17
  go_wp2_with fail
  refine (HC.out _ (below_new w _)).mono ?_
  rintro e w1 ⟨rfl, hb1⟩
  have HB1 := Lib.hid (chain (below_new w _) hb1)
  clear hb1
  go_wp2_with fail
  refine (HLN.out w1).mono ?_
  rintro e w2 ⟨v, rfl, hown, hb2⟩
  obtain ⟨A9, c9, rfl, _, _, _, _⟩ := own_rd3 hown
  have HB2 := Lib.hid (chain HB1.out hb2)
  have hlb := HLB.out
  clear hown hb2
  go_wp2_with fail
  go_ret
  exact ⟨by rw [HS.out]; first | rfl | (congr 2; omega), HB2.out⟩
theorem psize_all : ∀ (n : Nat) (o : Oct), cnt o ≤ n → n ≤ 5000 → tot o ≤ 400000 → ∀ (V : World) (x y : Value), At (fun _ => True) V o x y → Calls Try.prog 17 #[.agg (cell3 o x y)] V (fun e w' => e = .returned (.int .u64 (siz o : Int)) ∧ Below V.heap.size V w') := fun n => by
  induction n with
  | zero => intro o h; have := cnt_pos o; omega
  | succ n ih =>
    intro o h hn ht V x y hat
    cases o with
    | mk t b l =>
      exact psize_of (.mk t b l) (by omega) ht (fun V x y hat => csize_of t b l (by omega) ht (fun k o ho V x y hat => ih o (by rw [cnt] at h; have := cnt_le l o (List.mem_of_getElem? ho); omega) (by omega) (by rw [tot] at ht; have := tot_le l o (List.mem_of_getElem? ho); omega) V x y hat) V x y hat) V x y hat
end Go.Proofs.Ythagoafcphaadaa
