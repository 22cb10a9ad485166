/-
  THE WALKS over layer 8's reference: Count, Depth. Written by wip/gen-oc10.py.
-/
import Derived.Test.YtlbchefdkdngnaaOcP
namespace Go.Proofs.Ytlbchefdkdngnaa
open Go.RowKit Sha Oc
set_option linter.unusedVariables false
set_option linter.unusedSimpArgs false
theorem cnts_take : ∀ (l : List Oct) (k : Nat), cnts (l.take k) ≤ cnts l
  | [], k => by rw [List.take_nil]; exact Nat.le_refl _
  | v :: r, 0 => by rw [List.take_zero, cnts]; exact Nat.zero_le _
  | v :: r, k + 1 => by rw [List.take_succ_cons, cnts, cnts]; have := cnts_take r k; omega
theorem cnts_self (l : List Oct) : cnts l ≤ cnts l := Nat.le_refl _
mutual
theorem dep_cnt : ∀ o : Oct, dep o ≤ cnt o
  | .mk t b l => by
    have := deps_le l
    rw [dep, cnt]
    omega
theorem deps_le : ∀ l : List Oct, deps l ≤ cnts l
  | [] => Nat.le_refl _
  | v :: r => by
    have h1 := dep_cnt v
    have h2 := deps_le r
    rw [deps, cnts]
    omega
end
set_option maxRecDepth 100000 in
set_option maxHeartbeats 4000000 in
theorem count_ref_of (t : UInt8) (b : List UInt8) (l : List Oct) (hcn : cnt (.mk t b l) ≤ 100000) (hW : ∀ (k : Nat) (o : Oct), l[k]? = some o → ∀ (V : World) (x y : Value), At (fun _ => True) V o x y → Calls Try.prog 53 #[.agg (cell3 o x y)] V (fun e w' => e = .returned (.int .i64 (cnt o : Int)) ∧ Below V.heap.size V w'))
    (w : World) (x y : Value) (hat : At (fun _ => True) w (.mk t b l) x y) : Calls Try.prog 53 #[.agg (cell3 (.mk t b l) x y)] w (fun e w' => e = .returned (.int .i64 (cnt (.mk t b l) : Int)) ∧ Below w.heap.size w w') := by
  obtain ⟨A, c, B, d, g, off, vb, vl, rfl, rfl, hc, hbm, hcn0, hs, hd, hdn, he⟩ := hat.els
  show Calls Try.prog 53 #[.agg #[.int .u8 (t.toNat : Int), .slice A b.length c, .slice B l.length d]] w _
  obtain ⟨n, hn⟩ : ∃ n, l.length = n := ⟨_, rfl⟩
  have hll := len_cnts l
  have hcc := hcn
  rw [cnt] at hcc
  obtain ⟨AC, hAC⟩ : ∃ AC : Nat → Nat, ∀ k, 1 + cnts (l.take k) = AC k := ⟨_, fun _ => rfl⟩
  have hA0 : AC 0 = 1 := by rw [← hAC, List.take_zero]; rfl
  have hAs : ∀ k o, l[k]? = some o → AC (k + 1) = AC k + cnt o := fun k o hk => by rw [← hAC, ← hAC, List.take_add_one, hk]; show 1 + cnts (l.take k ++ [o]) = _; rw [cnts_snoc]; omega
  have hAb : ∀ k, AC k ≤ 100001 := fun k => by
    rw [← hAC]
    have h1 := cnts_self (l.take k)
    have h2 := cnts_take l k
    omega
  have hAe : cnt (.mk t b l) = AC n := by rw [← hAC, List.take_of_length_le (by omega)]; rfl
  have hn5 : n ≤ 100000 := by omega
  rw [hn]
  have HWW := Lib.hid hW
  have HE := Lib.hid he
  have HN := Lib.hid hn
  have HA0 := Lib.hid hA0
  have HAS := Lib.hid hAs
  have HAB := Lib.hid hAb
  have HAE := Lib.hid hAe
  have HN5 := Lib.hid hn5
  have HROW := Lib.hid (heap_alloc_new w (.cells #[.int .u8 (t.toNat : Int), .slice A b.length c, .slice B n d] 28))
  have HB0 := Lib.hid (below_new w (.cells #[.int .u8 (t.toNat : Int), .slice A b.length c, .slice B n d] 28))
  obtain ⟨m, hm⟩ : ∃ m, b.length = m := ⟨_, rfl⟩
  rw [hm] at HROW HB0 ⊢
  clear hW he hn hAs hAb hAe hAC hat hs hc hbm hcn0 hd hdn hll hcc hA0 hn5 hm
  go_enter Try.func53, Try.ntmps53
  go_upto_region 1 with (fail)
  generalize hV : World.alloc w _ = V at HROW HB0 ⊢
  clear hV
  go_wp2_with fail
  go_loopw [3, 4] (fun aa ix wr => ∃ k : Nat, k ≤ n ∧ ix = .int .i64 (k : Int) ∧ aa = .int .i64 (AC k : Int) ∧ RowKit.Hid (Below V.heap.size V wr)) (fun _ ix _ => n - (intOf ix).toNat)
  case atStart => exact ⟨0, by omega, rfl, by rw [HA0.out]; rfl, Lib.hid (Below.refl _ _)⟩
  case round =>
    obtain ⟨k, hk, rfl, rfl, HBW⟩ := hrel
    have HR := Lib.hid (row_on HROW.out HBW.out)
    have hlt0 := (Array.getElem?_eq_some_iff.1 HR.out).1
    have hq2 := (facts3 HR.out).2.2.2
    by_cases hlt : k < n
    · have hki : (k : Int) < (n : Int) := by omega
      have hn5 := HN5.out
      obtain ⟨o, ho⟩ : ∃ o, l[k]? = some o := ⟨_, List.getElem?_eq_getElem (by rw [HN.out]; exact hlt)⟩
      have hne : l ≠ [] := fun e => by rw [e] at ho; simp at ho
      have hBB := HE.out.hB hne
      subst hBB
      have hew := HE.out.on (chain HB0.out HBW.out)
      have hc0 := hew.h0 k o ho
      have hc1 := hew.h1 k o ho
      have hc2 := hew.h2 k o ho
      have hat := hew.hr k o ho
      obtain ⟨A1, m1, c1, B1, n1, d1, e1, e2⟩ := hat.slices
      rw [e1] at hc1 hat
      rw [e2] at hc2 hat
      have HCALL := Lib.hid (HWW.out k o ho wr _ _ hat)
      have HAK := Lib.hid (HAS.out k o ho)
      have HA1 := HAB.out (k + 1)
      have HAK0 := HAB.out k
      have hak := HAK.out
      clear hne hew hat ho e1 e2
      go_wp2_with fail
      refine HCALL.out.mono ?_
      rintro e w2 ⟨rfl, hb2⟩
      have HB2 := Lib.hid (chain HBW.out hb2)
      clear hc0 hc1 hc2 hq2 hlt0 hb2
      go_wp2_with fail
      exact ⟨⟨k + 1, by omega, by go_num, by rw [HAK.out]; first | rfl | (congr 1; omega) | (congr 1; simp; omega), HB2⟩, by simp [intOf]; omega⟩
    · have hkk : k = n := by omega
      subst hkk
      have hge : ¬ (k : Int) < (k : Int) := by omega
      have HAK0 := HAB.out k
      go_wp2_with fail
      go_ret
      exact ⟨by rw [HAE.out]; first | rfl | (congr 2; omega), chain HB0.out HBW.out⟩
theorem count_ref_all : ∀ (n : Nat) (o : Oct), cnt o ≤ n → n ≤ 100000 → ∀ (V : World) (x y : Value), At (fun _ => True) V o x y → Calls Try.prog 53 #[.agg (cell3 o x y)] V (fun e w' => e = .returned (.int .i64 (cnt o : Int)) ∧ Below V.heap.size V w') := fun n => by
  induction n with
  | zero => intro o h; have := cnt_pos o; omega
  | succ n ih =>
    intro o h hn V x y hat
    cases o with
    | mk t b l =>
      exact count_ref_of t b l (by omega) (fun k o ho V x y hat => ih o (by rw [cnt] at h; have := cnt_le l o (List.mem_of_getElem? ho); omega) (by omega) V x y hat) V x y hat
set_option maxRecDepth 100000 in
set_option maxHeartbeats 4000000 in
theorem depth_ref_of (t : UInt8) (b : List UInt8) (l : List Oct) (hcn : cnt (.mk t b l) ≤ 100000) (hW : ∀ (k : Nat) (o : Oct), l[k]? = some o → ∀ (V : World) (x y : Value), At (fun _ => True) V o x y → Calls Try.prog 54 #[.agg (cell3 o x y)] V (fun e w' => e = .returned (.int .i64 (dep o : Int)) ∧ Below V.heap.size V w'))
    (w : World) (x y : Value) (hat : At (fun _ => True) w (.mk t b l) x y) : Calls Try.prog 54 #[.agg (cell3 (.mk t b l) x y)] w (fun e w' => e = .returned (.int .i64 (dep (.mk t b l) : Int)) ∧ Below w.heap.size w w') := by
  obtain ⟨A, c, B, d, g, off, vb, vl, rfl, rfl, hc, hbm, hcn0, hs, hd, hdn, he⟩ := hat.els
  show Calls Try.prog 54 #[.agg #[.int .u8 (t.toNat : Int), .slice A b.length c, .slice B l.length d]] w _
  obtain ⟨n, hn⟩ : ∃ n, l.length = n := ⟨_, rfl⟩
  have hll := len_cnts l
  have hcc := hcn
  rw [cnt] at hcc
  obtain ⟨AC, hAC⟩ : ∃ AC : Nat → Nat, ∀ k, deps (l.take k) = AC k := ⟨_, fun _ => rfl⟩
  have hA0 : AC 0 = 0 := by rw [← hAC, List.take_zero]; rfl
  have hAs : ∀ k o, l[k]? = some o → AC (k + 1) = max (AC k) (dep o) := fun k o hk => by rw [← hAC, ← hAC, List.take_add_one, hk]; exact deps_snoc _ _
  have hAb : ∀ k, AC k ≤ 100001 := fun k => by
    rw [← hAC]
    have h1 := deps_le (l.take k)
    have h2 := cnts_take l k
    omega
  have hAe : dep (.mk t b l) = AC n + 1 := by rw [← hAC, List.take_of_length_le (by omega)]; rfl
  have hn5 : n ≤ 100000 := by omega
  rw [hn]
  have HWW := Lib.hid hW
  have HE := Lib.hid he
  have HN := Lib.hid hn
  have HA0 := Lib.hid hA0
  have HAS := Lib.hid hAs
  have HAB := Lib.hid hAb
  have HAE := Lib.hid hAe
  have HN5 := Lib.hid hn5
  have HROW := Lib.hid (heap_alloc_new w (.cells #[.int .u8 (t.toNat : Int), .slice A b.length c, .slice B n d] 28))
  have HB0 := Lib.hid (below_new w (.cells #[.int .u8 (t.toNat : Int), .slice A b.length c, .slice B n d] 28))
  obtain ⟨m, hm⟩ : ∃ m, b.length = m := ⟨_, rfl⟩
  rw [hm] at HROW HB0 ⊢
  clear hW he hn hAs hAb hAe hAC hat hs hc hbm hcn0 hd hdn hll hcc hA0 hn5 hm
  go_enter Try.func54, Try.ntmps54
  go_upto_region 1 with (fail)
  generalize hV : World.alloc w _ = V at HROW HB0 ⊢
  clear hV
  go_wp2_with fail
  go_loopw [3, 4] (fun aa ix wr => ∃ k : Nat, k ≤ n ∧ ix = .int .i64 (k : Int) ∧ aa = .int .i64 (AC k : Int) ∧ RowKit.Hid (Below V.heap.size V wr)) (fun _ ix _ => n - (intOf ix).toNat)
  case atStart => exact ⟨0, by omega, rfl, by rw [HA0.out]; rfl, Lib.hid (Below.refl _ _)⟩
  case round =>
    obtain ⟨k, hk, rfl, rfl, HBW⟩ := hrel
    have HR := Lib.hid (row_on HROW.out HBW.out)
    have hlt0 := (Array.getElem?_eq_some_iff.1 HR.out).1
    have hq2 := (facts3 HR.out).2.2.2
    by_cases hlt : k < n
    · have hki : (k : Int) < (n : Int) := by omega
      have hn5 := HN5.out
      obtain ⟨o, ho⟩ : ∃ o, l[k]? = some o := ⟨_, List.getElem?_eq_getElem (by rw [HN.out]; exact hlt)⟩
      have hne : l ≠ [] := fun e => by rw [e] at ho; simp at ho
      have hBB := HE.out.hB hne
      subst hBB
      have hew := HE.out.on (chain HB0.out HBW.out)
      have hc0 := hew.h0 k o ho
      have hc1 := hew.h1 k o ho
      have hc2 := hew.h2 k o ho
      have hat := hew.hr k o ho
      obtain ⟨A1, m1, c1, B1, n1, d1, e1, e2⟩ := hat.slices
      rw [e1] at hc1 hat
      rw [e2] at hc2 hat
      have HCALL := Lib.hid (HWW.out k o ho wr _ _ hat)
      have HAK := Lib.hid (HAS.out k o ho)
      have HA1 := HAB.out (k + 1)
      have HAK0 := HAB.out k
      have hak := HAK.out
      clear hne hew hat ho e1 e2
      go_wp2_with fail
      refine HCALL.out.mono ?_
      rintro e w2 ⟨rfl, hb2⟩
      have HB2 := Lib.hid (chain HBW.out hb2)
      clear hc0 hc1 hc2 hq2 hlt0 hb2
      go_wp2_with fail
      exact ⟨⟨k + 1, by omega, by go_num, by rw [HAK.out]; first | rfl | (congr 1; omega) | (congr 1; simp; omega), HB2⟩, by simp [intOf]; omega⟩
    · have hkk : k = n := by omega
      subst hkk
      have hge : ¬ (k : Int) < (k : Int) := by omega
      have HAK0 := HAB.out k
      go_wp2_with fail
      go_ret
      exact ⟨by rw [HAE.out]; first | rfl | (congr 2; omega), chain HB0.out HBW.out⟩
theorem depth_ref_all : ∀ (n : Nat) (o : Oct), cnt o ≤ n → n ≤ 100000 → ∀ (V : World) (x y : Value), At (fun _ => True) V o x y → Calls Try.prog 54 #[.agg (cell3 o x y)] V (fun e w' => e = .returned (.int .i64 (dep o : Int)) ∧ Below V.heap.size V w') := fun n => by
  induction n with
  | zero => intro o h; have := cnt_pos o; omega
  | succ n ih =>
    intro o h hn V x y hat
    cases o with
    | mk t b l =>
      exact depth_ref_of t b l (by omega) (fun k o ho V x y hat => ih o (by rw [cnt] at h; have := cnt_le l o (List.mem_of_getElem? ho); omega) (by omega) V x y hat) V x y hat
end Go.Proofs.Ytlbchefdkdngnaa
