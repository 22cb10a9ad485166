import Derived.Test.YthfgdgcdicacpaaOcKP
namespace Go.Proofs.Ythfgdgcdicacpaa
open Go.RowKit Sha Oc
set_option linter.unusedVariables false
set_option linter.unusedSimpArgs false
theorem cnts_take : ∀ (l : List Oct) (k : Nat), cnts (l.take k) ≤ cnts l
 | [], k => by rw [List.take_nil]; exact Nat.le_refl _
 | v :: r, 0 => by rw [List.take_zero, cnts]; exact Nat.zero_le _
 | v :: r, k + 1 => by rw [List.take_succ_cons, cnts, cnts]; have := cnts_take r k; omega
mutual
theorem dep_cnt : ∀ o : Oct, dep o ≤ cnt o
 | .mk t b l => by
  have := deps_le l
  rw [dep, cnt]
  omega
theorem deps_le : ∀ l : List Oct, deps l ≤ cnts l
 | [] => Nat.le_refl _
 | v :: r => by
  have h1 := dep_cnt v
  have h2 := deps_le r
  rw [deps, cnts]
  omega
end
end Go.Proofs.Ythfgdgcdicacpaa
namespace Go.Proofs.Ythfgdgcdicacpaa
open Go.RowKit Sha Oc
set_option linter.unusedVariables false
set_option linter.unusedSimpArgs false
def okTop (t : UInt8) (m n : Nat) : Bool := decide (t.toNat ≠ 0 ∧ (t.toNat < 128 → n = 0) ∧ (128 ≤ t.toNat → m = 0))
mutual
def shpB : Oct → Bool
 | .mk t b l => okTop t b.length l.length && shpsB l
def shpsB : List Oct → Bool
 | [] => true
 | v :: r => shpB v && shpsB r
end
mutual
theorem shpB_iff : ∀ o : Oct, shpB o = true ↔ shp o
 | .mk t b l => by
  have h1 := shpsB_iff l
  have h2 : t.toNat ≠ 0 ↔ t ≠ 0 := ⟨fun h e => h (by rw [e]; rfl), fun h e => h (UInt8.toNat_inj.1 e)⟩
  rw [shpB, shp, Bool.and_eq_true, h1, okTop, decide_eq_true_eq, List.length_eq_zero_iff, List.length_eq_zero_iff, h2]
  exact ⟨fun ⟨⟨a, b, c⟩, d⟩ => ⟨a, b, c, d⟩, fun ⟨a, b, c, d⟩ => ⟨⟨a, b, c⟩, d⟩⟩
theorem shpsB_iff : ∀ l : List Oct, shpsB l = true ↔ shps l
 | [] => by rw [shpsB, shps]; exact ⟨fun _ => trivial, fun _ => rfl⟩
 | v :: r => by rw [shpsB, shps, Bool.and_eq_true, shpB_iff v, shpsB_iff r]
end
end Go.Proofs.Ythfgdgcdicacpaa
namespace Go.Proofs.Ythfgdgcdicacpaa
open Go.RowKit Sha Oc
set_option linter.unusedVariables false
set_option linter.unusedSimpArgs false
end Go.Proofs.Ythfgdgcdicacpaa
namespace Go.Proofs.Ythfgdgcdicacpaa
open Go.RowKit Sha Oc
set_option linter.unusedVariables false
set_option linter.unusedSimpArgs false
theorem lenb_le (n : Nat) : (lenb n).length ≤ 4 := by
 unfold lenb
 split
 ·
  exact (by decide : 1 ≤ 4)
 ·
  split
  ·
   exact (by decide : 2 ≤ 4)
  ·
   split
   ·
    exact (by decide : 3 ≤ 4)
   ·
    exact (by decide : 4 ≤ 4)
mutual
theorem siz_le : ∀ o : Oct, siz o ≤ tot o + 5 * cnt o
 | .mk t b l => by
  have h1 := sizs_le l
  have h2 := lenb_le (b.length + sizs l)
  rw [siz, tot, cnt]
  omega
theorem sizs_le : ∀ l : List Oct, sizs l ≤ tots l + 5 * cnts l
 | [] => by rw [sizs]; exact Nat.zero_le _
 | v :: r => by
  have h1 := siz_le v
  have h2 := sizs_le r
  rw [sizs, tots, cnts]
  omega
end
theorem sizs_snoc : ∀ (l : List Oct) (o : Oct), sizs (l ++ [o]) = sizs l + siz o
 | [], o => by rw [List.nil_append, sizs, sizs, sizs]; omega
 | x :: r, o => by rw [List.cons_append, sizs, sizs_snoc r o, sizs]; omega
theorem tots_take : ∀ (l : List Oct) (k : Nat), tots (l.take k) ≤ tots l
 | [], k => by rw [List.take_nil]; exact Nat.le_refl _
 | v :: r, 0 => by rw [List.take_zero, tots]; exact Nat.zero_le _
 | v :: r, k + 1 => by rw [List.take_succ_cons, tots, tots]; have := tots_take r k; omega
end Go.Proofs.Ythfgdgcdicacpaa
namespace Go.Proofs.Ythfgdgcdicacpaa
open Go.RowKit Sha Oc
set_option linter.unusedVariables false
set_option linter.unusedSimpArgs false
def ckV (o : Oct) : Int := if 4000 < cnt o ∨ 12 < dep o then 4 else if shpB o = false then 8 else if 65536 < siz o then 4 else 0
end Go.Proofs.Ythfgdgcdicacpaa
namespace Go.Proofs.Ythfgdgcdicacpaa
open Go.RowKit Sha Oc
set_option linter.unusedVariables false
set_option linter.unusedSimpArgs false
theorem lenb_nb (n : Nat) (h1 : 128 ≤ n) (h2 : n < 16777216) : lenb n = UInt8.ofNat (128 + (nb n).length) :: nb n := by
 have hn : n ≠ 0 := by omega
 unfold lenb
 rw [if_neg (by omega)]
 by_cases h3 : n < 256
 ·
  rw [if_pos h3, nb_pos n hn, show n / 256 = 0 by omega, nb_zero, show n % 256 = n by omega]
  rfl
 ·
  rw [if_neg h3]
  by_cases h4 : n < 65536
  ·
   rw [if_pos h4, nb_pos n hn, nb_pos (n / 256) (by omega), show n / 256 / 256 = 0 by omega, nb_zero, show n / 256 % 256 = n / 256 by omega]
   rfl
  ·
   rw [if_neg h4, nb_pos n hn, nb_pos (n / 256) (by omega), nb_pos (n / 256 / 256) (by omega), show n / 256 / 256 / 256 = 0 by omega, nb_zero, show n / 256 / 256 % 256 = n / 65536 by omega]
   rfl
set_option maxRecDepth 100000 in
set_option maxHeartbeats 4000000 in
theorem lengthof_any (n : Nat) (hn : n < 16777216) (w : World) : Calls Try.prog 73 #[.int .u64 (n : Int)] w (fun e w' => ∃ v, e = .returned v ∧ w'.ownsRow w.heap.size 5 1 v (lenb n).length (bvals (lenb n)) ∧ Below w.heap.size w w') := by
 by_cases h1 : n < 128
 ·
  have h1i : (n : Int) < 128 := by omega
  have hl : lenb n = [UInt8.ofNat n] := by unfold lenb; rw [if_pos h1]
  rw [hl]
  clear hl
  go_enter Try.func73, Try.ntmps73
  go_wp2_with fail
  go_ret
  refine ⟨_, rfl, ?_, below_new w _⟩
  refine ⟨rfl, .inr ⟨w.heap.size, 1, _, rfl, Nat.le_refl _, heap_alloc_new w _, Nat.le_refl _, by decide, rfl, ?_⟩⟩
  simp [bvals]
  all_goals omega
 ·
  have h1i : ¬ (n : Int) < 128 := by omega
  have hx : n < 256 ^ 8 := Nat.lt_trans hn (by decide)
  have hcall := bytesof_any 8 n hx (Nat.le_refl _) w
  unfold NbPost at hcall
  have HC := Lib.hid hcall
  have hlb := lenb_nb n (by omega) hn
  have hnl := nb_len 8 n hx
  obtain ⟨m, hm⟩ : ∃ m, (nb n).length = m := ⟨_, rfl⟩
  rw [hm] at hnl hlb
  have HLB := Lib.hid hlb
  have HM := Lib.hid hm
  have HM8 := Lib.hid hnl
  clear hcall hlb h1 hn hx hm
  go_enter Try.func73, Try.ntmps73
  go_wp2_with fail
  refine (HC.out).mono ?_
  rintro e w1 ⟨v, rfl, hown, hb1⟩
  obtain ⟨A, c, rfl, hc, hcn, hs, hw⟩ := own_rd3 hown
  rw [HM.out]
  have HB1 := Lib.hid hb1
  have HCN := Lib.hid hcn
  have HS := Lib.hid hs
  have HSZ := Lib.hid hb1.size
  clear hown hb1 hc hcn hs hw
  have hown1 : ∀ z : Value, (w1.alloc (.cells #[z] 5)).ownsRow w.heap.size 5 1 (.slice (some ⟨w1.heap.size, 0, none⟩) 1 1) 1 [z] := fun z => ⟨rfl, .inr ⟨w1.heap.size, 1, _, rfl, HSZ.out, heap_alloc_new w1 _, Nat.le_refl _, by decide, rfl, rfl⟩⟩
  have HO1 := Lib.hid hown1
  clear hown1
  go_wp2_with (at_builtin; refine append_src rfl (.tmp 15) (.tmp 16) rfl w.heap.size _ _ _ rfl (HO1.out _) A (nb n) c m HM.out rfl HCN.out (HS.out.on (below_new w1 _)) (by omega) (by have := HSZ.out; simp; omega) ?_; intro v5 w5 hown5 hgrow5; have HO5 := Lib.hid hown5; have HG5 := Lib.hid hgrow5; clear hown5 hgrow5)
  go_ret
  refine ⟨_, rfl, ?_, (HB1.out.alloc HSZ.out _).grown HG5.out (by have := HSZ.out; simp; omega) (fun j hj => by have := Option.some.inj (show some w1.heap.size = some j from hj); have := HSZ.out; omega)⟩
  have h9 := HO5.out
  have hl : (lenb n).length = 1 + m := by rw [HLB.out, List.length_cons, HM.out]; omega
  rw [hl, HLB.out]
  have hv : bvals (UInt8.ofNat (128 + m) :: nb n) = [Value.int .u8 ((128 + (m : Int)))] ++ bvals (nb n) := by
   have := HM8.out
   simp [bvals]
   omega
  rw [hv]
  exact h9
end Go.Proofs.Ythfgdgcdicacpaa
namespace Go.Proofs.Ythfgdgcdicacpaa
open Go.RowKit Sha Oc
set_option linter.unusedVariables false
set_option linter.unusedSimpArgs false
set_option maxRecDepth 100000 in
set_option maxHeartbeats 4000000 in
theorem csize_of (t : UInt8) (b : List UInt8) (l : List Oct) (hcn : cnt (.mk t b l) ≤ 5000) (htt : tot (.mk t b l) ≤ 400000) (hW : ∀ (k : Nat) (o : Oct), l[k]? = some o → ∀ (V : World) (x y : Value), At (fun _ => True) V o x y → Calls Try.prog 47 #[.agg (cell3 o x y)] V (fun e w' => e = .returned (.int .u64 (siz o : Int)) ∧ Below V.heap.size V w'))
  (w : World) (x y : Value) (hat : At (fun _ => True) w (.mk t b l) x y) : Calls Try.prog 74 #[.agg (cell3 (.mk t b l) x y)] w (fun e w' => e = .returned (.int .u64 ((b.length + sizs l : Nat) : Int)) ∧ Below w.heap.size w w') := by
 obtain ⟨A, c, B, d, g, off, vb, vl, rfl, rfl, hc, hbm, hcn0, hs, hd, hdn, he⟩ := hat.els
 show Calls Try.prog 74 #[.agg #[.int .u8 (t.toNat : Int), .slice A b.length c, .slice B l.length d]] w _
 obtain ⟨n, hn⟩ : ∃ n, l.length = n := ⟨_, rfl⟩
 have hll := len_cnts l
 rw [cnt] at hcn
 rw [tot] at htt
 obtain ⟨m, hm⟩ : ∃ m, b.length = m := ⟨_, rfl⟩
 obtain ⟨AC, hAC⟩ : ∃ AC : Nat → Nat, ∀ k, m + sizs (l.take k) = AC k := ⟨_, fun _ => rfl⟩
 have hA0 : AC 0 = m := by rw [← hAC, List.take_zero, sizs]; omega
 have hAs : ∀ k o, l[k]? = some o → AC (k + 1) = AC k + siz o := fun k o hk => by rw [← hAC, ← hAC, List.take_add_one, hk]; show m + sizs (l.take k ++ [o]) = _; rw [sizs_snoc]; omega
 have hAb : ∀ k, AC k ≤ 1000000 := fun k => by
  rw [← hAC]
  have h1 := sizs_le (l.take k)
  have h2 := cnts_take l k
  have h3 := tots_take l k
  omega
 have hAe : b.length + sizs l = AC n := by rw [← hAC, List.take_of_length_le (by omega), hm]
 have hn5 : n ≤ 5000 := by omega
 rw [hn, hm]
 have HWW := Lib.hid hW
 have HE := Lib.hid he
 have HN := Lib.hid hn
 have HA0 := Lib.hid hA0
 have HAS := Lib.hid hAs
 have HAB := Lib.hid hAb
 have HAE := Lib.hid hAe
 have HN5 := Lib.hid hn5
 have HMM := Lib.hid hm
 have HWR : RowKit.Hid (IntKind.u64.wrap (m : Int) = (m : Int)) := Lib.hid (by simp [IntKind.wrap, IntKind.signed, IntKind.bits]; omega)
 have HROW := Lib.hid (heap_alloc_new w (.cells #[.int .u8 (t.toNat : Int), .slice A m c, .slice B n d] 63))
 have HB0 := Lib.hid (below_new w (.cells #[.int .u8 (t.toNat : Int), .slice A m c, .slice B n d] 63))
 clear hW he hn hAs hAb hAe hAC hat hs hc hbm hcn0 hd hdn hll hcn htt hA0 hn5 hm
 go_enter Try.func74, Try.ntmps74
 go_upto_region 1 with (fail)
 generalize hV : World.alloc w _ = V at HROW HB0 ⊢
 clear hV
 have hlt := (Array.getElem?_eq_some_iff.1 HROW.out).1
 obtain ⟨_, hc0, hc1, hc2⟩ := facts3 HROW.out
 go_wp2_with fail
 clear hlt hc0 hc1 hc2
 go_loopw [3, 5, 13] (fun aa _ ix wr => ∃ k : Nat, k ≤ n ∧ ix = .int .i64 (k : Int) ∧ aa = .int .u64 (AC k : Int) ∧ RowKit.Hid (Below V.heap.size V wr)) (fun _ _ ix _ => n - (intOf ix).toNat)
 case atStart => exact ⟨0, by omega, rfl, by rw [HA0.out]; first | rfl | (rw [HWR.out]), Lib.hid (Below.refl _ _)⟩
 case round =>
  obtain ⟨k, hk, rfl, rfl, HBW⟩ := hrel
  have HR := Lib.hid (row_on HROW.out HBW.out)
  have hlt0 := (Array.getElem?_eq_some_iff.1 HR.out).1
  have hq2 := (facts3 HR.out).2.2.2
  by_cases hlt : k < n
  ·
   have hki : (k : Int) < (n : Int) := by omega
   have hn5 := HN5.out
   obtain ⟨o, ho⟩ : ∃ o, l[k]? = some o := ⟨_, List.getElem?_eq_getElem (by rw [HN.out]; exact hlt)⟩
   have hne : l ≠ [] := fun e => by rw [e] at ho; simp at ho
   have hBB := HE.out.hB hne
   subst hBB
   have hew := HE.out.on (chain HB0.out HBW.out)
   have hc0 := hew.h0 k o ho
   have hc1 := hew.h1 k o ho
   have hc2 := hew.h2 k o ho
   have hat := hew.hr k o ho
   obtain ⟨A1, m1, c1, B1, n1, d1, e1, e2⟩ := hat.slices
   rw [e1] at hc1 hat
   rw [e2] at hc2 hat
   have HCALL := Lib.hid (fun (V : World) (hb : Below wr.heap.size wr V) => HWW.out k o ho V _ _ (hat.on hb))
   have HAK := Lib.hid (HAS.out k o ho)
   have HA1 := HAB.out (k + 1)
   have HAK0 := HAB.out k
   have hak := HAK.out
   clear hne hew hat ho e1 e2
   go_wp2_with fail
   refine (HCALL.out _ (below_new _ _)).mono ?_
   rintro e w2 ⟨rfl, hb2⟩
   have HB2 := Lib.hid (chain (chain HBW.out (below_new _ _)) hb2)
   clear hc0 hc1 hc2 hq2 hlt0 hb2
   go_wp2_with fail
   exact ⟨⟨k + 1, by omega, by go_num, by rw [HAK.out]; first | rfl | (congr 1; omega) | (congr 1; simp; omega), HB2⟩, by simp [intOf]; omega⟩
  ·
   have hkk : k = n := by omega
   subst hkk
   have hge : ¬ (k : Int) < (k : Int) := by omega
   have HAK0 := HAB.out k
   go_wp2_with fail
   go_ret
   refine ⟨?_, chain HB0.out HBW.out⟩
   show Ending.returned (Value.int .u64 (AC k : Int)) = _
   have h9 := HAE.out
   rw [← h9, HMM.out, Int.natCast_add]
set_option maxRecDepth 100000 in
set_option maxHeartbeats 4000000 in
theorem psize_of (o : Oct) (hcn : cnt o ≤ 5000) (htt : tot o ≤ 400000) (hC : ∀ (V : World) (x y : Value), At (fun _ => True) V o x y → Calls Try.prog 74 #[.agg (cell3 o x y)] V (fun e w' => e = .returned (.int .u64 (((bytO o).length + sizs (kids o) : Nat) : Int)) ∧ Below V.heap.size V w'))
  (w : World) (x y : Value) (hat : At (fun _ => True) w o x y) : Calls Try.prog 47 #[.agg (cell3 o x y)] w (fun e w' => e = .returned (.int .u64 (siz o : Int)) ∧ Below w.heap.size w w') := by
 obtain ⟨t, b, l⟩ := o
 have hb := siz_le (.mk t b l)
 obtain ⟨A1, m1, c1, B1, n1, d1, rfl, rfl⟩ := hat.slices
 have hs : siz (.mk t b l) = 1 + (lenb (b.length + sizs l)).length + (b.length + sizs l) := by rw [siz]
 obtain ⟨Z, hZ⟩ : ∃ Z, b.length + sizs l = Z := ⟨_, rfl⟩
 have hC2 : ∀ V : World, Below w.heap.size w V → Calls Try.prog 74 #[.agg #[.int .u8 (t.toNat : Int), .slice A1 m1 c1, .slice B1 n1 d1]] V (fun e w' => e = .returned (.int .u64 (Z : Int)) ∧ Below V.heap.size V w') := fun V hb => by rw [← hZ]; exact hC V _ _ (hat.on hb)
 rw [hZ] at hs
 have hz : Z ≤ 1000000 := by omega
 have HC := Lib.hid hC2
 have HS := Lib.hid hs
 have HLB := Lib.hid (lenb_le Z)
 have HLN := Lib.hid (fun V => lengthof_any Z (by omega) V)
 show Calls Try.prog 47 #[.agg #[.int .u8 (t.toNat : Int), .slice A1 m1 c1, .slice B1 n1 d1]] w _
 clear hC hC2 hs hZ hb hat hcn htt
 go_enter Try.func47, Try.ntmps47
 go_wp2_with fail
 refine (HC.out _ (below_new w _)).mono ?_
 rintro e w1 ⟨rfl, hb1⟩
 have HB1 := Lib.hid (chain (below_new w _) hb1)
 clear hb1
 go_wp2_with fail
 refine (HLN.out w1).mono ?_
 rintro e w2 ⟨v, rfl, hown, hb2⟩
 obtain ⟨A9, c9, rfl, _, _, _, _⟩ := own_rd3 hown
 have HB2 := Lib.hid (chain HB1.out hb2)
 have hlb := HLB.out
 clear hown hb2
 go_wp2_with fail
 go_ret
 exact ⟨by rw [HS.out]; first | rfl | (congr 2; omega), HB2.out⟩
theorem psize_all : ∀ (n : Nat) (o : Oct), cnt o ≤ n → n ≤ 5000 → tot o ≤ 400000 → ∀ (V : World) (x y : Value), At (fun _ => True) V o x y → Calls Try.prog 47 #[.agg (cell3 o x y)] V (fun e w' => e = .returned (.int .u64 (siz o : Int)) ∧ Below V.heap.size V w') := fun n => by
 induction n with
 | zero => intro o h; have := cnt_pos o; omega
 | succ n ih =>
  intro o h hn ht V x y hat
  cases o with
  | mk t b l =>
   exact psize_of (.mk t b l) (by omega) ht (fun V x y hat => csize_of t b l (by omega) ht (fun k o ho V x y hat => ih o (by rw [cnt] at h; have := cnt_le l o (List.mem_of_getElem? ho); omega) (by omega) (by rw [tot] at ht; have := tot_le l o (List.mem_of_getElem? ho); omega) V x y hat) V x y hat) V x y hat
end Go.Proofs.Ythfgdgcdicacpaa
namespace Go.Proofs.Ythfgdgcdicacpaa
open Go.RowKit Sha Oc
set_option linter.unusedVariables false
set_option linter.unusedSimpArgs false
def prl : List UInt8 → Option (Nat × List UInt8)
 | [] => none
 | c :: r =>
  if c.toNat < 128 then some (c.toNat, r)
  else if r.length < c.toNat - 128 then none
  else if okN (r.take (c.toNat - 128)) = true ∧ 128 ≤ numN (r.take (c.toNat - 128)) then some (numN (r.take (c.toNat - 128)), r.drop (c.toNat - 128)) else none
def prs (f : List UInt8 → Option (Oct × List UInt8)) : Nat → List UInt8 → Option (List Oct)
 | _, [] => some []
 | 0, _ :: _ => none
 | k + 1, c :: b => match f (c :: b) with
  | none => none
  | some (x, r) => (prs f k r).map (x :: ·)
def prd : Nat → List UInt8 → Option (Oct × List UInt8)
 | 0, _ => none
 | _ + 1, [] => none
 | k + 1, t :: b => match prl b with
  | none => none
  | some (n, r) =>
   if r.length < n then none
   else if t.toNat < 128 then some (.mk t (r.take n) [], r.drop n)
   else (prs (prd k) k (r.take n)).map fun l => (.mk t [] l, r.drop n)
theorem prl_len : ∀ (L : List UInt8) (n : Nat) (r : List UInt8), prl L = some (n, r) → r.length < L.length
 | [], n, r, h => by cases h
 | c :: q, n, r, h => by
  rw [prl] at h
  by_cases h1 : c.toNat < 128
  ·
   rw [if_pos h1] at h
   obtain ⟨rfl, rfl⟩ := Prod.mk.inj (Option.some.inj h)
   rw [List.length_cons]; omega
  ·
   rw [if_neg h1] at h
   by_cases h2 : q.length < c.toNat - 128
   ·
    rw [if_pos h2] at h; cases h
   ·
    rw [if_neg h2] at h
    split at h
    ·
     obtain ⟨rfl, rfl⟩ := Prod.mk.inj (Option.some.inj h)
     rw [List.length_cons, List.length_drop]; omega
    ·
     cases h
theorem prd_len (k : Nat) (L : List UInt8) (v : Oct) (r : List UInt8) (h : prd k L = some (v, r)) : r.length + 2 ≤ L.length := by
 cases k with
 | zero => cases h
 | succ k =>
  cases L with
  | nil => cases h
  | cons t b =>
   rw [prd] at h
   cases e : prl b with
   | none => rw [e] at h; cases h
   | some p =>
    obtain ⟨n, q⟩ := p
    have hl := prl_len b n q e
    rw [e] at h
    replace h : (if q.length < n then none else if t.toNat < 128 then some (Oct.mk t (q.take n) [], q.drop n) else (prs (prd k) k (q.take n)).map fun l => (Oct.mk t [] l, q.drop n)) = some (v, r) := h
    by_cases h1 : q.length < n
    ·
     rw [if_pos h1] at h; cases h
    ·
     rw [if_neg h1] at h
     by_cases h2 : t.toNat < 128
     ·
      rw [if_pos h2] at h
      obtain ⟨_, rfl⟩ := Prod.mk.inj (Option.some.inj h)
      rw [List.length_cons, List.length_drop]; omega
     ·
      rw [if_neg h2] at h
      obtain ⟨l, _, h3⟩ := Option.map_eq_some_iff.1 h
      obtain ⟨_, rfl⟩ := Prod.mk.inj h3
      rw [List.length_cons, List.length_drop]; omega
theorem okN_nb (n : Nat) (h : n < 256 ^ 8) : okN (nb n) = true ∧ numN (nb n) = n := by
 have h1 : okN (nb n) = true := by
  unfold okN
  rw [Bool.and_eq_true, decide_eq_true_eq]
  refine ⟨Oc.nb_len 8 n h, ?_⟩
  cases hq : nb n with
  | nil => rfl
  | cons c r =>
   have := nb_head n c r hq
   simpa using this
 exact ⟨h1, by unfold numN; rw [h1, if_pos rfl, vl_nb]⟩
theorem okN_vl (b : List UInt8) (h : okN b = true) : numN b = vl b ∧ nb (vl b) = b := by
 have h0 := h
 unfold okN at h
 rw [Bool.and_eq_true] at h
 refine ⟨by unfold numN; rw [h0, if_pos rfl], nb_vl b.length b rfl fun c r e => ?_⟩
 rw [e] at h
 simpa using h.2
theorem prl_lenb (n : Nat) (h : n < 16777216) (r : List UInt8) : prl (lenb n ++ r) = some (n, r) := by
 by_cases h1 : n < 128
 ·
  have e : lenb n = [UInt8.ofNat n] := by unfold lenb; rw [if_pos h1]
  rw [e, List.singleton_append, prl, u8n n (by omega), if_pos h1]
 ·
  have hx : n < 256 ^ 8 := Nat.lt_trans h (by decide)
  have hl := Oc.nb_len 8 n hx
  obtain ⟨a1, a2⟩ := okN_nb n hx
  rw [lenb_nb n (by omega) h, List.cons_append, prl, u8n _ (by omega), if_neg (by omega), show 128 + (nb n).length - 128 = (nb n).length by omega, if_neg (by rw [List.length_append]; omega), List.take_left, List.drop_left, a1, a2, if_pos ⟨rfl, by omega⟩]
theorem prl_some : ∀ (L : List UInt8) (n : Nat) (r : List UInt8), prl L = some (n, r) → n < 16777216 → L = lenb n ++ r
 | [], n, r, h, _ => by cases h
 | c :: q, n, r, h, hn => by
  have hc := c.toNat_lt
  rw [prl] at h
  by_cases h1 : c.toNat < 128
  ·
   rw [if_pos h1] at h
   obtain ⟨rfl, rfl⟩ := Prod.mk.inj (Option.some.inj h)
   unfold lenb
   rw [if_pos h1, u8_back c _ rfl]
   rfl
  ·
   rw [if_neg h1] at h
   by_cases h2 : q.length < c.toNat - 128
   ·
    rw [if_pos h2] at h; cases h
   ·
    rw [if_neg h2] at h
    by_cases h3 : okN (q.take (c.toNat - 128)) = true ∧ 128 ≤ numN (q.take (c.toNat - 128))
    ·
     rw [if_pos h3] at h
     obtain ⟨rfl, rfl⟩ := Prod.mk.inj (Option.some.inj h)
     obtain ⟨e1, e2⟩ := okN_vl _ h3.1
     have h4 := h3.2
     rw [e1] at h4 hn ⊢
     rw [lenb_nb _ h4 hn, e2]
     have hl : (q.take (c.toNat - 128)).length = c.toNat - 128 := by rw [List.length_take]; omega
     rw [hl, show 128 + (c.toNat - 128) = c.toNat by omega, u8_back c _ rfl, List.cons_append, List.take_append_drop]
    ·
     rw [if_neg h3] at h; cases h
mutual
def wsh : Oct → Prop
 | .mk t b l => (t.toNat < 128 → l = []) ∧ (128 ≤ t.toNat → b = []) ∧ wshs l
def wshs : List Oct → Prop
 | [] => True
 | v :: r => wsh v ∧ wshs r
end
mutual
theorem wsh_of : ∀ o : Oct, shp o → wsh o
 | .mk t b l, h => by
  rw [shp] at h
  rw [wsh]
  exact ⟨h.2.1, h.2.2.1, wshs_of l h.2.2.2⟩
theorem wshs_of : ∀ l : List Oct, shps l → wshs l
 | [], _ => by rw [wshs]; trivial
 | v :: r, h => by
  rw [shps] at h
  rw [wshs]
  exact ⟨wsh_of v h.1, wshs_of r h.2⟩
end
theorem wshs_mem : ∀ (l : List Oct), wshs l → ∀ v ∈ l, wsh v
 | [], _, _, h => by cases h
 | x :: r, hs, v, h => by
  rw [wshs] at hs
  rcases List.mem_cons.1 h with rfl | h
  ·
   exact hs.1
  ·
   exact wshs_mem r hs.2 v h
theorem prs_enc (f : List UInt8 → Option (Oct × List UInt8)) : ∀ (l : List Oct) (k : Nat), (encs l).length ≤ k → (∀ v ∈ l, ∀ r, f (enc v ++ r) = some (v, r)) → prs f k (encs l) = some l
 | [], k, _, _ => by rw [encs]; cases k <;> rfl
 | v :: r, k, hk, hf => by
  have hp := enc_pos v
  rw [encs, List.length_append] at hk
  rw [encs]
  obtain ⟨c, b, hcb⟩ : ∃ c b, enc v ++ encs r = c :: b := by
   cases hq : enc v ++ encs r with
   | nil => have h2 := congrArg List.length hq; rw [List.length_append, List.length_nil] at h2; omega
   | cons c b => exact ⟨c, b, rfl⟩
  obtain ⟨k, rfl⟩ : ∃ j, k = j + 1 := ⟨k - 1, by omega⟩
  have h1 := hf v (List.mem_cons_self ..) (encs r)
  rw [hcb] at h1 ⊢
  rw [prs, h1]
  show (prs f k (encs r)).map (v :: ·) = _
  rw [prs_enc f r k (by omega) (fun x hx => hf x (List.mem_cons_of_mem _ hx))]
  rfl
theorem prd_enc : ∀ (k : Nat) (v : Oct), wsh v → (enc v).length < 16777216 → (enc v).length ≤ k → ∀ r, prd k (enc v ++ r) = some (v, r)
 | 0, v, _, _, h, _ => by have := enc_pos v; omega
 | k + 1, .mk t b l, hs, hn, hk, r => by
  rw [wsh] at hs
  obtain ⟨h1, h2, hl⟩ := hs
  rw [enc, List.length_cons, List.length_append, List.length_append] at hn hk
  obtain ⟨n, hnn⟩ : ∃ n, b.length + (encs l).length = n := ⟨_, rfl⟩
  have hpos := lenb_pos n
  rw [hnn] at hn hk
  have hr := prl_lenb n (by omega) (b ++ encs l ++ r)
  rw [enc, hnn, List.cons_append, prd, List.append_assoc, hr]
  show (if (b ++ encs l ++ r).length < n then none else if t.toNat < 128 then some (Oct.mk t ((b ++ encs l ++ r).take n) [], (b ++ encs l ++ r).drop n) else (prs (prd k) k ((b ++ encs l ++ r).take n)).map fun q => (Oct.mk t [] q, (b ++ encs l ++ r).drop n)) = _
  have hcl : (b ++ encs l).length = n := by rw [List.length_append]; exact hnn
  rw [if_neg (by rw [List.length_append, hcl]; omega), ← hcl, List.take_left, List.drop_left]
  by_cases h128 : t.toNat < 128
  ·
   have hl0 := h1 h128
   subst hl0
   rw [if_pos h128, encs, List.append_nil]
  ·
   have hb0 := h2 (by omega)
   subst hb0
   rw [if_neg h128, List.nil_append, prs_enc (prd k) l k (by rw [List.length_nil] at hnn; omega) (fun v hv s => prd_enc k v (wshs_mem l hl v hv) (by have := encs_mem l v hv; rw [List.length_nil] at hnn; omega) (by have := encs_mem l v hv; rw [List.length_nil] at hnn; omega) s)]
   rfl
theorem prs_some (f : List UInt8 → Option (Oct × List UInt8)) (hf : ∀ b v r, b.length < 16777216 → f b = some (v, r) → wsh v ∧ enc v ++ r = b) :
  ∀ (k : Nat) (b : List UInt8) (l : List Oct), b.length < 16777216 → prs f k b = some l → wshs l ∧ encs l = b
 | k, [], l, _, h => by
  have : prs f k [] = some [] := by cases k <;> rfl
  rw [this] at h
  obtain rfl := Option.some.inj h
  exact ⟨by rw [wshs]; trivial, by rw [encs]⟩
 | 0, _ :: _, l, _, h => by cases h
 | k + 1, c :: b, l, hb, h => by
  rw [prs] at h
  cases e : f (c :: b) with
  | none => rw [e] at h; cases h
  | some p =>
   obtain ⟨x, r⟩ := p
   rw [e] at h
   replace h : (prs f k r).map (x :: ·) = some l := h
   obtain ⟨q, hq, rfl⟩ := Option.map_eq_some_iff.1 h
   obtain ⟨a1, a2⟩ := hf _ _ _ hb e
   have hl : r.length < 16777216 := by have := congrArg List.length a2; rw [List.length_append] at this; omega
   obtain ⟨b1, b2⟩ := prs_some f hf k r q hl hq
   exact ⟨by rw [wshs]; exact ⟨a1, b1⟩, by rw [encs, b2, a2]⟩
theorem prd_some : ∀ (k : Nat) (L : List UInt8) (v : Oct) (r : List UInt8), L.length < 16777216 → prd k L = some (v, r) → wsh v ∧ enc v ++ r = L
 | 0, L, v, r, _, h => by cases h
 | k + 1, [], v, r, _, h => by cases h
 | k + 1, t :: b, v, r, hb, h => by
  rw [List.length_cons] at hb
  rw [prd] at h
  cases e : prl b with
  | none => rw [e] at h; cases h
  | some p =>
   obtain ⟨n, q⟩ := p
   have hql := prl_len b n q e
   rw [e] at h
   replace h : (if q.length < n then none else if t.toNat < 128 then some (Oct.mk t (q.take n) [], q.drop n) else (prs (prd k) k (q.take n)).map fun l => (Oct.mk t [] l, q.drop n)) = some (v, r) := h
   by_cases h1 : q.length < n
   ·
    rw [if_pos h1] at h; cases h
   ·
    rw [if_neg h1] at h
    have hb2 := prl_some b n q e (by omega)
    have hcl : (q.take n).length = n := by rw [List.length_take]; omega
    by_cases h2 : t.toNat < 128
    ·
     rw [if_pos h2] at h
     obtain ⟨rfl, rfl⟩ := Prod.mk.inj (Option.some.inj h)
     refine ⟨by rw [wsh, wshs]; exact ⟨fun _ => rfl, fun h => by omega, trivial⟩, ?_⟩
     rw [enc, encs, List.length_nil, hcl, List.append_nil, Nat.add_zero, List.cons_append, List.append_assoc, List.take_append_drop, ← hb2]
    ·
     rw [if_neg h2] at h
     obtain ⟨l, hl, h3⟩ := Option.map_eq_some_iff.1 h
     obtain ⟨rfl, rfl⟩ := Prod.mk.inj h3
     obtain ⟨c1, c2⟩ := prs_some (prd k) (fun b v r hb h => prd_some k b v r hb h) k _ l (by omega) hl
     refine ⟨by rw [wsh]; exact ⟨fun h => by omega, fun _ => rfl, c1⟩, ?_⟩
     rw [enc, c2, hcl, List.length_nil, Nat.zero_add, List.nil_append, List.cons_append, List.append_assoc, List.take_append_drop, ← hb2]
mutual
theorem cnt_enc : ∀ o : Oct, 2 * cnt o ≤ (enc o).length
 | .mk t b l => by
  have h1 := cnts_enc l
  have h2 := lenb_pos (b.length + (encs l).length)
  rw [cnt, enc, List.length_cons, List.length_append, List.length_append]
  omega
theorem cnts_enc : ∀ l : List Oct, 2 * cnts l ≤ (encs l).length
 | [] => Nat.zero_le _
 | v :: r => by
  have h1 := cnt_enc v
  have h2 := cnts_enc r
  rw [cnts, encs, List.length_append]
  omega
end
mutual
theorem tot_enc : ∀ o : Oct, tot o ≤ (enc o).length
 | .mk t b l => by
  have h1 := tots_enc l
  rw [tot, enc, List.length_cons, List.length_append, List.length_append]
  omega
theorem tots_enc : ∀ l : List Oct, tots l ≤ (encs l).length
 | [] => Nat.zero_le _
 | v :: r => by
  have h1 := tot_enc v
  have h2 := tots_enc r
  rw [tots, encs, List.length_append]
  omega
end
theorem ckV_good (o : Oct) : ckV o = 0 ↔ good o := by
 unfold ckV good
 rw [← siz_eq]
 have hB := shpB_iff o
 by_cases h1 : 4000 < cnt o ∨ 12 < dep o
 ·
  rw [if_pos h1]
  exact ⟨fun h => by omega, fun h => by omega⟩
 ·
  rw [if_neg h1]
  cases hs : shpB o with
  | false =>
   rw [if_pos rfl]
   exact ⟨fun h => by omega, fun h => absurd (hB.2 h.2.2.1) (by rw [hs]; decide)⟩
  | true =>
   rw [if_neg (by decide)]
   by_cases h2 : 65536 < siz o
   ·
    rw [if_pos h2]
    exact ⟨fun h => by omega, fun h => by omega⟩
   ·
    rw [if_neg h2]
    exact ⟨fun _ => ⟨by omega, by omega, hB.1 hs, by omega⟩, fun _ => rfl⟩
abbrev nilO : Oct := .mk 0 [] []
def decV (b : List UInt8) : Oct × Int :=
 if 65536 < b.length then (nilO, 4) else
 match prd (b.length + 1) b with
 | none => (nilO, 12)
 | some (v, r) => if r.length = 0 ∧ ckV v = 0 then (v, 0) else (nilO, 12)
theorem decV_enc (o : Oct) (h : ckV o = 0) : decV (enc o) = (o, 0) := by
 have hg := (ckV_good o).1 h
 have hl := hg.2.2.2
 unfold decV
 have h1 := prd_enc ((enc o).length + 1) o (wsh_of o hg.2.2.1) (by omega) (by omega) []
 rw [List.append_nil] at h1
 rw [if_neg (by omega), h1]
 show (if ([] : List UInt8).length = 0 ∧ ckV o = 0 then (o, (0 : Int)) else (nilO, 12)) = _
 rw [if_pos ⟨rfl, h⟩]
theorem decV_cases (b : List UInt8) : (∃ o, decV b = (o, 0) ∧ enc o = b ∧ ckV o = 0) ∨ (decV b = (nilO, 4) ∧ 65536 < b.length) ∨ (decV b = (nilO, 12) ∧ b.length ≤ 65536) := by
 by_cases h1 : 65536 < b.length
 ·
  exact .inr (.inl ⟨by unfold decV; rw [if_pos h1], h1⟩)
 ·
  cases e : prd (b.length + 1) b with
  | none => exact .inr (.inr ⟨by unfold decV; rw [if_neg h1, e], by omega⟩)
  | some p =>
   obtain ⟨v, r⟩ := p
   by_cases h2 : r.length = 0 ∧ ckV v = 0
   ·
    have hr : r = [] := List.length_eq_zero_iff.1 h2.1
    subst hr
    obtain ⟨_, h3⟩ := prd_some _ b v [] (by omega) e
    rw [List.append_nil] at h3
    refine .inl ⟨v, ?_, h3, h2.2⟩
    unfold decV
    rw [if_neg h1, e]
    show (if ([] : List UInt8).length = 0 ∧ ckV v = 0 then (v, (0 : Int)) else (nilO, 12)) = _
    rw [if_pos h2]
   ·
    refine .inr (.inr ⟨?_, by omega⟩)
    unfold decV
    rw [if_neg h1, e]
    show (if r.length = 0 ∧ ckV v = 0 then (v, (0 : Int)) else (nilO, 12)) = _
    rw [if_neg h2]
theorem decV_only (b : List UInt8) (o : Oct) (h : decV b = (o, 0)) : enc o = b ∧ ckV o = 0 := by
 rcases decV_cases b with ⟨o', h1, h2, h3⟩ | ⟨h1, _⟩ | ⟨h1, _⟩
 ·
  rw [h1] at h
  obtain ⟨rfl, _⟩ := Prod.mk.inj h
  exact ⟨h2, h3⟩
 ·
  rw [h1] at h; cases h
 ·
  rw [h1] at h; cases h
end Go.Proofs.Ythfgdgcdicacpaa
