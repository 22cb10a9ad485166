/-
  THE WALKS over layer 8's reference: weigh, Great.
-/
import Derived.Test.YtlbchefdkdngnaaOcD
namespace Go.Proofs.Ytlbchefdkdngnaa
open Go.RowKit Sha Oc
set_option linter.unusedVariables false
set_option linter.unusedSimpArgs false
theorem cnt_pos (o : Oct) : 1 ≤ cnt o := by
  cases o
  rw [cnt]
  omega
theorem cnts_snoc : ∀ (l : List Oct) (o : Oct), cnts (l ++ [o]) = cnts l + cnt o
  | [], o => by rw [List.nil_append, cnts, cnts, cnts]; omega
  | x :: r, o => by rw [List.cons_append, cnts, cnts_snoc r o, cnts]; omega
theorem tots_snoc : ∀ (l : List Oct) (o : Oct), tots (l ++ [o]) = tots l + tot o
  | [], o => by rw [List.nil_append, tots, tots, tots]; omega
  | x :: r, o => by rw [List.cons_append, tots, tots_snoc r o, tots]; omega
theorem deps_snoc : ∀ (l : List Oct) (o : Oct), deps (l ++ [o]) = max (deps l) (dep o)
  | [], o => by show max (dep o) 0 = max 0 (dep o); omega
  | x :: r, o => by rw [List.cons_append, deps, deps_snoc r o, deps]; omega
theorem tots_bound : ∀ (l : List Oct), (∀ o ∈ l, tot o ≤ cnt o * 140737488355328) → tots l ≤ cnts l * 140737488355328
  | [], _ => by rw [tots, cnts]; omega
  | x :: r, h => by
    have h1 := h x (List.mem_cons_self ..)
    have h2 := tots_bound r (fun o ho => h o (List.mem_cons_of_mem _ ho))
    rw [tots, cnts]
    omega
theorem Oc.At.bound {R : Nat → Prop} {w : World} {o : Oct} {x y : Value} (h : At R w o x y) : tot o ≤ cnt o * 140737488355328 := by
  induction h with
  | mk t b l A c B d g off vb vl hc hbm hcn hs hA hd hlm hdn hB h0 h1 h2 hr ih =>
    have h3 := tots_bound l (fun o ho => by
      obtain ⟨k, hk⟩ := List.mem_iff_getElem?.1 ho
      exact ih k o hk)
    rw [tot, cnt]
    omega
def WgPost (o : Oct) (deep : Int) (w : World) (e : Ending) (w' : World) : Prop := ∃ (n b : Int) (ok : Bool), e = .returned (.tuple #[.int .i64 n, .int .i64 b, .bool ok]) ∧ (ok = true → n = (cnt o : Int) ∧ (cnt o : Int) ≤ 10001 * deep ∧ (dep o : Int) ≤ deep ∧ (cnt o ≤ 4200 → b = (tot o : Int))) ∧ Below w.heap.size w w'
set_option maxRecDepth 100000 in
set_option maxHeartbeats 4000000 in
theorem weigh_of (t : UInt8) (b : List UInt8) (l : List Oct) (deep : Int) (hdeep : deep ≤ 30) (hW : ∀ (k : Nat) (o : Oct), l[k]? = some o → ∀ (V : World) (x y : Value), At (fun _ => True) V o x y → Calls Try.prog 52 #[.agg (cell3 o x y), .int .i64 (deep - 1)] V (WgPost o (deep - 1) V))
    (w : World) (x y : Value) (hat : At (fun _ => True) w (.mk t b l) x y) : Calls Try.prog 52 #[.agg (cell3 (.mk t b l) x y), .int .i64 deep] w (WgPost (.mk t b l) deep w) := by
  have hbd := hat.bound
  have hkb : ∀ k o, l[k]? = some o → tot o ≤ cnt o * 140737488355328 := fun k o hk => by
    cases hat with
    | mk t b l A c B d g off vb vl hc hbm hcn hs hA hd hlm hdn hB h0 h1 h2 hr => exact (hr k o hk).bound
  obtain ⟨A, c, B, d, g, off, vb, vl, rfl, rfl, hc, hbm, hcn, hs, hd, hdn, he⟩ := hat.els
  show Calls Try.prog 52 #[.agg #[.int .u8 (t.toNat : Int), .slice A b.length c, .slice B l.length d], .int .i64 deep] w (WgPost (.mk t b l) deep w)
  by_cases hd0 : deep ≤ 0
  · clear hW he hat hbd hkb hs hc hcn hd hdn
    go_enter Try.func52, Try.ntmps52
    go_wp2_with fail
    go_ret3
    exact ⟨0, 0, false, rfl, (fun h => by cases h), below_new _ _⟩
  · have hd1 : ¬ deep ≤ 0 := hd0
    have hd2 : 1 ≤ deep := by omega
    obtain ⟨n, hn⟩ : ∃ n, l.length = n := ⟨_, rfl⟩
    obtain ⟨m, hm⟩ : ∃ m, b.length = m := ⟨_, rfl⟩
    obtain ⟨CN, hCN⟩ : ∃ CN : Nat → Nat, ∀ k, 1 + cnts (l.take k) = CN k := ⟨_, fun _ => rfl⟩
    obtain ⟨TN, hTN⟩ : ∃ TN : Nat → Nat, ∀ k, b.length + tots (l.take k) = TN k := ⟨_, fun _ => rfl⟩
    have hC0 : CN 0 = 1 := by rw [← hCN, List.take_zero, cnts]
    have hT0 : TN 0 = m := by rw [← hTN, List.take_zero, tots, hm]; rfl
    have hCs : ∀ k o, l[k]? = some o → CN (k + 1) = CN k + cnt o := fun k o hk => by rw [← hCN, ← hCN, List.take_add_one, hk]; show 1 + cnts (l.take k ++ [o]) = _; rw [cnts_snoc]; omega
    have hTs : ∀ k o, l[k]? = some o → TN (k + 1) = TN k + tot o := fun k o hk => by rw [← hTN, ← hTN, List.take_add_one, hk]; show b.length + tots (l.take k ++ [o]) = _; rw [tots_snoc]; omega
    have hds : ∀ k o, l[k]? = some o → deps (l.take (k + 1)) = max (deps (l.take k)) (dep o) := fun k o hk => by rw [List.take_add_one, hk]; exact deps_snoc _ _
    have hTC : ∀ k, TN k ≤ CN k * 140737488355328 := fun k => by
      rw [← hTN, ← hCN]
      have h1 := tots_bound (l.take k) (fun o ho => by
        obtain ⟨j, hj⟩ := List.mem_iff_getElem?.1 (List.mem_of_mem_take ho)
        exact hkb j o hj)
      omega
    have hCk : ∀ k, k ≤ n → k + 1 ≤ CN k := fun k hk => by
      rw [← hCN]
      have h1 := len_cnts (l.take k)
      rw [List.length_take, Nat.min_eq_left (by omega)] at h1
      omega
    have hCe : CN n = cnt (.mk t b l) := by rw [← hCN, cnt, List.take_of_length_le (by omega)]
    have hTe : TN n = tot (.mk t b l) := by rw [← hTN, tot, List.take_of_length_le (by omega)]
    have hde : dep (.mk t b l) = deps (l.take n) + 1 := by rw [dep, List.take_of_length_le (by omega)]
    have hd00 : deps (l.take 0) = 0 := by rw [List.take_zero, deps]
    rw [hm] at hbm
    have HWW := Lib.hid hW
    have HE := Lib.hid he
    have HN := Lib.hid hn
    have HC0 := Lib.hid hC0
    have HT0 := Lib.hid hT0
    have HCS := Lib.hid hCs
    have HTS := Lib.hid hTs
    have HDS := Lib.hid hds
    have HTC := Lib.hid hTC
    have HCE := Lib.hid hCe
    have HCKK := Lib.hid hCk
    have HTE := Lib.hid hTe
    have HDE := Lib.hid hde
    have HD00 := Lib.hid hd00
    have HDP := Lib.hid hdeep
    rw [hn, hm]
    have hrow := heap_alloc_new w (.cells #[.int .u8 (t.toNat : Int), .slice A m c, .slice B n d] 28)
    have HROW := Lib.hid hrow
    have HB0 := Lib.hid (below_new w (.cells #[.int .u8 (t.toNat : Int), .slice A m c, .slice B n d] 28))
    have hc1 := (facts3 hrow).2.2.1
    clear hW he hn hC0 hT0 hCs hTs hds hTC hCk hCe hTe hde hd00 hCN hTN hat hbd hkb hs hc hcn hd hdn hrow hd0 hdeep
    go_enter Try.func52, Try.ntmps52
    go_upto_region 3 with (fail)
    generalize hV : World.alloc w _ = V at HROW HB0 hc1 ⊢
    clear hV
    go_quiet (fail)
    obtain ⟨V1, hV1⟩ : ∃ V1, V.drewN nq = V1 := ⟨_, rfl⟩
    have hb1 : Below V.heap.size V V1 := by rw [← hV1]; exact below_drewN (Below.refl _ _) _
    rw [hV1]
    have HROW1 := Lib.hid (row_on HROW.out hb1)
    have HB1 := Lib.hid (chain HB0.out hb1)
    clear hV1 hb1 hc1 HROW HB0
    go_wp2_with fail
    go_loopw [7, 8, 9, 10, 11, 12] (fun nn bb ix _ _ _ wr => ∃ (k : Nat) (bk : Int), k ≤ n ∧ ix = .int .i64 (k : Int) ∧ nn = .int .i64 (CN k : Int) ∧ bb = .int .i64 bk ∧ RowKit.Hid ((CN k : Int) ≤ 10001 * deep) ∧ RowKit.Hid ((deps (l.take k) : Int) ≤ deep - 1) ∧ RowKit.Hid (CN k ≤ 4200 → bk = (TN k : Int)) ∧ RowKit.Hid (Below V1.heap.size V1 wr)) (fun _ _ ix _ _ _ _ => n - (intOf ix).toNat)
    case atStart => exact ⟨0, (m : Int), by omega, rfl, by rw [HC0.out]; rfl, rfl, Lib.hid (by rw [HC0.out]; omega), Lib.hid (by rw [HD00.out]; omega), Lib.hid (fun _ => by rw [HT0.out]), Lib.hid (Below.refl _ _)⟩
    case round =>
      obtain ⟨k, bk, hk, rfl, rfl, rfl, HCB, HDB, HBK, HBW⟩ := hrel
      have HR := Lib.hid (row_on HROW1.out HBW.out)
      have hlt0 := (Array.getElem?_eq_some_iff.1 HR.out).1
      have hq2 := (facts3 HR.out).2.2.2
      by_cases hlt : k < n
      · have hki : (k : Int) < (n : Int) := by omega
        obtain ⟨o, ho⟩ : ∃ o, l[k]? = some o := ⟨_, List.getElem?_eq_getElem (by rw [HN.out]; exact hlt)⟩
        have hne : l ≠ [] := fun e => by rw [e] at ho; simp at ho
        have hBB := HE.out.hB hne
        subst hBB
        have hew := HE.out.on (chain HB1.out HBW.out)
        have hc0 := hew.h0 k o ho
        have hc1 := hew.h1 k o ho
        have hc2 := hew.h2 k o ho
        have hat := hew.hr k o ho
        obtain ⟨A1, m1, c1, B1, n1, d1, e1, e2⟩ := hat.slices
        rw [e1] at hc1 hat
        rw [e2] at hc2 hat
        have hcall := HWW.out k o ho wr _ _ hat
        unfold WgPost at hcall
        have HCALL := Lib.hid hcall
        have HCK := Lib.hid (HCS.out k o ho)
        have HTK := Lib.hid (HTS.out k o ho)
        have HDK := Lib.hid (HDS.out k o ho)
        have HLT := Lib.hid hlt
        have hcp := cnt_pos o
        have hdp := HDP.out
        clear hne hew hat hcall ho e1 e2
        go_wp2_with fail
        refine HCALL.out.mono ?_
        rintro e w2 ⟨a, b2, ok, rfl, hok, hb2⟩
        have HB2 := Lib.hid (chain HBW.out hb2)
        have HOK := Lib.hid hok
        have HCP := Lib.hid hcp
        clear hc0 hc1 hc2 hq2 hlt0 hb2 hok hcp
        cases ok with
        | false =>
          go_wp2_with fail
          go_ret3
          exact ⟨0, 0, false, rfl, (fun h => by cases h), chain HB1.out HB2.out⟩
        | true =>
          by_cases h10 : (10000 : Int) < (CN k : Int)
          · go_wp2_with fail
            go_ret3
            exact ⟨0, 0, false, rfl, (fun h => by cases h), chain HB1.out HB2.out⟩
          · obtain ⟨h1, h2, h3, h4⟩ := HOK.out rfl
            have H1 := Lib.hid h1
            have H3 := Lib.hid h3
            have H4 := Lib.hid h4
            have ha0 : 0 ≤ a := by omega
            have ha1 : a ≤ 300030 := by omega
            have hA2 := Lib.hid h2
            have hk9 := HCKK.out k hk
            have hk10 : k ≤ 10000 := by omega
            clear h1 h2 h3 h4 hk9
            go_wp2_with fail
            refine ⟨⟨k + 1, _, by have := HLT.out; omega, by go_num, ?_, rfl, Lib.hid ?_, Lib.hid ?_, Lib.hid ?_, HB2⟩, by have := HLT.out; simp [intOf]; omega⟩
            · have h1 := H1.out
              have h5 := HCK.out
              congr 1
              omega
            · have h1 := H1.out
              have h2 := hA2.out
              have h5 := HCK.out
              omega
            · have h3 := H3.out
              have h5 := HDB.out
              rw [HDK.out]
              omega
            · intro h42
              have h5 := HCK.out
              have h6 := HTK.out
              have h7 := HTC.out (k + 1)
              have h8 := HBK.out (by omega)
              have h9 := H4.out (by omega)
              rw [h8, h9]
              unfold wrap64
              omega
      · have hkk : k = n := by omega
        have HKK := Lib.hid hkk
        have hge : ¬ (k : Int) < (n : Int) := by omega
        clear hkk
        go_wp2_with fail
        go_ret3
        refine ⟨_, bk, true, rfl, (fun _ => ?_), chain HB1.out HBW.out⟩
        have hkk := HKK.out
        have h1 := HCB.out
        have h2 := HDB.out
        have h3 := HBK.out
        rw [hkk] at h1 h2 h3 ⊢
        rw [HCE.out] at h1 h3 ⊢
        rw [HTE.out] at h3
        exact ⟨rfl, h1, by rw [HDE.out]; omega, h3⟩
theorem weigh_all : ∀ (n : Nat) (o : Oct), cnt o ≤ n → ∀ (deep : Int), deep ≤ 30 → ∀ (V : World) (x y : Value), At (fun _ => True) V o x y → Calls Try.prog 52 #[.agg (cell3 o x y), .int .i64 deep] V (WgPost o deep V) := fun n => by
  induction n with
  | zero => intro o h; have := cnt_pos o; omega
  | succ n ih =>
    intro o h deep hd V x y hat
    cases o with
    | mk t b l =>
      rw [cnt] at h
      exact weigh_of t b l deep hd (fun k o ho V x y hat => ih o (by have := cnt_le l o (List.mem_of_getElem? ho); omega) (deep - 1) (by omega) V x y hat) V x y hat
def GtPost (o : Oct) (w : World) (e : Ending) (w' : World) : Prop := ∃ g : Bool, e = .returned (.bool g) ∧ (g = false → cnt o ≤ 4200 ∧ dep o ≤ 30 ∧ tot o ≤ 80000) ∧ Below w.heap.size w w'
end Go.Proofs.Ytlbchefdkdngnaa
