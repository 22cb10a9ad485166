/-
  THE WALK over layer 8's reference: shaped. Written by wip/gen-oc11.py.
-/
import Derived.Test.YtlbchefdkdngnaaOcR
namespace Go.Proofs.Ytlbchefdkdngnaa
open Go.RowKit Sha Oc
set_option linter.unusedVariables false
set_option linter.unusedSimpArgs false
def okTop (t : UInt8) (m n : Nat) : Bool := decide (t.toNat ≠ 0 ∧ (t.toNat < 128 → n = 0) ∧ (128 ≤ t.toNat → m = 0))
mutual
def shpB : Oct → Bool
  | .mk t b l => okTop t b.length l.length && shpsB l
def shpsB : List Oct → Bool
  | [] => true
  | v :: r => shpB v && shpsB r
end
mutual
theorem shpB_iff : ∀ o : Oct, shpB o = true ↔ shp o
  | .mk t b l => by
    have h1 := shpsB_iff l
    have h2 : t.toNat ≠ 0 ↔ t ≠ 0 := ⟨fun h e => h (by rw [e]; rfl), fun h e => h (UInt8.toNat_inj.1 e)⟩
    rw [shpB, shp, Bool.and_eq_true, h1, okTop, decide_eq_true_eq, List.length_eq_zero_iff, List.length_eq_zero_iff, h2]
    exact ⟨fun ⟨⟨a, b, c⟩, d⟩ => ⟨a, b, c, d⟩, fun ⟨a, b, c, d⟩ => ⟨⟨a, b, c⟩, d⟩⟩
theorem shpsB_iff : ∀ l : List Oct, shpsB l = true ↔ shps l
  | [] => by rw [shpsB, shps]; exact ⟨fun _ => trivial, fun _ => rfl⟩
  | v :: r => by rw [shpsB, shps, Bool.and_eq_true, shpB_iff v, shpsB_iff r]
end
theorem shpsB_snoc : ∀ (l : List Oct) (o : Oct), shpsB (l ++ [o]) = (shpsB l && shpB o)
  | [], o => by simp [shpsB]
  | v :: r, o => by rw [List.cons_append, shpsB, shpsB_snoc r o, shpsB, Bool.and_assoc]
theorem shpsB_no : ∀ (l : List Oct) (o : Oct), o ∈ l → shpB o = false → shpsB l = false
  | [], _, h, _ => by cases h
  | v :: r, o, h, hf => by
    rw [shpsB]
    rcases List.mem_cons.1 h with rfl | h
    · rw [hf]; rfl
    · rw [shpsB_no r o h hf, Bool.and_false]
set_option maxRecDepth 100000 in
set_option maxHeartbeats 4000000 in
theorem shaped_of (t : UInt8) (b : List UInt8) (l : List Oct) (hcn : cnt (.mk t b l) ≤ 100000) (hW : ∀ (k : Nat) (o : Oct), l[k]? = some o → ∀ (V : World) (x y : Value), At (fun _ => True) V o x y → Calls Try.prog 55 #[.agg (cell3 o x y)] V (fun e w' => e = .returned (.bool (shpB o)) ∧ Below V.heap.size V w'))
    (w : World) (x y : Value) (hat : At (fun _ => True) w (.mk t b l) x y) : Calls Try.prog 55 #[.agg (cell3 (.mk t b l) x y)] w (fun e w' => e = .returned (.bool (shpB (.mk t b l))) ∧ Below w.heap.size w w') := by
  obtain ⟨A, c, B, d, g, off, vb, vl, rfl, rfl, hc, hbm, hcn0, hs, hd, hdn, he⟩ := hat.els
  show Calls Try.prog 55 #[.agg #[.int .u8 (t.toNat : Int), .slice A b.length c, .slice B l.length d]] w _
  obtain ⟨n, hn⟩ : ∃ n, l.length = n := ⟨_, rfl⟩
  obtain ⟨m, hm⟩ : ∃ m, b.length = m := ⟨_, rfl⟩
  have hll := len_cnts l
  rw [cnt] at hcn
  have HWW := Lib.hid hW
  have HE := Lib.hid he
  have HN5 : RowKit.Hid (n ≤ 100000) := Lib.hid (by omega)
  have HM : RowKit.Hid (m ≤ 140737488355328) := Lib.hid (by omega)
  have HROW := Lib.hid (heap_alloc_new w (.cells #[.int .u8 (t.toNat : Int), .slice A m c, .slice B n d] 28))
  have HB0 := Lib.hid (below_new w (.cells #[.int .u8 (t.toNat : Int), .slice A m c, .slice B n d] 28))
  rw [hn, hm]
  clear hW he hat hs hc hbm hcn0 hd hdn hll hcn
  have hb := t.toNat_lt
  obtain ⟨z, hz⟩ : ∃ z, t.toNat = z := ⟨_, rfl⟩
  rw [hz] at HROW HB0 hb ⊢
  have hz8 : z < 256 := hb
  by_cases h0 : z = 0
  · subst h0
    have HF : RowKit.Hid (shpB (.mk t b l) = false) := Lib.hid (by rw [shpB, hm, hn]; unfold okTop; rw [hz, decide_eq_false (by omega)]; rfl)
    clear hm hn hz hb
    go_enter Try.func55, Try.ntmps55
    go_upto_region 1 with (fail)
    generalize hV : World.alloc w _ = V at HROW HB0 ⊢
    clear hV
    have hlt := (Array.getElem?_eq_some_iff.1 HROW.out).1
    obtain ⟨_, hc0, hc1, hc2⟩ := facts3 HROW.out
    go_wp2_with fail
    go_ret
    exact ⟨by rw [HF.out]; try rfl, HB0.out⟩
  · have h0i : ((z : Int) == 0) = false := by simp [h0]
    by_cases h1 : z < 128
    · have h1i : (z : Int) < 128 := by omega
      have h1j : ¬ (128 : Int) ≤ (z : Int) := by omega
      by_cases h2 : n = 0
      · subst h2
        have HT : RowKit.Hid (shpB (.mk t b l) = true) := Lib.hid (by
          have hl : l = [] := List.length_eq_zero_iff.1 hn
          rw [shpB, hm, hn]
          unfold okTop
          rw [hz, decide_eq_true (by omega), hl]
          rfl)
        clear hm hn hz hb
        go_enter Try.func55, Try.ntmps55
        go_upto_region 1 with (fail)
        generalize hV : World.alloc w _ = V at HROW HB0 ⊢
        clear hV
        have hlt := (Array.getElem?_eq_some_iff.1 HROW.out).1
        obtain ⟨_, hc0, hc1, hc2⟩ := facts3 HROW.out
        go_wp2_with fail
        clear hlt hc0 hc1 hc2
        go_loopw [3] (fun ix wr => ix = .int .i64 0 ∧ RowKit.Hid (Below V.heap.size V wr)) (fun _ _ => 0)
        case atStart => exact ⟨rfl, Lib.hid (Below.refl _ _)⟩
        case round =>
          obtain ⟨rfl, HBW⟩ := hrel
          have HR := Lib.hid (row_on HROW.out HBW.out)
          have hlt0 := (Array.getElem?_eq_some_iff.1 HR.out).1
          have hq2 := (facts3 HR.out).2.2.2
          go_wp2_with fail
          go_ret
          exact ⟨by rw [HT.out]; try rfl, chain HB0.out HBW.out⟩
      · have h2i : (0 : Int) < (n : Int) := by omega
        have HF : RowKit.Hid (shpB (.mk t b l) = false) := Lib.hid (by rw [shpB, hm, hn]; unfold okTop; rw [hz, decide_eq_false (by omega)]; rfl)
        clear hm hn hz hb
        go_enter Try.func55, Try.ntmps55
        go_upto_region 1 with (fail)
        generalize hV : World.alloc w _ = V at HROW HB0 ⊢
        clear hV
        have hlt := (Array.getElem?_eq_some_iff.1 HROW.out).1
        obtain ⟨_, hc0, hc1, hc2⟩ := facts3 HROW.out
        go_wp2_with fail
        go_ret
        exact ⟨by rw [HF.out]; try rfl, HB0.out⟩
    · have h1i : ¬ (z : Int) < 128 := by omega
      have h1j : (128 : Int) ≤ (z : Int) := by omega
      by_cases h2 : m = 0
      · subst h2
        have HT : RowKit.Hid (shpB (.mk t b l) = shpsB l) := Lib.hid (by rw [shpB, hm, hn]; unfold okTop; rw [hz, decide_eq_true (by omega)]; rfl)
        have HN := Lib.hid hn
        clear hm hn hz hb
        go_enter Try.func55, Try.ntmps55
        go_upto_region 1 with (fail)
        generalize hV : World.alloc w _ = V at HROW HB0 ⊢
        clear hV
        have hlt := (Array.getElem?_eq_some_iff.1 HROW.out).1
        obtain ⟨_, hc0, hc1, hc2⟩ := facts3 HROW.out
        go_wp2_with fail
        clear hlt hc0 hc1 hc2
        go_loopw [3] (fun ix wr => ∃ k : Nat, k ≤ n ∧ ix = .int .i64 (k : Int) ∧ RowKit.Hid (shpsB (l.take k) = true) ∧ RowKit.Hid (Below V.heap.size V wr)) (fun ix _ => n - (intOf ix).toNat)
        case atStart => exact ⟨0, by omega, rfl, Lib.hid rfl, Lib.hid (Below.refl _ _)⟩
        case round =>
          obtain ⟨k, hk, rfl, HSB, HBW⟩ := hrel
          have HR := Lib.hid (row_on HROW.out HBW.out)
          have hlt0 := (Array.getElem?_eq_some_iff.1 HR.out).1
          have hq2 := (facts3 HR.out).2.2.2
          by_cases hltk : k < n
          · have hki : (k : Int) < (n : Int) := by omega
            have hn5 := HN5.out
            obtain ⟨o, ho⟩ : ∃ o, l[k]? = some o := ⟨_, List.getElem?_eq_getElem (by rw [HN.out]; exact hltk)⟩
            have hne : l ≠ [] := fun e => by rw [e] at ho; simp at ho
            have hBB := HE.out.hB hne
            subst hBB
            have hew := HE.out.on (chain HB0.out HBW.out)
            have hc0 := hew.h0 k o ho
            have hc1 := hew.h1 k o ho
            have hc2 := hew.h2 k o ho
            have hat := hew.hr k o ho
            obtain ⟨A1, m1, c1, B1, n1, d1, e1, e2⟩ := hat.slices
            rw [e1] at hc1 hat
            rw [e2] at hc2 hat
            have HCALL := Lib.hid (HWW.out k o ho wr _ _ hat)
            have HTK : RowKit.Hid (l.take (k + 1) = l.take k ++ [o]) := Lib.hid (by rw [List.take_add_one, ho]; rfl)
            have HMEM := Lib.hid (List.mem_of_getElem? ho)
            clear hne hew hat ho e1 e2
            go_wp2_with fail
            refine HCALL.out.mono ?_
            rintro e w2 ⟨rfl, hb2⟩
            have HB2 := Lib.hid (chain HBW.out hb2)
            clear hc0 hc1 hc2 hq2 hlt0 hb2
            obtain ⟨so, hso⟩ : ∃ so, shpB o = so := ⟨_, rfl⟩
            have HSO := Lib.hid hso
            try rw [hso]
            clear hso
            cases so with
            | true =>
              go_wp2_with fail
              exact ⟨⟨k + 1, by omega, by go_num, Lib.hid (by rw [HTK.out, shpsB_snoc, HSB.out, HSO.out]; rfl), HB2⟩, by simp [intOf]; omega⟩
            | false =>
              go_wp2_with fail
              go_ret
              exact ⟨by rw [HT.out, shpsB_no l o HMEM.out HSO.out]; try rfl, chain HB0.out HB2.out⟩
          · have hkk : k = n := by omega
            have HKK := Lib.hid hkk
            have hge : ¬ (k : Int) < (n : Int) := by omega
            clear hkk
            go_wp2_with fail
            go_ret
            refine ⟨?_, chain HB0.out HBW.out⟩
            have h1 := HSB.out
            rw [HKK.out, List.take_of_length_le (by rw [HN.out]; exact Nat.le_refl _)] at h1
            rw [HT.out, h1]
            try rfl
      · have h2i : (0 : Int) < (m : Int) := by omega
        have HF : RowKit.Hid (shpB (.mk t b l) = false) := Lib.hid (by rw [shpB, hm, hn]; unfold okTop; rw [hz, decide_eq_false (by omega)]; rfl)
        clear hm hn hz hb
        go_enter Try.func55, Try.ntmps55
        go_upto_region 1 with (fail)
        generalize hV : World.alloc w _ = V at HROW HB0 ⊢
        clear hV
        have hlt := (Array.getElem?_eq_some_iff.1 HROW.out).1
        obtain ⟨_, hc0, hc1, hc2⟩ := facts3 HROW.out
        go_wp2_with fail
        go_ret
        exact ⟨by rw [HF.out]; try rfl, HB0.out⟩
theorem shaped_all : ∀ (n : Nat) (o : Oct), cnt o ≤ n → n ≤ 100000 → ∀ (V : World) (x y : Value), At (fun _ => True) V o x y → Calls Try.prog 55 #[.agg (cell3 o x y)] V (fun e w' => e = .returned (.bool (shpB o)) ∧ Below V.heap.size V w') := fun n => by
  induction n with
  | zero => intro o h; have := cnt_pos o; omega
  | succ n ih =>
    intro o h hn V x y hat
    cases o with
    | mk t b l =>
      exact shaped_of t b l (by omega) (fun k o ho V x y hat => ih o (by rw [cnt] at h; have := cnt_le l o (List.mem_of_getElem? ho); omega) (by omega) V x y hat) V x y hat
end Go.Proofs.Ytlbchefdkdngnaa
