/-
  OctetBack: the value with the encoding of a value is the value. Written by wip/gen-oc19.py.
-/
import Derived.Test.YtlbchefdkdngnaaOcRJ
namespace Go.Proofs.Ytlbchefdkdngnaa
open Go.ChangeShapes Go.WideShapes Go.ChangeAt Go.RowKit Sha Oc
set_option linter.unusedVariables false
set_option linter.unusedSimpArgs false
set_option maxRecDepth 100000
set_option maxHeartbeats 4000000 in
theorem back_true (w : World) (o : Oct) (x y : Value) (hat : At (fun _ => True) w o x y) :
    Calls Try.prog 7 #[.agg (cell3 o x y)] w (fun e w' => e = .returned (.bool true) ∧ Below w.heap.size w w') := by
  have HGT := Lib.hid (fun (V : World) (hb : Below w.heap.size w V) => great8_any o V x y (hat.on hb))
  have HEN := Lib.hid (fun (hcn : cnt o ≤ 5000) (htt : tot o ≤ 100000) (V : World) (hb : Below w.heap.size w V) => encode_any o hcn htt V x y (hat.on hb))
  have HCK := Lib.hid (fun (hcn : cnt o ≤ 5000) (htt : tot o ≤ 100000) (V : World) (hb : Below w.heap.size w V) => check_any8 o (by omega) htt V x y (hat.on hb))
  have HSA := Lib.hid (fun (hcn : cnt o ≤ 5000) (htt : tot o ≤ 100000) (V : World) (hb : Below w.heap.size w V) (x' y' : Value) (h2 : At (fun _ => True) V o x' y') => same_all8 5000 o hcn (by decide) (by omega) V x y x' y' (hat.on hb) h2)
  unfold GtPost at HGT
  unfold EncPost at HEN
  unfold SmPost at HSA
  obtain ⟨A1, m1, c1, B1, n1, d1, rfl, rfl⟩ := hat.slices
  obtain ⟨tz, htz⟩ : ∃ tz : Int, ((tagO o).toNat : Int) = tz := ⟨_, rfl⟩
  have HTZ := Lib.hid htz
  unfold cell3 at HGT HEN HCK HSA
  show Calls Try.prog 7 #[.agg #[.int .u8 ((tagO o).toNat : Int), .slice A1 m1 c1, .slice B1 n1 d1]] w _
  rw [htz] at HGT HEN HCK HSA ⊢
  clear htz hat
  have HROW := Lib.hid (heap_alloc_new w (.cells #[.int .u8 tz, .slice A1 m1 c1, .slice B1 n1 d1] 28))
  have HB0 := Lib.hid (below_new w (.cells #[.int .u8 tz, .slice A1 m1 c1, .slice B1 n1 d1] 28))
  go_enter Try.func7, Try.ntmps7
  go_upto_region 1 with (fail)
  generalize hV : World.alloc w _ = V at HROW HB0 ⊢
  clear hV
  go_wp2_with fail
  refine (alive8_any V).mono ?_
  rintro e w1 ⟨rfl, hb1⟩
  have HR1 := Lib.hid (row_on HROW.out hb1)
  have HB1 := Lib.hid (chain HB0.out hb1)
  clear hb1 HROW HB0
  have hlq := (Array.getElem?_eq_some_iff.1 HR1.out).1
  obtain ⟨_, q0, q1, q2⟩ := facts3 HR1.out
  have hrq := range3o q0 q1 q2
  go_wp2_with fail
  refine (HGT.out w1 HB1.out).mono ?_
  rintro e w2 ⟨bb, rfl, hgt, hb2⟩
  have HR2 := Lib.hid (row_on HR1.out hb2)
  have HB2 := Lib.hid (chain HB1.out hb2)
  clear hb2 HR1 HGT
  clear hlq q0 q1 q2 hrq
  cases bb with
  | true =>
    clear hgt
    go_wp2_with fail
    go_ret
    exact ⟨rfl, HB2.out⟩
  | false =>
    have hcn : cnt o ≤ 5000 := by have := hgt rfl; omega
    have htt : tot o ≤ 100000 := by have := hgt rfl; omega
    have HEN2 := Lib.hid (HEN.out hcn htt w2 HB2.out)
    have HCK2 := Lib.hid (HCK.out hcn htt)
    have HSA2 := Lib.hid (HSA.out hcn htt)
    clear hgt HEN HCK HSA hcn htt
    have hlq := (Array.getElem?_eq_some_iff.1 HR2.out).1
    obtain ⟨_, q0, q1, q2⟩ := facts3 HR2.out
    have hrq := range3o q0 q1 q2
    go_wp2_with fail
    refine HEN2.out.mono ?_
    rintro e w3 ⟨hb3, ⟨hk, v3, rfl, hown⟩ | ⟨hk, rfl⟩⟩
    · obtain ⟨A9, c9, rfl, hc9, hn9, hs9, _⟩ := own_rd3 hown
      obtain ⟨M, hM⟩ : ∃ M, (enc o).length = M := ⟨_, rfl⟩
      have HR3 := Lib.hid (row_on HR2.out hb3)
      have HB3 := Lib.hid (chain HB2.out hb3)
      have hg := (ckV_good o).1 hk
      have HDE := Lib.hid (decode_any (enc o) (by have := hg.2.2.2; omega) A9 c9 hc9 hn9 w3 hs9)
      have HDV := Lib.hid (decV_enc o hk)
      unfold DecPost at HDE
      rw [hM] at HDE ⊢
      have HK := Lib.hid hk
      clear hb3 hown hc9 hn9 hs9 hM hg hk HEN2 HR2 hlq q0 q1 q2 hrq
      go_wp2_with fail
      refine HDE.out.mono ?_
      rintro e w4 ⟨hb4, x4, y4, rfl, hat4⟩
      rw [HDV.out] at hat4 ⊢
      obtain ⟨A4, m4, c4, B4, n4, d4, rfl, rfl⟩ := hat4.slices
      unfold cell3
      rw [HTZ.out]
      have HB4 := Lib.hid (chain HB3.out hb4)
      have HR4 := Lib.hid (row_on HR3.out hb4)
      have HAT4 := Lib.hid hat4.any
      clear hb4 hat4 HDE HDV HR3
      go_upto_region 8 with (fail)
      generalize hV : World.alloc w4 _ = w5
      have hb5 : Below w4.heap.size w4 w5 := by rw [← hV]; exact below_new _ _
      have hr5 : w5.heap[w4.heap.size]? = some (.cells #[.int .u8 tz, .slice A4 m4 c4, .slice B4 n4 d4] 28 (0, 0)) := by rw [← hV]; exact heap_alloc_new _ _
      have HB5 := Lib.hid (chain HB4.out hb5)
      have HR5 := Lib.hid (row_on HR4.out hb5)
      have HSA5 := Lib.hid (HSA2.out w5 HB5.out _ _ (HAT4.out.on hb5))
      have hlq := (Array.getElem?_eq_some_iff.1 HR5.out).1
      obtain ⟨_, q0, q1, q2⟩ := facts3 HR5.out
      have hrq := range3o q0 q1 q2
      have hlp := (Array.getElem?_eq_some_iff.1 hr5).1
      obtain ⟨_, p0, p1, p2⟩ := facts3 hr5
      have hrp := range3o p0 p1 p2
      clear hV hb5 hr5 HAT4 HR4 HSA2
      go_wp2_with fail
      refine HSA5.out.mono ?_
      rintro e w6 ⟨rfl, hb6⟩
      have HB6 := Lib.hid (chain HB5.out hb6)
      have HR6 := Lib.hid (row_on HR5.out hb6)
      have HCK6 := Lib.hid (HCK2.out w6 HB6.out)
      rw [HK.out] at HCK6
      clear hb6 HSA5 HR5 hlq q0 q1 q2 hrq hlp p0 p1 p2 hrp HCK2
      have hlq := (Array.getElem?_eq_some_iff.1 HR6.out).1
      obtain ⟨_, q0, q1, q2⟩ := facts3 HR6.out
      have hrq := range3o q0 q1 q2
      go_wp2_with fail
      refine HCK6.out.mono ?_
      rintro e w7 ⟨rfl, hb7⟩
      have HB7 := Lib.hid (chain HB6.out hb7)
      clear hb7 HCK6 hlq q0 q1 q2 hrq
      go_wp2_with fail
      go_ret
      exact ⟨rfl, HB7.out⟩
    · obtain ⟨E, hE⟩ : ∃ E, ckV o = E := ⟨_, rfl⟩
      have HR3 := Lib.hid (row_on HR2.out hb3)
      have HB3 := Lib.hid (chain HB2.out hb3)
      have HCK3 := Lib.hid (HCK2.out w3 HB3.out)
      rw [hE] at hk HCK3 ⊢
      have hki : ((E : Int) != 0) = true := by simp [hk]
      clear hb3 hE hk HEN2 HR2 hlq q0 q1 q2 hrq HCK2 HSA2
      have hlq := (Array.getElem?_eq_some_iff.1 HR3.out).1
      obtain ⟨_, q0, q1, q2⟩ := facts3 HR3.out
      have hrq := range3o q0 q1 q2
      go_wp2_with fail
      refine HCK3.out.mono ?_
      rintro e w4 ⟨rfl, hb4⟩
      have HB4 := Lib.hid (chain HB3.out hb4)
      clear hb4 HCK3 hlq q0 q1 q2 hrq hki
      go_wp2_with fail
      go_ret
      exact ⟨rfl, HB4.out⟩
/-! The row -/
set_option maxRecDepth 100000 in
theorem back8_lifted (os : Os) (started : os.Started) (H : Type) (enc : TypeId × Value → H) :
    ReturnsInHanded {} Try.checked os 7 .any (Rows.octetBackSpec.pre6 enc Try.prog Try.f7 Rows.octetBackRow.domain false) (Rows.octetBackSpec.post enc Try.prog Try.f7 false true false false) := by
  refine sized_of_change (C := Try.checked) Try.own started (by kernel_rfl) Try.func7 rfl
    (ChangeSpec.witness6 (enc := enc) (C := Try.checked) false ⟨#[], #[.agg #[.int .u8 0, .slice none 0 0, .slice none 0 0]], []⟩ 8 (by kernel_rfl) (by kernel_rfl) (by kernel_rfl) (by kernel_rfl)) ?_
  intro W base args ds gs before hval0 hW hwts
  have hval : ∀ (j : Nat) t v, Try.f7.params[j]? = some t → args[j]? = some v → Value.okWide Try.prog W .any base t v := hval0
  have hW' := hW
  obtain ⟨p, q, hA0, hV, rfl, hfz, hnd⟩ := hW
  have hA : DataW.TrodAll enc Try.prog W 0 (fun _ => true) true Try.f7.params.toList args.toList ds p := hA0
  have hwt : ∀ n ∈ DataW.weightsEach Try.prog Try.f7.params.toList ds, n ≤ 140737488355328 := hwts
  rw [Try.params7] at hA hval hwt
  obtain ⟨v0, vs0, d0, ds0, p0, q0, hargs, rfl, rfl, h0, r0⟩ := trodAll_cons hA
  obtain ⟨rfl, rfl, rfl⟩ := trodAll_nil r0
  obtain rfl : args = #[v0] := by cases args; simp_all
  obtain ⟨rfl, rfl⟩ := trodVars_none hV
  obtain ⟨o0, x0, y0, rfl, hat0⟩ := open_oct (hval 0 28 v0 rfl rfl) h0 (fun n hn => hwt n (List.mem_append_left _ hn))
  refine (back_true W o0 x0 y0 hat0).mono fun e W' ⟨he, hg⟩ => ?_
  subst he
  exact ⟨_, rfl, law_post Try.laidOut (by kernel_rfl) (by kernel_rfl) hW' hg (trodAll_cons_mk (shut_bool Try.underlying4 _) trodAll_mk0) rfl rfl⟩

/-- the statement -/
theorem back8_holds : Rows.OctetBackSaid :=
  OpenClaim.holds_of_wide 7 Try.f7 rfl rfl rfl rfl rfl rfl rfl ⟨rfl, rfl, rfl, rfl, rfl⟩ rfl rfl rfl rfl rfl (by kernel_rfl) Try.func7 (by kernel_rfl)
    (of_decide_eq_true (by kernel_rfl)) (by unfold Func.isWrapper; rw [if_neg (of_decide_eq_false (by kernel_rfl))]; exact ⟨rfl, rfl⟩)
    (fun os started H enc _ => back8_lifted os started H enc)
#print axioms back8_holds
end Go.Proofs.Ytlbchefdkdngnaa
