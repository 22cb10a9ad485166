/-
  OctetOnce: bytes that are accepted are an encoding. Written by wip/gen-oc19.py.
-/
import Derived.Test.YtlbchefdkdngnaaOcRJ
namespace Go.Proofs.Ytlbchefdkdngnaa
open Go.ChangeShapes Go.WideShapes Go.ChangeAt Go.RowKit Sha Oc
set_option linter.unusedVariables false
set_option linter.unusedSimpArgs false
set_option maxRecDepth 100000
set_option maxHeartbeats 4000000 in
theorem once_true (w : World) (b : List UInt8) (A : Option Addr) (c : Nat) (hc : b.length ≤ c) (hcm : c ≤ 140737488355328) (hA : A = none → c = 0) (hs : SrcAt A b w) :
    Calls Try.prog 8 #[.slice A b.length c] w (fun e w' => e = .returned (.bool true) ∧ Below w.heap.size w w') := by
  obtain ⟨m, hm⟩ : ∃ m, b.length = m := ⟨_, rfl⟩
  have HDE := Lib.hid (fun (h : b.length ≤ 100000) (V : World) (hb : Below w.heap.size w V) => decode_any b h A c hc hA V (hs.on hb))
  unfold DecPost at HDE
  have HS := Lib.hid hs
  have HM := Lib.hid hm
  have HC : RowKit.Hid (m ≤ c) := Lib.hid (by omega)
  have hmm : m ≤ 140737488355328 := by omega
  rw [hm] at HDE ⊢
  have HAL := Lib.hid (alive8_any w)
  have HNIL := Lib.hid (fun (V : World) (x' y' : Value) (h1 : At (fun _ => True) V nilO x' y') => same_all8 5000 nilO (by decide) (by decide) (by decide) V x' y' (.slice none 0 0) (.slice none 0 0) h1 (nil_list _ _))
  unfold SmPost cell3 at HNIL
  dsimp only [tagO] at HNIL
  clear hs hA hc hcm hm
  go_enter Try.func8, Try.ntmps8
  go_wp2_with fail
  refine HAL.out.mono ?_
  rintro e w1 ⟨rfl, hb1⟩
  have HB1 := Lib.hid hb1
  clear hb1 HAL
  by_cases h7 : 70000 < m
  · have h7i : (70000 : Int) < (m : Int) := by omega
    go_wp2_with fail
    go_ret
    exact ⟨rfl, HB1.out⟩
  · have h7i : ¬ (70000 : Int) < (m : Int) := by omega
    have HM7 := Lib.hid h7
    go_wp2_with fail
    refine (HDE.out (by have := HM7.out; omega) w1 HB1.out).mono ?_
    rintro e w2 ⟨hb2, x2, y2, rfl, hat2⟩
    have HB2 := Lib.hid (chain HB1.out hb2)
    obtain ⟨A2, m2, c2, B2, n2, d2, rfl, rfl⟩ := hat2.slices
    have err : ∀ E : Int, decV b = (nilO, E) → (E = 12 ∨ (E = 4 ∧ 65536 < m)) → True := fun _ _ _ => trivial
    rcases decV_cases b with ⟨o, hd, he, hk⟩ | ⟨hd, hl⟩ | ⟨hd, hl⟩
    · rw [hd] at hat2 ⊢
      have hg := (ckV_good o).1 hk
      have HEN := Lib.hid (fun (V : World) (hb : Below w2.heap.size w2 V) => encode_any o (by have := hg.1; omega) (by have := tot_enc o; have := hg.2.2.2; omega) V _ _ (hat2.any.on hb))
      unfold EncPost at HEN
      obtain ⟨tz, htz⟩ : ∃ tz : Int, ((tagO o).toNat : Int) = tz := ⟨_, rfl⟩
      unfold cell3 at HEN ⊢
      rw [htz] at HEN ⊢
      rw [he] at HEN
      have HK := Lib.hid hk
      clear hb2 hat2 HDE HNIL hd he hk hg err htz
      go_upto_region 5 with (fail)
      generalize hV : World.alloc w2 _ = w3
      have hb3 : Below w2.heap.size w2 w3 := by rw [← hV]; exact below_new _ _
      have hr3 : w3.heap[w2.heap.size]? = some (.cells #[.int .u8 tz, .slice A2 m2 c2, .slice B2 n2 d2] 28 (0, 0)) := by rw [← hV]; exact heap_alloc_new _ _
      have HB3 := Lib.hid (chain HB2.out hb3)
      have HEN3 := Lib.hid (HEN.out w3 hb3)
      have hlq := (Array.getElem?_eq_some_iff.1 hr3).1
      obtain ⟨_, q0, q1, q2⟩ := facts3 hr3
      have hrq := range3o q0 q1 q2
      clear hV hb3 hr3 HB2 HEN
      go_wp2_with fail
      refine HEN3.out.mono ?_
      rintro e w4 ⟨hb4, hen⟩
      obtain ⟨v4, rfl, hown⟩ := hen.elim (fun h => h.2) (fun h => absurd HK.out h.1)
      clear hen
      obtain ⟨A9, c9, rfl, hc9, _, hs9, _⟩ := own_rd3 hown
      have HB4 := Lib.hid (chain HB3.out hb4)
      have HSB := Lib.hid (samebytes_eq b A9 A c9 c (by rw [HM.out]; have := HM7.out; omega) hc9 (by rw [HM.out]; exact HC.out) w4 hs9 (HS.out.on HB4.out))
      rw [HM.out] at HSB ⊢
      clear hb4 hown hc9 hs9 HEN3 hlq q0 q1 q2 hrq
      go_wp2_with fail
      refine HSB.out.mono ?_
      rintro e w5 ⟨rfl, k, rfl⟩
      have HB5 := Lib.hid (below_drewN HB4.out k)
      clear HSB
      generalize World.drewN _ _ = w5 at HB5 ⊢
      go_wp2_with fail
      go_ret
      exact ⟨rfl, HB5.out⟩
    · rw [hd] at hat2 ⊢
      rw [HM.out] at hl
      have HNW := Lib.hid (fun (V : World) (hb : Below w2.heap.size w2 V) => HNIL.out V _ _ (hat2.any.on hb))
      unfold cell3
      dsimp only [tagO]
      clear hb2 hat2 HDE HNIL hd err
      have hli : (65536 : Int) < (m : Int) := by omega
      go_upto_region 5 with (fail)
      generalize hV : World.alloc w2 _ = w3
      have hb3 : Below w2.heap.size w2 w3 := by rw [← hV]; exact below_new _ _
      have hr3 : w3.heap[w2.heap.size]? = some (.cells #[.int .u8 0, .slice A2 m2 c2, .slice B2 n2 d2] 28 (0, 0)) := by rw [← hV]; exact heap_alloc_new _ _
      have HB3 := Lib.hid (chain HB2.out hb3)
      have HN3 := Lib.hid (HNW.out w3 hb3)
      have hlq := (Array.getElem?_eq_some_iff.1 hr3).1
      obtain ⟨_, q0, q1, q2⟩ := facts3 hr3
      have hrq := range3o q0 q1 q2
      clear hV hb3 hr3 HB2 HNW
      go_wp2_with fail
      refine HN3.out.mono ?_
      rintro e w4 ⟨rfl, hb4⟩
      have HB4 := Lib.hid (chain HB3.out hb4)
      clear hb4 HN3 hlq q0 q1 q2 hrq
      go_wp2_with fail
      go_ret
      exact ⟨rfl, HB4.out⟩
    · rw [hd] at hat2 ⊢
      rw [HM.out] at hl
      have HNW := Lib.hid (fun (V : World) (hb : Below w2.heap.size w2 V) => HNIL.out V _ _ (hat2.any.on hb))
      unfold cell3
      dsimp only [tagO]
      clear hb2 hat2 HDE HNIL hd err
      go_upto_region 5 with (fail)
      generalize hV : World.alloc w2 _ = w3
      have hb3 : Below w2.heap.size w2 w3 := by rw [← hV]; exact below_new _ _
      have hr3 : w3.heap[w2.heap.size]? = some (.cells #[.int .u8 0, .slice A2 m2 c2, .slice B2 n2 d2] 28 (0, 0)) := by rw [← hV]; exact heap_alloc_new _ _
      have HB3 := Lib.hid (chain HB2.out hb3)
      have HN3 := Lib.hid (HNW.out w3 hb3)
      have hlq := (Array.getElem?_eq_some_iff.1 hr3).1
      obtain ⟨_, q0, q1, q2⟩ := facts3 hr3
      have hrq := range3o q0 q1 q2
      clear hV hb3 hr3 HB2 HNW
      go_wp2_with fail
      refine HN3.out.mono ?_
      rintro e w4 ⟨rfl, hb4⟩
      have HB4 := Lib.hid (chain HB3.out hb4)
      clear hb4 HN3 hlq q0 q1 q2 hrq
      go_wp2_with fail
      go_ret
      exact ⟨rfl, HB4.out⟩
/-! The row -/
set_option maxRecDepth 100000 in
theorem once8_lifted (os : Os) (started : os.Started) (H : Type) (enc : TypeId × Value → H) :
    ReturnsInHanded {} Try.checked os 8 .any (Rows.octetOnceSpec.pre6 enc Try.prog Try.f8 Rows.octetOnceRow.domain false) (Rows.octetOnceSpec.post enc Try.prog Try.f8 false true false false) := by
  refine sized_of_change (C := Try.checked) Try.own started (by kernel_rfl) Try.func8 rfl
    (ChangeSpec.witness6 (enc := enc) (C := Try.checked) false ⟨#[], #[.slice none 0 0], []⟩ 8 (by kernel_rfl) (by kernel_rfl) (by kernel_rfl) (by kernel_rfl)) ?_
  intro W base args ds gs before hval0 hW hwts
  have hval : ∀ (j : Nat) t v, Try.f8.params[j]? = some t → args[j]? = some v → Value.okWide Try.prog W .any base t v := hval0
  have hW' := hW
  obtain ⟨p, q, hA0, hV, rfl, hfz, hnd⟩ := hW
  have hA : DataW.TrodAll enc Try.prog W 0 (fun _ => true) true Try.f8.params.toList args.toList ds p := hA0
  have hwt : ∀ n ∈ DataW.weightsEach Try.prog Try.f8.params.toList ds, n ≤ 140737488355328 := hwts
  rw [Try.params8] at hA hval hwt
  obtain ⟨v0, vs0, d0, ds0, p0, q0, hargs, rfl, rfl, h0, r0⟩ := trodAll_cons hA
  obtain ⟨rfl, rfl, rfl⟩ := trodAll_nil r0
  obtain rfl : args = #[v0] := by cases args; simp_all
  obtain ⟨rfl, rfl⟩ := trodVars_none hV
  obtain ⟨A0, l0, c0, rfl, hc0, hm0, hn0, hs0⟩ := open_bytes8 (hval 0 22 v0 rfl rfl) h0 (fun n hn => hwt n (List.mem_append_left _ hn))
  refine (once_true W l0 A0 c0 hc0 hm0 hn0 hs0).mono fun e W' ⟨he, hg⟩ => ?_
  subst he
  exact ⟨_, rfl, law_post Try.laidOut (by kernel_rfl) (by kernel_rfl) hW' hg (trodAll_cons_mk (shut_bool Try.underlying4 _) trodAll_mk0) rfl rfl⟩

/-- the statement -/
theorem once8_holds : Rows.OctetOnceSaid :=
  OpenClaim.holds_of_wide 8 Try.f8 rfl rfl rfl rfl rfl rfl rfl ⟨rfl, rfl, rfl, rfl, rfl⟩ rfl rfl rfl rfl rfl (by kernel_rfl) Try.func8 (by kernel_rfl)
    (of_decide_eq_true (by kernel_rfl)) (by unfold Func.isWrapper; rw [if_neg (of_decide_eq_false (by kernel_rfl))]; exact ⟨rfl, rfl⟩)
    (fun os started H enc _ => once8_lifted os started H enc)
#print axioms once8_holds
end Go.Proofs.Ytlbchefdkdngnaa
