/-
  THE WALK over layer 8: the program's Decode.
-/
import Derived.Test.YthagoafcphaadaaOcRF
import Derived.Defers
import Derived.Recover
import Derived.Laws.Pointers
namespace Go.Proofs.Ythagoafcphaadaa
open Go.RowKit Sha Oc
set_option linter.unusedVariables false
set_option linter.unusedSimpArgs false
set_option maxRecDepth 100000 in
set_option maxHeartbeats 2000000 in
theorem catch_panicking (p q : Nat) (x y z e0 : Value) (u : TypeId) (pv : Value) (older : List PanicEntry) (w : World) (hp : w.heap[p]? = some (.cells #[x, y, z] 28 (0, 0))) (hq : w.heap[q]? = some (.cells #[e0] 23 (0, 0))) (hne : p ≠ q) :
    CallsD Try.prog 25 #[.pointer (some ⟨p, 0, none⟩), .pointer (some ⟨q, 0, none⟩)] (.panicking ({ v := .iface u pv, recovered := false } :: older)) w fun e u' w' =>
      e = .returned (.tuple #[]) ∧ u' = .panicking ({ v := .iface u pv, recovered := true } :: older) ∧ w' = (w.setCells p 0 [.int .u8 0, .slice none 0 0, .slice none 0 0]).setCell ⟨q, 0, none⟩ (.int .i64 12) := by
  have hlp := (Array.getElem?_eq_some_iff.1 hp).1
  have hlq := (Array.getElem?_eq_some_iff.1 hq).1
  obtain ⟨⟨f0, f1, f2⟩, c0, c1, c2⟩ := facts3 hp
  have cq := cell_of_one hq
  have fq := free_of_one hq
  have hneq : ¬ q = p := fun e => hne e.symm
  refine callsD_of_wpS Try.func25 rfl fun c₀ cs hu => ?_
  apply wpS_seq
  apply wpS_region
  simp [wpOpsS, go_sem, recoverD, hu, Try.ntmps25, Exit.thenS]
  refine wpS_cond (t := true) (by simp [Act.eval, Array.replicate]) ?_
  simp only [if_true]
  apply wpS_region
  simp [wpOpsS, go_sem, c0, c1, c2, f0, f1, f2, cq, fq, hne, hneq, bodyPostS, results, Try.results25, World.setCells]
theorem catch_idle (p q : Nat) (w : World) :
    CallsD Try.prog 25 #[.pointer (some ⟨p, 0, none⟩), .pointer (some ⟨q, 0, none⟩)] .returning w fun e u' w' => e = .returned (.tuple #[]) ∧ u' = .returning ∧ w' = w := by
  refine callsD_of_wpS Try.func25 rfl fun c₀ cs hu => ?_
  apply wpS_seq
  apply wpS_region
  simp [wpOpsS, go_sem, recoverD, hu, Try.ntmps25, Exit.thenS]
  refine wpS_cond (t := false) (by simp [Act.eval, Array.replicate]) ?_
  simp only [Bool.false_eq_true, if_false]
  refine wpS_of_wp (wp_skip ?_)
  cases c₀
  simp_all [bodyPostS, results, Try.results25]
def DecPost (b : List UInt8) (w : World) (e : Ending) (w' : World) : Prop := Below w.heap.size w w' ∧ ∃ x y, e = .returned (.tuple #[.agg (cell3 (decV b).1 x y), .int .i64 (decV b).2]) ∧ At (Rw w.heap.size w') w' (decV b).1 x y
set_option maxRecDepth 100000 in
set_option maxHeartbeats 2000000 in
theorem decode_any (b : List UInt8) (hb : b.length ≤ 100000) (A : Option Addr) (c : Nat) (hc : b.length ≤ c) (hA : A = none → c = 0) (w : World) (hs : SrcAt A b w) :
    Calls Try.prog 14 #[.slice A b.length c] w (DecPost b w) := by
  obtain ⟨m, hm⟩ : ∃ m, b.length = m := ⟨_, rfl⟩
  have hmf : ∀ (fn : Fn) (first cap : Array Value) (w : World), (Instr.makeFunc fn first cap).run Try.prog w = .ok (.func fn first cap) w := fun _ _ _ _ => rfl
  unfold DecPost
  rw [hm]
  by_cases h1 : 65536 < m
  · have h1i : (65536 : Int) < (m : Int) := by omega
    go_enter_defers Try.func14, Try.ntmps14
    go_wp2_with fail
    have hd : decV b = (nilO, 4) := by unfold decV; rw [if_pos (by omega)]
    obtain ⟨V, hV⟩ : ∃ V, (w.alloc (.cells #[.int .u8 0, .slice none 0 0, .slice none 0 0] 28)).alloc (.cells #[.int .i64 4] 23) = V := ⟨_, rfl⟩
    have hr := heap_alloc2_old8 w (.cells #[.int .u8 0, .slice none 0 0, .slice none 0 0] 28) (.cells #[.int .i64 4] 23)
    have he := heap_alloc2_new8 w (.cells #[.int .u8 0, .slice none 0 0, .slice none 0 0] 28) (.cells #[.int .i64 4] 23)
    have hb2 : Below w.heap.size w V := by rw [← hV]; exact ((Below.refl _ w).alloc (Nat.le_refl _) _).alloc (by simp) _
    rw [hV] at hr he ⊢
    obtain ⟨_, c0, c1, c2⟩ := facts3 hr
    have hrg := range3o c0 c1 c2
    have cq := cell_of_one he
    refine ⟨.tuple #[.agg #[.int .u8 0, .slice none 0 0, .slice none 0 0], .int .i64 4], ?_, hb2, _, _, by rw [hd]; rfl, by rw [hd]; exact nil_list _ _⟩
    simp [results, Try.results14, go_sem, c0, c1, c2, cq]
  · have h1i : ¬ (65536 : Int) < (m : Int) := by omega
    obtain ⟨S, hS⟩ : ∃ S, w.heap.size = S := ⟨_, rfl⟩
    obtain ⟨V, hV⟩ : ∃ V, ((w.alloc (.cells #[.int .u8 0, .slice none 0 0, .slice none 0 0] 28)).alloc (.cells #[.int .i64 0] 23)).alloc (.cells #[.slice A m c] 57) = V := ⟨_, rfl⟩
    have hr := (Below.heap_alloc ((w.alloc (.cells #[.int .u8 0, .slice none 0 0, .slice none 0 0] 28)).alloc (.cells #[.int .i64 0] 23)) (.cells #[.slice A m c] 57) w.heap.size (by simp; omega)).trans (heap_alloc2_old8 w (.cells #[.int .u8 0, .slice none 0 0, .slice none 0 0] 28) (.cells #[.int .i64 0] 23))
    have he := (Below.heap_alloc ((w.alloc (.cells #[.int .u8 0, .slice none 0 0, .slice none 0 0] 28)).alloc (.cells #[.int .i64 0] 23)) (.cells #[.slice A m c] 57) (w.heap.size + 1) (by simp)).trans (heap_alloc2_new8 w (.cells #[.int .u8 0, .slice none 0 0, .slice none 0 0] 28) (.cells #[.int .i64 0] 23))
    have hg := heap_alloc_new ((w.alloc (.cells #[.int .u8 0, .slice none 0 0, .slice none 0 0] 28)).alloc (.cells #[.int .i64 0] 23)) (.cells #[.slice A m c] 57)
    rw [World.size_alloc, World.size_alloc] at hg
    rw [hV, hS] at hr he hg
    have hbV : Below w.heap.size w V := by rw [← hV]; exact (((Below.refl _ w).alloc (Nat.le_refl _) _).alloc (by simp) _).alloc (by simp; omega) _
    have hzV : V.heap.size = S + 3 := by rw [← hV, ← hS]; simp
    have hrd : Rdr S V (S + 1 + 1) A b c := ⟨by rw [hm]; exact hg, hs.on hbV, hc, hA, by omega, fun ga oa e h => by
      obtain ⟨ga', oa', e2, hcl⟩ := hs h
      rw [e] at e2
      obtain rfl : ga = ga' := congrArg Addr.block (Option.some.inj e2)
      cases b with
      | nil => exact absurd rfl h
      | cons x r =>
        have := World.block_lt_of_cell? _ _ (hcl 0 x rfl)
        have h3 : ga < w.heap.size := this
        exact ⟨by omega, by omega⟩⟩
    have hv := value_all (m + 1) S V (S + 1 + 1) A b c hrd (by omega) (by omega)
    unfold VlPost at hv
    have HV := Lib.hid hv
    have HR := Lib.hid hr
    have HE := Lib.hid he
    have HB : RowKit.Hid (Below S w V) := Lib.hid (by rw [← hS]; exact hbV)
    have HZ : RowKit.Hid (V.heap.size = S + 3 ∧ w.heap.size = S ∧ b.length = m ∧ m ≤ 65536) := Lib.hid ⟨hzV, hS, hm, by omega⟩
    rw [hS]
    clear hv hr he hg hbV hzV hrd hs hA hc
    go_enter_defers Try.func14, Try.ntmps14
    go_wp2_with fail
    try rw [hV]
    try simp only [hS]
    clear hV hS
    refine HV.out.mono ?_
    rintro e w4 ⟨hg4, ⟨hp4, rfl⟩ | ⟨o, r, x, y, A4, c4, hp4, rfl, hat4, hrd4⟩⟩
    · have hr4 := row3_grown HR.out hg4 (by omega)
      have he4 := row3_grown HE.out hg4 (by omega)
      show bodyPostD _ _ _ (Exit.panic _) _ _
      refine leaves_cons (f := 25) (args := #[.pointer (some ⟨S, 0, none⟩), .pointer (some ⟨S + 1, 0, none⟩)]) (by simp) (by simp [go_sem]) ?_
      refine (catch_panicking S (S + 1) _ _ _ _ _ _ [] _ hr4 he4 (by omega)).mono ?_
      rintro e u' w'' ⟨rfl, rfl, rfl⟩
      have hbw4 : Below S w w4 := HB.out.trans ((Below.refl S V).grown hg4 (by have := HZ.out.1; omega) (fun k e => by have := Option.some.inj e; omega))
      have hr7 : ((w4.setCells S 0 [.int .u8 0, .slice none 0 0, .slice none 0 0]).setCell ⟨S + 1, 0, none⟩ (.int .i64 12)).heap[S]? = some (.cells #[.int .u8 0, .slice none 0 0, .slice none 0 0] 28 (0, 0)) := (Below.heap_setCell _ _ _ _ (by show S ≠ S + 1; omega)).trans (row_setCells8 hr4 rfl)
      have he7 : ((w4.setCells S 0 [.int .u8 0, .slice none 0 0, .slice none 0 0]).setCell ⟨S + 1, 0, none⟩ (.int .i64 12)).heap[S + 1]? = some (.cells #[.int .i64 12] 23 (0, 0)) := one_setCell ((heap_setCells_other8 _ _ _ (by omega)).trans he4)
      have hb7 : Below S w ((w4.setCells S 0 [.int .u8 0, .slice none 0 0, .slice none 0 0]).setCell ⟨S + 1, 0, none⟩ (.int .i64 12)) := (below_setCells8 _ _ _ hbw4 (Nat.le_refl _)).setCell (by show S ≤ S + 1; omega) _
      generalize World.setCell _ _ _ = W7 at hr7 he7 hb7 ⊢
      obtain ⟨_, c0, c1, c2⟩ := facts3 hr7
      have cq := cell_of_one he7
      have hd : decV b = (nilO, 12) := by unfold decV; rw [if_neg (by have := HZ.out; omega), HZ.out.2.2.1, hp4]
      show Leaves _ _ _ _ [] .returning _
      refine ⟨.tuple #[.agg #[.int .u8 0, .slice none 0 0, .slice none 0 0], .int .i64 12], ?_, hb7, _, _, by rw [hd]; rfl, by rw [hd]; exact nil_list _ _⟩
      simp [results, Try.results14, go_sem, c0, c1, c2, cq]
    · have hr4 := row3_grown HR.out hg4 (by omega)
      have he4 := row3_grown HE.out hg4 (by omega)
      have hbw4 : Below S w w4 := HB.out.trans ((Below.refl S V).grown hg4 (by have := HZ.out.1; omega) (fun k e => by have := Option.some.inj e; omega))
      obtain ⟨A1, m1, c1, B1, n1, d1, rfl, rfl⟩ := hat4.slices
      obtain ⟨tz, htz⟩ : ∃ tz : Int, ((tagO o).toNat : Int) = tz := ⟨_, rfl⟩
      have HTZ := Lib.hid htz
      have HRR4 := Lib.hid hr4
      have hlr := (Array.getElem?_eq_some_iff.1 hr4).1
      obtain ⟨⟨f0, f1, f2⟩, k0, k1, k2⟩ := facts3 hr4
      have HE5 := Lib.hid (fun a b c : Value => (heap_setCells_other8 (g := S) [a, b, c] 0 w4 (show S + 1 ≠ S by omega)).trans he4)
      have HB5 := Lib.hid (fun a b c : Value => below_setCells8 [a, b, c] 0 _ hbw4 (Nat.le_refl _))
      have HAT5 := Lib.hid (at_setCells hat4 (X := S) (by have := HZ.out.1; omega) (Nat.le_refl _) 0 [.int .u8 tz, .slice A1 m1 c1, .slice B1 n1 d1])
      have HRD5 := Lib.hid (rdr_set3 hrd4 (Nat.le_refl S) (X := S) (by omega) (.int .u8 tz) (.slice A1 m1 c1) (.slice B1 n1 d1))
      have HP4 := Lib.hid hp4
      have HOB : RowKit.Hid (cnt o ≤ 900000 ∧ tot o ≤ 400000) := Lib.hid (by
        obtain ⟨_, h3⟩ := prd_some _ b o r (by have := HZ.out; omega) hp4
        have h4 := congrArg List.length h3
        rw [List.length_append] at h4
        have h5 := cnt_enc o
        have h6 := tot_enc o
        have h7 := HZ.out
        omega)
      unfold cell3
      rw [htz]
      clear hg4 hp4 hat4 hrd4 hr4 he4 hbw4 htz HV HR HE HB
      go_upto_region 6 with (fail)
      have e9 : ∀ a b c : Value, ((w4.setCell ⟨S, 0, none⟩ a).setCell ⟨S, 1, none⟩ b).setCell ⟨S, 2, none⟩ c = w4.setCells S 0 [a, b, c] := fun _ _ _ => rfl
      rw [e9]
      have hr5 := row_setCells8 HRR4.out (x := .int .u8 tz) (y := .slice A1 m1 c1) (z := .slice B1 n1 d1) rfl
      have he5 := HE5.out (.int .u8 tz) (.slice A1 m1 c1) (.slice B1 n1 d1)
      have hb5 := HB5.out (.int .u8 tz) (.slice A1 m1 c1) (.slice B1 n1 d1)
      have hat5 := HAT5.out
      have hrd5 := HRD5.out
      clear HE5 HB5 HAT5 HRD5 HRR4 hlr f0 f1 f2 k0 k1 k2 e9
      generalize World.setCells _ _ _ _ = w5 at hr5 he5 hb5 hat5 hrd5 ⊢
      --GEN
      have HR5 := Lib.hid hr5
      have HE5 := Lib.hid he5
      have HB5 := Lib.hid hb5
      have HAT5 := Lib.hid hat5
      have hlg := (Array.getElem?_eq_some_iff.1 hrd5.row).1
      have kg := cell_of_one hrd5.row
      have hlr := (Array.getElem?_eq_some_iff.1 hr5).1
      have hlq := (Array.getElem?_eq_some_iff.1 he5).1
      obtain ⟨⟨f0, f1, f2⟩, k0, k1, k2⟩ := facts3 hr5
      have hrg := range3o k0 k1 k2
      have kq := cell_of_one he5
      have fq := free_of_one he5
      clear hr5 he5 hb5 hat5 hrd5
      cases r with
      | cons x r =>
        have HD : RowKit.Hid (decV b = (nilO, 12)) := Lib.hid (by
          unfold decV
          rw [if_neg (by have := HZ.out; omega), HZ.out.2.2.1, HP4.out]
          show (if (x :: r).length = 0 ∧ ckV o = 0 then (o, (0 : Int)) else (nilO, 12)) = _
          rw [if_neg (by rw [List.length_cons]; omega)])
        obtain ⟨q, hq⟩ : ∃ q, (x :: r).length = q := ⟨_, rfl⟩
        rw [hq] at kg
        have hq0 : (0 : Int) < (q : Int) := by rw [← hq, List.length_cons]; omega
        clear hq
        go_wp2_with fail
        clear hlr hlq hlg f0 f1 f2 k0 k1 k2 hrg kq fq kg
        have e9 : ∀ a b c : Value, ((w5.setCell ⟨S, 0, none⟩ a).setCell ⟨S, 1, none⟩ b).setCell ⟨S, 2, none⟩ c = w5.setCells S 0 [a, b, c] := fun _ _ _ => rfl
        rw [e9]
        have hr7 : ((w5.setCells S 0 [.int .u8 0, .slice none 0 0, .slice none 0 0]).setCell ⟨S + 1, 0, none⟩ (.int .i64 12)).heap[S]? = some (.cells #[.int .u8 0, .slice none 0 0, .slice none 0 0] 28 (0, 0)) := (Below.heap_setCell _ _ _ _ (by show S ≠ S + 1; omega)).trans (row_setCells8 HR5.out rfl)
        have he7 : ((w5.setCells S 0 [.int .u8 0, .slice none 0 0, .slice none 0 0]).setCell ⟨S + 1, 0, none⟩ (.int .i64 12)).heap[S + 1]? = some (.cells #[(.int .i64 12)] 23 (0, 0)) := one_setCell ((heap_setCells_other8 _ _ _ (by omega)).trans HE5.out)
        have hb7 : Below S w ((w5.setCells S 0 [.int .u8 0, .slice none 0 0, .slice none 0 0]).setCell ⟨S + 1, 0, none⟩ (.int .i64 12)) := (below_setCells8 _ _ _ HB5.out (Nat.le_refl _)).setCell (by show S ≤ S + 1; omega) _
        have hat7 : At (Rw S ((w5.setCells S 0 [.int .u8 0, .slice none 0 0, .slice none 0 0]).setCell ⟨S + 1, 0, none⟩ (.int .i64 12))) ((w5.setCells S 0 [.int .u8 0, .slice none 0 0, .slice none 0 0]).setCell ⟨S + 1, 0, none⟩ (.int .i64 12)) nilO (.slice none 0 0) (.slice none 0 0) := nil_list _ _
        generalize World.setCell _ _ _ = W7 at hr7 he7 hb7 hat7 ⊢
        clear e9
        refine leaves_cons (f := 25) (args := #[.pointer (some ⟨S, 0, none⟩), .pointer (some ⟨S + 1, 0, none⟩)]) (by simp) (by simp [go_sem]) ?_
        refine (catch_idle S (S + 1) _).mono ?_
        rintro e u' w'' ⟨rfl, rfl, rfl⟩
        obtain ⟨_, g0, g1, g2⟩ := facts3 hr7
        have cq := cell_of_one he7
        show Leaves _ _ _ _ [] .returning _
        refine ⟨.tuple #[.agg #[.int .u8 0, .slice none 0 0, .slice none 0 0], (.int .i64 12)], ?_, hb7, _, _, by rw [HD.out]; rfl, by rw [HD.out]; exact hat7⟩
        simp [results, Try.results14, go_sem, g0, g1, g2, cq]
      | nil =>
        rw [List.length_nil] at kg
        have hck := check_any8 o HOB.out.1 HOB.out.2 w5 _ _ HAT5.out.any
        unfold cell3 at hck
        rw [HTZ.out] at hck
        have HCK := Lib.hid hck
        clear hck
        go_wp2_with fail
        refine HCK.out.mono ?_
        rintro e w6 ⟨rfl, hb6⟩
        have HR6 := Lib.hid (row_on HR5.out hb6)
        have HE6 := Lib.hid (row_on HE5.out hb6)
        have HB6 : RowKit.Hid (Below S w w6) := Lib.hid (HB5.out.trans (hb6.mono (Nat.le_of_lt hlr)))
        have HAT6 := Lib.hid (HAT5.out.own hb6 (Nat.le_refl _))
        clear hlr hlq hlg f0 f1 f2 k0 k1 k2 hrg kq fq kg hb6 HCK HAT5 HR5 HE5 HB5
        have hr6 := HR6.out
        have he6 := HE6.out
        have hlr := (Array.getElem?_eq_some_iff.1 hr6).1
        have hlq := (Array.getElem?_eq_some_iff.1 he6).1
        obtain ⟨⟨f0, f1, f2⟩, k0, k1, k2⟩ := facts3 hr6
        have hrg := range3o k0 k1 k2
        have kq := cell_of_one he6
        have fq := free_of_one he6
        clear hr6 he6
        have hdv : decV b = if ckV o = 0 then (o, 0) else (nilO, 12) := by
          unfold decV
          rw [if_neg (by have := HZ.out; omega), HZ.out.2.2.1, HP4.out]
          show (if ([] : List UInt8).length = 0 ∧ ckV o = 0 then (o, (0 : Int)) else (nilO, 12)) = _
          by_cases h : ckV o = 0
          · rw [if_pos ⟨rfl, h⟩, if_pos h]
          · rw [if_neg (fun h2 => h h2.2), if_neg h]
        by_cases h0 : ckV o = 0
        · rw [if_pos h0] at hdv
          have HD := Lib.hid hdv
          rw [h0]
          clear hdv h0
          go_wp2_with fail
          clear hlr hlq f0 f1 f2 k0 k1 k2 hrg kq fq
          have e9 : ∀ a b c : Value, ((w6.setCell ⟨S, 0, none⟩ a).setCell ⟨S, 1, none⟩ b).setCell ⟨S, 2, none⟩ c = w6.setCells S 0 [a, b, c] := fun _ _ _ => rfl
          rw [e9]
          have hr7 : ((w6.setCells S 0 [.int .u8 tz, .slice A1 m1 c1, .slice B1 n1 d1]).setCell ⟨S + 1, 0, none⟩ (.int .i64 0)).heap[S]? = some (.cells #[.int .u8 tz, .slice A1 m1 c1, .slice B1 n1 d1] 28 (0, 0)) := (Below.heap_setCell _ _ _ _ (by show S ≠ S + 1; omega)).trans (row_setCells8 HR6.out rfl)
          have he7 : ((w6.setCells S 0 [.int .u8 tz, .slice A1 m1 c1, .slice B1 n1 d1]).setCell ⟨S + 1, 0, none⟩ (.int .i64 0)).heap[S + 1]? = some (.cells #[(.int .i64 0)] 23 (0, 0)) := one_setCell ((heap_setCells_other8 _ _ _ (by omega)).trans HE6.out)
          have hb7 : Below S w ((w6.setCells S 0 [.int .u8 tz, .slice A1 m1 c1, .slice B1 n1 d1]).setCell ⟨S + 1, 0, none⟩ (.int .i64 0)) := (below_setCells8 _ _ _ HB6.out (Nat.le_refl _)).setCell (by show S ≤ S + 1; omega) _
          have hat7 : At (Rw S ((w6.setCells S 0 [.int .u8 tz, .slice A1 m1 c1, .slice B1 n1 d1]).setCell ⟨S + 1, 0, none⟩ (.int .i64 0))) ((w6.setCells S 0 [.int .u8 tz, .slice A1 m1 c1, .slice B1 n1 d1]).setCell ⟨S + 1, 0, none⟩ (.int .i64 0)) o (.slice A1 m1 c1) (.slice B1 n1 d1) := at_setCells (at_setCells HAT6.out (X := S) (by have := HZ.out.1; omega) (Nat.le_refl _) 0 [.int .u8 tz, .slice A1 m1 c1, .slice B1 n1 d1]) (X := S + 1) (by have := HZ.out.1; omega) (by have := HZ.out.1; omega) 0 [.int .i64 0]
          generalize World.setCell _ _ _ = W7 at hr7 he7 hb7 hat7 ⊢
          clear e9
          refine leaves_cons (f := 25) (args := #[.pointer (some ⟨S, 0, none⟩), .pointer (some ⟨S + 1, 0, none⟩)]) (by simp) (by simp [go_sem]) ?_
          refine (catch_idle S (S + 1) _).mono ?_
          rintro e u' w'' ⟨rfl, rfl, rfl⟩
          obtain ⟨_, g0, g1, g2⟩ := facts3 hr7
          have cq := cell_of_one he7
          show Leaves _ _ _ _ [] .returning _
          refine ⟨.tuple #[.agg #[.int .u8 tz, .slice A1 m1 c1, .slice B1 n1 d1], (.int .i64 0)], ?_, hb7, _, _, by rw [HD.out]; (unfold cell3; rw [HTZ.out]), by rw [HD.out]; exact hat7⟩
          simp [results, Try.results14, go_sem, g0, g1, g2, cq]
        · rw [if_neg h0] at hdv
          have HD := Lib.hid hdv
          obtain ⟨E, hE⟩ : ∃ E, ckV o = E := ⟨_, rfl⟩
          rw [hE] at h0 ⊢
          have h0i : ((E : Int) != 0) = true := by simp [h0]
          clear hdv hE h0
          go_wp2_with fail
          clear hlr hlq f0 f1 f2 k0 k1 k2 hrg kq fq
          have e9 : ∀ a b c : Value, ((w6.setCell ⟨S, 0, none⟩ a).setCell ⟨S, 1, none⟩ b).setCell ⟨S, 2, none⟩ c = w6.setCells S 0 [a, b, c] := fun _ _ _ => rfl
          rw [e9]
          have hr7 : ((w6.setCells S 0 [.int .u8 0, .slice none 0 0, .slice none 0 0]).setCell ⟨S + 1, 0, none⟩ (.int .i64 12)).heap[S]? = some (.cells #[.int .u8 0, .slice none 0 0, .slice none 0 0] 28 (0, 0)) := (Below.heap_setCell _ _ _ _ (by show S ≠ S + 1; omega)).trans (row_setCells8 HR6.out rfl)
          have he7 : ((w6.setCells S 0 [.int .u8 0, .slice none 0 0, .slice none 0 0]).setCell ⟨S + 1, 0, none⟩ (.int .i64 12)).heap[S + 1]? = some (.cells #[(.int .i64 12)] 23 (0, 0)) := one_setCell ((heap_setCells_other8 _ _ _ (by omega)).trans HE6.out)
          have hb7 : Below S w ((w6.setCells S 0 [.int .u8 0, .slice none 0 0, .slice none 0 0]).setCell ⟨S + 1, 0, none⟩ (.int .i64 12)) := (below_setCells8 _ _ _ HB6.out (Nat.le_refl _)).setCell (by show S ≤ S + 1; omega) _
          have hat7 : At (Rw S ((w6.setCells S 0 [.int .u8 0, .slice none 0 0, .slice none 0 0]).setCell ⟨S + 1, 0, none⟩ (.int .i64 12))) ((w6.setCells S 0 [.int .u8 0, .slice none 0 0, .slice none 0 0]).setCell ⟨S + 1, 0, none⟩ (.int .i64 12)) nilO (.slice none 0 0) (.slice none 0 0) := nil_list _ _
          generalize World.setCell _ _ _ = W7 at hr7 he7 hb7 hat7 ⊢
          clear e9
          refine leaves_cons (f := 25) (args := #[.pointer (some ⟨S, 0, none⟩), .pointer (some ⟨S + 1, 0, none⟩)]) (by simp) (by simp [go_sem]) ?_
          refine (catch_idle S (S + 1) _).mono ?_
          rintro e u' w'' ⟨rfl, rfl, rfl⟩
          obtain ⟨_, g0, g1, g2⟩ := facts3 hr7
          have cq := cell_of_one he7
          show Leaves _ _ _ _ [] .returning _
          refine ⟨.tuple #[.agg #[.int .u8 0, .slice none 0 0, .slice none 0 0], (.int .i64 12)], ?_, hb7, _, _, by rw [HD.out]; rfl, by rw [HD.out]; exact hat7⟩
          simp [results, Try.results14, go_sem, g0, g1, g2, cq]
end Go.Proofs.Ythagoafcphaadaa
