/-
  THE WALK over layer 8: the law's spoil.
-/
import Derived.Test.YtlbchefdkdngnaaOcO
namespace Go.Proofs.Ytlbchefdkdngnaa
open Go.RowKit Sha Oc
set_option linter.unusedVariables false
set_option linter.unusedSimpArgs false
def SpoilC (n : Nat) : Prop := ∀ (base : Nat) (o : Oct), cnt o ≤ n → tot o ≤ 1000000 → ∀ (V : World) (x y : Value), base ≤ V.heap.size → At (Rw base V) V o x y → Calls Try.prog 30 #[.agg (cell3 o x y)] V fun e w' => e = .returned (.tuple #[]) ∧ Sp base V w'
set_option maxRecDepth 100000 in
set_option maxHeartbeats 4000000 in
theorem spoil_step (n : Nat) (hn : n ≤ 10000) (ih : SpoilC n) : SpoilC (n + 1) := by
  intro base o ho hto w x y hbase hat
  cases o with
  | mk t b l =>
  rw [cnt] at ho
  rw [tot] at hto
  have hll := len_cnts l
  have hcb : RowKit.Hid (cnts l ≤ n ∧ tots l ≤ 1000000) := Lib.hid ⟨by omega, by omega⟩
  obtain ⟨A, nb', c, B, nl', d, rfl, rfl⟩ := hat.slices
  have e1 : nb' = b.length := by
    cases hat with
    | mk t b l A c B d g off vb vl hc hbm hcn hsA hA hd hlm hdn hB h0 h1 h2 hr => rfl
  have e2 : nl' = l.length := by
    cases hat with
    | mk t b l A c B d g off vb vl hc hbm hcn hsA hA hd hlm hdn hB h0 h1 h2 hr => rfl
  obtain ⟨m, hm⟩ : ∃ m, b.length = m := ⟨_, rfl⟩
  obtain ⟨q, hq⟩ : ∃ q, l.length = q := ⟨_, rfl⟩
  have hm6 : m ≤ 1000000 := by omega
  have hq4 : q ≤ 10000 := by omega
  rw [hm] at e1
  rw [hq] at e2
  subst e1
  subst e2
  have hV : At (Rw base (w.alloc (.cells #[.int .u8 (t.toNat : Int), .slice A nb' c, .slice B nl' d] 28))) (w.alloc (.cells #[.int .u8 (t.toNat : Int), .slice A nb' c, .slice B nl' d] 28)) (.mk t b l) (.slice A nb' c) (.slice B nl' d) := hat.own (below_new _ _) (Nat.le_refl _)
  have IH := Lib.hid ih
  have HCB := hcb
  show Calls Try.prog 30 #[.agg #[.int .u8 (t.toNat : Int), .slice A nb' c, .slice B nl' d]] w _
  have hrow := heap_alloc_new w (.cells #[.int .u8 (t.toNat : Int), .slice A nb' c, .slice B nl' d] 28)
  have hb0 := below_new w (.cells #[.int .u8 (t.toNat : Int), .slice A nb' c, .slice B nl' d] 28)
  have HROW := Lib.hid hrow
  have HSP0 := Lib.hid (Sp.ofBelow hb0 hbase)
  have HAT := Lib.hid hV
  have HM := Lib.hid hm6
  have HQ := Lib.hid hq4
  have HBASE := Lib.hid hbase
  clear ih hcb hV hat hll ho hto hm hq hm6 hq4 hrow hb0 hbase
  go_enter Try.func30, Try.ntmps30
  go_upto_region 1 with (fail)
  generalize hV : World.alloc w _ = V at HROW HSP0 HAT ⊢
  clear hV
  have HC1 : RowKit.Hid (V.cell? ⟨w.heap.size, 1, none⟩ = some (.slice A nb' c)) := Lib.hid (facts3 HROW.out).2.2.1
  have HC2 : RowKit.Hid (V.cell? ⟨w.heap.size, 2, none⟩ = some (.slice B nl' d)) := Lib.hid (facts3 HROW.out).2.2.2
  clear HROW
  go_wp2_with fail
  go_loopw [2] (fun i wr => ∃ k : Nat, k ≤ nb' ∧ i = .int .i64 (k : Int) ∧ RowKit.Hid (Sp base V wr)) (fun i _ => nb' - (intOf i).toNat)
  case atStart => exact ⟨0, by omega, rfl, Lib.hid (Sp.refl _ _)⟩
  case round =>
    obtain ⟨k, hk, rfl, HSP⟩ := hrel
    have hq1 := HSP.out.keep HC1.out
    have hlw := World.block_lt_of_cell? _ _ hq1
    by_cases hlt : k < nb'
    · have hki : (k : Int) < (nb' : Int) := by omega
      have hm6 := HM.out
      obtain ⟨ga, oa, a, rfl, hnc, hcell, hgl, hfr, hset⟩ := spoil_byte HAT.out HSP.out k hlt
      have HSET := Lib.hid hset
      clear hset
      go_wp2_with fail
      exact ⟨⟨k + 1, by omega, by go_num, Lib.hid (HSP.out.trans (HSET.out _ (by omega) (by omega)))⟩, by simp [intOf]; omega⟩
    · have hge : ¬ (k : Int) < (nb' : Int) := by omega
      have HSP1 := HSP
      clear HSP
      go_wp2_with fail
      clear hge hlt hq1 hlw hk
      go_loopw [3] (fun i wr => ∃ k : Nat, k ≤ nl' ∧ i = .int .i64 (k : Int) ∧ RowKit.Hid (Sp base V wr)) (fun i _ => nl' - (intOf i).toNat)
      case atStart => exact ⟨0, by omega, rfl, HSP1⟩
      case round =>
        clear HSP1
        obtain ⟨k, hk, rfl, HSP⟩ := hrel
        have hq2 := HSP.out.keep HC2.out
        have hlw := World.block_lt_of_cell? _ _ hq2
        by_cases hlt : k < nl'
        · have hki : (k : Int) < (nl' : Int) := by omega
          have hq4 := HQ.out
          obtain ⟨g, off, o, A1, m1, c1, B1, n1, d1, rfl, hnd, e0, e1, e2, hgl, hfr, _, _, _, hset⟩ := spoil_el HAT.out HSP.out k hlt
          have HSET := Lib.hid hset
          clear hset
          go_upto_region 9 with (fail)
          generalize hw8 : World.setCell wr _ _ = w8
          have hsp8 : Sp base V w8 := by rw [← hw8]; exact HSP.out.trans (HSET.out _ (by omega) (by omega))
          have HSP8 := Lib.hid hsp8
          clear hw8 hsp8 HSP HSET hq2 hlw e0 e1 e2 hgl hfr
          have hq2 := HSP8.out.keep HC2.out
          have hlw := World.block_lt_of_cell? _ _ hq2
          obtain ⟨g', off', o, A1, m1, c1, B1, n1, d1, hBe, _, e0, e1, e2, hgl, hfr, hat1, hc1, ht1, _⟩ := spoil_el HAT.out HSP8.out k hlt
          obtain ⟨rfl, rfl⟩ : g = g' ∧ off = off' := by
            have e := Option.some.inj hBe
            exact ⟨congrArg Addr.block e, congrArg Addr.off e⟩
          have hrg := range3o e0 e1 e2
          have hle8 : base ≤ w8.heap.size := by have h1 := HBASE.out; have h2 := HSP0.out.size; have h3 := HSP8.out.size; omega
          have hcall := IH.out base o (by have := HCB.out; omega) (by have := HCB.out; omega) w8 _ _ hle8 hat1
          have HCALL := Lib.hid hcall
          clear hcall hat1 hc1 ht1 hBe hle8
          go_wp2_with fail
          refine (HCALL.out).mono ?_
          rintro e w9 ⟨rfl, hsp9⟩
          have HSP9 := Lib.hid (HSP8.out.trans hsp9)
          clear hsp9
          go_wp2_with fail
          exact ⟨⟨k + 1, by omega, by go_num, HSP9⟩, by simp [intOf]; omega⟩
        · have hge : ¬ (k : Int) < (nl' : Int) := by omega
          go_wp2_with fail
          exact bodyPost_end (v := .tuple #[]) (results_none rfl _ _ _) rfl ⟨rfl, HSP0.out.trans HSP.out⟩
theorem spoil_all : ∀ n, n ≤ 10000 → SpoilC n := fun n => by
  induction n with
  | zero =>
    intro _ base o ho
    cases o
    rw [cnt] at ho
    omega
  | succ n ih => intro hn; exact spoil_step n (by omega) (ih (by omega))
end Go.Proofs.Ytlbchefdkdngnaa
