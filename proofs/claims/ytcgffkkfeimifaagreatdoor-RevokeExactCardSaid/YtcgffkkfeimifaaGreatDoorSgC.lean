import Derived.Test.YtcgffkkfeimifaaGreatDoorSgB
namespace Go.Proofs.YtcgffkkfeimifaaGreatDoor
namespace Sg
open Go.RowKit Sha
set_option linter.unusedVariables false
set_option linter.unusedSimpArgs false
theorem facts8 {V : World} {M : Nat} {a b c d e f g h : Value} {T : TypeId} (H : V.heap[M]? = some (.cells #[a, b, c, d, e, f, g, h] T (0, 0))) : M < V.heap.size ∧ V.cell? ⟨M, 0, none⟩ = some a ∧ V.cell? ⟨M, 1, none⟩ = some b ∧ V.cell? ⟨M, 2, none⟩ = some c ∧ V.cell? ⟨M, 3, none⟩ = some d ∧ V.cell? ⟨M, 4, none⟩ = some e ∧ V.cell? ⟨M, 5, none⟩ = some f ∧ V.cell? ⟨M, 6, none⟩ = some g ∧ V.cell? ⟨M, 7, none⟩ = some h :=
 ⟨(Array.getElem?_eq_some_iff.1 H).1, cell_of_row _ _ _ _ _ _ H, cell_of_row _ _ _ _ _ _ H, cell_of_row _ _ _ _ _ _ H, cell_of_row _ _ _ _ _ _ H, cell_of_row _ _ _ _ _ _ H, cell_of_row _ _ _ _ _ _ H, cell_of_row _ _ _ _ _ _ H, cell_of_row _ _ _ _ _ _ H⟩
def srB : Int → List Int → Bool
 | _, [] => true
 | a, x :: r => decide (a < x) && srB x r
theorem srB_at {a x : Int} {xs : List Int} {k : Nat} (hx : xs[k]? = some x) : srB a (xs.drop k) = (decide (a < x) && srB x (xs.drop (k + 1))) := by
 have hk := (List.getElem?_eq_some_iff.1 hx).1
 have e : xs.drop k = x :: xs.drop (k + 1) := by
  rw [List.drop_eq_getElem_cons hk, (List.getElem?_eq_some_iff.1 hx).2]
 rw [e]
 rfl
def wfV (n : Int) (cl pl : Nat) : Bool := if cl = 0 ∧ pl = 0 then decide (n = 0) else decide (chkV (pl : Int) n cl pl = 0)
def rcV (iss : ByteArray) (fr tt : Int) (xs : List Int) (n : Int) (cl pl : Nat) : Int := if 500 < xs.length then 4 else if nameB iss = true ∧ chkW fr tt = 0 ∧ srB 0 xs = true ∧ wfV n cl pl = true then 0 else 8
set_option maxRecDepth 100000 in
set_option maxHeartbeats 4000000 in
theorem serials_any (xs : List Int) (A : Option Addr) (c : Nat) (hl : xs.length ≤ 1000000) (w : World) (h1 : Nums A xs w) :
  Calls Tryz.prog 35 #[.slice A xs.length c] w fun e w' => e = .returned (.bool (srB 0 xs)) ∧ Below w.heap.size w w' := by
 obtain ⟨n, hn⟩ : ∃ n, xs.length = n := ⟨_, rfl⟩
 have HN := Lib.hid hn
 have H1 := Lib.hid h1
 obtain ⟨R, hR⟩ : ∃ R, srB 0 xs = R := ⟨_, rfl⟩
 have HR := Lib.hid hR
 rw [hn] at hl
 rw [hR, hn]
 have HZ := Lib.hid (Below.refl w.heap.size w)
 clear hn hR h1
 go_enter Tryz.func35, Tryz.ntmps35
 go_wp2_with fail
 go_loopw [3, 8] (fun v i wr => ∃ (k : Nat) (a : Int), k ≤ n ∧ i = .int .i64 (k : Int) ∧ v = .int .u64 a ∧ RowKit.Hid (Below w.heap.size w wr) ∧ RowKit.Hid (R = srB a (xs.drop k))) (fun _ i _ => n - (intOf i).toNat)
 case atStart => exact ⟨0, 0, by omega, rfl, rfl, HZ, Lib.hid (by rw [List.drop_zero]; exact HR.out.symm)⟩
 case round =>
  clear HZ
  obtain ⟨k, a, hk, rfl, rfl, HB, HQ⟩ := hrel
  obtain ⟨V, hV⟩ : ∃ V, V = wr := ⟨_, rfl⟩
  subst hV
  by_cases hlt : k < n
  ·
   obtain ⟨x, hx⟩ : ∃ x, xs[k]? = some x := ⟨_, List.getElem?_eq_getElem (by rw [HN.out]; exact hlt)⟩
   obtain ⟨g1, o1, rfl, r1⟩ := H1.out.row k x hx
   obtain ⟨_, _, e1, ca⟩ := (Nums.on ⟨fun i x h => H1.out.row i x h⟩ HB.out).row k x hx
   obtain ⟨rfl, rfl, _⟩ := Addr.mk.inj (Option.some.inj e1)
   have hki : (k : Int) < (n : Int) := by omega
   have hsr := HQ.out.trans (srB_at (a := a) hx)
   clear r1 e1 hx
   by_cases hax : a < x
   ·
    have i1 : ¬ (x ≤ a) := by omega
    have HS : RowKit.Hid (R = srB x (xs.drop (k + 1))) := Lib.hid (by rw [hsr, decide_eq_true hax, Bool.true_and])
    clear hsr hax
    go_wp2_with fail
    exact ⟨⟨k + 1, x, by omega, by go_num, rfl, HB, HS⟩, by simp [intOf]; omega⟩
   ·
    have i1 : x ≤ a := by omega
    have HS : RowKit.Hid (R = false) := Lib.hid (by rw [hsr, decide_eq_false hax, Bool.false_and])
    clear hsr hax
    go_wp2_with fail
    go_ret
    exact ⟨by rw [HS.out]; rfl, HB.out⟩
  ·
   have hki : ¬ (k : Int) < (n : Int) := by omega
   have HS : RowKit.Hid (R = true) := Lib.hid (by rw [HQ.out, List.drop_of_length_le (by rw [HN.out]; omega)]; rfl)
   go_wp2_with fail
   go_ret
   exact ⟨by rw [HS.out]; rfl, HB.out⟩
theorem wf_zero {n : Int} {cl pl : Nat} (h : cl = 0 ∧ pl = 0) : wfV n cl pl = decide (n = 0) := by unfold wfV; rw [if_pos h]
theorem wf_some {n : Int} {cl pl : Nat} (h : ¬ (cl = 0 ∧ pl = 0)) : wfV n cl pl = decide (chkV (pl : Int) n cl pl = 0) := by unfold wfV; rw [if_neg h]
set_option maxRecDepth 100000 in
set_option maxHeartbeats 4000000 in
theorem wf_any (n : Int) (CA PA : Option Addr) (cl cc pl pc : Nat) (w : World) :
  Calls Tryz.prog 36 #[.agg #[.int .i64 n, .slice CA cl cc, .slice PA pl pc]] w fun e w' => e = .returned (.bool (wfV n cl pl)) ∧ Below w.heap.size w w' := by
 have HB0 := Lib.hid (below_new w (.cells #[.int .i64 n, .slice CA cl cc, .slice PA pl pc] 30))
 have HC := Lib.hid (fun (V : World) => check_any (pl : Int) n CA PA cl cc pl pc V)
 have hz := @wf_zero n cl pl
 have hs := @wf_some n cl pl
 generalize wfV n cl pl = R at hz hs ⊢
 by_cases h0 : cl = 0 ∧ pl = 0
 ·
  obtain ⟨rfl, rfl⟩ := h0
  have HR := Lib.hid (hz ⟨rfl, rfl⟩)
  clear hz hs HC
  by_cases hn : n = 0
  ·
   have i1 : (n == 0) = true := by rw [beq_iff_eq]; exact hn
   have HR : RowKit.Hid (R = true) := Lib.hid (by rw [HR.out]; exact decide_eq_true hn)
   clear hn
   go_enter Tryz.func36, Tryz.ntmps36
   go_wp2_with fail
   go_ret
   exact ⟨by rw [HR.out]; rfl, HB0.out⟩
  ·
   have i1 : (n == 0) = false := by rw [beq_eq_false_iff_ne]; exact hn
   have HR : RowKit.Hid (R = false) := Lib.hid (by rw [HR.out]; exact decide_eq_false hn)
   clear hn
   go_enter Tryz.func36, Tryz.ntmps36
   go_wp2_with fail
   go_ret
   exact ⟨by rw [HR.out]; rfl, HB0.out⟩
 ·
  have HR := Lib.hid (hs h0)
  clear hz hs
  generalize chkV (pl : Int) n cl pl = CK at HC HR
  by_cases hc : CK = 0
  ·
   have i1 : (CK == 0) = true := by rw [beq_iff_eq]; exact hc
   have HR : RowKit.Hid (R = true) := Lib.hid (by rw [HR.out]; exact decide_eq_true hc)
   clear hc
   by_cases hcl : cl = 0
   ·
    have i2 : ((cl : Int) == 0) = true := by rw [beq_iff_eq]; omega
    have i3 : ((pl : Int) == 0) = false := by rw [beq_eq_false_iff_ne]; omega
    clear h0 hcl
    go_enter Tryz.func36, Tryz.ntmps36
    go_wp2_with fail
    refine (HC.out _).mono ?_
    rintro e w2 ⟨rfl, hb⟩
    have HB2 := Lib.hid (chain HB0.out hb)
    clear hb
    go_wp2_with fail
    go_ret
    exact ⟨by rw [HR.out]; rfl, HB2.out⟩
   ·
    have i2 : ((cl : Int) == 0) = false := by rw [beq_eq_false_iff_ne]; omega
    clear h0 hcl
    go_enter Tryz.func36, Tryz.ntmps36
    go_wp2_with fail
    refine (HC.out _).mono ?_
    rintro e w2 ⟨rfl, hb⟩
    have HB2 := Lib.hid (chain HB0.out hb)
    clear hb
    go_wp2_with fail
    go_ret
    exact ⟨by rw [HR.out]; rfl, HB2.out⟩
  ·
   have i1 : (CK == 0) = false := by rw [beq_eq_false_iff_ne]; exact hc
   have HR : RowKit.Hid (R = false) := Lib.hid (by rw [HR.out]; exact decide_eq_false hc)
   clear hc
   by_cases hcl : cl = 0
   ·
    have i2 : ((cl : Int) == 0) = true := by rw [beq_iff_eq]; omega
    have i3 : ((pl : Int) == 0) = false := by rw [beq_eq_false_iff_ne]; omega
    clear h0 hcl
    go_enter Tryz.func36, Tryz.ntmps36
    go_wp2_with fail
    refine (HC.out _).mono ?_
    rintro e w2 ⟨rfl, hb⟩
    have HB2 := Lib.hid (chain HB0.out hb)
    clear hb
    go_wp2_with fail
    go_ret
    exact ⟨by rw [HR.out]; rfl, HB2.out⟩
   ·
    have i2 : ((cl : Int) == 0) = false := by rw [beq_eq_false_iff_ne]; omega
    clear h0 hcl
    go_enter Tryz.func36, Tryz.ntmps36
    go_wp2_with fail
    refine (HC.out _).mono ?_
    rintro e w2 ⟨rfl, hb⟩
    have HB2 := Lib.hid (chain HB0.out hb)
    clear hb
    go_wp2_with fail
    go_ret
    exact ⟨by rw [HR.out]; rfl, HB2.out⟩
set_option maxRecDepth 100000 in
set_option maxHeartbeats 8000000 in
theorem revcheck_any (iss : ByteArray) (num fr tt : Int) (SA : Option Addr) (xs : List Int) (sc : Nat) (n : Int) (CA PA : Option Addr) (cl cc pl pc : Nat) (hs : iss.size ≤ maxLen) (w : World) (hx : Nums SA xs w) :
  Calls Tryz.prog 11 #[.agg #[.string iss, .int .u64 num, .int .i64 fr, .int .i64 tt, .slice SA xs.length sc, .int .i64 n, .slice CA cl cc, .slice PA pl pc]] w fun e w' => e = .returned (.int .i64 (rcV iss fr tt xs n cl pl)) ∧ Below w.heap.size w w' := by
 have HB0 := Lib.hid (below_new w (.cells #[.string iss, .int .u64 num, .int .i64 fr, .int .i64 tt, .slice SA xs.length sc, .int .i64 n, .slice CA cl cc, .slice PA pl pc] 32))
 have HR0 := Lib.hid (heap_alloc_new w (.cells #[.string iss, .int .u64 num, .int .i64 fr, .int .i64 tt, .slice SA xs.length sc, .int .i64 n, .slice CA cl cc, .slice PA pl pc] 32))
 have H1 := Lib.hid (fun (V : World) => name_any iss V hs)
 have H2 := Lib.hid (fun (V : World) => chk_any fr tt V)
 have H4 := Lib.hid (fun (V : World) => wf_any n CA PA cl cc pl pc V)
 have H3 := Lib.hid (fun (hl : xs.length ≤ 1000000) (V : World) (hb : Below w.heap.size w V) => serials_any xs SA sc hl V (hx.on hb))
 have HX := Lib.hid hx
 have h500 : 500 < xs.length → rcV iss fr tt xs n cl pl = 4 := fun h => by unfold rcV; rw [if_pos h]
 have hgo : ¬ 500 < xs.length → rcV iss fr tt xs n cl pl = if nameB iss = true ∧ chkW fr tt = 0 ∧ srB 0 xs = true ∧ wfV n cl pl = true then 0 else 8 := fun h => by unfold rcV; rw [if_neg h]
 generalize rcV iss fr tt xs n cl pl = R at h500 hgo ⊢
 obtain ⟨m, hm⟩ : ∃ m, xs.length = m := ⟨_, rfl⟩
 have HM := Lib.hid hm
 rw [hm] at HB0 HR0 h500 hgo ⊢
 rw [hm] at H3
 clear hm hx hs
 by_cases h5 : 500 < m
 ·
  have i5 : (m : Int) > 500 := by omega
  have HR := Lib.hid (h500 h5)
  clear h500 hgo h5
  go_enter Tryz.func11, Tryz.ntmps11
  go_wp2_with fail
  go_ret
  exact ⟨by rw [HR.out]; rfl, HB0.out⟩
 ·
  have i5 : ¬ (m : Int) > 500 := by omega
  have hm5 : m ≤ 500 := by omega
  have HG := Lib.hid (hgo h5)
  clear h500 hgo h5
  generalize nameB iss = NB at H1 HG
  generalize chkW fr tt = CW at H2 HG
  generalize wfV n cl pl = WF at H4 HG
  cases NB
  ·
   have HR : RowKit.Hid (R = 8) := Lib.hid (by rw [HG.out]; simp)
   go_enter Tryz.func11, Tryz.ntmps11
   go_wp2_with fail
   refine (H1.out _).mono ?_
   rintro e w2 ⟨rfl, hw2⟩
   rw [← hw2]
   clear hw2 w2
   go_wp2_with fail
   go_ret
   exact ⟨by rw [HR.out]; rfl, HB0.out⟩
  ·
   by_cases hcw : CW = 0
   ·
    subst hcw
    cases hsr : srB 0 xs
    ·
     have HR : RowKit.Hid (R = 8) := Lib.hid (by rw [HG.out, hsr]; simp)
     rw [hsr] at H3
     clear hsr
     go_enter Tryz.func11, Tryz.ntmps11
     go_wp2_with fail
     refine (H1.out _).mono ?_
     rintro e w2 ⟨rfl, hw2⟩
     rw [← hw2]
     clear hw2 w2
     go_wp2_with fail
     refine (H2.out _).mono ?_
     rintro e w3 ⟨rfl, hb⟩
     have HB3 := Lib.hid (chain HB0.out hb)
     have HR3 := Lib.hid (row_on HR0.out hb)
     clear hb
     obtain ⟨hz, m0, m1, m2, m3, m4, m5, m6, m7⟩ := facts8 HR3.out
     go_wp2_with fail
     refine (H3.out (by omega) w3 HB3.out).mono ?_
     rintro e w4 ⟨rfl, hb⟩
     have HB4 := Lib.hid (chain HB3.out hb)
     clear hb hz m0 m1 m2 m3 m4 m5 m6 m7
     go_wp2_with fail
     go_ret
     exact ⟨by rw [HR.out]; rfl, HB4.out⟩
    ·
     have hG2 := HG.out
     rw [hsr] at hG2
     have HG2 := Lib.hid hG2
     rw [hsr] at H3
     clear hsr hG2
     cases WF
     ·
      have HR : RowKit.Hid (R = 8) := Lib.hid (by rw [HG2.out]; simp)
      go_enter Tryz.func11, Tryz.ntmps11
      go_wp2_with fail
      refine (H1.out _).mono ?_
      rintro e w2 ⟨rfl, hw2⟩
      rw [← hw2]
      clear hw2 w2
      go_wp2_with fail
      refine (H2.out _).mono ?_
      rintro e w3 ⟨rfl, hb⟩
      have HB3 := Lib.hid (chain HB0.out hb)
      have HR3 := Lib.hid (row_on HR0.out hb)
      clear hb
      obtain ⟨hz, m0, m1, m2, m3, m4, m5, m6, m7⟩ := facts8 HR3.out
      go_wp2_with fail
      refine (H3.out (by omega) w3 HB3.out).mono ?_
      rintro e w4 ⟨rfl, hb⟩
      have HB4 := Lib.hid (chain HB3.out hb)
      have HR4 := Lib.hid (row_on HR3.out hb)
      clear hb hz m0 m1 m2 m3 m4 m5 m6 m7
      obtain ⟨hz, m0, m1, m2, m3, m4, m5, m6, m7⟩ := facts8 HR4.out
      go_wp2_with fail
      refine (H4.out w4).mono ?_
      rintro e w5 ⟨rfl, hb⟩
      have HB5 := Lib.hid (chain HB4.out hb)
      clear hb hz m0 m1 m2 m3 m4 m5 m6 m7
      go_wp2_with fail
      go_ret
      exact ⟨by rw [HR.out]; rfl, HB5.out⟩
     ·
      have HR : RowKit.Hid (R = 0) := Lib.hid (by rw [HG2.out]; simp)
      go_enter Tryz.func11, Tryz.ntmps11
      go_wp2_with fail
      refine (H1.out _).mono ?_
      rintro e w2 ⟨rfl, hw2⟩
      rw [← hw2]
      clear hw2 w2
      go_wp2_with fail
      refine (H2.out _).mono ?_
      rintro e w3 ⟨rfl, hb⟩
      have HB3 := Lib.hid (chain HB0.out hb)
      have HR3 := Lib.hid (row_on HR0.out hb)
      clear hb
      obtain ⟨hz, m0, m1, m2, m3, m4, m5, m6, m7⟩ := facts8 HR3.out
      go_wp2_with fail
      refine (H3.out (by omega) w3 HB3.out).mono ?_
      rintro e w4 ⟨rfl, hb⟩
      have HB4 := Lib.hid (chain HB3.out hb)
      have HR4 := Lib.hid (row_on HR3.out hb)
      clear hb hz m0 m1 m2 m3 m4 m5 m6 m7
      obtain ⟨hz, m0, m1, m2, m3, m4, m5, m6, m7⟩ := facts8 HR4.out
      go_wp2_with fail
      refine (H4.out w4).mono ?_
      rintro e w5 ⟨rfl, hb⟩
      have HB5 := Lib.hid (chain HB4.out hb)
      clear hb hz m0 m1 m2 m3 m4 m5 m6 m7
      go_wp2_with fail
      go_ret
      exact ⟨by rw [HR.out]; rfl, HB5.out⟩
   ·
    have icw : (CW != 0) = true := by rw [bne_iff_ne]; exact hcw
    have HR : RowKit.Hid (R = 8) := Lib.hid (by rw [HG.out, if_neg (fun h => hcw h.2.1)])
    clear hcw
    go_enter Tryz.func11, Tryz.ntmps11
    go_wp2_with fail
    refine (H1.out _).mono ?_
    rintro e w2 ⟨rfl, hw2⟩
    rw [← hw2]
    clear hw2 w2
    go_wp2_with fail
    refine (H2.out _).mono ?_
    rintro e w3 ⟨rfl, hb⟩
    have HB3 := Lib.hid (chain HB0.out hb)
    clear hb
    go_wp2_with fail
    go_ret
    exact ⟨by rw [HR.out]; rfl, HB3.out⟩
end Sg
end Go.Proofs.YtcgffkkfeimifaaGreatDoor
