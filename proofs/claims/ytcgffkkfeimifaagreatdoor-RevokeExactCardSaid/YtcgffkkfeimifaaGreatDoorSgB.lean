import Derived.Test.YtcgffkkfeimifaaGreatDoorSgA
import Derived.Deep.RegionHeld3
import Derived.BigRegion
import Derived.Stop.BytesEq
namespace Go.Proofs.YtcgffkkfeimifaaGreatDoor
namespace Sg
open Go.RowKit Sha
set_option linter.unusedVariables false
set_option linter.unusedSimpArgs false
theorem rangeAt_on {g o : Nat} {w V : World} {cs : List Value} (h : w.rangeAt g o cs) (hb : Below w.heap.size w V) : V.rangeAt g o cs := fun j v hv => by
 have h1 := h j v hv
 rw [hb.cell (p := ⟨g, o + j, none⟩) (World.block_lt_of_cell? _ _ h1)]
 exact h1
structure Shs (A : Option Addr) (ls : List (List UInt8)) (w : World) : Prop where
 row : ∀ i l, ls[i]? = some l → ∃ g o, A = some ⟨g, o, none⟩ ∧ w.rangeAt g (o + 16 * i) (bvals l)
 len : ∀ l ∈ ls, l.length = 16
theorem Shs.on {A : Option Addr} {ls : List (List UInt8)} {w V : World} (h : Shs A ls w) (hb : Below w.heap.size w V) : Shs A ls V :=
 ⟨fun i l hi => by obtain ⟨g, o, e, hr⟩ := h.row i l hi; exact ⟨g, o, e, rangeAt_on hr hb⟩, h.len⟩
structure Nums (A : Option Addr) (xs : List Int) (w : World) : Prop where
 row : ∀ (i : Nat) x, xs[i]? = some x → ∃ g o, A = some ⟨g, o, none⟩ ∧ w.cell? ⟨g, o + i, none⟩ = some (.int .u64 x)
theorem Nums.on {A : Option Addr} {xs : List Int} {w V : World} (h : Nums A xs w) (hb : Below w.heap.size w V) : Nums A xs V :=
 ⟨fun i x hi => by
  obtain ⟨g, o, e, hc⟩ := h.row i x hi
  exact ⟨g, o, e, by rw [hb.cell (p := ⟨g, o + i, none⟩) (World.block_lt_of_cell? _ _ hc)]; exact hc⟩⟩
theorem eql_short (F G : List UInt8) (hF : F.length = 16) (hG : G.length = 16) (w : World) : (binOp .eql 41 (.agg (bvals F).toArray) (.agg (bvals G).toArray)).run Tryz.prog w = .ok (.bool (F == G)) w :=
 run_eql_bytes (P := Tryz.prog) w 41 5 16 Tryz.underlying41 Tryz.underlying5 (fun _ => by kernel_rfl) F G hF hG
theorem neq_short (F G : List UInt8) (hF : F.length = 16) (hG : G.length = 16) (w : World) : (binOp .neq 41 (.agg (bvals F).toArray) (.agg (bvals G).toArray)).run Tryz.prog w = .ok (.bool (!(F == G))) w := by
 have h := eql_short F G hF hG w
 have h2 : (Op.equal 41 (.agg (bvals F).toArray) (.agg (bvals G).toArray)).run Tryz.prog w = .ok (F == G) w := by
  cases hr : (Op.equal 41 (.agg (bvals F).toArray) (.agg (bvals G).toArray)).run Tryz.prog w with
  | ok a w' =>
   unfold binOp at h
   simp [hr] at h
   rw [h.1, h.2]
  | halt e w' =>
   unfold binOp at h
   simp [hr] at h
 unfold binOp
 simp [h2]
theorem list_eq {α : Type} {L M : List α} (hl : L.length = M.length) (h : ∀ j, j < L.length → L[j]? = M[j]?) : L = M := by
 apply List.ext_getElem?
 intro i
 by_cases hi : i < L.length
 ·
  exact h i hi
 ·
  rw [List.getElem?_eq_none (by omega), List.getElem?_eq_none (by omega)]
set_option maxRecDepth 100000 in
set_option maxHeartbeats 4000000 in
theorem same_nums (xs ys : List Int) (A B : Option Addr) (c d : Nat) (hl : xs.length ≤ 1000000) (w : World) (h1 : Nums A xs w) (h2 : Nums B ys w) :
  Calls Tryz.prog 48 #[.slice A xs.length c, .slice B ys.length d] w fun e w' => e = .returned (.bool (decide (xs = ys))) ∧ Below w.heap.size w w' := by
 obtain ⟨n, hn⟩ : ∃ n, xs.length = n := ⟨_, rfl⟩
 have HN := Lib.hid hn
 have H1 := Lib.hid h1
 have H2 := Lib.hid h2
 obtain ⟨R, hR⟩ : ∃ R, decide (xs = ys) = R := ⟨_, rfl⟩
 have HR := Lib.hid hR
 rw [hR, hn]
 have HZ := Lib.hid (Below.refl w.heap.size w)
 by_cases hlen : n = ys.length
 ·
  have HL : RowKit.Hid (xs.length = ys.length) := Lib.hid (hn.trans hlen)
  rw [← hlen]
  rw [hn] at hl
  have hnn : ((n : Int) != (n : Int)) = false := by simp
  clear hn hR h1 h2 hlen
  go_enter Tryz.func48, Tryz.ntmps48
  go_wp2_with fail
  go_loopw [5] (fun i wr => ∃ k : Nat, k ≤ n ∧ i = .int .i64 (k : Int) ∧ RowKit.Hid (Below w.heap.size w wr) ∧ RowKit.Hid (∀ j, j < k → xs[j]? = ys[j]?)) (fun i _ => n - (intOf i).toNat)
  case atStart => exact ⟨0, by omega, rfl, HZ, Lib.hid (fun j hj => by omega)⟩
  case round =>
   clear HZ
   obtain ⟨k, hk, rfl, HB, HQ⟩ := hrel
   obtain ⟨V, hV⟩ : ∃ V, V = wr := ⟨_, rfl⟩
   subst hV
   by_cases hlt : k < n
   ·
    obtain ⟨x, hx⟩ : ∃ x, xs[k]? = some x := ⟨_, List.getElem?_eq_getElem (by rw [HN.out]; exact hlt)⟩
    obtain ⟨y, hy⟩ : ∃ y, ys[k]? = some y := ⟨_, List.getElem?_eq_getElem (by rw [← HL.out, HN.out]; exact hlt)⟩
    obtain ⟨g1, o1, rfl, r1⟩ := H1.out.row k x hx
    obtain ⟨g2, o2, rfl, r2⟩ := H2.out.row k y hy
    have hki : (k : Int) < (n : Int) := by omega
    have HX := Lib.hid hx
    have HY := Lib.hid hy
    have ca := (Nums.on ⟨fun i x h => H1.out.row i x h⟩ HB.out).row k x hx
    have cb := (Nums.on ⟨fun i x h => H2.out.row i x h⟩ HB.out).row k y hy
    obtain ⟨_, _, e1, ca⟩ := ca
    obtain ⟨_, _, e2, cb⟩ := cb
    obtain ⟨rfl, rfl, _⟩ := Addr.mk.inj (Option.some.inj e1)
    obtain ⟨rfl, rfl, _⟩ := Addr.mk.inj (Option.some.inj e2)
    clear hx hy r1 r2 e1 e2
    by_cases hxy : x = y
    ·
     have i1 : (x != y) = false := by rw [bne_eq_false_iff_eq]; exact hxy
     have HQ2 : RowKit.Hid (∀ j, j < k + 1 → xs[j]? = ys[j]?) := Lib.hid (fun j hj => by
      by_cases e : j = k
      ·
       subst e; rw [HX.out, HY.out, hxy]
      ·
       exact HQ.out j (by omega))
     clear hxy
     go_wp2_with fail
     go_region
     all_goals
      go_wp2_with fail
      exact ⟨⟨k + 1, by omega, by go_num, by first | exact HB | exact Lib.hid HB.out.drew, HQ2⟩, by simp [intOf]; omega⟩
    ·
     have i1 : (x != y) = true := by rw [bne_iff_ne]; exact hxy
     have HRF : RowKit.Hid (R = false) := Lib.hid (by rw [← HR.out]; exact decide_eq_false (fun e => hxy (Option.some.inj (by rw [← HX.out, ← HY.out, e]))))
     clear hxy
     go_wp2_with fail
     go_region
     all_goals
      go_wp2_with fail
      go_ret
      exact ⟨by rw [HRF.out]; rfl, by first | exact HB.out | exact HB.out.drew⟩
   ·
    have hki : ¬ (k : Int) < (n : Int) := by omega
    have HRT : RowKit.Hid (R = true) := Lib.hid (by rw [← HR.out]; exact decide_eq_true (list_eq HL.out (fun j hj => HQ.out j (by rw [HN.out] at hj; omega))))
    go_wp2_with fail
    go_ret
    exact ⟨by rw [HRT.out]; rfl, HB.out⟩
 ·
  have hne : ((n : Int) != (ys.length : Int)) = true := by rw [bne_iff_ne]; omega
  have HRF : RowKit.Hid (R = false) := Lib.hid (by rw [← hR]; exact decide_eq_false (fun e => hlen (by rw [← hn, e])))
  clear hn hR h1 h2 hlen
  go_enter Tryz.func48, Tryz.ntmps48
  go_wp2_with fail
  go_ret
  exact ⟨by rw [HRF.out]; rfl, HZ.out⟩
set_option maxRecDepth 100000 in
set_option maxHeartbeats 4000000 in
theorem same_shs (xs ys : List (List UInt8)) (A B : Option Addr) (c d : Nat) (hl : xs.length ≤ 1000000) (w : World) (h1 : Shs A xs w) (h2 : Shs B ys w) :
  Calls Tryz.prog 89 #[.slice A xs.length c, .slice B ys.length d] w fun e w' => e = .returned (.bool (decide (xs = ys))) ∧ Below w.heap.size w w' := by
 obtain ⟨n, hn⟩ : ∃ n, xs.length = n := ⟨_, rfl⟩
 have HN := Lib.hid hn
 have H1 := Lib.hid h1
 have H2 := Lib.hid h2
 obtain ⟨R, hR⟩ : ∃ R, decide (xs = ys) = R := ⟨_, rfl⟩
 have HR := Lib.hid hR
 rw [hR, hn]
 have HZ := Lib.hid (Below.refl w.heap.size w)
 by_cases hlen : n = ys.length
 ·
  have HL : RowKit.Hid (xs.length = ys.length) := Lib.hid (hn.trans hlen)
  rw [← hlen]
  rw [hn] at hl
  have hnn : ((n : Int) != (n : Int)) = false := by simp
  clear hn hR h1 h2 hlen
  go_enter Tryz.func89, Tryz.ntmps89
  go_wp2_with fail
  go_loopw [5] (fun i wr => ∃ k : Nat, k ≤ n ∧ i = .int .i64 (k : Int) ∧ RowKit.Hid (Below w.heap.size w wr) ∧ RowKit.Hid (∀ j, j < k → xs[j]? = ys[j]?)) (fun i _ => n - (intOf i).toNat)
  case atStart => exact ⟨0, by omega, rfl, HZ, Lib.hid (fun j hj => by omega)⟩
  case round =>
   clear HZ
   obtain ⟨k, hk, rfl, HB, HQ⟩ := hrel
   obtain ⟨V, hV⟩ : ∃ V, V = wr := ⟨_, rfl⟩
   subst hV
   by_cases hlt : k < n
   ·
    obtain ⟨x, hx⟩ : ∃ x, xs[k]? = some x := ⟨_, List.getElem?_eq_getElem (by rw [HN.out]; exact hlt)⟩
    obtain ⟨y, hy⟩ : ∃ y, ys[k]? = some y := ⟨_, List.getElem?_eq_getElem (by rw [← HL.out, HN.out]; exact hlt)⟩
    obtain ⟨g1, o1, rfl, r1⟩ := H1.out.row k x hx
    obtain ⟨g2, o2, rfl, r2⟩ := H2.out.row k y hy
    have hki : (k : Int) < (n : Int) := by omega
    have HX := Lib.hid hx
    have HY := Lib.hid hy
    have hx16 : x.length = 16 := H1.out.len x (List.mem_of_getElem? hx)
    have hy16 : y.length = 16 := H2.out.len y (List.mem_of_getElem? hy)
    rw [Nat.mul_comm] at r1 r2
    have HG1 : RowKit.Hid (V.drew.rangeAt g1 (o1 + k * 16) (bvals x)) := Lib.hid (rangeAt_on r1 HB.out.drew)
    have HG2 : RowKit.Hid (V.drew.rangeAt g2 (o2 + k * 16) (bvals y)) := Lib.hid (rangeAt_on r2 HB.out.drew)
    have hnq := fun w => neq_short x y hx16 hy16 w
    have hix : (Tryz.prog.info? 41).map (·.size) = some (bvals x).length := by rw [bvals_len, hx16]; kernel_rfl
    have hiy : (Tryz.prog.info? 41).map (·.size) = some (bvals y).length := by rw [bvals_len, hy16]; kernel_rfl
    have hu := Tryz.underlying41
    clear hx hy r1 r2 hx16 hy16
    by_cases hxy : x = y
    ·
     have hq1 : ∀ w, (binOp .neq 41 (.agg (bvals x).toArray) (.agg (bvals y).toArray)).run Tryz.prog w = .ok (.bool false) w := fun w => by rw [hnq w, hxy]; simp
     have HQ2 : RowKit.Hid (∀ j, j < k + 1 → xs[j]? = ys[j]?) := Lib.hid (fun j hj => by
      by_cases e : j = k
      ·
       subst e; rw [HX.out, HY.out, hxy]
      ·
       exact HQ.out j (by omega))
     clear hxy hnq
     go_upto_region 6 with (fail)
     try simp only [Act.put]
     refine wp_region_held_drew (S := fun z => Below w.heap.size w z ∧ z.rangeAt g1 (o1 + k * 16) (bvals x) ∧ z.rangeAt g2 (o2 + k * 16) (bvals y)) (by kernel_rfl) ⟨HB.out.drew, HG1.out, HG2.out⟩ (fun hHeld => ?_)
     refine wpAnyH_take (i := 0) (oi := { dst := some 17, op := .move (.tmp 0), type := 28, pos := "ref.go:266", after := #[], guard := none }) (v := ?_) rfl (by kernel_rfl) (by kernel_rfl) (by kernel_rfl) (fun _ _ _ h => h) (Or.inl ⟨by rfl, ?_⟩) hHeld ?_
     rotate_left
     ·
      intro w hSw
      clear hSw
      go_simp
      try with_reducible rfl
     try simp only [Act.put, List.setIfInBounds_toArray, List.set_cons_zero, List.set_cons_succ]
     refine wpAnyH_take (i := 1) (oi := { dst := some 18, op := .move (.tmp 5), type := 3, pos := "ref.go:266", after := #[], guard := none }) (v := ?_) rfl (by kernel_rfl) (by kernel_rfl) (by kernel_rfl) (fun _ _ _ h => h) (Or.inl ⟨by rfl, ?_⟩) hHeld ?_
     rotate_left
     ·
      intro w hSw
      clear hSw
      go_simp
      try with_reducible rfl
     try simp only [Act.put, List.setIfInBounds_toArray, List.set_cons_zero, List.set_cons_succ]
     refine wpAnyH_take (i := 2) (oi := { dst := some 19, op := .indexAddr 28 (.tmp 17) (.tmp 18), type := 0, pos := "ref.go:266", after := #[{ on := 0, ground := .data }, { on := 1, ground := .data }], guard := none }) (v := ?_) rfl (by kernel_rfl) (by kernel_rfl) (by kernel_rfl) (fun _ _ _ h => h) (Or.inl ⟨by rfl, ?_⟩) hHeld ?_
     rotate_left
     ·
      intro w hSw
      clear hSw
      go_simp
      try with_reducible rfl
     try simp only [Act.put, List.setIfInBounds_toArray, List.set_cons_zero, List.set_cons_succ]
     refine wpAnyH_take (i := 3) (oi := { dst := some 20, op := .load 41 (.tmp 19), type := 41, pos := "ref.go:266", after := #[{ on := 2, ground := .data }], guard := none }) (v := .agg (bvals x).toArray) rfl (by kernel_rfl) (by kernel_rfl) (by kernel_rfl) (fun _ _ _ h => h) (yieldsIf_load_mid (by rfl) _ _ rfl _ _ rfl (bvals x) _ (fun w hSw => hSw.2.1) hu rfl hix) hHeld ?_
     try simp only [Act.put, List.setIfInBounds_toArray, List.set_cons_zero, List.set_cons_succ]
     refine wpAnyH_take (i := 4) (oi := { dst := some 21, op := .move (.tmp 1), type := 28, pos := "ref.go:266", after := #[], guard := none }) (v := ?_) rfl (by kernel_rfl) (by kernel_rfl) (by kernel_rfl) (fun _ _ _ h => h) (Or.inl ⟨by rfl, ?_⟩) hHeld ?_
     rotate_left
     ·
      intro w hSw
      clear hSw
      go_simp
      try with_reducible rfl
     try simp only [Act.put, List.setIfInBounds_toArray, List.set_cons_zero, List.set_cons_succ]
     refine wpAnyH_take (i := 5) (oi := { dst := some 22, op := .move (.tmp 5), type := 3, pos := "ref.go:266", after := #[], guard := none }) (v := ?_) rfl (by kernel_rfl) (by kernel_rfl) (by kernel_rfl) (fun _ _ _ h => h) (Or.inl ⟨by rfl, ?_⟩) hHeld ?_
     rotate_left
     ·
      intro w hSw
      clear hSw
      go_simp
      try with_reducible rfl
     try simp only [Act.put, List.setIfInBounds_toArray, List.set_cons_zero, List.set_cons_succ]
     refine wpAnyH_take (i := 6) (oi := { dst := some 23, op := .indexAddr 28 (.tmp 21) (.tmp 22), type := 0, pos := "ref.go:266", after := #[{ on := 4, ground := .data }, { on := 5, ground := .data }], guard := none }) (v := ?_) rfl (by kernel_rfl) (by kernel_rfl) (by kernel_rfl) (fun _ _ _ h => h) (Or.inl ⟨by rfl, ?_⟩) hHeld ?_
     rotate_left
     ·
      intro w hSw
      clear hSw
      go_simp
      try with_reducible rfl
     try simp only [Act.put, List.setIfInBounds_toArray, List.set_cons_zero, List.set_cons_succ]
     refine wpAnyH_take (i := 7) (oi := { dst := some 24, op := .load 41 (.tmp 23), type := 41, pos := "ref.go:266", after := #[{ on := 6, ground := .data }], guard := none }) (v := .agg (bvals y).toArray) rfl (by kernel_rfl) (by kernel_rfl) (by kernel_rfl) (fun _ _ _ h => h) (yieldsIf_load_mid (by rfl) _ _ rfl _ _ rfl (bvals y) _ (fun w hSw => hSw.2.2) hu rfl hiy) hHeld ?_
     try simp only [Act.put, List.setIfInBounds_toArray, List.set_cons_zero, List.set_cons_succ]
     refine wpAnyH_take (i := 8) (oi := { dst := some 25, op := .binOp .neq 41 (.tmp 20) (.tmp 24) 41, type := 4, pos := "ref.go:266", after := #[{ on := 3, ground := .data }, { on := 7, ground := .data }], guard := none }) (v := .bool false) rfl (by kernel_rfl) (by kernel_rfl) (by kernel_rfl) (fun _ _ _ h => h) (Or.inl ⟨by rfl, ?_⟩) hHeld ?_
     ·
      intro w hSw
      clear hSw
      go_simp
      try rw [hq1]
     try simp only [Act.put, List.setIfInBounds_toArray, List.set_cons_zero, List.set_cons_succ]
     refine wpAnyH_done (by kernel_rfl) ?_ _
     have HB2 := Lib.hid hHeld.1
     clear hHeld
     go_wp2_with fail
     exact ⟨⟨k + 1, by omega, by go_num, HB2, HQ2⟩, by simp [intOf]; omega⟩
    ·
     have hq1 : ∀ w, (binOp .neq 41 (.agg (bvals x).toArray) (.agg (bvals y).toArray)).run Tryz.prog w = .ok (.bool true) w := fun w => by rw [hnq w]; simp [hxy]
     have HRF : RowKit.Hid (R = false) := Lib.hid (by rw [← HR.out]; exact decide_eq_false (fun e => hxy (Option.some.inj (by rw [← HX.out, ← HY.out, e]))))
     clear hxy hnq
     go_upto_region 6 with (fail)
     try simp only [Act.put]
     refine wp_region_held_drew (S := fun z => Below w.heap.size w z ∧ z.rangeAt g1 (o1 + k * 16) (bvals x) ∧ z.rangeAt g2 (o2 + k * 16) (bvals y)) (by kernel_rfl) ⟨HB.out.drew, HG1.out, HG2.out⟩ (fun hHeld => ?_)
     refine wpAnyH_take (i := 0) (oi := { dst := some 17, op := .move (.tmp 0), type := 28, pos := "ref.go:266", after := #[], guard := none }) (v := ?_) rfl (by kernel_rfl) (by kernel_rfl) (by kernel_rfl) (fun _ _ _ h => h) (Or.inl ⟨by rfl, ?_⟩) hHeld ?_
     rotate_left
     ·
      intro w hSw
      clear hSw
      go_simp
      try with_reducible rfl
     try simp only [Act.put, List.setIfInBounds_toArray, List.set_cons_zero, List.set_cons_succ]
     refine wpAnyH_take (i := 1) (oi := { dst := some 18, op := .move (.tmp 5), type := 3, pos := "ref.go:266", after := #[], guard := none }) (v := ?_) rfl (by kernel_rfl) (by kernel_rfl) (by kernel_rfl) (fun _ _ _ h => h) (Or.inl ⟨by rfl, ?_⟩) hHeld ?_
     rotate_left
     ·
      intro w hSw
      clear hSw
      go_simp
      try with_reducible rfl
     try simp only [Act.put, List.setIfInBounds_toArray, List.set_cons_zero, List.set_cons_succ]
     refine wpAnyH_take (i := 2) (oi := { dst := some 19, op := .indexAddr 28 (.tmp 17) (.tmp 18), type := 0, pos := "ref.go:266", after := #[{ on := 0, ground := .data }, { on := 1, ground := .data }], guard := none }) (v := ?_) rfl (by kernel_rfl) (by kernel_rfl) (by kernel_rfl) (fun _ _ _ h => h) (Or.inl ⟨by rfl, ?_⟩) hHeld ?_
     rotate_left
     ·
      intro w hSw
      clear hSw
      go_simp
      try with_reducible rfl
     try simp only [Act.put, List.setIfInBounds_toArray, List.set_cons_zero, List.set_cons_succ]
     refine wpAnyH_take (i := 3) (oi := { dst := some 20, op := .load 41 (.tmp 19), type := 41, pos := "ref.go:266", after := #[{ on := 2, ground := .data }], guard := none }) (v := .agg (bvals x).toArray) rfl (by kernel_rfl) (by kernel_rfl) (by kernel_rfl) (fun _ _ _ h => h) (yieldsIf_load_mid (by rfl) _ _ rfl _ _ rfl (bvals x) _ (fun w hSw => hSw.2.1) hu rfl hix) hHeld ?_
     try simp only [Act.put, List.setIfInBounds_toArray, List.set_cons_zero, List.set_cons_succ]
     refine wpAnyH_take (i := 4) (oi := { dst := some 21, op := .move (.tmp 1), type := 28, pos := "ref.go:266", after := #[], guard := none }) (v := ?_) rfl (by kernel_rfl) (by kernel_rfl) (by kernel_rfl) (fun _ _ _ h => h) (Or.inl ⟨by rfl, ?_⟩) hHeld ?_
     rotate_left
     ·
      intro w hSw
      clear hSw
      go_simp
      try with_reducible rfl
     try simp only [Act.put, List.setIfInBounds_toArray, List.set_cons_zero, List.set_cons_succ]
     refine wpAnyH_take (i := 5) (oi := { dst := some 22, op := .move (.tmp 5), type := 3, pos := "ref.go:266", after := #[], guard := none }) (v := ?_) rfl (by kernel_rfl) (by kernel_rfl) (by kernel_rfl) (fun _ _ _ h => h) (Or.inl ⟨by rfl, ?_⟩) hHeld ?_
     rotate_left
     ·
      intro w hSw
      clear hSw
      go_simp
      try with_reducible rfl
     try simp only [Act.put, List.setIfInBounds_toArray, List.set_cons_zero, List.set_cons_succ]
     refine wpAnyH_take (i := 6) (oi := { dst := some 23, op := .indexAddr 28 (.tmp 21) (.tmp 22), type := 0, pos := "ref.go:266", after := #[{ on := 4, ground := .data }, { on := 5, ground := .data }], guard := none }) (v := ?_) rfl (by kernel_rfl) (by kernel_rfl) (by kernel_rfl) (fun _ _ _ h => h) (Or.inl ⟨by rfl, ?_⟩) hHeld ?_
     rotate_left
     ·
      intro w hSw
      clear hSw
      go_simp
      try with_reducible rfl
     try simp only [Act.put, List.setIfInBounds_toArray, List.set_cons_zero, List.set_cons_succ]
     refine wpAnyH_take (i := 7) (oi := { dst := some 24, op := .load 41 (.tmp 23), type := 41, pos := "ref.go:266", after := #[{ on := 6, ground := .data }], guard := none }) (v := .agg (bvals y).toArray) rfl (by kernel_rfl) (by kernel_rfl) (by kernel_rfl) (fun _ _ _ h => h) (yieldsIf_load_mid (by rfl) _ _ rfl _ _ rfl (bvals y) _ (fun w hSw => hSw.2.2) hu rfl hiy) hHeld ?_
     try simp only [Act.put, List.setIfInBounds_toArray, List.set_cons_zero, List.set_cons_succ]
     refine wpAnyH_take (i := 8) (oi := { dst := some 25, op := .binOp .neq 41 (.tmp 20) (.tmp 24) 41, type := 4, pos := "ref.go:266", after := #[{ on := 3, ground := .data }, { on := 7, ground := .data }], guard := none }) (v := .bool true) rfl (by kernel_rfl) (by kernel_rfl) (by kernel_rfl) (fun _ _ _ h => h) (Or.inl ⟨by rfl, ?_⟩) hHeld ?_
     ·
      intro w hSw
      clear hSw
      go_simp
      try rw [hq1]
     try simp only [Act.put, List.setIfInBounds_toArray, List.set_cons_zero, List.set_cons_succ]
     refine wpAnyH_done (by kernel_rfl) ?_ _
     have HB2 := Lib.hid hHeld.1
     clear hHeld
     go_wp2_with fail
     go_ret
     exact ⟨by rw [HRF.out]; rfl, HB2.out⟩
   ·
    have hki : ¬ (k : Int) < (n : Int) := by omega
    have HRT : RowKit.Hid (R = true) := Lib.hid (by rw [← HR.out]; exact decide_eq_true (list_eq HL.out (fun j hj => HQ.out j (by rw [HN.out] at hj; omega))))
    go_wp2_with fail
    go_ret
    exact ⟨by rw [HRT.out]; rfl, HB.out⟩
 ·
  have hne : ((n : Int) != (ys.length : Int)) = true := by rw [bne_iff_ne]; omega
  have HRF : RowKit.Hid (R = false) := Lib.hid (by rw [← hR]; exact decide_eq_false (fun e => hlen (by rw [← hn, e])))
  clear hn hR h1 h2 hlen
  go_enter Tryz.func89, Tryz.ntmps89
  go_wp2_with fail
  go_ret
  exact ⟨by rw [HRF.out]; rfl, HZ.out⟩
end Sg
end Go.Proofs.YtcgffkkfeimifaaGreatDoor
