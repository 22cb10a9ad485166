import Derived.Test.YtcgffkkfeimifaaGreatDoorSgA
import Derived.Deep.RegionHeld3
import Derived.BigRegion
import Derived.Stop.BytesEq
namespace Go.Proofs.YtcgffkkfeimifaaGreatDoor
namespace Sg
open Go.RowKit Sha
set_option linter.unusedVariables false
set_option linter.unusedSimpArgs false
theorem rangeAt_on {g o : Nat} {w V : World} {cs : List Value} (h : w.rangeAt g o cs) (hb : Below w.heap.size w V) : V.rangeAt g o cs := fun j v hv => by
 have h1 := h j v hv
 rw [hb.cell (p := ⟨g, o + j, none⟩) (World.block_lt_of_cell? _ _ h1)]
 exact h1
structure Shs (A : Option Addr) (ls : List (List UInt8)) (w : World) : Prop where
 row : ∀ i l, ls[i]? = some l → ∃ g o, A = some ⟨g, o, none⟩ ∧ w.rangeAt g (o + 16 * i) (bvals l)
 len : ∀ l ∈ ls, l.length = 16
theorem Shs.on {A : Option Addr} {ls : List (List UInt8)} {w V : World} (h : Shs A ls w) (hb : Below w.heap.size w V) : Shs A ls V :=
 ⟨fun i l hi => by obtain ⟨g, o, e, hr⟩ := h.row i l hi; exact ⟨g, o, e, rangeAt_on hr hb⟩, h.len⟩
structure Nums (A : Option Addr) (xs : List Int) (w : World) : Prop where
 row : ∀ (i : Nat) x, xs[i]? = some x → ∃ g o, A = some ⟨g, o, none⟩ ∧ w.cell? ⟨g, o + i, none⟩ = some (.int .u64 x)
theorem Nums.on {A : Option Addr} {xs : List Int} {w V : World} (h : Nums A xs w) (hb : Below w.heap.size w V) : Nums A xs V :=
 ⟨fun i x hi => by
  obtain ⟨g, o, e, hc⟩ := h.row i x hi
  exact ⟨g, o, e, by rw [hb.cell (p := ⟨g, o + i, none⟩) (World.block_lt_of_cell? _ _ hc)]; exact hc⟩⟩
theorem eql_short (F G : List UInt8) (hF : F.length = 16) (hG : G.length = 16) (w : World) : (binOp .eql 41 (.agg (bvals F).toArray) (.agg (bvals G).toArray)).run Tryz.prog w = .ok (.bool (F == G)) w :=
 run_eql_bytes (P := Tryz.prog) w 41 5 16 Tryz.underlying41 Tryz.underlying5 (fun _ => by kernel_rfl) F G hF hG
theorem neq_short (F G : List UInt8) (hF : F.length = 16) (hG : G.length = 16) (w : World) : (binOp .neq 41 (.agg (bvals F).toArray) (.agg (bvals G).toArray)).run Tryz.prog w = .ok (.bool (!(F == G))) w := by
 have h := eql_short F G hF hG w
 have h2 : (Op.equal 41 (.agg (bvals F).toArray) (.agg (bvals G).toArray)).run Tryz.prog w = .ok (F == G) w := by
  cases hr : (Op.equal 41 (.agg (bvals F).toArray) (.agg (bvals G).toArray)).run Tryz.prog w with
  | ok a w' =>
   unfold binOp at h
   simp [hr] at h
   rw [h.1, h.2]
  | halt e w' =>
   unfold binOp at h
   simp [hr] at h
 unfold binOp
 simp [h2]
theorem list_eq {α : Type} {L M : List α} (hl : L.length = M.length) (h : ∀ j, j < L.length → L[j]? = M[j]?) : L = M := by
 apply List.ext_getElem?
 intro i
 by_cases hi : i < L.length
 ·
  exact h i hi
 ·
  rw [List.getElem?_eq_none (by omega), List.getElem?_eq_none (by omega)]
set_option maxRecDepth 100000 in
set_option maxHeartbeats 4000000 in
theorem same_nums (xs ys : List Int) (A B : Option Addr) (c d : Nat) (hl : xs.length ≤ 1000000) (w : World) (h1 : Nums A xs w) (h2 : Nums B ys w) :
  Calls Tryz.prog 48 #[.slice A xs.length c, .slice B ys.length d] w fun e w' => e = .returned (.bool (decide (xs = ys))) ∧ Below w.heap.size w w' := by
 obtain ⟨n, hn⟩ : ∃ n, xs.length = n := ⟨_, rfl⟩
 have HN := Lib.hid hn
 have H1 := Lib.hid h1
 have H2 := Lib.hid h2
 obtain ⟨R, hR⟩ : ∃ R, decide (xs = ys) = R := ⟨_, rfl⟩
 have HR := Lib.hid hR
 rw [hR, hn]
 have HZ := Lib.hid (Below.refl w.heap.size w)
 by_cases hlen : n = ys.length
 ·
  have HL : RowKit.Hid (xs.length = ys.length) := Lib.hid (hn.trans hlen)
  rw [← hlen]
  rw [hn] at hl
  have hnn : ((n : Int) != (n : Int)) = false := by simp
  clear hn hR h1 h2 hlen
  go_enter Tryz.func48, Tryz.ntmps48
  go_wp2_with fail
  go_loopw [5] (fun i wr => ∃ k : Nat, k ≤ n ∧ i = .int .i64 (k : Int) ∧ RowKit.Hid (Below w.heap.size w wr) ∧ RowKit.Hid (∀ j, j < k → xs[j]? = ys[j]?)) (fun i _ => n - (intOf i).toNat)
  case atStart => exact ⟨0, by omega, rfl, HZ, Lib.hid (fun j hj => by omega)⟩
  case round =>
   clear HZ
   obtain ⟨k, hk, rfl, HB, HQ⟩ := hrel
   obtain ⟨V, hV⟩ : ∃ V, V = wr := ⟨_, rfl⟩
   subst hV
   by_cases hlt : k < n
   ·
    obtain ⟨x, hx⟩ : ∃ x, xs[k]? = some x := ⟨_, List.getElem?_eq_getElem (by rw [HN.out]; exact hlt)⟩
    obtain ⟨y, hy⟩ : ∃ y, ys[k]? = some y := ⟨_, List.getElem?_eq_getElem (by rw [← HL.out, HN.out]; exact hlt)⟩
    obtain ⟨g1, o1, rfl, r1⟩ := H1.out.row k x hx
    obtain ⟨g2, o2, rfl, r2⟩ := H2.out.row k y hy
    have hki : (k : Int) < (n : Int) := by omega
    have HX := Lib.hid hx
    have HY := Lib.hid hy
    have ca := (Nums.on ⟨fun i x h => H1.out.row i x h⟩ HB.out).row k x hx
    have cb := (Nums.on ⟨fun i x h => H2.out.row i x h⟩ HB.out).row k y hy
    obtain ⟨_, _, e1, ca⟩ := ca
    obtain ⟨_, _, e2, cb⟩ := cb
    obtain ⟨rfl, rfl, _⟩ := Addr.mk.inj (Option.some.inj e1)
    obtain ⟨rfl, rfl, _⟩ := Addr.mk.inj (Option.some.inj e2)
    clear hx hy r1 r2 e1 e2
    by_cases hxy : x = y
    ·
     have i1 : (x != y) = false := by rw [bne_eq_false_iff_eq]; exact hxy
     have HQ2 : RowKit.Hid (∀ j, j < k + 1 → xs[j]? = ys[j]?) := Lib.hid (fun j hj => by
      by_cases e : j = k
      ·
       subst e; rw [HX.out, HY.out, hxy]
      ·
       exact HQ.out j (by omega))
     clear hxy
     go_wp2_with fail
     go_region
     all_goals
      go_wp2_with fail
      exact ⟨⟨k + 1, by omega, by go_num, by first | exact HB | exact Lib.hid HB.out.drew, HQ2⟩, by simp [intOf]; omega⟩
    ·
     have i1 : (x != y) = true := by rw [bne_iff_ne]; exact hxy
     have HRF : RowKit.Hid (R = false) := Lib.hid (by rw [← HR.out]; exact decide_eq_false (fun e => hxy (Option.some.inj (by rw [← HX.out, ← HY.out, e]))))
     clear hxy
     go_wp2_with fail
     go_region
     all_goals
      go_wp2_with fail
      go_ret
      exact ⟨by rw [HRF.out]; rfl, by first | exact HB.out | exact HB.out.drew⟩
   ·
    have hki : ¬ (k : Int) < (n : Int) := by omega
    have HRT : RowKit.Hid (R = true) := Lib.hid (by rw [← HR.out]; exact decide_eq_true (list_eq HL.out (fun j hj => HQ.out j (by rw [HN.out] at hj; omega))))
    go_wp2_with fail
    go_ret
    exact ⟨by rw [HRT.out]; rfl, HB.out⟩
 ·
  have hne : ((n : Int) != (ys.length : Int)) = true := by rw [bne_iff_ne]; omega
  have HRF : RowKit.Hid (R = false) := Lib.hid (by rw [← hR]; exact decide_eq_false (fun e => hlen (by rw [← hn, e])))
  clear hn hR h1 h2 hlen
  go_enter Tryz.func48, Tryz.ntmps48
  go_wp2_with fail
  go_ret
  exact ⟨by rw [HRF.out]; rfl, HZ.out⟩
set_option maxRecDepth 100000 in
set_option maxHeartbeats 4000000 in
theorem same_shs (xs ys : List (List UInt8)) (A B : Option Addr) (c d : Nat) (hl : xs.length ≤ 1000000) (w : World) (h1 : Shs A xs w) (h2 : Shs B ys w) :
  Calls Tryz.prog 89 #[.slice A xs.length c, .slice B ys.length d] w fun e w' => e = .returned (.bool (decide (xs = ys))) ∧ Below w.heap.size w w' := by
 obtain ⟨n, hn⟩ : ∃ n, xs.length = n := ⟨_, rfl⟩
 have HN := Lib.hid hn
 have H1 := Lib.hid h1
 have H2 := Lib.hid h2
 obtain ⟨R, hR⟩ : ∃ R, decide (xs = ys) = R := ⟨_, rfl⟩
 have HR := Lib.hid hR
 rw [hR, hn]
 have HZ := Lib.hid (Below.refl w.heap.size w)
 by_cases hlen : n = ys.length
 ·
  have HL : RowKit.Hid (xs.length = ys.length) := Lib.hid (hn.trans hlen)
  rw [← hlen]
  rw [hn] at hl
  have hnn : ((n : Int) != (n : Int)) = false := by simp
  clear hn hR h1 h2 hlen
  go_enter Tryz.func89, Tryz.ntmps89
  go_wp2_with fail
  go_loopw [5] (fun i wr => ∃ k : Nat, k ≤ n ∧ i = .int .i64 (k : Int) ∧ RowKit.Hid (Below w.heap.size w wr) ∧ RowKit.Hid (∀ j, j < k → xs[j]? = ys[j]?)) (fun i _ => n - (intOf i).toNat)
  case atStart => exact ⟨0, by omega, rfl, HZ, Lib.hid (fun j hj => by omega)⟩
  case round =>
   clear HZ
   obtain ⟨k, hk, rfl, HB, HQ⟩ := hrel
   obtain ⟨V, hV⟩ : ∃ V, V = wr := ⟨_, rfl⟩
   subst hV
   by_cases hlt : k < n
   ·
    obtain ⟨x, hx⟩ : ∃ x, xs[k]? = some x := ⟨_, List.getElem?_eq_getElem (by rw [HN.out]; exact hlt)⟩
    obtain ⟨y, hy⟩ : ∃ y, ys[k]? = some y := ⟨_, List.getElem?_eq_getElem (by rw [← HL.out, HN.out]; exact hlt)⟩
    obtain ⟨g1, o1, rfl, r1⟩ := H1.out.row k x hx
    obtain ⟨g2, o2, rfl, r2⟩ := H2.out.row k y hy
    have hki : (k : Int) < (n : Int) := by omega
    have HX := Lib.hid hx
    have HY := Lib.hid hy
    have hx16 : x.length = 16 := H1.out.len x (List.mem_of_getElem? hx)
    have hy16 : y.length = 16 := H2.out.len y (List.mem_of_getElem? hy)
    rw [Nat.mul_comm] at r1 r2
    have HG1 : RowKit.Hid (V.drew.rangeAt g1 (o1 + k * 16) (bvals x)) := Lib.hid (rangeAt_on r1 HB.out.drew)
    have HG2 : RowKit.Hid (V.drew.rangeAt g2 (o2 + k * 16) (bvals y)) := Lib.hid (rangeAt_on r2 HB.out.drew)
    have hnq := fun w => neq_short x y hx16 hy16 w
    have hix : (Tryz.prog.info? 41).map (·.size) = some (bvals x).length := by rw [bvals_len, hx16]; kernel_rfl
    have hiy : (Tryz.prog.info? 41).map (·.size) = some (bvals y).length := by rw [bvals_len, hy16]; kernel_rfl
    have hu := Tryz.underlying41
    clear hx hy r1 r2 hx16 hy16
    by_cases hxy : x = y
    ·
     have hq1 : ∀ w, (binOp .neq 41 (.agg (bvals x).toArray) (.agg (bvals y).toArray)).run Tryz.prog w = .ok (.bool false) w := fun w => by rw [hnq w, hxy]; simp
     have HQ2 : RowKit.Hid (∀ j, j < k + 1 → xs[j]? = ys[j]?) := Lib.hid (fun j hj => by
      by_cases e : j = k
      ·
       subst e; rw [HX.out, HY.out, hxy]
      ·
       exact HQ.out j (by omega))
     clear hxy hnq
     go_upto_region 6 with (fail)
     try simp only [Act.put]
     refine wp_region_held_drew (S := fun z => Below w.heap.size w z ∧ z.rangeAt g1 (o1 + k * 16) (bvals x) ∧ z.rangeAt g2 (o2 + k * 16) (bvals y)) (by kernel_rfl) ⟨HB.out.drew, HG1.out, HG2.out⟩ (fun hHeld => ?_)
     refine wpAnyH_take (i := 0) (oi := { dst := some 17, op := .move (.tmp 0), type := 28, pos := "ref.go:266", after := #[], guard := none }) (v := ?_) rfl (by kernel_rfl) (by kernel_rfl) (by kernel_rfl) (fun _ _ _ h => h) (Or.inl ⟨by rfl, ?_⟩) hHeld ?_
     rotate_left
     ·
      intro w hSw
      clear hSw
      go_simp
      try with_reducible rfl
     try simp only [Act.put, List.setIfInBounds_toArray, List.set_cons_zero, List.set_cons_succ]
     refine wpAnyH_take (i := 1) (oi := { dst := some 18, op := .move (.tmp 5), type := 3, pos := "ref.go:266", after := #[], guard := none }) (v := ?_) rfl (by kernel_rfl) (by kernel_rfl) (by kernel_rfl) (fun _ _ _ h => h) (Or.inl ⟨by rfl, ?_⟩) hHeld ?_
     rotate_left
     ·
      intro w hSw
      clear hSw
      go_simp
      try with_reducible rfl
     try simp only [Act.put, List.setIfInBounds_toArray, List.set_cons_zero, List.set_cons_succ]
     refine wpAnyH_take (i := 2) (oi := { dst := some 19, op := .indexAddr 28 (.tmp 17) (.tmp 18), type := 0, pos := "ref.go:266", after := #[{ on := 0, ground := .data }, { on := 1, ground := .data }], guard := none }) (v := ?_) rfl (by kernel_rfl) (by kernel_rfl) (by kernel_rfl) (fun _ _ _ h => h) (Or.inl ⟨by rfl, ?_⟩) hHeld ?_
     rotate_left
     ·
      intro w hSw
      clear hSw
      go_simp
      try with_reducible rfl
     try simp only [Act.put, List.setIfInBounds_toArray, List.set_cons_zero, List.set_cons_succ]
     refine wpAnyH_take (i := 3) (oi := { dst := some 20, op := .load 41 (.tmp 19), type := 41, pos := "ref.go:266", after := #[{ on := 2, ground := .data }], guard := none }) (v := .agg (bvals x).toArray) rfl (by kernel_rfl) (by kernel_rfl) (by kernel_rfl) (fun _ _ _ h => h) (yieldsIf_load_mid (by rfl) _ _ rfl _ _ rfl (bvals x) _ (fun w hSw => hSw.2.1) hu rfl hix) hHeld ?_
     try simp only [Act.put, List.setIfInBounds_toArray, List.set_cons_zero, List.set_cons_succ]
     refine wpAnyH_take (i := 4) (oi := { dst := some 21, op := .move (.tmp 1), type := 28, pos := "ref.go:266", after := #[], guard := none }) (v := ?_) rfl (by kernel_rfl) (by kernel_rfl) (by kernel_rfl) (fun _ _ _ h => h) (Or.inl ⟨by rfl, ?_⟩) hHeld ?_
     rotate_left
     ·
      intro w hSw
      clear hSw
      go_simp
      try with_reducible rfl
     try simp only [Act.put, List.setIfInBounds_toArray, List.set_cons_zero, List.set_cons_succ]
     refine wpAnyH_take (i := 5) (oi := { dst := some 22, op := .move (.tmp 5), type := 3, pos := "ref.go:266", after := #[], guard := none }) (v := ?_) rfl (by kernel_rfl) (by kernel_rfl) (by kernel_rfl) (fun _ _ _ h => h) (Or.inl ⟨by rfl, ?_⟩) hHeld ?_
     rotate_left
     ·
      intro w hSw
      clear hSw
      go_simp
      try with_reducible rfl
     try simp only [Act.put, List.setIfInBounds_toArray, List.set_cons_zero, List.set_cons_succ]
     refine wpAnyH_take (i := 6) (oi := { dst := some 23, op := .indexAddr 28 (.tmp 21) (.tmp 22), type := 0, pos := "ref.go:266", after := #[{ on := 4, ground := .data }, { on := 5, ground := .data }], guard := none }) (v := ?_) rfl (by kernel_rfl) (by kernel_rfl) (by kernel_rfl) (fun _ _ _ h => h) (Or.inl ⟨by rfl, ?_⟩) hHeld ?_
     rotate_left
     ·
      intro w hSw
      clear hSw
      go_simp
      try with_reducible rfl
     try simp only [Act.put, List.setIfInBounds_toArray, List.set_cons_zero, List.set_cons_succ]
     refine wpAnyH_take (i := 7) (oi := { dst := some 24, op := .load 41 (.tmp 23), type := 41, pos := "ref.go:266", after := #[{ on := 6, ground := .data }], guard := none }) (v := .agg (bvals y).toArray) rfl (by kernel_rfl) (by kernel_rfl) (by kernel_rfl) (fun _ _ _ h => h) (yieldsIf_load_mid (by rfl) _ _ rfl _ _ rfl (bvals y) _ (fun w hSw => hSw.2.2) hu rfl hiy) hHeld ?_
     try simp only [Act.put, List.setIfInBounds_toArray, List.set_cons_zero, List.set_cons_succ]
     refine wpAnyH_take (i := 8) (oi := { dst := some 25, op := .binOp .neq 41 (.tmp 20) (.tmp 24) 41, type := 4, pos := "ref.go:266", after := #[{ on := 3, ground := .data }, { on := 7, ground := .data }], guard := none }) (v := .bool false) rfl (by kernel_rfl) (by kernel_rfl) (by kernel_rfl) (fun _ _ _ h => h) (Or.inl ⟨by rfl, ?_⟩) hHeld ?_
     ·
      intro w hSw
      clear hSw
      go_simp
      try rw [hq1]
     try simp only [Act.put, List.setIfInBounds_toArray, List.set_cons_zero, List.set_cons_succ]
     refine wpAnyH_done (by kernel_rfl) ?_ _
     have HB2 := Lib.hid hHeld.1
     clear hHeld
     go_wp2_with fail
     exact ⟨⟨k + 1, by omega, by go_num, HB2, HQ2⟩, by simp [intOf]; omega⟩
    ·
     have hq1 : ∀ w, (binOp .neq 41 (.agg (bvals x).toArray) (.agg (bvals y).toArray)).run Tryz.prog w = .ok (.bool true) w := fun w => by rw [hnq w]; simp [hxy]
     have HRF : RowKit.Hid (R = false) := Lib.hid (by rw [← HR.out]; exact decide_eq_false (fun e => hxy (Option.some.inj (by rw [← HX.out, ← HY.out, e]))))
     clear hxy hnq
     go_upto_region 6 with (fail)
     try simp only [Act.put]
     refine wp_region_held_drew (S := fun z => Below w.heap.size w z ∧ z.rangeAt g1 (o1 + k * 16) (bvals x) ∧ z.rangeAt g2 (o2 + k * 16) (bvals y)) (by kernel_rfl) ⟨HB.out.drew, HG1.out, HG2.out⟩ (fun hHeld => ?_)
     refine wpAnyH_take (i := 0) (oi := { dst := some 17, op := .move (.tmp 0), type := 28, pos := "ref.go:266", after := #[], guard := none }) (v := ?_) rfl (by kernel_rfl) (by kernel_rfl) (by kernel_rfl) (fun _ _ _ h => h) (Or.inl ⟨by rfl, ?_⟩) hHeld ?_
     rotate_left
     ·
      intro w hSw
      clear hSw
      go_simp
      try with_reducible rfl
     try simp only [Act.put, List.setIfInBounds_toArray, List.set_cons_zero, List.set_cons_succ]
     refine wpAnyH_take (i := 1) (oi := { dst := some 18, op := .move (.tmp 5), type := 3, pos := "ref.go:266", after := #[], guard := none }) (v := ?_) rfl (by kernel_rfl) (by kernel_rfl) (by kernel_rfl) (fun _ _ _ h => h) (Or.inl ⟨by rfl, ?_⟩) hHeld ?_
     rotate_left
     ·
      intro w hSw
      clear hSw
      go_simp
      try with_reducible rfl
     try simp only [Act.put, List.setIfInBounds_toArray, List.set_cons_zero, List.set_cons_succ]
     refine wpAnyH_take (i := 2) (oi := { dst := some 19, op := .indexAddr 28 (.tmp 17) (.tmp 18), type := 0, pos := "ref.go:266", after := #[{ on := 0, ground := .data }, { on := 1, ground := .data }], guard := none }) (v := ?_) rfl (by kernel_rfl) (by kernel_rfl) (by kernel_rfl) (fun _ _ _ h => h) (Or.inl ⟨by rfl, ?_⟩) hHeld ?_
     rotate_left
     ·
      intro w hSw
      clear hSw
      go_simp
      try with_reducible rfl
     try simp only [Act.put, List.setIfInBounds_toArray, List.set_cons_zero, List.set_cons_succ]
     refine wpAnyH_take (i := 3) (oi := { dst := some 20, op := .load 41 (.tmp 19), type := 41, pos := "ref.go:266", after := #[{ on := 2, ground := .data }], guard := none }) (v := .agg (bvals x).toArray) rfl (by kernel_rfl) (by kernel_rfl) (by kernel_rfl) (fun _ _ _ h => h) (yieldsIf_load_mid (by rfl) _ _ rfl _ _ rfl (bvals x) _ (fun w hSw => hSw.2.1) hu rfl hix) hHeld ?_
     try simp only [Act.put, List.setIfInBounds_toArray, List.set_cons_zero, List.set_cons_succ]
     refine wpAnyH_take (i := 4) (oi := { dst := some 21, op := .move (.tmp 1), type := 28, pos := "ref.go:266", after := #[], guard := none }) (v := ?_) rfl (by kernel_rfl) (by kernel_rfl) (by kernel_rfl) (fun _ _ _ h => h) (Or.inl ⟨by rfl, ?_⟩) hHeld ?_
     rotate_left
     ·
      intro w hSw
      clear hSw
      go_simp
      try with_reducible rfl
     try simp only [Act.put, List.setIfInBounds_toArray, List.set_cons_zero, List.set_cons_succ]
     refine wpAnyH_take (i := 5) (oi := { dst := some 22, op := .move (.tmp 5), type := 3, pos := "ref.go:266", after := #[], guard := none }) (v := ?_) rfl (by kernel_rfl) (by kernel_rfl) (by kernel_rfl) (fun _ _ _ h => h) (Or.inl ⟨by rfl, ?_⟩) hHeld ?_
     rotate_left
     ·
      intro w hSw
      clear hSw
      go_simp
      try with_reducible rfl
     try simp only [Act.put, List.setIfInBounds_toArray, List.set_cons_zero, List.set_cons_succ]
     refine wpAnyH_take (i := 6) (oi := { dst := some 23, op := .indexAddr 28 (.tmp 21) (.tmp 22), type := 0, pos := "ref.go:266", after := #[{ on := 4, ground := .data }, { on := 5, ground := .data }], guard := none }) (v := ?_) rfl (by kernel_rfl) (by kernel_rfl) (by kernel_rfl) (fun _ _ _ h => h) (Or.inl ⟨by rfl, ?_⟩) hHeld ?_
     rotate_left
     ·
      intro w hSw
      clear hSw
      go_simp
      try with_reducible rfl
     try simp only [Act.put, List.setIfInBounds_toArray, List.set_cons_zero, List.set_cons_succ]
     refine wpAnyH_take (i := 7) (oi := { dst := some 24, op := .load 41 (.tmp 23), type := 41, pos := "ref.go:266", after := #[{ on := 6, ground := .data }], guard := none }) (v := .agg (bvals y).toArray) rfl (by kernel_rfl) (by kernel_rfl) (by kernel_rfl) (fun _ _ _ h => h) (yieldsIf_load_mid (by rfl) _ _ rfl _ _ rfl (bvals y) _ (fun w hSw => hSw.2.2) hu rfl hiy) hHeld ?_
     try simp only [Act.put, List.setIfInBounds_toArray, List.set_cons_zero, List.set_cons_succ]
     refine wpAnyH_take (i := 8) (oi := { dst := some 25, op := .binOp .neq 41 (.tmp 20) (.tmp 24) 41, type := 4, pos := "ref.go:266", after := #[{ on := 3, ground := .data }, { on := 7, ground := .data }], guard := none }) (v := .bool true) rfl (by kernel_rfl) (by kernel_rfl) (by kernel_rfl) (fun _ _ _ h => h) (Or.inl ⟨by rfl, ?_⟩) hHeld ?_
     ·
      intro w hSw
      clear hSw
      go_simp
      try rw [hq1]
     try simp only [Act.put, List.setIfInBounds_toArray, List.set_cons_zero, List.set_cons_succ]
     refine wpAnyH_done (by kernel_rfl) ?_ _
     have HB2 := Lib.hid hHeld.1
     clear hHeld
     go_wp2_with fail
     go_ret
     exact ⟨by rw [HRF.out]; rfl, HB2.out⟩
   ·
    have hki : ¬ (k : Int) < (n : Int) := by omega
    have HRT : RowKit.Hid (R = true) := Lib.hid (by rw [← HR.out]; exact decide_eq_true (list_eq HL.out (fun j hj => HQ.out j (by rw [HN.out] at hj; omega))))
    go_wp2_with fail
    go_ret
    exact ⟨by rw [HRT.out]; rfl, HB.out⟩
 ·
  have hne : ((n : Int) != (ys.length : Int)) = true := by rw [bne_iff_ne]; omega
  have HRF : RowKit.Hid (R = false) := Lib.hid (by rw [← hR]; exact decide_eq_false (fun e => hlen (by rw [← hn, e])))
  clear hn hR h1 h2 hlen
  go_enter Tryz.func89, Tryz.ntmps89
  go_wp2_with fail
  go_ret
  exact ⟨by rw [HRF.out]; rfl, HZ.out⟩
end Sg
end Go.Proofs.YtcgffkkfeimifaaGreatDoor
namespace Go.Proofs.YtcgffkkfeimifaaGreatDoor
namespace Sg
open Go.RowKit Sha
set_option linter.unusedVariables false
set_option linter.unusedSimpArgs false
theorem facts8 {V : World} {M : Nat} {a b c d e f g h : Value} {T : TypeId} (H : V.heap[M]? = some (.cells #[a, b, c, d, e, f, g, h] T (0, 0))) : M < V.heap.size ∧ V.cell? ⟨M, 0, none⟩ = some a ∧ V.cell? ⟨M, 1, none⟩ = some b ∧ V.cell? ⟨M, 2, none⟩ = some c ∧ V.cell? ⟨M, 3, none⟩ = some d ∧ V.cell? ⟨M, 4, none⟩ = some e ∧ V.cell? ⟨M, 5, none⟩ = some f ∧ V.cell? ⟨M, 6, none⟩ = some g ∧ V.cell? ⟨M, 7, none⟩ = some h :=
 ⟨(Array.getElem?_eq_some_iff.1 H).1, cell_of_row _ _ _ _ _ _ H, cell_of_row _ _ _ _ _ _ H, cell_of_row _ _ _ _ _ _ H, cell_of_row _ _ _ _ _ _ H, cell_of_row _ _ _ _ _ _ H, cell_of_row _ _ _ _ _ _ H, cell_of_row _ _ _ _ _ _ H, cell_of_row _ _ _ _ _ _ H⟩
def srB : Int → List Int → Bool
 | _, [] => true
 | a, x :: r => decide (a < x) && srB x r
theorem srB_at {a x : Int} {xs : List Int} {k : Nat} (hx : xs[k]? = some x) : srB a (xs.drop k) = (decide (a < x) && srB x (xs.drop (k + 1))) := by
 have hk := (List.getElem?_eq_some_iff.1 hx).1
 have e : xs.drop k = x :: xs.drop (k + 1) := by
  rw [List.drop_eq_getElem_cons hk, (List.getElem?_eq_some_iff.1 hx).2]
 rw [e]
 rfl
def wfV (n : Int) (cl pl : Nat) : Bool := if cl = 0 ∧ pl = 0 then decide (n = 0) else decide (chkV (pl : Int) n cl pl = 0)
def rcV (iss : ByteArray) (fr tt : Int) (xs : List Int) (n : Int) (cl pl : Nat) : Int := if 500 < xs.length then 4 else if nameB iss = true ∧ chkW fr tt = 0 ∧ srB 0 xs = true ∧ wfV n cl pl = true then 0 else 8
set_option maxRecDepth 100000 in
set_option maxHeartbeats 4000000 in
theorem serials_any (xs : List Int) (A : Option Addr) (c : Nat) (hl : xs.length ≤ 1000000) (w : World) (h1 : Nums A xs w) :
  Calls Tryz.prog 35 #[.slice A xs.length c] w fun e w' => e = .returned (.bool (srB 0 xs)) ∧ Below w.heap.size w w' := by
 obtain ⟨n, hn⟩ : ∃ n, xs.length = n := ⟨_, rfl⟩
 have HN := Lib.hid hn
 have H1 := Lib.hid h1
 obtain ⟨R, hR⟩ : ∃ R, srB 0 xs = R := ⟨_, rfl⟩
 have HR := Lib.hid hR
 rw [hn] at hl
 rw [hR, hn]
 have HZ := Lib.hid (Below.refl w.heap.size w)
 clear hn hR h1
 go_enter Tryz.func35, Tryz.ntmps35
 go_wp2_with fail
 go_loopw [3, 8] (fun v i wr => ∃ (k : Nat) (a : Int), k ≤ n ∧ i = .int .i64 (k : Int) ∧ v = .int .u64 a ∧ RowKit.Hid (Below w.heap.size w wr) ∧ RowKit.Hid (R = srB a (xs.drop k))) (fun _ i _ => n - (intOf i).toNat)
 case atStart => exact ⟨0, 0, by omega, rfl, rfl, HZ, Lib.hid (by rw [List.drop_zero]; exact HR.out.symm)⟩
 case round =>
  clear HZ
  obtain ⟨k, a, hk, rfl, rfl, HB, HQ⟩ := hrel
  obtain ⟨V, hV⟩ : ∃ V, V = wr := ⟨_, rfl⟩
  subst hV
  by_cases hlt : k < n
  ·
   obtain ⟨x, hx⟩ : ∃ x, xs[k]? = some x := ⟨_, List.getElem?_eq_getElem (by rw [HN.out]; exact hlt)⟩
   obtain ⟨g1, o1, rfl, r1⟩ := H1.out.row k x hx
   obtain ⟨_, _, e1, ca⟩ := (Nums.on ⟨fun i x h => H1.out.row i x h⟩ HB.out).row k x hx
   obtain ⟨rfl, rfl, _⟩ := Addr.mk.inj (Option.some.inj e1)
   have hki : (k : Int) < (n : Int) := by omega
   have hsr := HQ.out.trans (srB_at (a := a) hx)
   clear r1 e1 hx
   by_cases hax : a < x
   ·
    have i1 : ¬ (x ≤ a) := by omega
    have HS : RowKit.Hid (R = srB x (xs.drop (k + 1))) := Lib.hid (by rw [hsr, decide_eq_true hax, Bool.true_and])
    clear hsr hax
    go_wp2_with fail
    exact ⟨⟨k + 1, x, by omega, by go_num, rfl, HB, HS⟩, by simp [intOf]; omega⟩
   ·
    have i1 : x ≤ a := by omega
    have HS : RowKit.Hid (R = false) := Lib.hid (by rw [hsr, decide_eq_false hax, Bool.false_and])
    clear hsr hax
    go_wp2_with fail
    go_ret
    exact ⟨by rw [HS.out]; rfl, HB.out⟩
  ·
   have hki : ¬ (k : Int) < (n : Int) := by omega
   have HS : RowKit.Hid (R = true) := Lib.hid (by rw [HQ.out, List.drop_of_length_le (by rw [HN.out]; omega)]; rfl)
   go_wp2_with fail
   go_ret
   exact ⟨by rw [HS.out]; rfl, HB.out⟩
theorem wf_zero {n : Int} {cl pl : Nat} (h : cl = 0 ∧ pl = 0) : wfV n cl pl = decide (n = 0) := by unfold wfV; rw [if_pos h]
theorem wf_some {n : Int} {cl pl : Nat} (h : ¬ (cl = 0 ∧ pl = 0)) : wfV n cl pl = decide (chkV (pl : Int) n cl pl = 0) := by unfold wfV; rw [if_neg h]
set_option maxRecDepth 100000 in
set_option maxHeartbeats 4000000 in
theorem wf_any (n : Int) (CA PA : Option Addr) (cl cc pl pc : Nat) (w : World) :
  Calls Tryz.prog 36 #[.agg #[.int .i64 n, .slice CA cl cc, .slice PA pl pc]] w fun e w' => e = .returned (.bool (wfV n cl pl)) ∧ Below w.heap.size w w' := by
 have HB0 := Lib.hid (below_new w (.cells #[.int .i64 n, .slice CA cl cc, .slice PA pl pc] 30))
 have HC := Lib.hid (fun (V : World) => check_any (pl : Int) n CA PA cl cc pl pc V)
 have hz := @wf_zero n cl pl
 have hs := @wf_some n cl pl
 generalize wfV n cl pl = R at hz hs ⊢
 by_cases h0 : cl = 0 ∧ pl = 0
 ·
  obtain ⟨rfl, rfl⟩ := h0
  have HR := Lib.hid (hz ⟨rfl, rfl⟩)
  clear hz hs HC
  by_cases hn : n = 0
  ·
   have i1 : (n == 0) = true := by rw [beq_iff_eq]; exact hn
   have HR : RowKit.Hid (R = true) := Lib.hid (by rw [HR.out]; exact decide_eq_true hn)
   clear hn
   go_enter Tryz.func36, Tryz.ntmps36
   go_wp2_with fail
   go_ret
   exact ⟨by rw [HR.out]; rfl, HB0.out⟩
  ·
   have i1 : (n == 0) = false := by rw [beq_eq_false_iff_ne]; exact hn
   have HR : RowKit.Hid (R = false) := Lib.hid (by rw [HR.out]; exact decide_eq_false hn)
   clear hn
   go_enter Tryz.func36, Tryz.ntmps36
   go_wp2_with fail
   go_ret
   exact ⟨by rw [HR.out]; rfl, HB0.out⟩
 ·
  have HR := Lib.hid (hs h0)
  clear hz hs
  generalize chkV (pl : Int) n cl pl = CK at HC HR
  by_cases hc : CK = 0
  ·
   have i1 : (CK == 0) = true := by rw [beq_iff_eq]; exact hc
   have HR : RowKit.Hid (R = true) := Lib.hid (by rw [HR.out]; exact decide_eq_true hc)
   clear hc
   by_cases hcl : cl = 0
   ·
    have i2 : ((cl : Int) == 0) = true := by rw [beq_iff_eq]; omega
    have i3 : ((pl : Int) == 0) = false := by rw [beq_eq_false_iff_ne]; omega
    clear h0 hcl
    go_enter Tryz.func36, Tryz.ntmps36
    go_wp2_with fail
    refine (HC.out _).mono ?_
    rintro e w2 ⟨rfl, hb⟩
    have HB2 := Lib.hid (chain HB0.out hb)
    clear hb
    go_wp2_with fail
    go_ret
    exact ⟨by rw [HR.out]; rfl, HB2.out⟩
   ·
    have i2 : ((cl : Int) == 0) = false := by rw [beq_eq_false_iff_ne]; omega
    clear h0 hcl
    go_enter Tryz.func36, Tryz.ntmps36
    go_wp2_with fail
    refine (HC.out _).mono ?_
    rintro e w2 ⟨rfl, hb⟩
    have HB2 := Lib.hid (chain HB0.out hb)
    clear hb
    go_wp2_with fail
    go_ret
    exact ⟨by rw [HR.out]; rfl, HB2.out⟩
  ·
   have i1 : (CK == 0) = false := by rw [beq_eq_false_iff_ne]; exact hc
   have HR : RowKit.Hid (R = false) := Lib.hid (by rw [HR.out]; exact decide_eq_false hc)
   clear hc
   by_cases hcl : cl = 0
   ·
    have i2 : ((cl : Int) == 0) = true := by rw [beq_iff_eq]; omega
    have i3 : ((pl : Int) == 0) = false := by rw [beq_eq_false_iff_ne]; omega
    clear h0 hcl
    go_enter Tryz.func36, Tryz.ntmps36
    go_wp2_with fail
    refine (HC.out _).mono ?_
    rintro e w2 ⟨rfl, hb⟩
    have HB2 := Lib.hid (chain HB0.out hb)
    clear hb
    go_wp2_with fail
    go_ret
    exact ⟨by rw [HR.out]; rfl, HB2.out⟩
   ·
    have i2 : ((cl : Int) == 0) = false := by rw [beq_eq_false_iff_ne]; omega
    clear h0 hcl
    go_enter Tryz.func36, Tryz.ntmps36
    go_wp2_with fail
    refine (HC.out _).mono ?_
    rintro e w2 ⟨rfl, hb⟩
    have HB2 := Lib.hid (chain HB0.out hb)
    clear hb
    go_wp2_with fail
    go_ret
    exact ⟨by rw [HR.out]; rfl, HB2.out⟩
set_option maxRecDepth 100000 in
set_option maxHeartbeats 8000000 in
theorem revcheck_any (iss : ByteArray) (num fr tt : Int) (SA : Option Addr) (xs : List Int) (sc : Nat) (n : Int) (CA PA : Option Addr) (cl cc pl pc : Nat) (hs : iss.size ≤ maxLen) (w : World) (hx : Nums SA xs w) :
  Calls Tryz.prog 11 #[.agg #[.string iss, .int .u64 num, .int .i64 fr, .int .i64 tt, .slice SA xs.length sc, .int .i64 n, .slice CA cl cc, .slice PA pl pc]] w fun e w' => e = .returned (.int .i64 (rcV iss fr tt xs n cl pl)) ∧ Below w.heap.size w w' := by
 have HB0 := Lib.hid (below_new w (.cells #[.string iss, .int .u64 num, .int .i64 fr, .int .i64 tt, .slice SA xs.length sc, .int .i64 n, .slice CA cl cc, .slice PA pl pc] 32))
 have HR0 := Lib.hid (heap_alloc_new w (.cells #[.string iss, .int .u64 num, .int .i64 fr, .int .i64 tt, .slice SA xs.length sc, .int .i64 n, .slice CA cl cc, .slice PA pl pc] 32))
 have H1 := Lib.hid (fun (V : World) => name_any iss V hs)
 have H2 := Lib.hid (fun (V : World) => chk_any fr tt V)
 have H4 := Lib.hid (fun (V : World) => wf_any n CA PA cl cc pl pc V)
 have H3 := Lib.hid (fun (hl : xs.length ≤ 1000000) (V : World) (hb : Below w.heap.size w V) => serials_any xs SA sc hl V (hx.on hb))
 have HX := Lib.hid hx
 have h500 : 500 < xs.length → rcV iss fr tt xs n cl pl = 4 := fun h => by unfold rcV; rw [if_pos h]
 have hgo : ¬ 500 < xs.length → rcV iss fr tt xs n cl pl = if nameB iss = true ∧ chkW fr tt = 0 ∧ srB 0 xs = true ∧ wfV n cl pl = true then 0 else 8 := fun h => by unfold rcV; rw [if_neg h]
 generalize rcV iss fr tt xs n cl pl = R at h500 hgo ⊢
 obtain ⟨m, hm⟩ : ∃ m, xs.length = m := ⟨_, rfl⟩
 have HM := Lib.hid hm
 rw [hm] at HB0 HR0 h500 hgo ⊢
 rw [hm] at H3
 clear hm hx hs
 by_cases h5 : 500 < m
 ·
  have i5 : (m : Int) > 500 := by omega
  have HR := Lib.hid (h500 h5)
  clear h500 hgo h5
  go_enter Tryz.func11, Tryz.ntmps11
  go_wp2_with fail
  go_ret
  exact ⟨by rw [HR.out]; rfl, HB0.out⟩
 ·
  have i5 : ¬ (m : Int) > 500 := by omega
  have hm5 : m ≤ 500 := by omega
  have HG := Lib.hid (hgo h5)
  clear h500 hgo h5
  generalize nameB iss = NB at H1 HG
  generalize chkW fr tt = CW at H2 HG
  generalize wfV n cl pl = WF at H4 HG
  cases NB
  ·
   have HR : RowKit.Hid (R = 8) := Lib.hid (by rw [HG.out]; simp)
   go_enter Tryz.func11, Tryz.ntmps11
   go_wp2_with fail
   refine (H1.out _).mono ?_
   rintro e w2 ⟨rfl, hw2⟩
   rw [← hw2]
   clear hw2 w2
   go_wp2_with fail
   go_ret
   exact ⟨by rw [HR.out]; rfl, HB0.out⟩
  ·
   by_cases hcw : CW = 0
   ·
    subst hcw
    cases hsr : srB 0 xs
    ·
     have HR : RowKit.Hid (R = 8) := Lib.hid (by rw [HG.out, hsr]; simp)
     rw [hsr] at H3
     clear hsr
     go_enter Tryz.func11, Tryz.ntmps11
     go_wp2_with fail
     refine (H1.out _).mono ?_
     rintro e w2 ⟨rfl, hw2⟩
     rw [← hw2]
     clear hw2 w2
     go_wp2_with fail
     refine (H2.out _).mono ?_
     rintro e w3 ⟨rfl, hb⟩
     have HB3 := Lib.hid (chain HB0.out hb)
     have HR3 := Lib.hid (row_on HR0.out hb)
     clear hb
     obtain ⟨hz, m0, m1, m2, m3, m4, m5, m6, m7⟩ := facts8 HR3.out
     go_wp2_with fail
     refine (H3.out (by omega) w3 HB3.out).mono ?_
     rintro e w4 ⟨rfl, hb⟩
     have HB4 := Lib.hid (chain HB3.out hb)
     clear hb hz m0 m1 m2 m3 m4 m5 m6 m7
     go_wp2_with fail
     go_ret
     exact ⟨by rw [HR.out]; rfl, HB4.out⟩
    ·
     have hG2 := HG.out
     rw [hsr] at hG2
     have HG2 := Lib.hid hG2
     rw [hsr] at H3
     clear hsr hG2
     cases WF
     ·
      have HR : RowKit.Hid (R = 8) := Lib.hid (by rw [HG2.out]; simp)
      go_enter Tryz.func11, Tryz.ntmps11
      go_wp2_with fail
      refine (H1.out _).mono ?_
      rintro e w2 ⟨rfl, hw2⟩
      rw [← hw2]
      clear hw2 w2
      go_wp2_with fail
      refine (H2.out _).mono ?_
      rintro e w3 ⟨rfl, hb⟩
      have HB3 := Lib.hid (chain HB0.out hb)
      have HR3 := Lib.hid (row_on HR0.out hb)
      clear hb
      obtain ⟨hz, m0, m1, m2, m3, m4, m5, m6, m7⟩ := facts8 HR3.out
      go_wp2_with fail
      refine (H3.out (by omega) w3 HB3.out).mono ?_
      rintro e w4 ⟨rfl, hb⟩
      have HB4 := Lib.hid (chain HB3.out hb)
      have HR4 := Lib.hid (row_on HR3.out hb)
      clear hb hz m0 m1 m2 m3 m4 m5 m6 m7
      obtain ⟨hz, m0, m1, m2, m3, m4, m5, m6, m7⟩ := facts8 HR4.out
      go_wp2_with fail
      refine (H4.out w4).mono ?_
      rintro e w5 ⟨rfl, hb⟩
      have HB5 := Lib.hid (chain HB4.out hb)
      clear hb hz m0 m1 m2 m3 m4 m5 m6 m7
      go_wp2_with fail
      go_ret
      exact ⟨by rw [HR.out]; rfl, HB5.out⟩
     ·
      have HR : RowKit.Hid (R = 0) := Lib.hid (by rw [HG2.out]; simp)
      go_enter Tryz.func11, Tryz.ntmps11
      go_wp2_with fail
      refine (H1.out _).mono ?_
      rintro e w2 ⟨rfl, hw2⟩
      rw [← hw2]
      clear hw2 w2
      go_wp2_with fail
      refine (H2.out _).mono ?_
      rintro e w3 ⟨rfl, hb⟩
      have HB3 := Lib.hid (chain HB0.out hb)
      have HR3 := Lib.hid (row_on HR0.out hb)
      clear hb
      obtain ⟨hz, m0, m1, m2, m3, m4, m5, m6, m7⟩ := facts8 HR3.out
      go_wp2_with fail
      refine (H3.out (by omega) w3 HB3.out).mono ?_
      rintro e w4 ⟨rfl, hb⟩
      have HB4 := Lib.hid (chain HB3.out hb)
      have HR4 := Lib.hid (row_on HR3.out hb)
      clear hb hz m0 m1 m2 m3 m4 m5 m6 m7
      obtain ⟨hz, m0, m1, m2, m3, m4, m5, m6, m7⟩ := facts8 HR4.out
      go_wp2_with fail
      refine (H4.out w4).mono ?_
      rintro e w5 ⟨rfl, hb⟩
      have HB5 := Lib.hid (chain HB4.out hb)
      clear hb hz m0 m1 m2 m3 m4 m5 m6 m7
      go_wp2_with fail
      go_ret
      exact ⟨by rw [HR.out]; rfl, HB5.out⟩
   ·
    have icw : (CW != 0) = true := by rw [bne_iff_ne]; exact hcw
    have HR : RowKit.Hid (R = 8) := Lib.hid (by rw [HG.out, if_neg (fun h => hcw h.2.1)])
    clear hcw
    go_enter Tryz.func11, Tryz.ntmps11
    go_wp2_with fail
    refine (H1.out _).mono ?_
    rintro e w2 ⟨rfl, hw2⟩
    rw [← hw2]
    clear hw2 w2
    go_wp2_with fail
    refine (H2.out _).mono ?_
    rintro e w3 ⟨rfl, hb⟩
    have HB3 := Lib.hid (chain HB0.out hb)
    clear hb
    go_wp2_with fail
    go_ret
    exact ⟨by rw [HR.out]; rfl, HB3.out⟩
end Sg
end Go.Proofs.YtcgffkkfeimifaaGreatDoor
namespace Go.Proofs.YtcgffkkfeimifaaGreatDoor
namespace Sg
open Go.RowKit Sha
set_option linter.unusedVariables false
set_option linter.unusedSimpArgs false
theorem ba_eq (a b : ByteArray) : (a.toList == b.toList) = decide (a = b) := by
 rw [ByteArray.toList_eq, ByteArray.toList_eq, Bool.eq_iff_iff, beq_iff_eq, decide_eq_true_eq]
 constructor
 ·
  intro h
  apply ByteArray.ext
  exact Array.ext' h
 ·
  intro h; rw [h]
structure Sgn where
 idx : Int
 cs : List (List UInt8)
 ps : List (List UInt8)
 deriving DecidableEq
structure Rl where
 iss : ByteArray
 num : Int
 fr : Int
 tt : Int
 ser : List Int
 sg : Sgn
 deriving DecidableEq
structure Mp where
 SA : Option Addr
 sc : Nat
 CA : Option Addr
 cc : Nat
 PA : Option Addr
 pc : Nat
def sgV (s : Sgn) (CA : Option Addr) (cc : Nat) (PA : Option Addr) (pc : Nat) : Value := .agg #[.int .i64 s.idx, .slice CA s.cs.length cc, .slice PA s.ps.length pc]
def rlC (l : Rl) (m : Mp) : Array Value := #[.string l.iss, .int .u64 l.num, .int .i64 l.fr, .int .i64 l.tt, .slice m.SA l.ser.length m.sc, .int .i64 l.sg.idx, .slice m.CA l.sg.cs.length m.cc, .slice m.PA l.sg.ps.length m.pc]
structure RlAt (l : Rl) (m : Mp) (w : World) : Prop where
 ser : Nums m.SA l.ser w
 cs : Shs m.CA l.sg.cs w
 ps : Shs m.PA l.sg.ps w
 ls : l.ser.length ≤ 1000000
 lc : l.sg.cs.length ≤ 100000
 lp : l.sg.ps.length ≤ 100000
theorem RlAt.on {l : Rl} {m : Mp} {w V : World} (h : RlAt l m w) (hb : Below w.heap.size w V) : RlAt l m V := ⟨h.ser.on hb, h.cs.on hb, h.ps.on hb, h.ls, h.lc, h.lp⟩
theorem two_rows (w : World) (o1 o2 : Obj) : Below w.heap.size w ((w.alloc o1).alloc o2) ∧ ((w.alloc o1).alloc o2).heap[w.heap.size]? = some o1 ∧ ((w.alloc o1).alloc o2).heap[w.heap.size + 1]? = some o2 := by
 have b1 := below_new w o1
 have b2 := below_new (w.alloc o1) o2
 have h1 := heap_alloc_new w o1
 have h2 := heap_alloc_new (w.alloc o1) o2
 have s1 : (w.alloc o1).heap.size = w.heap.size + 1 := World.size_alloc ..
 rw [s1] at h2
 refine ⟨chain b1 b2, ?_, h2⟩
 rw [b2.block _ (by rw [s1]; omega)]
 exact h1
theorem sgn_dec (a b : Sgn) : decide (a = b) = (decide (a.idx = b.idx) && decide (a.cs = b.cs) && decide (a.ps = b.ps)) := by
 rw [Bool.eq_iff_iff]
 simp only [Bool.and_eq_true, decide_eq_true_eq]
 cases a; cases b
 simp only [Sgn.mk.injEq]
 constructor
 ·
  rintro ⟨h1, h2, h3⟩; exact ⟨⟨h1, h2⟩, h3⟩
 ·
  rintro ⟨⟨h1, h2⟩, h3⟩; exact ⟨h1, h2, h3⟩
theorem rl_dec (a b : Rl) : decide (a = b) = (decide (a.iss = b.iss) && decide (a.num = b.num) && (decide (a.fr = b.fr) && decide (a.tt = b.tt)) && decide (a.ser = b.ser) && decide (a.sg = b.sg)) := by
 rw [Bool.eq_iff_iff]
 simp only [Bool.and_eq_true, decide_eq_true_eq]
 cases a; cases b
 simp only [Rl.mk.injEq]
 constructor
 ·
  rintro ⟨h1, h2, h3, h4, h5, h6⟩; exact ⟨⟨⟨⟨h1, h2⟩, h3, h4⟩, h5⟩, h6⟩
 ·
  rintro ⟨⟨⟨⟨h1, h2⟩, h3, h4⟩, h5⟩, h6⟩; exact ⟨h1, h2, h3, h4, h5, h6⟩
theorem Tryz.fieldsWin : (Tryz.prog.fieldsOf 27).toList = [{ name := "From", type := 2, offset := 0, embedded := false, tag := "", pkgPath := "", byteOffset := 0 }, { name := "To", type := 2, offset := 1, embedded := false, tag := "", pkgPath := "", byteOffset := 8 }] := by kernel_rfl
theorem eql_win (a b c d : Int) (w : World) : (binOp .eql 27 (.agg #[.int .i64 a, .int .i64 b]) (.agg #[.int .i64 c, .int .i64 d])).run Tryz.prog w = .ok (.bool ((a == c) && (b == d))) w := by
 rw [run_eql_struct, run_equalIn_struct w 9999 27 _ _ (by kernel_rfl) (by kernel_rfl), Tryz.fieldsWin]
 have h1 : (Op.equalIn 9999 2 (.int .i64 a) (.int .i64 c)).run Tryz.prog w = .ok (a == c) w := run_equalIn_int w 9998 2 .i64 .i64 a c Tryz.underlying2
 have h2 : (Op.equalIn 9999 2 (.int .i64 b) (.int .i64 d)).run Tryz.prog w = .ok (b == d) w := run_equalIn_int w 9998 2 .i64 .i64 b d Tryz.underlying2
 have hs : (sizeOf 2).run Tryz.prog w = .ok 1 w := by kernel_rfl
 have ha : (isAgg 2).run Tryz.prog w = .ok false w := by kernel_rfl
 have p1 : ∀ x y : Int, (part 2 #[.int .i64 x, .int .i64 y] 0).run Tryz.prog w = .ok (.int .i64 x) w := fun x y => by simp only [part, Sem.run_bind, ha, Result.andThen_ok, Bool.false_eq_true, if_false]; rfl
 have p2 : ∀ x y : Int, (part 2 #[.int .i64 x, .int .i64 y] 1).run Tryz.prog w = .ok (.int .i64 y) w := fun x y => by simp only [part, Sem.run_bind, ha, Result.andThen_ok, Bool.false_eq_true, if_false]; rfl
 simp only [Op.eqFields]
 rw [if_pos (by decide), if_pos (by decide)]
 simp only [Sem.run_bind, p1, p2, Result.andThen_ok, h1, h2]
 cases hb : (a == c)
 ·
  simp
 ·
  cases hc : (b == d)
  ·
   simp [h2, hc, p2]
  ·
   simp [h2, hc, p2]
set_option maxRecDepth 100000 in
set_option maxHeartbeats 8000000 in
theorem samesig_ref (s t : Sgn) (CA PA CB PB : Option Addr) (cc pc dc qc : Nat) (hl : s.cs.length ≤ 100000 ∧ s.ps.length ≤ 100000) (w : World) (h1 : Shs CA s.cs w) (h2 : Shs PA s.ps w) (h3 : Shs CB t.cs w) (h4 : Shs PB t.ps w) :
  Calls Tryz.prog 49 #[sgV s CA cc PA pc, sgV t CB dc PB qc] w fun e w' => e = .returned (.bool (decide (s = t))) ∧ Below w.heap.size w w' := by
 have hd := sgn_dec s t
 obtain ⟨n, cs, ps⟩ := s
 obtain ⟨n2, cs2, ps2⟩ := t
 unfold sgV
 simp only at hd h1 h2 h3 h4 hl ⊢
 have C1 := Lib.hid (fun (V : World) (hb : Below w.heap.size w V) => same_shs cs cs2 CA CB cc dc (by omega) V (h1.on hb) (h3.on hb))
 have C2 := Lib.hid (fun (V : World) (hb : Below w.heap.size w V) => same_shs ps ps2 PA PB pc qc (by omega) V (h2.on hb) (h4.on hb))
 obtain ⟨hB0, hRa, hRb⟩ := two_rows w (.cells #[.int .i64 n, .slice CA cs.length cc, .slice PA ps.length pc] 30) (.cells #[.int .i64 n2, .slice CB cs2.length dc, .slice PB ps2.length qc] 30)
 have HB0 := Lib.hid hB0
 have HRa := Lib.hid hRa
 have HRb := Lib.hid hRb
 generalize decide ((⟨n, cs, ps⟩ : Sgn) = ⟨n2, cs2, ps2⟩) = R at hd ⊢
 generalize decide (cs = cs2) = E1 at hd C1
 generalize decide (ps = ps2) = E2 at hd C2
 clear h1 h2 h3 h4 hl hB0 hRa hRb
 go_enter Tryz.func49, Tryz.ntmps49
 by_cases hn : n = n2
 ·
  have i1 : (n == n2) = true := by rw [beq_iff_eq]; exact hn
  rw [decide_eq_true hn, Bool.true_and] at hd
  have HD := Lib.hid hd
  clear hd hn
  go_wp2_with fail
  refine (C1.out _ HB0.out).mono ?_
  rintro e w2 ⟨rfl, hb⟩
  have HB2 := Lib.hid (chain HB0.out hb)
  have HRa2 := Lib.hid (row_on HRa.out hb)
  have HRb2 := Lib.hid (row_on HRb.out hb)
  clear hb
  cases E1
  ·
   have HR : RowKit.Hid (R = false) := Lib.hid (by rw [HD.out]; rfl)
   go_wp2_with fail
   go_ret
   exact ⟨by rw [HR.out]; rfl, HB2.out⟩
  ·
   have HR : RowKit.Hid (R = E2) := Lib.hid (by rw [HD.out]; rfl)
   obtain ⟨_, a0, a1, a2⟩ := facts3 HRa2.out
   obtain ⟨_, b0, b1, b2⟩ := facts3 HRb2.out
   have ha := (Array.getElem?_eq_some_iff.1 HRa2.out).1
   have hbl := (Array.getElem?_eq_some_iff.1 HRb2.out).1
   go_wp2_with fail
   refine (C2.out _ HB2.out).mono ?_
   rintro e w3 ⟨rfl, hb⟩
   have HB3 := Lib.hid (chain HB2.out hb)
   clear hb a0 a1 a2 b0 b1 b2 ha hbl
   go_wp2_with fail
   go_ret
   exact ⟨by rw [HR.out]; rfl, HB3.out⟩
 ·
  have i1 : (n == n2) = false := by rw [beq_eq_false_iff_ne]; exact hn
  have HR : RowKit.Hid (R = false) := Lib.hid (by rw [hd, decide_eq_false hn]; rfl)
  clear hd hn
  go_wp2_with fail
  go_ret
  exact ⟨by rw [HR.out]; rfl, HB0.out⟩
set_option maxRecDepth 100000 in
set_option maxHeartbeats 16000000 in
theorem revsame_ref (l m : Rl) (p q : Mp) (w : World) (h1 : RlAt l p w) (h2 : RlAt m q w) :
  Calls Tryz.prog 21 #[.agg (rlC l p), .agg (rlC m q)] w fun e w' => e = .returned (.bool (decide (l = m))) ∧ Below w.heap.size w w' := by
 have hd := rl_dec l m
 obtain ⟨iss, num, fr, tt, xs, n, cs, ps⟩ := l
 obtain ⟨iss2, num2, fr2, tt2, xs2, n2, cs2, ps2⟩ := m
 obtain ⟨SA, sc, CA, cc, PA, pc⟩ := p
 obtain ⟨SB, sd, CB, dc, PB, qc⟩ := q
 unfold rlC
 have j1 := h1.ls
 have j2 := h1.lc
 have j3 := h1.lp
 simp only at hd j1 j2 j3 ⊢
 have C0 := Lib.hid (fun (V : World) (hb : Below w.heap.size w V) => same_nums xs xs2 SA SB sc sd j1 V (h1.ser.on hb) (h2.ser.on hb))
 have C1 := Lib.hid (fun (V : World) (hb : Below w.heap.size w V) => samesig_ref ⟨n, cs, ps⟩ ⟨n2, cs2, ps2⟩ CA PA CB PB cc pc dc qc ⟨j2, j3⟩ V (h1.cs.on hb) (h1.ps.on hb) (h2.cs.on hb) (h2.ps.on hb))
 unfold sgV at C1
 simp only at C1
 obtain ⟨hB0, hRa, hRb⟩ := two_rows w (.cells #[.string iss, .int .u64 num, .int .i64 fr, .int .i64 tt, .slice SA xs.length sc, .int .i64 n, .slice CA cs.length cc, .slice PA ps.length pc] 32) (.cells #[.string iss2, .int .u64 num2, .int .i64 fr2, .int .i64 tt2, .slice SB xs2.length sd, .int .i64 n2, .slice CB cs2.length dc, .slice PB ps2.length qc] 32)
 have HB0 := Lib.hid hB0
 have HRa0 := Lib.hid hRa
 have HRb0 := Lib.hid hRb
 have hei := ba_eq iss iss2
 have hew := eql_win fr tt fr2 tt2
 generalize decide ((⟨iss, num, fr, tt, xs, ⟨n, cs, ps⟩⟩ : Rl) = ⟨iss2, num2, fr2, tt2, xs2, ⟨n2, cs2, ps2⟩⟩) = R at hd ⊢
 generalize decide (xs = xs2) = E0 at hd C0
 generalize decide ((⟨n, cs, ps⟩ : Sgn) = ⟨n2, cs2, ps2⟩) = E1 at hd C1
 clear h1 h2 hB0 hRa hRb j1 j2 j3
 go_enter Tryz.func21, Tryz.ntmps21
 generalize decide (iss = iss2) = EI at hd hei
 cases EI
 ·
  have HR : RowKit.Hid (R = false) := Lib.hid (by rw [hd]; rfl)
  clear hd hew
  go_wp2_with fail
  go_ret
  exact ⟨by rw [HR.out]; rfl, HB0.out⟩
 ·
  rw [Bool.true_and] at hd
  by_cases hn : num = num2
  ·
   have i1 : (num == num2) = true := by rw [beq_iff_eq]; exact hn
   rw [decide_eq_true hn, Bool.true_and] at hd
   clear hn
   by_cases hw : fr = fr2 ∧ tt = tt2
   ·
    have hw2 : ((fr == fr2) && (tt == tt2)) = true := by rw [hw.1, hw.2]; simp
    rw [hw2] at hew
    rw [decide_eq_true hw.1, decide_eq_true hw.2, Bool.and_self, Bool.true_and] at hd
    have HD := Lib.hid hd
    clear hd hw hw2
    go_wp2_with fail
    refine (C0.out _ HB0.out).mono ?_
    rintro e w2 ⟨rfl, hb⟩
    have HB2 := Lib.hid (chain HB0.out hb)
    have HRa2 := Lib.hid (row_on HRa0.out hb)
    have HRb2 := Lib.hid (row_on HRb0.out hb)
    clear hb hew hei i1
    cases E0
    ·
     have HR : RowKit.Hid (R = false) := Lib.hid (by rw [HD.out]; rfl)
     go_wp2_with fail
     go_ret
     exact ⟨by rw [HR.out]; rfl, HB2.out⟩
    ·
     have HD2 : RowKit.Hid (R = E1) := Lib.hid (by rw [HD.out, Bool.true_and])
     obtain ⟨ha, a0, a1, a2, a3, a4, a5, a6, a7⟩ := facts8 HRa2.out
     obtain ⟨hbl, b0, b1, b2, b3, b4, b5, b6, b7⟩ := facts8 HRb2.out
     go_wp2_with fail
     refine (C1.out _ HB2.out).mono ?_
     rintro e w3 ⟨rfl, hb⟩
     have HB3 := Lib.hid (chain HB2.out hb)
     clear hb ha a0 a1 a2 a3 a4 a5 a6 a7 hbl b0 b1 b2 b3 b4 b5 b6 b7
     go_wp2_with fail
     go_ret
     exact ⟨by rw [HD2.out]; rfl, HB3.out⟩
   ·
    have hw2 : ((fr == fr2) && (tt == tt2)) = false := by
     rw [Bool.eq_false_iff]
     intro h
     rw [Bool.and_eq_true, beq_iff_eq, beq_iff_eq] at h
     exact hw h
    have hw3 : (decide (fr = fr2) && decide (tt = tt2)) = false := by
     rw [Bool.eq_false_iff]
     intro h
     rw [Bool.and_eq_true, decide_eq_true_eq, decide_eq_true_eq] at h
     exact hw h
    rw [hw2] at hew
    have HR : RowKit.Hid (R = false) := Lib.hid (by rw [hd, hw3]; rfl)
    clear hd hw hw2 hw3
    go_wp2_with fail
    go_ret
    exact ⟨by rw [HR.out]; rfl, HB0.out⟩
  ·
   have i1 : (num == num2) = false := by rw [beq_eq_false_iff_ne]; exact hn
   have HR : RowKit.Hid (R = false) := Lib.hid (by rw [hd, decide_eq_false hn]; rfl)
   clear hd hn hew
   go_wp2_with fail
   go_ret
   exact ⟨by rw [HR.out]; rfl, HB0.out⟩
end Sg
end Go.Proofs.YtcgffkkfeimifaaGreatDoor
namespace Go.Proofs.YtcgffkkfeimifaaGreatDoor
namespace Sg
open Go.RowKit Sha
set_option linter.unusedVariables false
set_option linter.unusedSimpArgs false
theorem srB_pair : ∀ (xs : List Int) (a : Int), srB a xs = true → (∀ x ∈ xs, a < x) ∧ xs.Pairwise (· < ·)
 | [], _, _ => ⟨fun x hx => by simp at hx, List.Pairwise.nil⟩
 | x :: r, a, h => by
  rw [srB, Bool.and_eq_true, decide_eq_true_eq] at h
  obtain ⟨h1, h2⟩ := srB_pair r x h.2
  refine ⟨fun y hy => ?_, List.Pairwise.cons h1 h2⟩
  rcases List.mem_cons.1 hy with e | e
  ·
   omega
  ·
   have := h1 y e
   omega
theorem sr_lt {xs : List Int} (h : srB 0 xs = true) {i j : Nat} {x y : Int} (hi : xs[i]? = some x) (hj : xs[j]? = some y) (hl : i < j) : x < y := by
 obtain ⟨h1, rfl⟩ := List.getElem?_eq_some_iff.1 hi
 obtain ⟨h2, rfl⟩ := List.getElem?_eq_some_iff.1 hj
 exact List.pairwise_iff_getElem.1 (srB_pair xs 0 h).2 i j h1 h2 hl
theorem isnan_c (x : Int) (w : World) : Calls Tryz.prog 102 #[.int .u64 x] w fun e w' => e = .returned (.bool false) ∧ Below w.heap.size w w' := by
 go_enter Tryz.func102, Tryz.ntmps102
 go_wp2_with fail
 go_ret
 exact ⟨rfl, Below.refl _ _⟩
theorem isnan_s (x : Int) (w : World) : Calls Tryz.prog 62 #[.int .u64 x] w fun e w' => e = .returned (.bool false) ∧ Below w.heap.size w w' := by
 go_enter Tryz.func62, Tryz.ntmps62
 go_wp2_with fail
 go_ret
 exact ⟨rfl, Below.refl _ _⟩
theorem less_u (x y : Int) (w : World) : Calls Tryz.prog 61 #[.int .u64 x, .int .u64 y] w fun e w' => e = .returned (.bool (decide (x < y))) ∧ Below w.heap.size w w' := by
 go_enter Tryz.func61, Tryz.ntmps61
 go_wp2_with fail
 refine (isnan_c x w).mono ?_
 rintro e w2 ⟨rfl, hb⟩
 have HB := Lib.hid hb
 clear hb
 go_wp2_with fail
 go_ret
 exact ⟨rfl, HB.out⟩
def BsP (R : Bool) (w : World) (e : Ending) (w' : World) : Prop := ∃ k : Int, e = .returned (.tuple #[.int .i64 k, .bool R]) ∧ Below w.heap.size w w'
set_option maxRecDepth 100000 in
set_option maxHeartbeats 4000000 in
theorem bs_any (xs : List Int) (A : Option Addr) (c : Nat) (t : Int) (hl : xs.length ≤ 1000000) (hs : srB 0 xs = true) (w : World) (h1 : Nums A xs w) :
  Calls Tryz.prog 32 #[.slice A xs.length c, .int .u64 t] w (BsP (decide (t ∈ xs)) w) := by
 obtain ⟨n, hn⟩ : ∃ n, xs.length = n := ⟨_, rfl⟩
 have HN := Lib.hid hn
 have H1 := Lib.hid h1
 have HSR := Lib.hid hs
 obtain ⟨R, hR⟩ : ∃ R, decide (t ∈ xs) = R := ⟨_, rfl⟩
 have HR := Lib.hid hR
 rw [hn] at hl
 rw [hR, hn]
 have HZ := Lib.hid (Below.refl w.heap.size w)
 clear hn hR h1 hs
 go_enter Tryz.func32, Tryz.ntmps32
 go_wp2_with fail
 go_loopw [7, 8] (fun iv jv wr => ∃ (i j : Nat), i ≤ j ∧ j ≤ n ∧ iv = .int .i64 (i : Int) ∧ jv = .int .i64 (j : Int) ∧ RowKit.Hid (Below w.heap.size w wr) ∧ RowKit.Hid (∀ (p : Nat) y, p < i → xs[p]? = some y → y < t) ∧ RowKit.Hid (∀ (p : Nat) y, j ≤ p → xs[p]? = some y → t ≤ y)) (fun iv jv _ => (intOf jv).toNat - (intOf iv).toNat)
 case atStart => exact ⟨0, n, by omega, by omega, rfl, rfl, HZ, Lib.hid (fun p y h => by omega), Lib.hid (fun p y h e => by have h2 := (List.getElem?_eq_some_iff.1 e).1; have h3 := HN.out; omega)⟩
 case round =>
  clear HZ
  obtain ⟨i, j, hij, hjn, rfl, rfl, HB, HI, HJ⟩ := hrel
  obtain ⟨V, hV⟩ : ∃ V, V = wr := ⟨_, rfl⟩
  subst hV
  by_cases hlt : i < j
  ·
   have hmi : i ≤ (i + j) / 2 := by omega
   have hmj : (i + j) / 2 < j := by omega
   obtain ⟨x, hx⟩ : ∃ x, xs[(i + j) / 2]? = some x := ⟨_, List.getElem?_eq_getElem (by rw [HN.out]; omega)⟩
   obtain ⟨g1, o1, rfl, r1⟩ := H1.out.row _ x hx
   obtain ⟨_, _, e1, ca⟩ := (Nums.on ⟨fun i x h => H1.out.row i x h⟩ HB.out).row _ x hx
   obtain ⟨rfl, rfl, _⟩ := Addr.mk.inj (Option.some.inj e1)
   have hki : (i : Int) < (j : Int) := by omega
   have HX := Lib.hid hx
   have HL := Lib.hid (fun (z : World) => less_u x t z)
   have HME : RowKit.Hid (((i : Int) + (j : Int)) / 2 = (((i + j) / 2 : Nat) : Int)) := Lib.hid (by omega)
   have HMI := Lib.hid hmi
   have HMJ := Lib.hid hmj
   clear r1 e1 hx hmi
   go_wp2_with fail
   refine (HL.out V).mono ?_
   rintro e w2 ⟨rfl, hb⟩
   have HB2 := Lib.hid (chain HB.out hb)
   clear hb
   by_cases hxt : x < t
   ·
    rw [decide_eq_true hxt]
    have HI2 : RowKit.Hid (∀ (p : Nat) y, p < (i + j) / 2 + 1 → xs[p]? = some y → y < t) := Lib.hid (fun p y hp hy => by
     by_cases e : p = (i + j) / 2
     ·
      subst e
      rw [HX.out] at hy
      obtain rfl := Option.some.inj hy
      exact hxt
     ·
      have := sr_lt HSR.out hy HX.out (by omega)
      omega)
    go_wp2_with fail
    exact ⟨⟨(i + j) / 2 + 1, j, by have := HMJ.out; omega, hjn, by rw [HME.out]; go_num, rfl, HB2, HI2, HJ⟩, by rw [HME.out]; have := HMJ.out; have := HMI.out; simp [intOf]; omega⟩
   ·
    rw [decide_eq_false hxt]
    have HJ2 : RowKit.Hid (∀ (p : Nat) y, (i + j) / 2 ≤ p → xs[p]? = some y → t ≤ y) := Lib.hid (fun p y hp hy => by
     by_cases e : p = (i + j) / 2
     ·
      subst e
      rw [HX.out] at hy
      obtain rfl := Option.some.inj hy
      omega
     ·
      have := sr_lt HSR.out HX.out hy (by omega)
      omega)
    go_wp2_with fail
    exact ⟨⟨i, (i + j) / 2, HMI.out, by have := HMJ.out; omega, rfl, by rw [HME.out], HB2, HI, HJ2⟩, by rw [HME.out]; have := HMJ.out; have := HMI.out; simp [intOf]; omega⟩
  ·
   have hki : ¬ (i : Int) < (j : Int) := by omega
   obtain rfl : i = j := by omega
   by_cases hin : i < n
   ·
    obtain ⟨x, hx⟩ : ∃ x, xs[i]? = some x := ⟨_, List.getElem?_eq_getElem (by rw [HN.out]; omega)⟩
    obtain ⟨g1, o1, rfl, r1⟩ := H1.out.row _ x hx
    obtain ⟨_, _, e1, ca⟩ := (Nums.on ⟨fun i x h => H1.out.row i x h⟩ HB.out).row _ x hx
    obtain ⟨rfl, rfl, _⟩ := Addr.mk.inj (Option.some.inj e1)
    have hkn : (i : Int) < (n : Int) := by omega
    have HX := Lib.hid hx
    clear r1 e1 hx
    by_cases hxt : x = t
    ·
     have i1 : (x == t) = true := by rw [beq_iff_eq]; exact hxt
     have HRT : RowKit.Hid (R = true) := Lib.hid (by rw [← HR.out, decide_eq_true_eq, ← hxt]; exact List.mem_of_getElem? HX.out)
     clear hxt
     go_wp2_with fail
     refine bodyPost_ret (v := .tuple #[.int .i64 (i : Int), .bool true]) (by simp [results, Tryz.results32, go_sem]) rfl ⟨i, by rw [HRT.out], HB.out⟩
    ·
     have i1 : (x == t) = false := by rw [beq_eq_false_iff_ne]; exact hxt
     have HRF : RowKit.Hid (R = false) := Lib.hid (by
      rw [← HR.out, decide_eq_false_iff_not]
      intro hm
      obtain ⟨p, hp⟩ := List.mem_iff_getElem?.1 hm
      by_cases h1 : p < i
      ·
       have := HI.out p t h1 hp
       omega
      ·
       by_cases h2 : p = i
       ·
        subst h2
        rw [HX.out] at hp
        exact hxt (Option.some.inj hp)
       ·
        have h3 := sr_lt HSR.out HX.out hp (by omega)
        have h4 := HJ.out i x (Nat.le_refl _) HX.out
        omega)
     have HNN := Lib.hid (fun (z : World) => isnan_s x z)
     clear hxt
     go_wp2_with fail
     refine (HNN.out V).mono ?_
     rintro e w2 ⟨rfl, hb⟩
     have HB2 := Lib.hid (chain HB.out hb)
     clear hb
     go_wp2_with fail
     refine bodyPost_ret (v := .tuple #[.int .i64 (i : Int), .bool false]) (by simp [results, Tryz.results32, go_sem]) rfl ⟨i, by rw [HRF.out], HB2.out⟩
   ·
    have hkn : ¬ (i : Int) < (n : Int) := by omega
    have HRF : RowKit.Hid (R = false) := Lib.hid (by
     rw [← HR.out, decide_eq_false_iff_not]
     intro hm
     obtain ⟨p, hp⟩ := List.mem_iff_getElem?.1 hm
     have h1 := (List.getElem?_eq_some_iff.1 hp).1
     have h2 := HN.out
     have := HI.out p t (by omega) hp
     omega)
    go_wp2_with fail
    refine bodyPost_ret (v := .tuple #[.int .i64 (i : Int), .bool false]) (by simp [results, Tryz.results32, go_sem]) rfl ⟨i, by rw [HRF.out], HB.out⟩
def rvC (l : Rl) : Int := rcV l.iss l.fr l.tt l.ser l.sg.idx l.sg.cs.length l.sg.ps.length
def rvB (l : Rl) (t : Int) : Bool := decide (rvC l = 0) && decide (t ∈ l.ser)
theorem rv_sr {l : Rl} (h : rvC l = 0) : srB 0 l.ser = true := by
 unfold rvC rcV at h
 split at h
 ·
  omega
 ·
  split at h
  ·
   rename_i h2
   exact h2.2.2.1
  ·
   omega
set_option maxRecDepth 100000 in
set_option maxHeartbeats 4000000 in
theorem revoked_any (l : Rl) (p : Mp) (t : Int) (hz : l.iss.size ≤ maxLen) (w : World) (h1 : RlAt l p w) :
  Calls Tryz.prog 10 #[.agg (rlC l p), .int .u64 t] w fun e w' => e = .returned (.tuple #[.bool (rvB l t), .int .i64 (rvC l)]) ∧ Below w.heap.size w w' := by
 have hsr := @rv_sr l
 have hB : rvB l t = (decide (rvC l = 0) && decide (t ∈ l.ser)) := rfl
 have hC0 := fun (V : World) (hb : Below w.heap.size w V) => revcheck_any l.iss l.num l.fr l.tt p.SA l.ser p.sc l.sg.idx p.CA p.PA l.sg.cs.length p.cc l.sg.ps.length p.pc hz V (h1.ser.on hb)
 have hC : ∀ V, Below w.heap.size w V → Calls Tryz.prog 11 #[.agg (rlC l p)] V fun e w' => e = .returned (.int .i64 (rvC l)) ∧ Below V.heap.size V w' := hC0
 obtain ⟨c, hc⟩ : ∃ c, rvC l = c := ⟨_, rfl⟩
 obtain ⟨R, hR⟩ : ∃ R, rvB l t = R := ⟨_, rfl⟩
 rw [hc] at hsr hB hC
 rw [hR] at hB
 rw [hc, hR]
 clear hc hR hC0
 obtain ⟨iss, num, fr, tt, xs, n, cs, ps⟩ := l
 obtain ⟨SA, sc, CA, cc, PA, pc⟩ := p
 have j1 := h1.ls
 unfold rlC at hC ⊢
 simp only at hsr hB hC j1 ⊢
 have HBS := Lib.hid (fun (hs : c = 0) (V : World) (hb : Below w.heap.size w V) => bs_any xs SA sc t j1 (hsr hs) V (h1.ser.on hb))
 try simp only at HBS
 have HC := Lib.hid hC
 have HB0 := Lib.hid (below_new w (.cells #[.string iss, .int .u64 num, .int .i64 fr, .int .i64 tt, .slice SA xs.length sc, .int .i64 n, .slice CA cs.length cc, .slice PA ps.length pc] 32))
 have HR0 := Lib.hid (heap_alloc_new w (.cells #[.string iss, .int .u64 num, .int .i64 fr, .int .i64 tt, .slice SA xs.length sc, .int .i64 n, .slice CA cs.length cc, .slice PA ps.length pc] 32))
 have HBB := Lib.hid hB
 clear h1 j1 hsr hC hB hz
 go_enter Tryz.func10, Tryz.ntmps10
 go_wp2_with fail
 refine (HC.out _ HB0.out).mono ?_
 rintro e w2 ⟨rfl, hb⟩
 have HB2 := Lib.hid (chain HB0.out hb)
 have HR2 := Lib.hid (row_on HR0.out hb)
 clear hb
 by_cases hcz : c = 0
 ·
  subst hcz
  have HBS2 := Lib.hid (HBS.out rfl)
  have HRR : RowKit.Hid (R = decide (t ∈ xs)) := Lib.hid (by rw [HBB.out]; rfl)
  obtain ⟨v0, a0, a1, a2, a3, a4, a5, a6, a7⟩ := facts8 HR2.out
  go_wp2_with fail
  refine (HBS2.out _ HB2.out).mono ?_
  rintro e w3 ⟨k, rfl, hb⟩
  have HB3 := Lib.hid (chain HB2.out hb)
  clear hb v0 a0 a1 a2 a3 a4 a5 a6 a7
  go_wp2_with fail
  refine bodyPost_ret (v := .tuple #[.bool (decide (t ∈ xs)), .int .i64 0]) (by simp [results, Tryz.results10, go_sem]) rfl ⟨by rw [HRR.out], HB3.out⟩
 ·
  have hcn : (c != 0) = true := by rw [bne_iff_ne]; exact hcz
  have hce : (c == 0) = false := by rw [beq_eq_false_iff_ne]; exact hcz
  have HRR : RowKit.Hid (R = false) := Lib.hid (by rw [HBB.out, decide_eq_false hcz]; rfl)
  go_wp2_with fail
  refine bodyPost_ret (v := .tuple #[.bool false, .int .i64 c]) (by simp [results, Tryz.results10, go_sem]) rfl ⟨by rw [HRR.out], HB2.out⟩
end Sg
end Go.Proofs.YtcgffkkfeimifaaGreatDoor
