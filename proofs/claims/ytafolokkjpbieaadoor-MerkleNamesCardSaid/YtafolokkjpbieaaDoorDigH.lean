/-
  THE WALKS over Join, Sum and Short: blocks out of a range over a function.
-/
import Derived.Test.YtafolokkjpbieaaDoorDigG
import Derived.RangeFuncBox
import Derived.Maps.AppendAt
namespace Go.Proofs.YtafolokkjpbieaaDoor
open Go.RowKit Sha
set_option linter.unusedVariables false
set_option linter.unusedSimpArgs false
attribute [local go_sem] Oper.semAt_some
/-- a range over a function whose rounds all go on, under the wide fence -/
theorem range_wide {P : Program} {n : Nat} {g : Operand} {ps : Array Tmp} {assign body : Code} {Q : Exit → Act → World → Prop} {a : Act} {w : World} {gf : Nat} {lb : Array Value}
    (hg : a.eval g = .func (.func gf) #[] lb) (eg : ∀ args w, (callFunc gf args).run P w = .ok (.enter gf args) w) (Z : World → Prop)
    (hcall : ∀ fn : FuncId, CallsIn Fence.wide (n - 1) P gf (#[.func (.yield (w.heap.size + 1)) #[] #[]] ++ lb)
      ((w.alloc (.deferred (some []))).alloc (.loop { state := .ready, pending := none, fn, tmps := a.tmps, params := ps, assign, body, defers := w.heap.size })) fun e V =>
        (∃ v, e = .returned v) ∧ V.heap[w.heap.size + 1]? = some (.loop { state := .ready, pending := none, fn, tmps := a.tmps, params := ps, assign, body, defers := w.heap.size }) ∧ Z V)
    (hdone : ∀ V o, Z V → Q .normal { a with defers := { target := .collected w.heap.size, args := #[] } :: a.defers } (V.putObj (w.heap.size + 1) o)) :
    (Code.rangeFunc g ps assign body).wpIn Fence.wide n P Q a w := by
  refine wpIn_rangeFunc ?_
  intro fn _
  have hro : Fence.wide.round = none := rfl
  rw [hro]
  have hc := hcall fn
  obtain ⟨r, hr⟩ : ∃ r : Loop, ({ state := .ready, pending := none, fn, tmps := a.tmps, params := ps, assign, body, defers := w.heap.size } : Loop) = r := ⟨_, rfl⟩
  have hen := run_enterLoop_outer (P := P) (w := w) fn a.tmps ps assign body
  have hst : r.state = .ready := by rw [← hr]
  have hpe : r.pending = none := by rw [← hr]
  rw [hr] at hc hen
  obtain ⟨W1, hW1⟩ : ∃ W1, (w.alloc (.deferred (some []))).alloc (.loop r) = W1 := ⟨_, rfl⟩
  rw [hW1] at hc hen
  refine ⟨w.heap.size + 1, [{ target := .collected w.heap.size, args := #[] }], W1, { target := .fn (.func gf) lb, args := #[.func (.yield (w.heap.size + 1)) #[] #[]] }, W1, gf,
    #[.func (.yield (w.heap.size + 1)) #[] #[]] ++ lb, W1, hen, ?_, ?_, ?_, ?_, ?_⟩
  · simp only [resolve, hg]
    simp [go_sem]
  · intro f' hf'; trivial
  · simp [invoke, go_sem, eg]
  · intro h; cases h
  · refine hc.mono ?_
    rintro e V ⟨⟨v, rfl⟩, hl, hz⟩
    have hend := run_endLoop (P := P) hl (by rw [hst]; simp)
    rw [hpe] at hend
    exact ⟨none, _, hend, hdone V _ hz⟩
/-- a round, out of its record -/
theorem yield_wide {P : Program} {m l : Nat} {args : Array Value} {V : World} {R : Ending → World → Prop} {r : Loop} (hl : V.heap[l]? = some (.loop r)) (hs : args.size = r.params.size)
    (h : r.assign.wpIn (Fence.wide.inRound l) m P (Exit.then (fun a₁ w₁ => ∃ w₂, (Instr.beginRound l).run P w₁ = .ok () w₂ ∧ r.body.wpIn (Fence.wide.inRound l) m P (roundPost P l R) a₁ w₂) (fun _ _ _ => False))
      { tmps := (r.params.zip args).foldl (fun tmps (t, a) => tmps.setIfInBounds t a) r.tmps, defers := [] } V) :
    YieldAt Fence.wide m P l args V R :=
  ⟨r.fn, _, r.assign, r.body, run_yield hl hs, roundIn_of_wpIn trivial h⟩
theorem below_putObj {n b : Nat} {u V : World} (h : Below n u V) (hb : n ≤ b) (o : Obj) : Below n u (V.putObj b o) :=
  h.trans ⟨rfl, rfl, rfl, by simp, fun k hk => World.putObj_heap_other (by omega)⟩
theorem wpListIn_store_row {F : Fence} {n : Nat} {P : Program} {w : World} {ops : Array Oper} {rest : List Oper} {o : Oper} {a : Act} {Q : Exit → Act → World → Prop} (hgd : o.guard = none) (ty : TypeId) (x y : Operand) (ho : o.op = .store ty x y)
    (g : Nat) (cells : Array Value) (hx : a.eval x = .pointer (some ⟨g, 0, none⟩)) (hy : a.eval y = .agg cells)
    (t : TypeId) (old : Array Value) (hg : w.heap[g]? = some (.cells old t (0, 0))) (hi : (P.info? ty).map (·.size) = some cells.size)
    (hold : old.size = cells.size) (h1 : cells.all (·.oneCell') = true)
    (h : wpListIn F n P ops Q rest (a.put o.dst undef) (w.setRow g cells)) : wpListIn F n P ops Q (o :: rest) a w := by
  refine wpListIn_plain hgd fun K hK => ?_
  unfold Oper.wpIn
  refine ⟨?_, ?_⟩
  · simp [Oper.about, ho]
  · rw [Oper.semAt_plain F _ _ (by rw [ho]; intro c hc'; cases hc')]
    simp only [execOp, ho, hx, hy, Instr.storeAt, Instr.sureAddr, Sem.run_bind, Sem.run_pure, Result.andThen_ok, run_storeVar_row w g t ty old cells hg hi hold h1]
    exact hK _ _ h
/-- a list of slices of bytes that came in -/
structure PRow (PA : Option Addr) (S : Nat → Option Addr × Nat) (ps : List (List UInt8)) (w : World) : Prop where
  row : ∀ j l, ps[j]? = some l → ∃ pg po, PA = some ⟨pg, po, none⟩ ∧ w.cell? ⟨pg, po + j, none⟩ = some (.slice (S j).1 l.length (S j).2) ∧ SrcAt (S j).1 l w
  cap : ∀ j l, ps[j]? = some l → l.length ≤ (S j).2 ∧ (S j).2 ≤ maxLen
theorem SrcAt.on {A : Option Addr} {l : List UInt8} {w V : World} (h : SrcAt A l w) (hb : Below w.heap.size w V) : SrcAt A l V := fun hne => by
  obtain ⟨g, o, e, hc⟩ := h hne
  refine ⟨g, o, e, fun j x hj => ?_⟩
  have h1 := hc j x hj
  rw [hb.cell (p := ⟨g, o + j, none⟩) (World.block_lt_of_cell? _ _ h1)]
  exact h1
theorem PRow.on {PA : Option Addr} {S : Nat → Option Addr × Nat} {ps : List (List UInt8)} {w V : World} (h : PRow PA S ps w) (hb : Below w.heap.size w V) : PRow PA S ps V := by
  refine ⟨fun j l hj => ?_, h.cap⟩
  obtain ⟨pg, po, e, hc, hs⟩ := h.row j l hj
  refine ⟨pg, po, e, ?_, hs.on hb⟩
  rw [hb.cell (p := ⟨pg, po + j, none⟩) (World.block_lt_of_cell? _ _ hc)]
  exact hc
theorem blocks_any (A : Option Addr) (n c : Nat) (w : World) : Calls Tryd.prog 62 #[.slice A n c] w fun e w' => e = .returned (.func (.func 68) #[] #[.pointer (some ⟨w.heap.size, 0, none⟩)]) ∧ w' = w.alloc (.cells #[.slice A n c] 82) := by
  go_enter Tryd.func62, Tryd.ntmps62
  go_wp2
  go_ret
  exact ⟨rfl, rfl⟩
/-- between two rounds -/
structure JJ (w : World) (D A : Nat) (r : Loop) (T : List UInt8) (pv : Value) (k : Nat) (V : World) : Prop where
  rc : V.heap[D + 1]? = some (.loop r)
  df : V.heap[D]? = some (.deferred (some []))
  rg : V.heap[A + 1]? = some (.cells (wcells (Sha.run k Sha.start T).list) 85 (0, 0))
  rs : V.heap[A]? = some (.cells (bcells (List.replicate 32 0)) 76 (0, 0))
  bx : V.heap[A + 1 + 1]? = some (.cells #[pv] 82 (0, 0))
  bl : Below A w V
  ev : DEnv V
set_option maxRecDepth 100000 in
set_option maxHeartbeats 1000000 in
theorem join_any (ps : List (List UInt8)) (PA : Option Addr) (pc : Nat) (S : Nat → Option Addr × Nat) (hlen : ps.flatten.length ≤ 100000) (hnum : ps.length ≤ 100000) (hpc : ps.length ≤ pc) (w : World) (hrow : PRow PA S ps w) (env : DEnv w) :
    Calls Tryd.prog 60 #[.slice PA ps.length pc] w fun e w' => e = .returned (.agg (bcells (sha ps.flatten))) ∧ Below w.heap.size w w' := by
  obtain ⟨F, hF⟩ : ∃ F, sha ps.flatten = F := ⟨_, rfl⟩
  rw [hF]
  have HF := Lib.hid hF
  have HLEN := Lib.hid hlen
  have HROW := Lib.hid hrow
  have ENV := Lib.hid env
  obtain ⟨pv, hpv⟩ : ∃ pv, Value.slice PA ps.length pc = pv := ⟨_, rfl⟩
  rw [hpv]
  have HPV := Lib.hid hpv
  obtain ⟨sl, hsl⟩ : ∃ sl, Sha.start.list = sl := ⟨_, rfl⟩
  have hsl8 : sl.length = 8 := by rw [← hsl]; rfl
  obtain ⟨bt, bf, hbg⟩ := env.beg
  rw [hsl] at hbg
  have hblt := env.lt0
  have HBG := Lib.hid hbg
  have hsw : (Tryd.prog.info? 85).map (·.size) = some (wcells sl).size := by rw [wcells_size, hsl8]; kernel_rfl
  have hso : (8 : Nat) = (wcells sl).size := by rw [wcells_size, hsl8]
  have HSW := Lib.hid hsw
  have HSO := Lib.hid hso
  have HSL := Lib.hid hsl
  clear hF hlen hrow env hpv hbg hsw hso hsl hsl8
  refine (callsIn_wide (n := 4)).1 ?_
  refine callsIn_of_wp_marks Tryd.func60 rfl trivial ?_ rfl
  simp only [Tryd.ntmps60, List.size_toArray, List.length_cons, List.length_nil, Nat.reduceAdd, Nat.reduceSub, Array.replicate_succ, Array.replicate_zero, List.push_toArray, List.append_toArray, List.nil_append, List.cons_append]
  iterate 6 gi_step
  obtain ⟨A, hA⟩ : ∃ A, w.heap.size = A := ⟨_, rfl⟩
  simp only [hA]
  generalize hV : World.alloc w _ = V
  have hv0 : V.heap[A]? = some (.cells (bcells (List.replicate 32 0)) 76 (0, 0)) := by rw [← hV, ← hA]; exact (heap_alloc_new _ _).trans rfl
  have hbV : Below A w V := by rw [← hV, ← hA]; exact below_new _ _
  have hzV : V.heap.size = A + 1 := by rw [← hV, ← hA]; simp
  have HBGV : RowKit.Hid (V.heap[0]? = some (.cells (wcells sl) bt bf)) := Lib.hid (by rw [hbV.block _ (by rw [← hA]; exact hblt)]; exact HBG.out)
  have HV0 := Lib.hid hv0
  have HBV := Lib.hid hbV
  have HZV := Lib.hid hzV
  have HA := Lib.hid hA
  clear hV hv0 hbV hzV hA hblt HBG
  gi_wp2_with (first | (refine wpListIn_load_row rfl 85 (.global 0) rfl 0 rfl bt (wcells sl) bf _ HBGV.out Tryd.underlying85 rfl HSW.out ?_) | (refine wpListIn_store_row rfl 85 (.tmp 3) (.tmp 5) rfl V.heap.size (wcells sl) rfl rfl 85 _ (heap_alloc_new _ _) HSW.out HSO.out (wcells_one _) ?_))
  rw [← HPV.out]
  refine ⟨trivial, (callsIn_wide.2 (blocks_any _ _ _ _)).mono ?_⟩
  rw [HPV.out]
  rintro e v2 ⟨rfl, rfl⟩
  rw [World.setRow_alloc_new, World.size_alloc, HZV.out]
  obtain ⟨V2, hV2⟩ : ∃ V2, (V.alloc (.cells (wcells sl) 85)).alloc (.cells #[pv] 82) = V2 := ⟨_, rfl⟩
  rw [hV2]
  have hr1 : V2.heap[A + 1]? = some (.cells (wcells sl) 85 (0, 0)) := by
    rw [← hV2, ← HZV.out, Below.heap_alloc _ _ _ (by simp)]
    exact heap_alloc_new _ _
  have hr2 : V2.heap[A + 1 + 1]? = some (.cells #[pv] 82 (0, 0)) := by
    rw [← hV2, ← HZV.out]
    have := heap_alloc_new (V.alloc (.cells (wcells sl) 85)) (.cells #[pv] 82)
    simpa using this
  have hr0 : V2.heap[A]? = some (.cells (bcells (List.replicate 32 0)) 76 (0, 0)) := by
    have h := HZV.out
    rw [← hV2, Below.heap_alloc _ _ _ (by simp; omega), Below.heap_alloc _ _ _ (by omega)]
    exact HV0.out
  have hz2 : V2.heap.size = A + 1 + 1 + 1 := by rw [← hV2]; simp [HZV.out]
  have hb2 : Below A w V2 := by
    have h := HZV.out
    rw [← hV2]
    exact (HBV.out.alloc (by omega) _).alloc (by simp; omega) _
  have HR0 := Lib.hid hr0
  have HR1 := Lib.hid hr1
  have HR2 := Lib.hid hr2
  have HZ2 := Lib.hid hz2
  have HB2 := Lib.hid hb2
  clear hV2 hr0 hr1 hr2 hz2 hb2 HV0 HBV HZV HBGV
  gi_wp2_with fail
  obtain ⟨D, hD⟩ : ∃ D, V2.heap.size = D := ⟨_, rfl⟩
  have hDA : D = A + 3 := by have := HZ2.out; omega
  have HD := Lib.hid hD
  have HDA := Lib.hid hDA
  obtain ⟨T, hT⟩ : ∃ T, ps.flatten ++ Sha.ending ps.flatten.length = T := ⟨_, rfl⟩
  have HT := Lib.hid hT
  clear hD hDA hT
  refine range_wide (gf := 68) (lb := #[.pointer (some ⟨A + 1 + 1, 0, none⟩)]) rfl (enters_of Tryd.func68 (by kernel_rfl) rfl)
    (fun V => V.heap[D]? = some (.deferred (some [])) ∧ V.heap[A + 1]? = some (.cells (wcells (Sha.run (T.length / 64) Sha.start T).list) 85 (0, 0)) ∧ V.heap[A]? = some (.cells (bcells (List.replicate 32 0)) 76 (0, 0)) ∧ Below A w V ∧ D + 2 ≤ V.heap.size) ?_ ?_
  · intro fn
    rw [HD.out]
    generalize hr : ({ state := _, pending := _, fn := _, tmps := _, params := _, assign := _, body := _, defers := _ } : Loop) = r
    have HRR := Lib.hid hr
    clear hr
    obtain ⟨W1, hW1⟩ : ∃ W1, (V2.alloc (.deferred (some []))).alloc (.loop r) = W1 := ⟨_, rfl⟩
    have hs1 : W1.heap.size = D + 2 := by rw [← hW1]; simp [HD.out]
    have hDA := HDA.out
    have hold : ∀ b, b < D → W1.heap[b]? = V2.heap[b]? := fun b hb => by
      rw [← hW1, Below.heap_alloc _ _ _ (by simp [HD.out]; omega), Below.heap_alloc _ _ _ (by rw [HD.out]; exact hb)]
    have hbW : Below A w W1 := by
      rw [← hW1]
      exact (HB2.out.alloc (by rw [HD.out]; omega) _).alloc (by simp [HD.out]; omega) _
    have hevW : DEnv W1 := ENV.out.on (by rw [HA.out]; exact hbW)
    have hj0 : JJ w D A r T pv 0 W1 := by
      refine ⟨?_, ?_, ?_, ?_, ?_, hbW, hevW⟩
      · rw [← hW1]
        have := heap_alloc_new (V2.alloc (.deferred (some []))) (.loop r)
        rw [World.size_alloc, HD.out] at this
        exact this
      · rw [← hW1, Below.heap_alloc _ _ _ (by simp [HD.out])]
        have := heap_alloc_new V2 (.deferred (some []))
        rw [HD.out] at this
        exact this
      · rw [hold _ (by omega)]
        rw [show Sha.run 0 Sha.start T = Sha.start from rfl, HSL.out]
        exact HR1.out
      · rw [hold _ (by omega)]; exact HR0.out
      · rw [hold _ (by omega)]; exact HR2.out
    rw [hW1]
    have hit := blocks_in ps (A + 1 + 1) PA pc S HLEN.out hnum hpc HROW.out.cap (D + 1) (JJ w D A r T pv) W1 (by rw [hs1]; omega)
    rw [hs1, HT.out] at hit
    refine (callsIn_wide.2 (hit ?_ ?_ ?_ hj0)).mono ?_
    · rintro k V V' ⟨h1, h2, h3, h4, h5, h6, h7⟩ hb
      refine ⟨(hb.block _ (by omega)).trans h1, (hb.block _ (by omega)).trans h2, (hb.block _ (by omega)).trans h3, (hb.block _ (by omega)).trans h4, (hb.block _ (by omega)).trans h5, h6.trans (hb.mono (by omega)), h7.below hb (by omega)⟩
    · rintro k V ⟨h1, h2, h3, h4, h5, h6, h7⟩
      refine ⟨by rw [HPV.out]; exact cell_of_one h5, ?_⟩
      exact (HROW.out.on (by rw [HA.out]; exact h6)).row
    · clear hit hj0 hold hbW hevW hW1 hs1 HR0 HR1 HR2 HB2
      rintro k V hk ⟨h1, h2, h3, h4, h5, h6, h7⟩ hz
      obtain ⟨blk, hblk⟩ : ∃ blk, (T.drop (64 * k)).take 64 = blk := ⟨_, rfl⟩
      have hblk64 : blk.length = 64 := by
        rw [← hblk, List.length_take, List.length_drop]
        omega
      have hrun : Sha.run (k + 1) Sha.start T = Sha.after (Sha.run k Sha.start T) blk := by rw [Sha.run, hblk]
      rw [hblk]
      obtain ⟨rk, hrk⟩ : ∃ rk, Sha.run k Sha.start T = rk := ⟨_, rfl⟩
      rw [hrk] at h3 hrun
      refine yield_wide h1 (by rw [← HRR.out]; rfl) ?_
      have hrs : r.state = .ready := by rw [← HRR.out]
      have hrp : r.pending = none := by rw [← HRR.out]
      have HRS := Lib.hid hrs
      have HRP := Lib.hid hrp
      clear hrs hrp hrk hblk
      obtain ⟨R, hRR⟩ : ∃ R : Ending → World → Prop, (fun e V' => e = .returned (.bool true) ∧ JJ w D A r T pv (k + 1) V' ∧ Keep (D + 2) V V') = R := ⟨_, rfl⟩
      rw [hRR]
      have HR0 := Lib.hid hRR
      clear hRR
      rw [← HRR.out]
      have hsb : (Tryd.prog.info? 90).map (·.size) = some (bcells blk).size := by rw [bcells_size, hblk64]; kernel_rfl
      have hso : (64 : Nat) = (bcells blk).size := by rw [bcells_size, hblk64]
      have H1 := Lib.hid h1
      have H2 := Lib.hid h2
      have H3 := Lib.hid h3
      have H4 := Lib.hid h4
      have H5 := Lib.hid h5
      have H6 := Lib.hid h6
      have H7 := Lib.hid h7
      have HZ := Lib.hid hz
      have HB64 := Lib.hid hblk64
      have HRUN := Lib.hid hrun
      have HSB := Lib.hid hsb
      have HSO64 := Lib.hid hso
      clear h1 h2 h3 h4 h5 h6 h7 hz hblk64 hrun hsb hso hDA
      gi_wp2_with (refine wpListIn_store_row rfl 90 (.tmp 4) (.tmp 8) rfl V.heap.size (bcells blk) rfl rfl 90 _ (heap_alloc_new _ _) HSB.out HSO64.out (bcells_one _) ?_)
      rw [World.setRow_alloc_new]
      have hDV : D + 2 ≤ V.heap.size := by have := HZ.out; omega
      have hDA := HDA.out
      have hL0 : (V.alloc (.cells (bcells blk) 90)).heap[D + 1]? = some (.loop r) := (Below.heap_alloc _ _ _ (by omega)).trans H1.out
      refine ⟨_, run_beginRound hL0 HRS.out, ?_⟩
      generalize hV3 : World.putObj _ _ _ = V3
      have hK3 : ∀ b, b < V.heap.size → b ≠ D + 1 → V3.heap[b]? = V.heap[b]? := fun b hb hne => by
        rw [← hV3, World.putObj_heap_other hne]
        exact Below.heap_alloc _ _ _ hb
      have hL3 : V3.heap[D + 1]? = some (.loop { r with state := .busy }) := by rw [← hV3]; exact World.putObj_heap_same (Array.getElem?_eq_some_iff.1 hL0).1
      have hz3 : V3.heap.size = V.heap.size + 1 := by rw [← hV3]; simp
      have hb3 : Below A w V3 := by rw [← hV3]; exact below_putObj (H6.out.alloc (by omega) _) (by omega) _
      have hX3 : V3.heap[V.heap.size]? = some (.cells (bcells blk) 90 (0, 0)) := by rw [← hV3, World.putObj_heap_other (by omega)]; exact heap_alloc_new _ _
      have hR3 : V3.heap[A + 1]? = some (.cells (wcells rk.list) 85 (0, 0)) := (hK3 _ (by omega) (by omega)).trans H3.out
      have hE3 : DEnv V3 := ENV.out.on (by rw [HA.out]; exact hb3)
      have hsk : (Tryd.prog.info? 85).map (·.size) = some (wcells rk.list).size := by rw [wcells_size, list_len]; kernel_rfl
      have K3 := Lib.hid hK3
      have L3 := Lib.hid hL3
      have Z3 := Lib.hid hz3
      have B3 := Lib.hid hb3
      have X3 := Lib.hid hX3
      have R3 := Lib.hid hR3
      have HSK := Lib.hid hsk
      have HAF := Lib.hid (after_any rk blk HB64.out V3 hE3)
      obtain ⟨rl, hrl⟩ : ∃ rl, rk.list = rl := ⟨_, rfl⟩
      rw [hrl] at HSK R3 HAF
      clear hV3 hK3 hL3 hz3 hb3 hX3 hR3 hE3 hsk hrl hL0 hDV hDA
      gi_wp2_with (first | (refine wpListIn_load_row rfl 85 (.tmp 3) rfl (A + 1) rfl 85 (wcells rl) (0, 0) _ R3.out Tryd.underlying85 rfl HSK.out ?_) | (refine wpListIn_load_row rfl 90 (.tmp 4) rfl V.heap.size rfl 90 (bcells blk) (0, 0) _ X3.out Tryd.underlying90 rfl HSB.out ?_))
      refine ⟨trivial, CallsIn.inRound (D + 1) ((callsIn_wide.2 HAF.out).mono ?_)⟩
      rintro e V4 ⟨rfl, hb4⟩
      obtain ⟨nl, hnl⟩ : ∃ nl, (Sha.after rk blk).list = nl := ⟨_, rfl⟩
      have hnl8 : nl.length = 8 := by rw [← hnl, list_len]
      rw [hnl]
      have hDV : D + 2 ≤ V.heap.size := by have := HZ.out; omega
      have hDA := HDA.out
      have hz3 := Z3.out
      have hR4 : V4.heap[A + 1]? = some (.cells (wcells rl) 85 (0, 0)) := (hb4.block _ (by omega)).trans R3.out
      have hsn : (Tryd.prog.info? 85).map (·.size) = some (wcells nl).size := by rw [wcells_size, hnl8]; kernel_rfl
      have hson : (wcells rl).size = (wcells nl).size := by
        have h1 := HSK.out
        rw [hsn] at h1
        exact (Option.some.inj h1).symm
      have hL4 : V4.heap[D + 1]? = some (.loop { r with state := .busy }) := (hb4.block _ (by omega)).trans L3.out
      have HB4 := Lib.hid hb4
      have HNL := Lib.hid hnl
      have HR4 := Lib.hid hR4
      have HSN := Lib.hid hsn
      have HSON := Lib.hid hson
      have HL4 := Lib.hid hL4
      clear hb4 hnl hR4 hsn hson hL4 hnl8 hDV hDA hz3
      gi_wp2_with (refine wpListIn_store_row rfl 85 (.tmp 3) (.tmp 11) rfl (A + 1) (wcells nl) rfl rfl 85 (wcells rl) HR4.out HSN.out HSON.out (wcells_one _) ?_)
      have hDV : D + 2 ≤ V.heap.size := by have := HZ.out; omega
      have hDA := HDA.out
      have hz3 := Z3.out
      have hz4 := HB4.out.size
      have hL5 : (V4.setRow (A + 1) (wcells nl)).heap[D + 1]? = some (.loop { r with state := .busy }) := (setRow_other _ _ _ _ (by omega)).trans HL4.out
      refine ⟨_, _, run_endRound none hL5, ?_⟩
      rw [← HR0.out]
      have hrr : ({ ({ r with state := .busy } : Loop) with state := if (none : Option Code).isNone then .ready else .done, pending := none } : Loop) = r := by
        have h1 := HRS.out
        have h2 := HRP.out
        cases r
        simp at h1 h2 ⊢
        exact ⟨h1.symm, h2.symm⟩
      rw [hrr]
      have hM : ∀ b, b < V.heap.size → b ≠ D + 1 → b ≠ A + 1 → ((V4.setRow (A + 1) (wcells nl)).putObj (D + 1) (.loop r)).heap[b]? = V.heap[b]? := fun b h1 h2 h3 => by
        rw [World.putObj_heap_other h2, setRow_other _ _ _ _ h3, HB4.out.block b (by omega)]
        exact K3.out b h1 h2
      have hbl : Below A w ((V4.setRow (A + 1) (wcells nl)).putObj (D + 1) (.loop r)) :=
        below_putObj (below_row (B3.out.trans (HB4.out.mono (by omega))) (by omega) _) (by omega) _
      refine ⟨rfl, ⟨?_, ?_, ?_, ?_, ?_, hbl, ENV.out.on (by rw [HA.out]; exact hbl)⟩, ⟨?_, ?_⟩⟩
      · exact World.putObj_heap_same (Array.getElem?_eq_some_iff.1 hL5).1
      · rw [hM D (by omega) (by omega) (by omega)]; exact H2.out
      · rw [World.putObj_heap_other (by omega), HRUN.out, HNL.out]
        exact setRow_heap _ _ _ _ _ _ HR4.out
      · rw [hM A (by omega) (by omega) (by omega)]; exact H4.out
      · rw [hM (A + 1 + 1) (by omega) (by omega) (by omega)]; exact H5.out
      · show V.heap.size ≤ (World.putObj _ _ _).heap.size
        simp
        omega
      · intro b hb hlt
        exact hM b hlt (by omega) (by omega)
    · rintro e V ⟨hv, h1, h2, h3, h4, h5, h6, h7⟩
      refine ⟨hv, h1, h2, h3, h4, h6, ?_⟩
      have := (Array.getElem?_eq_some_iff.1 h1).1
      omega
  · rintro V o ⟨hd, hrg, hrs, hbl, hdz⟩
    rw [HD.out]
    generalize hV : V.putObj (D + 1) o = V1
    have hDA := HDA.out
    obtain ⟨rk, hrk⟩ : ∃ rk, Sha.run (T.length / 64) Sha.start T = rk := ⟨_, rfl⟩
    have hsha : rk.hash = F := by
      rw [← hrk, ← HT.out, ← HF.out]
      rfl
    rw [hrk] at hrg
    have hd1 : V1.heap[D]? = some (.deferred (some [])) := by rw [← hV]; exact (World.putObj_heap_other (by omega)).trans hd
    have hrg1 : V1.heap[A + 1]? = some (.cells (wcells rk.list) 85 (0, 0)) := by rw [← hV]; exact (World.putObj_heap_other (by omega)).trans hrg
    have hrs1 : V1.heap[A]? = some (.cells (bcells (List.replicate 32 0)) 76 (0, 0)) := by rw [← hV]; exact (World.putObj_heap_other (by omega)).trans hrs
    have hbl1 : Below A w V1 := by rw [← hV]; exact below_putObj hbl (by omega) _
    have hz1 : D + 2 ≤ V1.heap.size := by rw [← hV]; simp; exact hdz
    have hF32 : F.length = 32 := by rw [← hsha]; exact hp_len _ _
    have hsk : (Tryd.prog.info? 85).map (·.size) = some (wcells rk.list).size := by rw [wcells_size, list_len]; kernel_rfl
    have hsh : (Tryd.prog.info? 76).map (·.size) = some (bcells F).size := by rw [bcells_size, hF32]; kernel_rfl
    have hso : (bcells (List.replicate 32 0)).size = (bcells F).size := by rw [bcells_size, bcells_size, hF32]; rfl
    have HHA := Lib.hid (hash_any rk V1)
    obtain ⟨rl, hrl⟩ : ∃ rl, rk.list = rl := ⟨_, rfl⟩
    rw [hrl] at hrg1 hsk HHA
    rw [hsha] at HHA
    obtain ⟨ZZ, hZZ⟩ : ∃ ZZ, bcells (List.replicate 32 0) = ZZ := ⟨_, rfl⟩
    rw [hZZ] at hrs1 hso
    have D1 := Lib.hid hd1
    have RG1 := Lib.hid hrg1
    have RS1 := Lib.hid hrs1
    have BL1 := Lib.hid hbl1
    have Z1 := Lib.hid hz1
    have HSK := Lib.hid hsk
    have HSH := Lib.hid hsh
    have HSO2 := Lib.hid hso
    clear hV hd hrg hrs hbl hdz hDA hrk hsha hd1 hrg1 hrs1 hbl1 hz1 hF32 hsk hsh hso hrl hZZ
    gi_wp2_with (refine wpListIn_load_row rfl 85 (.tmp 3) rfl (A + 1) rfl 85 (wcells rl) (0, 0) _ RG1.out Tryd.underlying85 rfl HSK.out ?_)
    refine ⟨trivial, (callsIn_wide.2 HHA.out).mono ?_⟩
    rintro e V2 ⟨rfl, hb2⟩
    have hz1 := Z1.out
    have hDA := HDA.out
    have RS2 : RowKit.Hid (V2.heap[A]? = some (.cells ZZ 76 (0, 0))) := Lib.hid ((hb2.block _ (by omega)).trans RS1.out)
    have D2 : RowKit.Hid (V2.heap[D]? = some (.deferred (some []))) := Lib.hid ((hb2.block _ (by omega)).trans D1.out)
    have BL2 : RowKit.Hid (Below A w V2) := Lib.hid (BL1.out.trans (hb2.mono (by omega)))
    clear hb2 hz1 hDA
    gi_wp2_with (refine wpListIn_store_row rfl 76 (.tmp 2) (.tmp 13) rfl A (bcells F) rfl rfl 76 ZZ RS2.out HSH.out HSO2.out (bcells_one _) ?_)
    have hDA := HDA.out
    have D3 : (V2.setRow A (bcells F)).heap[D]? = some (.deferred (some [])) := (setRow_other _ _ _ _ (by omega)).trans D2.out
    refine ⟨by simp, .inl ⟨_, _, rfl, run_takeDeferred D3, ?_⟩⟩
    refine ⟨.agg (bcells F), results_cell_row rfl _ _ A 76 _ (0, 0) _ rfl ?_ Tryd.underlying76 rfl HSH.out, rfl, ?_⟩
    · rw [World.putObj_heap_other (by omega)]
      exact setRow_heap _ _ _ _ _ _ RS2.out
    · rw [HA.out]
      exact below_putObj (below_row BL2.out (Nat.le_refl _) _) (by omega) _
end Go.Proofs.YtafolokkjpbieaaDoor
