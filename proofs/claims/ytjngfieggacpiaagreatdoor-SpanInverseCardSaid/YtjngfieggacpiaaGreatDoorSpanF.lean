/-
  THE WALK over the least list of prefixes of a span.
-/
import Derived.Test.YtjngfieggacpiaaGreatDoorSpanE
import Derived.RangeFuncBox
import Derived.Maps.AppendAt
namespace Go.Proofs.YtjngfieggacpiaaGreatDoor
open Go.RowKit Adr Spn
set_option linter.unusedVariables false
set_option linter.unusedSimpArgs false
attribute [local go_sem] Oper.semAt_some
/-- a range over a function whose rounds all go on, under the wide fence -/
theorem range_wide {P : Program} {n : Nat} {g : Operand} {ps : Array Tmp} {assign body : Code} {Q : Exit → Act → World → Prop} {a : Act} {w : World} {gf : Nat} {lb : Array Value}
    (hg : a.eval g = .func (.func gf) #[] lb) (eg : ∀ args w, (callFunc gf args).run P w = .ok (.enter gf args) w) (Z : World → Prop)
    (hcall : ∀ fn : FuncId, CallsIn Fence.wide (n - 1) P gf (#[.func (.yield (w.heap.size + 1)) #[] #[]] ++ lb)
      ((w.alloc (.deferred (some []))).alloc (.loop { state := .ready, pending := none, fn, tmps := a.tmps, params := ps, assign, body, defers := w.heap.size })) fun e V =>
        (∃ v, e = .returned v) ∧ V.heap[w.heap.size + 1]? = some (.loop { state := .ready, pending := none, fn, tmps := a.tmps, params := ps, assign, body, defers := w.heap.size }) ∧ Z V)
    (hdone : ∀ V o, Z V → Q .normal { a with defers := { target := .collected w.heap.size, args := #[] } :: a.defers } (V.putObj (w.heap.size + 1) o)) :
    (Code.rangeFunc g ps assign body).wpIn Fence.wide n P Q a w := by
  refine wpIn_rangeFunc ?_
  intro fn _
  have hro : Fence.wide.round = none := rfl
  rw [hro]
  have hc := hcall fn
  obtain ⟨r, hr⟩ : ∃ r : Loop, ({ state := .ready, pending := none, fn, tmps := a.tmps, params := ps, assign, body, defers := w.heap.size } : Loop) = r := ⟨_, rfl⟩
  have hen := run_enterLoop_outer (P := P) (w := w) fn a.tmps ps assign body
  have hst : r.state = .ready := by rw [← hr]
  have hpe : r.pending = none := by rw [← hr]
  rw [hr] at hc hen
  obtain ⟨W1, hW1⟩ : ∃ W1, (w.alloc (.deferred (some []))).alloc (.loop r) = W1 := ⟨_, rfl⟩
  rw [hW1] at hc hen
  refine ⟨w.heap.size + 1, [{ target := .collected w.heap.size, args := #[] }], W1, { target := .fn (.func gf) lb, args := #[.func (.yield (w.heap.size + 1)) #[] #[]] }, W1, gf,
    #[.func (.yield (w.heap.size + 1)) #[] #[]] ++ lb, W1, hen, ?_, ?_, ?_, ?_, ?_⟩
  · simp only [resolve, hg]
    simp [go_sem]
  · intro f' hf'; trivial
  · simp [invoke, go_sem, eg]
  · intro h; cases h
  · refine hc.mono ?_
    rintro e V ⟨⟨v, rfl⟩, hl, hz⟩
    have hend := run_endLoop (P := P) hl (by rw [hst]; simp)
    rw [hpe] at hend
    exact ⟨none, _, hend, hdone V _ hz⟩
/-- a round, out of its record -/
theorem yield_wide {P : Program} {m l : Nat} {args : Array Value} {V : World} {R : Ending → World → Prop} {r : Loop} (hl : V.heap[l]? = some (.loop r)) (hs : args.size = r.params.size)
    (h : r.assign.wpIn (Fence.wide.inRound l) m P (Exit.then (fun a₁ w₁ => ∃ w₂, (Instr.beginRound l).run P w₁ = .ok () w₂ ∧ r.body.wpIn (Fence.wide.inRound l) m P (roundPost P l R) a₁ w₂) (fun _ _ _ => False))
      { tmps := (r.params.zip args).foldl (fun tmps (t, a) => tmps.setIfInBounds t a) r.tmps, defers := [] } V) :
    YieldAt Fence.wide m P l args V R :=
  ⟨r.fn, _, r.assign, r.body, run_yield hl hs, roundIn_of_wpIn trivial h⟩
theorem Tryz.info_prefix : (Tryz.prog.info? 26).map (fun i => (i.zero, i.size, i.bytes)) = some (some (.agg #[.int .u8 0, .int .u64 0, .int .u64 0, .int .i64 0]), 4, 32) := by kernel_rfl
/-- the cells of a list of prefixes -/
def pcells (f : Int) (W : Nat) (l : List (Nat × Nat)) : List Value := l.flatMap fun p => [.int .u8 f, .int .u64 (aH p.1), .int .u64 (aL p.1), .int .i64 ((W - p.2 : Nat) : Int)]
theorem pcells_len (f : Int) (W : Nat) (l : List (Nat × Nat)) : (pcells f W l).length = l.length * 4 := by
  induction l with
  | nil => rfl
  | cons p l ih =>
    unfold pcells at ih ⊢
    rw [List.flatMap_cons, List.length_append, ih]
    simp
    omega
theorem pcells_snoc (f : Int) (W : Nat) (l : List (Nat × Nat)) (p : Nat × Nat) : pcells f W (l ++ [p]) = pcells f W l ++ [.int .u8 f, .int .u64 (aH p.1), .int .u64 (aL p.1), .int .i64 ((W - p.2 : Nat) : Int)] := by
  unfold pcells
  rw [List.flatMap_append]
  simp
theorem pcells_at (f : Int) (W : Nat) : ∀ (l : List (Nat × Nat)) (j : Nat) (p : Nat × Nat), l[j]? = some p → (pcells f W l)[j * 4]? = some (.int .u8 f) ∧ (pcells f W l)[j * 4 + 1]? = some (.int .u64 (aH p.1)) ∧ (pcells f W l)[j * 4 + 2]? = some (.int .u64 (aL p.1)) ∧ (pcells f W l)[j * 4 + 3]? = some (.int .i64 ((W - p.2 : Nat) : Int))
  | [], j, p, h => by simp at h
  | q :: l, 0, p, h => by
    have : q = p := by simpa using h
    subst this
    exact ⟨rfl, rfl, rfl, rfl⟩
  | q :: l, j + 1, p, h => by
    have ih := pcells_at f W l j p (by simpa using h)
    have e : pcells f W (q :: l) = [.int .u8 f, .int .u64 (aH q.1), .int .u64 (aL q.1), .int .i64 ((W - q.2 : Nat) : Int)] ++ pcells f W l := by unfold pcells; rw [List.flatMap_cons]
    rw [e]
    have g : ∀ i, ([.int .u8 f, .int .u64 (aH q.1), .int .u64 (aL q.1), .int .i64 ((W - q.2 : Nat) : Int)] ++ pcells f W l)[(j + 1) * 4 + i]? = (pcells f W l)[j * 4 + i]? := fun i => by
      rw [List.getElem?_append_right (by simp; omega)]
      congr 1
      simp
      omega
    exact ⟨(g 0).trans ih.1, (g 1).trans ih.2.1, (g 2).trans ih.2.2.1, (g 3).trans ih.2.2.2⟩
theorem below_putObj {n b : Nat} {u V : World} (h : Below n u V) (hb : n ≤ b) (o : Obj) : Below n u (V.putObj b o) :=
  h.trans ⟨rfl, rfl, rfl, by simp, fun k hk => World.putObj_heap_other (by omega)⟩
/-- between two rounds: the record, the mark's block, the list's box and its row -/
structure PJ (w : World) (D B own : Nat) (r : Loop) (f : Int) (W : Nat) (pre : List (Nat × Nat)) (V : World) : Prop where
  rc : V.heap[D + 1]? = some (.loop r)
  df : V.heap[D]? = some (.deferred (some []))
  bx : ∃ v, V.heap[B]? = some (.cells #[v] 62 (0, 0)) ∧ V.ownsRow (own + 1) 26 4 v pre.length (pcells f W pre)
  bl : Below w.heap.size w V
theorem owns_stp {own base n size : Nat} {e : TypeId} {v : Value} {xs : List Value} {A B : World} (h : A.ownsRow base e size v n xs) (hb : own < base) (hs : ∀ b, b < A.heap.size → b ≠ own → B.heap[b]? = A.heap[b]?) : B.ownsRow base e size v n xs := by
  obtain ⟨h1, h | ⟨g, cap, cur, rfl, hg1, hg2, h3, h4, h5, h6⟩⟩ := h
  · exact ⟨h1, Or.inl h⟩
  · have hlt : g < A.heap.size := (Array.getElem?_eq_some_iff.1 hg2).1
    exact ⟨h1, Or.inr ⟨g, cap, cur, rfl, hg1, (hs g hlt (by omega)).trans hg2, h3, h4, h5, h6⟩⟩
theorem prefixes_any (f a b c d : Int) (w : World) : Calls Tryz.prog 57 #[.agg #[.int .u8 f, .int .u64 a, .int .u64 b, .int .u64 c, .int .u64 d]] w fun e w' => e = .returned (.func (.func 80) #[] #[.pointer (some ⟨w.heap.size, 0, none⟩)]) ∧ w' = w.alloc (.cells #[.int .u8 f, .int .u64 a, .int .u64 b, .int .u64 c, .int .u64 d] 100) := by
  go_enter Tryz.func57, Tryz.ntmps57
  go_wp2
  go_ret
  exact ⟨rfl, rfl⟩
theorem cells_new4 (V : World) (a b c d : Value) (t : TypeId) : ∀ j u, [a, b, c, d][j]? = some u → (V.alloc (.cells #[a, b, c, d] t)).cell? ((⟨V.heap.size, 0, none⟩ : Addr).add j) = some u := by
  intro j u hj
  have : (⟨V.heap.size, 0, none⟩ : Addr).add j = ⟨V.heap.size, j, none⟩ := by
    by_cases h : j = 0
    · subst h; rfl
    · simp [Addr.add, h]
  rw [this, World.cell?_alloc_at _ _ _ _ rfl]
  simpa using hj
set_option maxRecDepth 100000 in
set_option maxHeartbeats 4000000 in
theorem pfx_yes {f : Int} {W : Nat} (hf : Fam f W) (A M : Nat) (hAM : A ≤ M) (hM : M < 2 ^ W) (xs : List (Nat × Nat)) (hxs : Spn.Steps W A (M + 1 - A) xs) (w : World) :
    Calls Tryz.prog 25 #[.int .u8 f, .agg #[.int .u64 (aH A), .int .u64 (aL A), .int .u64 (aH M), .int .u64 (aL M)]] w fun e w' => ∃ v, e = .returned (.tuple #[v, .int .i64 0]) ∧ w'.ownsRow w.heap.size 26 4 v xs.length (pcells f W xs) ∧ Below w.heap.size w w' := by
  have HF := Lib.hid hf
  have HM := Lib.hid hM
  have HAM := Lib.hid hAM
  have HX := Lib.hid hxs
  have HC := Lib.hid (fun w => schk_any f A M w)
  have hs0 : schk f A M = 0 := by
    unfold schk
    have hA : A < 2 ^ W := by omega
    rw [hf.isA 0 (Nat.two_pow_pos W), if_pos rfl, hf.isA A hA, hf.isA M hM]
    simp [hAM]
  rw [hs0] at HC
  clear hf hM hAM hxs hs0
  refine (callsIn_wide (n := 4)).1 ?_
  refine callsIn_of_wp_marks Tryz.func25 rfl trivial ?_ rfl
  simp only [Tryz.ntmps25, List.size_toArray, List.length_cons, List.length_nil, Nat.reduceAdd, Nat.reduceSub, Array.replicate_succ, Array.replicate_zero, List.push_toArray, List.append_toArray, List.nil_append, List.cons_append]
  gi_wp2_with fail
  refine ⟨trivial, (callsIn_wide.2 (HC.out _)).mono ?_⟩
  rintro e v1 ⟨rfl, hb1⟩
  have s0 : v1.cell? ⟨w.heap.size, 0, none⟩ = some (.int .u64 (aH A)) := by rw [hb1.cell (p := ⟨w.heap.size, 0, none⟩) (by simp)]; simp
  have s1 : v1.cell? ⟨w.heap.size, 1, none⟩ = some (.int .u64 (aL A)) := by rw [hb1.cell (p := ⟨w.heap.size, 1, none⟩) (by simp)]; simp
  have s2 : v1.cell? ⟨w.heap.size, 2, none⟩ = some (.int .u64 (aH M)) := by rw [hb1.cell (p := ⟨w.heap.size, 2, none⟩) (by simp)]; simp
  have s3 : v1.cell? ⟨w.heap.size, 3, none⟩ = some (.int .u64 (aL M)) := by rw [hb1.cell (p := ⟨w.heap.size, 3, none⟩) (by simp)]; simp
  have sz : w.heap.size < v1.heap.size := World.block_lt_of_cell? _ _ s0
  have HB1 := Lib.hid (show Below w.heap.size w v1 from ((Below.refl _ _).alloc (Nat.le_refl _) _).trans (hb1.mono (by simp)))
  clear hb1
  gi_wp2_with fail
  refine ⟨trivial, (callsIn_wide.2 (prefixes_any _ _ _ _ _ _)).mono ?_⟩
  rintro e v2 ⟨rfl, rfl⟩
  generalize hv : World.alloc (World.alloc v1 _) _ = v3
  have hB : v3.heap[v1.heap.size]? = some (.cells #[.slice none 0 0] 62 (0, 0)) := by rw [← hv, Below.heap_alloc _ _ _ (by simp)]; exact heap_alloc_new _ _
  have HW3 : RowKit.Hid (Wk5 (v1.heap.size + 1) v3 f (aH A) (aL A) (aH M) (aL M)) := Lib.hid (by
    rw [← hv]
    have := Wk5.new (v1.alloc (.cells #[.slice none 0 0] 62)) f (aH A) (aL A) (aH M) (aL M) 100
    simpa using this)
  have hz3 : v3.heap.size = v1.heap.size + 1 + 1 := by rw [← hv]; simp
  have HB3 := Lib.hid (show Below w.heap.size w v3 by rw [← hv]; exact (HB1.out.alloc HB1.out.size _).alloc (by have := HB1.out.size; simp; omega) _)
  have hwB : w.heap.size < v1.heap.size := sz
  have HBX := Lib.hid hB
  have HZ3 := Lib.hid hz3
  clear hv s0 s1 s2 s3 sz HB1 hB hz3
  try rw [World.size_alloc]
  gi_wp2_with fail
  obtain ⟨B, hB⟩ : ∃ B, v1.heap.size = B := ⟨_, rfl⟩
  rw [hB] at HBX HW3 HZ3 hwB ⊢
  clear hB
  obtain ⟨D, hD⟩ : ∃ D, v3.heap.size = D := ⟨_, rfl⟩
  have HD := Lib.hid hD
  have hDB : D = B + 1 + 1 := by rw [← hD]; exact HZ3.out
  have HDB := Lib.hid hDB
  clear hDB hD
  refine range_wide (gf := 80) (lb := #[.pointer (some ⟨B + 1, 0, none⟩)]) rfl (enters_of Tryz.func80 (by kernel_rfl) rfl)
    (fun V => V.heap[D]? = some (.deferred (some [])) ∧ ∃ v, V.heap[B]? = some (.cells #[v] 62 (0, 0)) ∧ V.ownsRow (D + 3) 26 4 v xs.length (pcells f W xs) ∧ Below w.heap.size w V) ?_ ?_
  · intro fn
    rw [HD.out]
    obtain ⟨r, hr⟩ : ∃ r : Loop, ({ state := .ready, pending := none, fn, tmps := #[Value.int IntKind.u8 f], params := #[20], assign := .skip, body := .skip, defers := D } : Loop) = r := ⟨_, rfl⟩
    clear hr r
    generalize hr : ({ state := _, pending := _, fn := _, tmps := _, params := _, assign := _, body := _, defers := _ } : Loop) = r
    have HRR := Lib.hid hr
    clear hr
    obtain ⟨W1, hW1⟩ : ∃ W1, (v3.alloc (.deferred (some []))).alloc (.loop r) = W1 := ⟨_, rfl⟩
    have hs1 : W1.heap.size = D + 2 := by rw [← hW1]; simp [HD.out]
    have hw1 : Wk5 (B + 1) W1 f (aH A) (aL A) (aH M) (aL M) := by rw [← hW1]; exact (HW3.out.on (below_new _ _)).on (below_new _ _)
    have hj0 : PJ w D B (D + 2) r f W [] W1 := by
      refine ⟨?_, ?_, ⟨.slice none 0 0, ?_, ?_⟩, ?_⟩
      · rw [← hW1]
        have := heap_alloc_new (v3.alloc (.deferred (some []))) (.loop r)
        rw [World.size_alloc, HD.out] at this
        exact this
      · rw [← hW1, Below.heap_alloc _ _ _ (by simp [HD.out])]
        have := heap_alloc_new v3 (.deferred (some []))
        rw [HD.out] at this
        exact this
      · rw [← hW1, Below.heap_alloc _ _ _ (by simp [HD.out]; have := HDB.out; omega), Below.heap_alloc _ _ _ (by rw [HD.out]; have := HDB.out; omega)]
        exact HBX.out
      · exact World.ownsRow_nil _ _ _ _
      · rw [← hW1]
        exact (HB3.out.alloc HB3.out.size _).alloc (by have := HB3.out.size; simp; omega) _
    rw [hW1]
    have hit := iter_in HF.out (D + 1) (B + 1) A M HAM.out HM.out xs HX.out (PJ w D B (D + 2) r f W) W1 hw1 hj0
    rw [hs1] at hit
    refine (hit ?_).mono ?_
    · clear hit hj0 hw1
      intro pre a k V0 V hlen hj hst hlt
      have hn300 : pre.length < 300 := by
        have hw := HF.out.wid
        have := len_all W hw.2.2.1 A (M + 1 - A) xs (by have := HM.out; have := HAM.out; omega) HX.out
        omega
      obtain ⟨h1, h2, ⟨v, h3, h4⟩, h5⟩ := hj
      have hDD := HDB.out
      have q : ∀ b o, V0.heap[b]? = some o → b ≠ D + 2 → V.heap[b]? = some o := fun b o hb hne => (hst.same b (Array.getElem?_eq_some_iff.1 hb).1 hne).trans hb
      have L1 := q _ _ h1 (by omega)
      have D1 := q _ _ h2 (by omega)
      have B1 := q _ _ h3 (by omega)
      have O1 : V.ownsRow (D + 2 + 1) 26 4 v pre.length (pcells f W pre) := owns_stp h4 (by omega) (fun b hb hne => hst.same b hb hne)
      have hrow := h4.lt
      have hBl := h5.trans (hst.bl.mono (by omega))
      have hDV := (Array.getElem?_eq_some_iff.1 h1).1
      have hBV := (Array.getElem?_eq_some_iff.1 h3).1
      have hsz := hst.size
      clear q h1 h2 h3 h4 h5 hst hW1 hs1
      refine yield_wide L1 (by rw [← HRR.out]; rfl) ?_
      have hrs : r.state = .ready := by rw [← HRR.out]
      have hrp : r.pending = none := by rw [← HRR.out]
      have HRS := Lib.hid hrs
      have HRP := Lib.hid hrp
      clear hrs hrp
      obtain ⟨R, hRR⟩ : ∃ R : Ending → World → Prop, (fun e V' => e = .returned (.bool true) ∧ PJ w D B (D + 2) r f W (pre ++ [(a, k)]) V' ∧ Kps (D + 2) V0 V V') = R := ⟨_, rfl⟩
      rw [hRR]
      have HR0 := Lib.hid hRR
      clear hRR
      rw [← HRR.out]
      have HL1 := Lib.hid L1
      have HD1 := Lib.hid D1
      have HB1 := Lib.hid B1
      have HO1 := Lib.hid O1
      have HROW := Lib.hid hrow
      have HBL := Lib.hid hBl
      have HDV := Lib.hid hDV
      have HBV := Lib.hid hBV
      have HSZ := Lib.hid hsz
      have HLT := Lib.hid hlt
      clear L1 D1 B1 O1 hrow hBl hDV hBV hsz hlt hDD
      gi_wp2
      have hL0 : (V.alloc (.cells #[.int .u8 f, .int .u64 (aH a), .int .u64 (aL a), .int .i64 ((W - k : Nat) : Int)] 26)).heap[D + 1]? = some (.loop r) := (Below.heap_alloc _ _ _ (Array.getElem?_eq_some_iff.1 HL1.out).1).trans HL1.out
      refine ⟨_, run_beginRound hL0 HRS.out, ?_⟩
      generalize hV2 : World.putObj _ _ _ = V2
      have hP : ∀ j u, [Value.int .u8 f, .int .u64 (aH a), .int .u64 (aL a), .int .i64 ((W - k : Nat) : Int)][j]? = some u → V2.cell? ⟨V.heap.size, j, none⟩ = some u := fun j u hj => by
        have hne : V.heap.size ≠ D + 1 := by have := (Array.getElem?_eq_some_iff.1 HL1.out).1; omega
        rw [← hV2, cell_of_heap (World.putObj_heap_other hne) j, World.cell?_alloc_at _ _ _ _ rfl]
        simpa using hj
      have hK2 : ∀ b, b < V.heap.size → b ≠ D + 1 → V2.heap[b]? = V.heap[b]? := fun b hb hne => by
        rw [← hV2, World.putObj_heap_other hne]
        exact Below.heap_alloc _ _ _ hb
      have hL2 : V2.heap[D + 1]? = some (.loop { r with state := .busy }) := by rw [← hV2]; exact World.putObj_heap_same (by have := (Array.getElem?_eq_some_iff.1 hL0).1; exact this)
      have hz2 : V2.heap.size = V.heap.size + 1 := by rw [← hV2]; simp
      have hDB2 := HDB.out
      have hbl2 : Below w.heap.size w V2 := by rw [← hV2]; exact below_putObj (HBL.out.alloc HBL.out.size _) (by omega) _
      have hB2 : V2.heap[B]? = some (.cells #[v] 62 (0, 0)) := (hK2 B (by have := HBV.out; have := HSZ.out; omega) (by omega)).trans HB1.out
      have hO2 : V2.ownsRow (D + 2 + 1) 26 4 v pre.length (pcells f W pre) := owns_stp (own := D + 1) HO1.out (by omega) hK2
      have c0 := cell_of_one hB2
      have f0 := free_of_one hB2
      have p0 := hP 0 _ rfl
      have p1 := hP 1 _ rfl
      have p2 := hP 2 _ rfl
      have p3 := hP 3 _ rfl
      have HK2 := Lib.hid hK2
      have HL2 := Lib.hid hL2
      have HBL2 := Lib.hid hbl2
      have HB2 := Lib.hid hB2
      have HO2 := Lib.hid hO2
      have HZ2 := Lib.hid hz2
      clear hV2 hP hK2 hL2 hbl2 hB2 hO2 hL0 hDB2 hz2
      obtain ⟨i0, hi, hz0, hz1, hz2⟩ := info_parts Tryz.info_prefix
      have hBr : ∀ q, v.ownBlock = some q → B ≠ q := fun q hq => by
        have := (HROW.out q hq).1
        have := HDB.out
        omega
      have HROWB := Lib.hid hBr
      clear hBr
      have bz : B < V2.heap.size := World.block_lt_of_cell? _ _ c0
      have pz : V.heap.size < V2.heap.size := World.block_lt_of_cell? _ _ p0
      gi_wp2_with (gi_at_builtin; refine wpListIn_append_own _ rfl (.tmp 21) (.tmp 23) 62 rfl (D + 2 + 1) 26 i0 (.agg #[.int .u8 0, .int .u64 0, .int .u64 0, .int .i64 0]) 4 32 Tryz.underlying62 hi hz0 hz1 hz2 rfl (by decide) _ _ _ rfl (HO2.out.alloc _) ⟨V2.heap.size, 0, none⟩ 1 1 [.int .u8 f, .int .u64 (aH a), .int .u64 (aL a), .int .i64 ((W - k : Nat) : Int)] rfl rfl ?c1 ?c2 ?c3 ?c4 ?c5 ?_; rotate_left 5; intro v' w4 hown4 hgrow4 _; obtain ⟨g', cap', rfl⟩ := ownsRow_succ hown4; have hK4 := fun b (hb : b < V2.heap.size) (hr : ∀ q, v.ownBlock = some q → b ≠ q) => (hgrow4.block b (by simp; omega) (fun e => hr b e.symm rfl)).trans (Below.heap_alloc V2 _ b hb); have hBr := HROWB.out; have hB4 := (hK4 B bz hBr).trans HB2.out; have c0' := cell_of_one hB4; have f0' := free_of_one hB4; have HB4 := Lib.hid hB4; have HK4 := Lib.hid hK4; have HO4 := Lib.hid hown4; have HG4 := Lib.hid hgrow4; clear hB4 hK4 hown4 hgrow4 hBr)
      case c1 => exact cells_new4 _ _ _ _ _ _
      case c2 => simp [Value.oneCell']
      case c3 => unfold maxLen; omega
      case c4 => omega
      case c5 => have := HLT.out; have := HZ2.out; simp; omega
      have e2 := HDB.out
      have e3 := HZ2.out
      have e4 := HDV.out
      have e5 := HBV.out
      have e6 := HSZ.out
      have e7 := HLT.out
      have hrb : ∀ b, (b < D + 3 ∨ V0.heap.size ≤ b) → ∀ q, v.ownBlock = some q → b ≠ q := fun b hb q hq => by
        have := HROW.out q hq
        omega
      have hM4 : ∀ b, b < V.heap.size → b ≠ D + 1 → b ≠ B → (b < D + 3 ∨ V0.heap.size ≤ b) → ∀ o, ((w4.setCell ⟨B, 0, none⟩ (.slice (some ⟨g', 0, none⟩) (pre.length + 1) cap')).putObj (D + 1) o).heap[b]? = V.heap[b]? := fun b h1 h2 h3 h4 o => by
        rw [World.putObj_heap_other h2, Below.heap_setCell _ _ _ _ h3, HK4.out b (by omega) (hrb b h4)]
        exact HK2.out b h1 h2
      have hL5 : (w4.setCell ⟨B, 0, none⟩ (.slice (some ⟨g', 0, none⟩) (pre.length + 1) cap')).heap[D + 1]? = some (.loop { r with state := .busy }) := by
        rw [Below.heap_setCell _ _ _ _ (by show D + 1 ≠ B; omega), HK4.out (D + 1) (by omega) (hrb _ (by omega))]
        exact HL2.out
      refine ⟨_, _, run_endRound none hL5, ?_⟩
      rw [← HR0.out]
      have hrr : ({ ({ r with state := .busy } : Loop) with state := if (none : Option Code).isNone then .ready else .done, pending := none } : Loop) = r := by
        have h1 := HRS.out
        have h2 := HRP.out
        cases r
        simp at h1 h2 ⊢
        exact ⟨h1.symm, h2.symm⟩
      rw [hrr]
      refine ⟨rfl, ⟨?_, ?_, ⟨.slice (some ⟨g', 0, none⟩) (pre.length + 1) cap', ?_, ?_⟩, ?_⟩, ⟨?_, ?_⟩⟩
      · exact World.putObj_heap_same (Array.getElem?_eq_some_iff.1 hL5).1
      · rw [hM4 D (by omega) (by omega) (by omega) (by omega)]
        exact HD1.out
      · rw [World.putObj_heap_other (by omega)]
        exact one_setCell HB4.out
      · rw [pcells_snoc, List.length_append]
        refine owns_stp (own := D + 1) (owns_stp (own := B) HO4.out (by omega) (fun b _ hne => Below.heap_setCell _ _ _ _ hne)) (by omega) (fun b _ hne => World.putObj_heap_other hne)
      · refine below_putObj (((HBL2.out.alloc HBL2.out.size _).grown HG4.out (by have := HBL2.out.size; simp; omega) (fun q hq => ?_)).setCell (by show w.heap.size ≤ B; omega) _) (by omega) _
        have := (HROW.out q hq).1
        omega
      · have h1 := HG4.out.size
        simp at h1
        show V.heap.size ≤ (World.putObj _ _ _).heap.size
        simp
        omega
      · intro b hb hlt2
        rcases hb with rfl | hb
        · exact hM4 _ hlt2 (by omega) (by omega) (by omega) _
        · exact hM4 _ hlt2 (by omega) (by omega) (by omega) _
    · rintro e V ⟨hv, V0, hj, hst⟩
      obtain ⟨h1, h2, ⟨v, h3, h4⟩, h5⟩ := hj
      have q : ∀ b o, V0.heap[b]? = some o → b ≠ D + 2 → V.heap[b]? = some o := fun b o hb hne => (hst.same b (Array.getElem?_eq_some_iff.1 hb).1 hne).trans hb
      have hDD := HDB.out
      refine ⟨hv, q _ _ h1 (by omega), q _ _ h2 (by omega), v, q _ _ h3 (by omega), owns_stp h4 (by omega) (fun b hb hne => hst.same b hb hne), ?_⟩
      exact h5.trans (hst.bl.mono (by omega))
  · rintro V o ⟨hd, v, hbx, hown, hbl⟩
    rw [HD.out]
    generalize hV : V.putObj (D + 1) o = V1
    have hDD := HDB.out
    have hd1 : V1.heap[D]? = some (.deferred (some [])) := by rw [← hV]; exact (World.putObj_heap_other (by omega)).trans hd
    have hb1 : V1.heap[B]? = some (.cells #[v] 62 (0, 0)) := by rw [← hV]; exact (World.putObj_heap_other (by omega)).trans hbx
    have ho1 : V1.ownsRow (D + 3) 26 4 v xs.length (pcells f W xs) := by rw [← hV]; exact owns_stp (own := D + 1) hown (by omega) (fun b _ hne => World.putObj_heap_other hne)
    have hbl1 : Below w.heap.size w V1 := by rw [← hV]; exact below_putObj hbl (by omega) _
    have c0 : V1.cell? ⟨B, 0, none⟩ = some v := cell_of_one hb1
    have HO1 := Lib.hid ho1
    have HBL1 := Lib.hid hbl1
    have HD1 := Lib.hid hd1
    clear hV hd hbx hown hbl hd1 hb1 ho1 hbl1 hDD
    gi_wp2
    refine ⟨by simp, .inl ⟨_, _, rfl, run_takeDeferred HD1.out, ?_⟩⟩
    refine ⟨.tuple #[v, .int .i64 0], by simp [results, Tryz.results25, go_sem], v, rfl, ?_, ?_⟩
    · have hDD := HDB.out
      have h1 : (V1.putObj D (.deferred none)).ownsRow (D + 3) 26 4 v xs.length (pcells f W xs) := owns_stp (own := D) HO1.out (by omega) (fun b _ hne => World.putObj_heap_other hne)
      obtain ⟨g1, h | ⟨g, cap, cur, g2, g3, g4⟩⟩ := h1
      · exact ⟨g1, Or.inl h⟩
      · exact ⟨g1, Or.inr ⟨g, cap, cur, g2, by omega, g4⟩⟩
    · exact below_putObj HBL1.out (by have hDD := HDB.out; omega) _
end Go.Proofs.YtjngfieggacpiaaGreatDoor
