import Derived.Test.YthfgdgcdicacpaaRoA
namespace Go.Proofs.Ythfgdgcdicacpaa
namespace Ro
open Go.RowKit Sha Adr
set_option linter.unusedVariables false
set_option linter.unusedSimpArgs false
theorem lex_lt (x y : Ap) : decide (lexI [x.f, x.h, x.l, x.n, x.m] [y.f, y.h, y.l, y.n, y.m] < 0) = ltE x y := by
 unfold ltE
 rw [decide_eq_decide]
 simp only [lexI]
 repeat' split
 all_goals omega
theorem cut_ok_of {f h l n m : Int} (h1 : Adr.ok f h l n = true) (h2 : n ≤ m) : cutOk f h l m = decide (m ≤ wid f) := by
 unfold Adr.ok cutOk at h1
 unfold cutOk
 simp only [Bool.and_eq_true, decide_eq_true_eq] at h1
 rw [h1.1.1.1, decide_eq_true (show 0 ≤ m by omega)]
 simp
set_option maxRecDepth 100000 in
set_option maxHeartbeats 2000000 in
theorem iselem_any (f h l n m : Int) (uh : U64 h) (ul : U64 l) (w : World) :
  Calls Try.prog 67 #[.agg #[.int .u8 f, .int .u64 h, .int .u64 l, .int .i64 n, .int .i64 m]] w fun e w' => e = .returned (.bool (vE ⟨f, h, l, n, m⟩)) ∧ Below w.heap.size w w' := by
 have HC := Lib.hid (fun (V : World) => chk_any f h l n V uh ul)
 have HT := Lib.hid (fun (V : World) => cut_any f h l m V uh ul)
 have HB0 := Lib.hid (below_new w (.cells #[.int .u8 f, .int .u64 h, .int .u64 l, .int .i64 n, .int .i64 m] 75))
 have HR0 := Lib.hid (heap_alloc_new w (.cells #[.int .u8 f, .int .u64 h, .int .u64 l, .int .i64 n, .int .i64 m] 75))
 obtain ⟨R, hR⟩ : ∃ R, vE ⟨f, h, l, n, m⟩ = R := ⟨_, rfl⟩
 rw [hR]
 unfold vE at hR
 dsimp only at hR
 have h0 := chk_ok0 f h l n
 have h1 := chk_no0 f h l n
 have h2 : Adr.ok f h l n = true → n ≤ m → cutE f h l m = if m ≤ wid f then 0 else 2 := fun a b => by
  unfold cutE
  rw [cut_ok_of a b]
  by_cases hm : m ≤ wid f
  ·
   rw [decide_eq_true hm, if_pos rfl, if_pos hm]
  ·
   rw [decide_eq_false hm, if_neg (by decide), if_neg hm]
 generalize cutE f h l m = E at HT h2
 generalize cutF f h l m = F1 at HT
 generalize cutH f h l m = F2 at HT
 generalize cutL f h l m = F3 at HT
 generalize cutN f h l m = F4 at HT
 generalize chk f h l n = C at HC h0 h1
 clear uh ul
 cases hok : Adr.ok f h l n with
 | false =>
  rw [hok] at hR
  have HR := Lib.hid (show R = false from hR.symm)
  have hC : (C != 0) = true := by rw [bne_iff_ne]; have := h1 hok; omega
  clear hR h0 h1 h2 hok
  go_enter Try.func67, Try.ntmps67
  go_wp2_with fail
  refine (HC.out _).mono ?_
  rintro e w2 ⟨rfl, hb⟩
  have HB2 := Lib.hid (chain HB0.out hb)
  clear hb
  go_wp2_with fail
  go_ret
  exact ⟨by rw [HR.out]; rfl, HB2.out⟩
 | true =>
  have hC : C = 0 := h0 hok
  subst hC
  by_cases hmn : m < n
  ·
   have HR := Lib.hid (show R = false by rw [← hR, decide_eq_false (show ¬ n ≤ m by omega)]; simp)
   clear hR h0 h1 h2 hok
   go_enter Try.func67, Try.ntmps67
   go_wp2_with fail
   refine (HC.out _).mono ?_
   rintro e w2 ⟨rfl, hb⟩
   have HB2 := Lib.hid (chain HB0.out hb)
   have HR2 := Lib.hid (row_on HR0.out hb)
   clear hb
   obtain ⟨hlt, c0, c1, c2, c3, c4⟩ := facts5 HR2.out
   go_wp2_with fail
   go_ret
   exact ⟨by rw [HR.out]; rfl, HB2.out⟩
  ·
   have hE := h2 hok (by omega)
   have HR := Lib.hid (show R = (E == 0) by
    rw [← hR, hok, decide_eq_true (show n ≤ m by omega), hE]
    by_cases hm : m ≤ wid f
    ·
     rw [if_pos hm, decide_eq_true hm]; rfl
    ·
     rw [if_neg hm, decide_eq_false hm]; rfl)
   clear hR h0 h1 h2 hok hE
   go_enter Try.func67, Try.ntmps67
   go_wp2_with fail
   refine (HC.out _).mono ?_
   rintro e w2 ⟨rfl, hb⟩
   have HB2 := Lib.hid (chain HB0.out hb)
   have HR2 := Lib.hid (row_on HR0.out hb)
   clear hb
   obtain ⟨hlt, c0, c1, c2, c3, c4⟩ := facts5 HR2.out
   go_wp2_with fail
   refine (HT.out _).mono ?_
   rintro e w3 ⟨rfl, hb⟩
   have HB3 := Lib.hid (chain HB2.out hb)
   clear hb c0 c1 c2 c3 c4 hlt
   go_wp2_with fail
   go_ret
   exact ⟨by rw [HR.out]; rfl, chain HB3.out (below_new _ _)⟩
theorem facts2 {V : World} {M : Nat} {a b : Value} {T : TypeId} (H : V.heap[M]? = some (.cells #[a, b] T (0, 0))) : M < V.heap.size ∧ V.cell? ⟨M, 0, none⟩ = some a ∧ V.cell? ⟨M, 1, none⟩ = some b :=
 ⟨(Array.getElem?_eq_some_iff.1 H).1, cell_of_row _ _ _ _ _ _ H, cell_of_row _ _ _ _ _ _ H⟩
def PrevAt (ps : List Ap) (R : Bool) (k : Nat) : Prop := (k = 0 ∧ R = srt none (ps.drop 0)) ∨ ∃ j q, k = j + 1 ∧ ps[j]? = some q ∧ vE q = true ∧ R = srt (some q) (ps.drop (j + 1))
theorem drop_at {ps : List Ap} {k : Nat} {x : Ap} (h : ps[k]? = some x) : ps.drop k = x :: ps.drop (k + 1) := by
 rw [List.drop_eq_getElem_cons (List.getElem?_eq_some_iff.1 h).1, (List.getElem?_eq_some_iff.1 h).2]
theorem PrevAt.no {ps : List Ap} {R : Bool} {k : Nat} {x : Ap} (h : PrevAt ps R k) (hx : ps[k]? = some x) (hv : vE x = false) : R = false := by
 rcases h with ⟨rfl, h⟩ | ⟨j, q, rfl, h1, h2, h⟩
 ·
  rw [h, drop_at hx, srt, hv]; rfl
 ·
  rw [h, drop_at hx, srt, hv]; rfl
theorem PrevAt.first {ps : List Ap} {R : Bool} {k : Nat} {x : Ap} (hk : k = 0) (h : R = srt none (ps.drop 0)) (hx : ps[k]? = some x) (hv : vE x = true) : PrevAt ps R (k + 1) :=
 .inr ⟨k, x, rfl, hx, hv, by subst hk; rw [h, drop_at hx, srt, hv, Bool.true_and]⟩
theorem PrevAt.next {ps : List Ap} {R : Bool} {j : Nat} {q x : Ap} (h : R = srt (some q) (ps.drop (j + 1))) (hx : ps[j + 1]? = some x) (hv : vE x = true) (hl : ltE q x = true) : PrevAt ps R (j + 1 + 1) :=
 .inr ⟨j + 1, x, rfl, hx, hv, by rw [h, drop_at hx, srt, hv, hl, Bool.true_and, Bool.true_and]⟩
theorem PrevAt.stop {ps : List Ap} {R : Bool} {j : Nat} {q x : Ap} (h : R = srt (some q) (ps.drop (j + 1))) (hx : ps[j + 1]? = some x) (hl : ltE q x = false) : R = false := by
 rw [h, drop_at hx, srt, hl, Bool.and_false, Bool.false_and]
theorem PrevAt.done {ps : List Ap} {R : Bool} {k : Nat} (h : PrevAt ps R k) (hk : ps.length ≤ k) : R = true := by
 rcases h with ⟨rfl, h⟩ | ⟨j, q, rfl, h1, h2, h⟩
 ·
  rw [h, List.drop_of_length_le hk, srt]
 ·
  rw [h, List.drop_of_length_le hk, srt]
set_option maxRecDepth 100000 in
set_option maxHeartbeats 8000000 in
theorem areelem_any (ps : List Ap) (A : Option Addr) (c : Nat) (hl : ps.length ≤ 100000) (hwf : ∀ x ∈ ps, WfE x) (w : World) (hp : Aps A ps w) :
  Calls Try.prog 39 #[.slice A ps.length c] w fun e w' => e = .returned (.bool (srt none ps)) ∧ Below w.heap.size w w' := by
 obtain ⟨n, hn⟩ : ∃ n, ps.length = n := ⟨_, rfl⟩
 have HN := Lib.hid hn
 have HP := Lib.hid hp
 have HWF := Lib.hid hwf
 obtain ⟨R, hR⟩ : ∃ R, srt none ps = R := ⟨_, rfl⟩
 have HR := Lib.hid hR
 rw [hn] at hl
 rw [hR, hn]
 have HZ := Lib.hid (Below.refl w.heap.size w)
 clear hn hR hp hwf
 go_enter Try.func39, Try.ntmps39
 go_wp2_with fail
 go_loopw [3, 4, 7] (fun _ _ i wr => ∃ k : Nat, k ≤ n ∧ i = .int .i64 (k : Int) ∧ RowKit.Hid (Below w.heap.size w wr) ∧ RowKit.Hid (PrevAt ps R k)) (fun _ _ i _ => n - (intOf i).toNat)
 case atStart => exact ⟨0, by omega, rfl, HZ, Lib.hid (.inl ⟨rfl, by rw [List.drop_zero]; exact HR.out.symm⟩)⟩
 case round =>
  clear HZ
  obtain ⟨k, hk, rfl, HB, HQ⟩ := hrel
  by_cases hlt : k < n
  ·
   obtain ⟨x, hx⟩ : ∃ x, ps[k]? = some x := ⟨_, List.getElem?_eq_getElem (by rw [HN.out]; exact hlt)⟩
   obtain ⟨g, o, hA, r1⟩ := HP.out.row k x hx
   subst hA
   obtain ⟨c0, c1, c2, c3, c4⟩ := cells5 (rangeAt_on r1 HB.out)
   have hki : (k : Int) < (n : Int) := by omega
   have hwx := HWF.out x (List.mem_of_getElem? hx)
   have HEL := Lib.hid (fun (z : World) => iselem_any x.f x.h x.l x.n x.m hwx.h hwx.l z)
   have HWX := Lib.hid hwx
   have HX := Lib.hid hx
   clear r1 hx hwx
   cases hv : vE x with
   | false =>
    have HS := Lib.hid (PrevAt.no HQ.out HX.out hv)
    have hve : vE ⟨x.f, x.h, x.l, x.n, x.m⟩ = false := hv
    rw [hve] at HEL
    clear hv hve
    go_upto_region 4 with (fail)
    generalize hV : World.alloc wr _ = V
    have HBV := Lib.hid (show Below w.heap.size w V by rw [← hV]; exact chain HB.out (below_new _ _))
    obtain ⟨X, hX⟩ : ∃ X, wr.heap.size = X := ⟨_, rfl⟩
    have HXR := Lib.hid (show V.heap[X]? = some (.cells (cE x).toArray 75 (0, 0)) by rw [← hV, ← hX]; exact heap_alloc_new _ _)
    try simp only [hX]
    clear hV hX
    have mkS : ∀ z, Below V.heap.size V z → (fun (z : World) => z.rangeAt X 0 (cE x)) z := fun z hz => row_range (cs := cE x) (row_on HXR.out hz)
    refine wp_region_held_drew (S := fun (z : World) => z.rangeAt X 0 (cE x)) (by kernel_rfl) (mkS _ (Below.refl _ _).drew) (fun hHeld => ?_)
    generalize hU : World.drew V = U at hHeld ⊢
    have HBC := Lib.hid (show Below V.heap.size V U by rw [← hU]; exact (Below.refl _ _).drew)
    clear hU
    refine wpAnyH_take (i := 0) (oi := { dst := some 12, op := .load 75 (.tmp 4), type := 75, pos := "element.go:38", after := #[], guard := none }) (v := .agg ((cE x)).toArray) rfl (by kernel_rfl) (by kernel_rfl) (by kernel_rfl) (fun _ _ _ h => h) (yieldsIf_load_mid (by rfl) _ _ rfl _ _ rfl ((cE x)) _ (fun w hSw => hSw) Try.underlying75 rfl (sz5p _ _ _ _ _)) hHeld ?_
    try simp only [Act.put, List.setIfInBounds_toArray, List.set_cons_zero, List.set_cons_succ]
    refine wpAnyH_ready (rs := [1]) (by kernel_rfl) (by simp) (AllReadyH.cons (o := { dst := some 13, op := .call { callee := .value (.func 67), args := #[.tmp 12], argTypes := #[75] }, type := 4, pos := "element.go:38", after := #[{ on := 0, ground := .data }], guard := none }) rfl (fun K hK => ?_) AllReadyH.nil)
    go_simp
    refine (HEL.out U).mono ?_
    rintro e z1 ⟨rfl, hb⟩
    have HBC := Lib.hid (chain HBC.out hb)
    clear hb 
    go_simp
    refine hK.out _ _ (mkS _ HBC.out) (fun hHeld2 => ?_)
    clear hK K hHeld
    have hHeld := hHeld2
    clear hHeld2
    try simp only [Act.put, List.setIfInBounds_toArray, List.set_cons_zero, List.set_cons_succ]
    refine wpAnyH_take (i := 2) (oi := { dst := some 14, op := .unOp .not 4 (.tmp 13), type := 4, pos := "element.go:38", after := #[{ on := 1, ground := .data }], guard := none }) (v := ?_) rfl (by kernel_rfl) (by kernel_rfl) (by kernel_rfl) (fun _ _ _ h => h) (Or.inl ⟨by rfl, ?_⟩) hHeld ?_
    rotate_left
    ·
     intro w hSw
     clear hSw
     go_simp
     try with_reducible rfl
    try simp only [Act.put, List.setIfInBounds_toArray, List.set_cons_zero, List.set_cons_succ]
    refine wpAnyH_take (i := 3) (oi := { dst := some 15, op := .move (.tmp 14), type := 4, pos := "element.go:38", after := #[{ on := 2, ground := .data }, { on := 1, ground := .chain }], guard := none }) (v := ?_) rfl (by kernel_rfl) (by kernel_rfl) (by kernel_rfl) (fun _ _ _ h => h) (Or.inl ⟨by rfl, ?_⟩) hHeld ?_
    rotate_left
    ·
     intro w hSw
     clear hSw
     go_simp
     try with_reducible rfl
    try simp only [Act.put, List.setIfInBounds_toArray, List.set_cons_zero, List.set_cons_succ]
    refine wpAnyH_take (i := 4) (oi := { dst := some 16, op := .move (.tmp 3), type := 3, pos := "element.go:38", after := #[{ on := 3, ground := .guard }], guard := some (3, false) }) (v := undef) rfl (by kernel_rfl) (by kernel_rfl) (by kernel_rfl) (fun _ _ _ h => h) (Or.inr ⟨by rfl, rfl⟩) hHeld ?_
    try simp only [Act.put, List.setIfInBounds_toArray, List.set_cons_zero, List.set_cons_succ]
    refine wpAnyH_take (i := 5) (oi := { dst := some 17, op := .binOp .gtr 3 (.tmp 16) (.const (.int .i64 0)) 3, type := 4, pos := "element.go:38", after := #[{ on := 4, ground := .data }, { on := 3, ground := .guard }], guard := some (3, false) }) (v := undef) rfl (by kernel_rfl) (by kernel_rfl) (by kernel_rfl) (fun _ _ _ h => h) (Or.inr ⟨by rfl, rfl⟩) hHeld ?_
    try simp only [Act.put, List.setIfInBounds_toArray, List.set_cons_zero, List.set_cons_succ]
    refine wpAnyH_take (i := 6) (oi := { dst := some 18, op := .move (.tmp 17), type := 4, pos := "element.go:38", after := #[{ on := 5, ground := .data }, { on := 3, ground := .chain }, { on := 3, ground := .guard }], guard := some (3, false) }) (v := undef) rfl (by kernel_rfl) (by kernel_rfl) (by kernel_rfl) (fun _ _ _ h => h) (Or.inr ⟨by rfl, rfl⟩) hHeld ?_
    try simp only [Act.put, List.setIfInBounds_toArray, List.set_cons_zero, List.set_cons_succ]
    refine wpAnyH_take (i := 7) (oi := { dst := some 19, op := .move (.tmp 0), type := 23, pos := "element.go:38", after := #[{ on := 6, ground := .guard }], guard := some (6, true) }) (v := undef) rfl (by kernel_rfl) (by kernel_rfl) (by kernel_rfl) (fun _ _ _ h => h) (Or.inr ⟨by rfl, rfl⟩) hHeld ?_
    try simp only [Act.put, List.setIfInBounds_toArray, List.set_cons_zero, List.set_cons_succ]
    refine wpAnyH_take (i := 8) (oi := { dst := some 20, op := .move (.tmp 3), type := 3, pos := "element.go:38", after := #[{ on := 6, ground := .guard }], guard := some (6, true) }) (v := undef) rfl (by kernel_rfl) (by kernel_rfl) (by kernel_rfl) (fun _ _ _ h => h) (Or.inr ⟨by rfl, rfl⟩) hHeld ?_
    try simp only [Act.put, List.setIfInBounds_toArray, List.set_cons_zero, List.set_cons_succ]
    refine wpAnyH_take (i := 9) (oi := { dst := some 21, op := .binOp .sub 3 (.tmp 20) (.const (.int .i64 1)) 3, type := 3, pos := "element.go:38", after := #[{ on := 8, ground := .data }, { on := 6, ground := .guard }], guard := some (6, true) }) (v := undef) rfl (by kernel_rfl) (by kernel_rfl) (by kernel_rfl) (fun _ _ _ h => h) (Or.inr ⟨by rfl, rfl⟩) hHeld ?_
    try simp only [Act.put, List.setIfInBounds_toArray, List.set_cons_zero, List.set_cons_succ]
    refine wpAnyH_take (i := 10) (oi := { dst := some 22, op := .indexAddr 23 (.tmp 19) (.tmp 21), type := 0, pos := "element.go:38", after := #[{ on := 7, ground := .data }, { on := 9, ground := .data }, { on := 6, ground := .guard }], guard := some (6, true) }) (v := undef) rfl (by kernel_rfl) (by kernel_rfl) (by kernel_rfl) (fun _ _ _ h => h) (Or.inr ⟨by rfl, rfl⟩) hHeld ?_
    try simp only [Act.put, List.setIfInBounds_toArray, List.set_cons_zero, List.set_cons_succ]
    refine wpAnyH_take (i := 11) (oi := { dst := some 23, op := .load 75 (.tmp 22), type := 75, pos := "element.go:38", after := #[{ on := 10, ground := .data }, { on := 6, ground := .guard }], guard := some (6, true) }) (v := undef) rfl (by kernel_rfl) (by kernel_rfl) (by kernel_rfl) (fun _ _ _ h => h) (Or.inr ⟨by rfl, rfl⟩) hHeld ?_
    try simp only [Act.put, List.setIfInBounds_toArray, List.set_cons_zero, List.set_cons_succ]
    refine wpAnyH_take (i := 12) (oi := { dst := some 24, op := .load 75 (.tmp 4), type := 75, pos := "element.go:38", after := #[{ on := 6, ground := .guard }], guard := some (6, true) }) (v := undef) rfl (by kernel_rfl) (by kernel_rfl) (by kernel_rfl) (fun _ _ _ h => h) (Or.inr ⟨by rfl, rfl⟩) hHeld ?_
    try simp only [Act.put, List.setIfInBounds_toArray, List.set_cons_zero, List.set_cons_succ]
    refine wpAnyH_take (i := 13) (oi := { dst := some 25, op := .call { callee := .value (.func 68), args := #[.tmp 23, .tmp 24], argTypes := #[75, 75] }, type := 4, pos := "element.go:38", after := #[{ on := 11, ground := .data }, { on := 12, ground := .data }, { on := 6, ground := .chain }, { on := 6, ground := .guard }], guard := some (6, true) }) (v := undef) rfl (by kernel_rfl) (by kernel_rfl) (by kernel_rfl) (fun _ _ _ h => h) (Or.inr ⟨by rfl, rfl⟩) hHeld ?_
    try simp only [Act.put, List.setIfInBounds_toArray, List.set_cons_zero, List.set_cons_succ]
    refine wpAnyH_take (i := 14) (oi := { dst := some 26, op := .unOp .not 4 (.tmp 25), type := 4, pos := "element.go:38", after := #[{ on := 13, ground := .data }, { on := 6, ground := .guard }], guard := some (6, true) }) (v := undef) rfl (by kernel_rfl) (by kernel_rfl) (by kernel_rfl) (fun _ _ _ h => h) (Or.inr ⟨by rfl, rfl⟩) hHeld ?_
    try simp only [Act.put, List.setIfInBounds_toArray, List.set_cons_zero, List.set_cons_succ]
    refine wpAnyH_take (i := 15) (oi := { dst := some 27, op := .pick (.tmp 18) (.tmp 26) (.const (.bool false)), type := 4, pos := "element.go:38", after := #[{ on := 6, ground := .data }, { on := 14, ground := .data }, { on := 3, ground := .guard }], guard := some (3, false) }) (v := undef) rfl (by kernel_rfl) (by kernel_rfl) (by kernel_rfl) (fun _ _ _ h => h) (Or.inr ⟨by rfl, rfl⟩) hHeld ?_
    try simp only [Act.put, List.setIfInBounds_toArray, List.set_cons_zero, List.set_cons_succ]
    refine wpAnyH_take (i := 16) (oi := { dst := some 28, op := .pick (.tmp 15) (.const (.bool true)) (.tmp 27), type := 4, pos := "element.go:38", after := #[{ on := 3, ground := .data }, { on := 15, ground := .data }], guard := none }) (v := ?_) rfl (by kernel_rfl) (by kernel_rfl) (by kernel_rfl) (fun _ _ _ h => h) (Or.inl ⟨by rfl, ?_⟩) hHeld ?_
    rotate_left
    ·
     intro w hSw
     clear hSw
     go_simp
     try with_reducible rfl
    try simp only [Act.put, List.setIfInBounds_toArray, List.set_cons_zero, List.set_cons_succ]
    refine wpAnyH_done (by kernel_rfl) ?_ _
    go_wp2_with fail
    go_ret
    exact ⟨by rw [HS.out]; rfl, chain HBV.out HBC.out⟩
   | true =>
    have hve : vE ⟨x.f, x.h, x.l, x.n, x.m⟩ = true := hv
    rw [hve] at HEL
    have HV := Lib.hid hv
    clear hv hve
    rcases HQ.out with ⟨hk0, hq⟩ | ⟨j, q, rfl, hjq, hvq, hq⟩
    ·
     have HS := Lib.hid (PrevAt.first hk0 hq HX.out HV.out)
     have hgt : ¬ (k : Int) > 0 := by omega
     clear hq hk0
     go_upto_region 4 with (fail)
     generalize hV : World.alloc wr _ = V
     have HBV := Lib.hid (show Below w.heap.size w V by rw [← hV]; exact chain HB.out (below_new _ _))
     obtain ⟨X, hX⟩ : ∃ X, wr.heap.size = X := ⟨_, rfl⟩
     have HXR := Lib.hid (show V.heap[X]? = some (.cells (cE x).toArray 75 (0, 0)) by rw [← hV, ← hX]; exact heap_alloc_new _ _)
     try simp only [hX]
     clear hV hX
     have mkS : ∀ z, Below V.heap.size V z → (fun (z : World) => z.rangeAt X 0 (cE x)) z := fun z hz => row_range (cs := cE x) (row_on HXR.out hz)
     refine wp_region_held_drew (S := fun (z : World) => z.rangeAt X 0 (cE x)) (by kernel_rfl) (mkS _ (Below.refl _ _).drew) (fun hHeld => ?_)
     generalize hU : World.drew V = U at hHeld ⊢
     have HBC := Lib.hid (show Below V.heap.size V U by rw [← hU]; exact (Below.refl _ _).drew)
     clear hU
     refine wpAnyH_take (i := 0) (oi := { dst := some 12, op := .load 75 (.tmp 4), type := 75, pos := "element.go:38", after := #[], guard := none }) (v := .agg ((cE x)).toArray) rfl (by kernel_rfl) (by kernel_rfl) (by kernel_rfl) (fun _ _ _ h => h) (yieldsIf_load_mid (by rfl) _ _ rfl _ _ rfl ((cE x)) _ (fun w hSw => hSw) Try.underlying75 rfl (sz5p _ _ _ _ _)) hHeld ?_
     try simp only [Act.put, List.setIfInBounds_toArray, List.set_cons_zero, List.set_cons_succ]
     refine wpAnyH_ready (rs := [1]) (by kernel_rfl) (by simp) (AllReadyH.cons (o := { dst := some 13, op := .call { callee := .value (.func 67), args := #[.tmp 12], argTypes := #[75] }, type := 4, pos := "element.go:38", after := #[{ on := 0, ground := .data }], guard := none }) rfl (fun K hK => ?_) AllReadyH.nil)
     go_simp
     refine (HEL.out U).mono ?_
     rintro e z1 ⟨rfl, hb⟩
     have HBC := Lib.hid (chain HBC.out hb)
     clear hb 
     go_simp
     refine hK.out _ _ (mkS _ HBC.out) (fun hHeld2 => ?_)
     clear hK K hHeld
     have hHeld := hHeld2
     clear hHeld2
     try simp only [Act.put, List.setIfInBounds_toArray, List.set_cons_zero, List.set_cons_succ]
     refine wpAnyH_take (i := 2) (oi := { dst := some 14, op := .unOp .not 4 (.tmp 13), type := 4, pos := "element.go:38", after := #[{ on := 1, ground := .data }], guard := none }) (v := ?_) rfl (by kernel_rfl) (by kernel_rfl) (by kernel_rfl) (fun _ _ _ h => h) (Or.inl ⟨by rfl, ?_⟩) hHeld ?_
     rotate_left
     ·
      intro w hSw
      clear hSw
      go_simp
      try with_reducible rfl
     try simp only [Act.put, List.setIfInBounds_toArray, List.set_cons_zero, List.set_cons_succ]
     refine wpAnyH_take (i := 3) (oi := { dst := some 15, op := .move (.tmp 14), type := 4, pos := "element.go:38", after := #[{ on := 2, ground := .data }, { on := 1, ground := .chain }], guard := none }) (v := ?_) rfl (by kernel_rfl) (by kernel_rfl) (by kernel_rfl) (fun _ _ _ h => h) (Or.inl ⟨by rfl, ?_⟩) hHeld ?_
     rotate_left
     ·
      intro w hSw
      clear hSw
      go_simp
      try with_reducible rfl
     try simp only [Act.put, List.setIfInBounds_toArray, List.set_cons_zero, List.set_cons_succ]
     refine wpAnyH_take (i := 4) (oi := { dst := some 16, op := .move (.tmp 3), type := 3, pos := "element.go:38", after := #[{ on := 3, ground := .guard }], guard := some (3, false) }) (v := ?_) rfl (by kernel_rfl) (by kernel_rfl) (by kernel_rfl) (fun _ _ _ h => h) (Or.inl ⟨by rfl, ?_⟩) hHeld ?_
     rotate_left
     ·
      intro w hSw
      clear hSw
      go_simp
      try with_reducible rfl
     try simp only [Act.put, List.setIfInBounds_toArray, List.set_cons_zero, List.set_cons_succ]
     refine wpAnyH_take (i := 5) (oi := { dst := some 17, op := .binOp .gtr 3 (.tmp 16) (.const (.int .i64 0)) 3, type := 4, pos := "element.go:38", after := #[{ on := 4, ground := .data }, { on := 3, ground := .guard }], guard := some (3, false) }) (v := .bool false) rfl (by kernel_rfl) (by kernel_rfl) (by kernel_rfl) (fun _ _ _ h => h) (Or.inl ⟨by rfl, ?_⟩) hHeld ?_
     ·
      intro w hSw
      clear hSw
      go_simp
      first | exact congrArg (fun b => Result.ok (Value.bool b) _) (decide_eq_false hgt) | exact congrArg (fun b => Result.ok (Value.bool b) _) (decide_eq_true hgt) | (try simp [hgt])
      try omega
     try simp only [Act.put, List.setIfInBounds_toArray, List.set_cons_zero, List.set_cons_succ]
     refine wpAnyH_take (i := 6) (oi := { dst := some 18, op := .move (.tmp 17), type := 4, pos := "element.go:38", after := #[{ on := 5, ground := .data }, { on := 3, ground := .chain }, { on := 3, ground := .guard }], guard := some (3, false) }) (v := ?_) rfl (by kernel_rfl) (by kernel_rfl) (by kernel_rfl) (fun _ _ _ h => h) (Or.inl ⟨by rfl, ?_⟩) hHeld ?_
     rotate_left
     ·
      intro w hSw
      clear hSw
      go_simp
      try with_reducible rfl
     try simp only [Act.put, List.setIfInBounds_toArray, List.set_cons_zero, List.set_cons_succ]
     refine wpAnyH_take (i := 7) (oi := { dst := some 19, op := .move (.tmp 0), type := 23, pos := "element.go:38", after := #[{ on := 6, ground := .guard }], guard := some (6, true) }) (v := undef) rfl (by kernel_rfl) (by kernel_rfl) (by kernel_rfl) (fun _ _ _ h => h) (Or.inr ⟨by rfl, rfl⟩) hHeld ?_
     try simp only [Act.put, List.setIfInBounds_toArray, List.set_cons_zero, List.set_cons_succ]
     refine wpAnyH_take (i := 8) (oi := { dst := some 20, op := .move (.tmp 3), type := 3, pos := "element.go:38", after := #[{ on := 6, ground := .guard }], guard := some (6, true) }) (v := undef) rfl (by kernel_rfl) (by kernel_rfl) (by kernel_rfl) (fun _ _ _ h => h) (Or.inr ⟨by rfl, rfl⟩) hHeld ?_
     try simp only [Act.put, List.setIfInBounds_toArray, List.set_cons_zero, List.set_cons_succ]
     refine wpAnyH_take (i := 9) (oi := { dst := some 21, op := .binOp .sub 3 (.tmp 20) (.const (.int .i64 1)) 3, type := 3, pos := "element.go:38", after := #[{ on := 8, ground := .data }, { on := 6, ground := .guard }], guard := some (6, true) }) (v := undef) rfl (by kernel_rfl) (by kernel_rfl) (by kernel_rfl) (fun _ _ _ h => h) (Or.inr ⟨by rfl, rfl⟩) hHeld ?_
     try simp only [Act.put, List.setIfInBounds_toArray, List.set_cons_zero, List.set_cons_succ]
     refine wpAnyH_take (i := 10) (oi := { dst := some 22, op := .indexAddr 23 (.tmp 19) (.tmp 21), type := 0, pos := "element.go:38", after := #[{ on := 7, ground := .data }, { on := 9, ground := .data }, { on := 6, ground := .guard }], guard := some (6, true) }) (v := undef) rfl (by kernel_rfl) (by kernel_rfl) (by kernel_rfl) (fun _ _ _ h => h) (Or.inr ⟨by rfl, rfl⟩) hHeld ?_
     try simp only [Act.put, List.setIfInBounds_toArray, List.set_cons_zero, List.set_cons_succ]
     refine wpAnyH_take (i := 11) (oi := { dst := some 23, op := .load 75 (.tmp 22), type := 75, pos := "element.go:38", after := #[{ on := 10, ground := .data }, { on := 6, ground := .guard }], guard := some (6, true) }) (v := undef) rfl (by kernel_rfl) (by kernel_rfl) (by kernel_rfl) (fun _ _ _ h => h) (Or.inr ⟨by rfl, rfl⟩) hHeld ?_
     try simp only [Act.put, List.setIfInBounds_toArray, List.set_cons_zero, List.set_cons_succ]
     refine wpAnyH_take (i := 12) (oi := { dst := some 24, op := .load 75 (.tmp 4), type := 75, pos := "element.go:38", after := #[{ on := 6, ground := .guard }], guard := some (6, true) }) (v := undef) rfl (by kernel_rfl) (by kernel_rfl) (by kernel_rfl) (fun _ _ _ h => h) (Or.inr ⟨by rfl, rfl⟩) hHeld ?_
     try simp only [Act.put, List.setIfInBounds_toArray, List.set_cons_zero, List.set_cons_succ]
     refine wpAnyH_take (i := 13) (oi := { dst := some 25, op := .call { callee := .value (.func 68), args := #[.tmp 23, .tmp 24], argTypes := #[75, 75] }, type := 4, pos := "element.go:38", after := #[{ on := 11, ground := .data }, { on := 12, ground := .data }, { on := 6, ground := .chain }, { on := 6, ground := .guard }], guard := some (6, true) }) (v := undef) rfl (by kernel_rfl) (by kernel_rfl) (by kernel_rfl) (fun _ _ _ h => h) (Or.inr ⟨by rfl, rfl⟩) hHeld ?_
     try simp only [Act.put, List.setIfInBounds_toArray, List.set_cons_zero, List.set_cons_succ]
     refine wpAnyH_take (i := 14) (oi := { dst := some 26, op := .unOp .not 4 (.tmp 25), type := 4, pos := "element.go:38", after := #[{ on := 13, ground := .data }, { on := 6, ground := .guard }], guard := some (6, true) }) (v := undef) rfl (by kernel_rfl) (by kernel_rfl) (by kernel_rfl) (fun _ _ _ h => h) (Or.inr ⟨by rfl, rfl⟩) hHeld ?_
     try simp only [Act.put, List.setIfInBounds_toArray, List.set_cons_zero, List.set_cons_succ]
     refine wpAnyH_take (i := 15) (oi := { dst := some 27, op := .pick (.tmp 18) (.tmp 26) (.const (.bool false)), type := 4, pos := "element.go:38", after := #[{ on := 6, ground := .data }, { on := 14, ground := .data }, { on := 3, ground := .guard }], guard := some (3, false) }) (v := ?_) rfl (by kernel_rfl) (by kernel_rfl) (by kernel_rfl) (fun _ _ _ h => h) (Or.inl ⟨by rfl, ?_⟩) hHeld ?_
     rotate_left
     ·
      intro w hSw
      clear hSw
      go_simp
      try with_reducible rfl
     try simp only [Act.put, List.setIfInBounds_toArray, List.set_cons_zero, List.set_cons_succ]
     refine wpAnyH_take (i := 16) (oi := { dst := some 28, op := .pick (.tmp 15) (.const (.bool true)) (.tmp 27), type := 4, pos := "element.go:38", after := #[{ on := 3, ground := .data }, { on := 15, ground := .data }], guard := none }) (v := ?_) rfl (by kernel_rfl) (by kernel_rfl) (by kernel_rfl) (fun _ _ _ h => h) (Or.inl ⟨by rfl, ?_⟩) hHeld ?_
     rotate_left
     ·
      intro w hSw
      clear hSw
      go_simp
      try with_reducible rfl
     try simp only [Act.put, List.setIfInBounds_toArray, List.set_cons_zero, List.set_cons_succ]
     refine wpAnyH_done (by kernel_rfl) ?_ _
     go_wp2_with fail
     exact ⟨⟨k + 1, by omega, by go_num, Lib.hid (chain HBV.out HBC.out), HS⟩, by simp [intOf]; omega⟩
    ·
     obtain ⟨b, hb⟩ : ∃ b, ltE q x = b := ⟨_, rfl⟩
     have HST : RowKit.Hid (b = true → RowKit.Hid (PrevAt ps R (j + 1 + 1))) := Lib.hid (fun e => Lib.hid (PrevAt.next hq HX.out HV.out (hb.trans e)))
     have HSF : RowKit.Hid (b = false → R = false) := Lib.hid (fun e => PrevAt.stop hq HX.out (hb.trans e))
     have hwq := HWF.out q (List.mem_of_getElem? hjq)
     have HWX' := HWX.out
     have HBF := Lib.hid (fun (z : World) => (show Calls Try.prog 68 #[.agg (cE q).toArray, .agg (cE x).toArray] z fun e w' => e = .returned (.bool b) ∧ Below z.heap.size z w' from by
      have b1 := vE_bounds hvq
      have b2 := vE_bounds HV.out
      have h9 := before_of q.f q.h q.l q.n q.m x.f x.h x.l x.n x.m hwq.f HWX.out.f (wrap_small (by omega) (by omega)) (wrap_small (by omega) (by omega)) (wrap_small (by omega) (by omega)) (wrap_small (by omega) (by omega)) z
      rw [lex_lt, hb] at h9
      exact h9))
     obtain ⟨g', o', hA', r2⟩ := HP.out.row j q hjq
     obtain ⟨rfl, rfl, _⟩ := Addr.mk.inj (Option.some.inj hA')
     have HQ0 := Lib.hid (rangeAt_on r2 HB.out)
     have hsub : wrap64 (((j + 1 : Nat) : Int) - 1) = (j : Int) := by
      have : ((j + 1 : Nat) : Int) - 1 = (j : Int) := by omega
      rw [this]
      simp [wrap64, IntKind.wrap, IntKind.bits, IntKind.signed]
      omega
     have hgt : ((j + 1 : Nat) : Int) > 0 := by omega
     have hjw : IntKind.i64.wrap (j : Int) = (j : Int) := by
      simp [IntKind.wrap, IntKind.bits, IntKind.signed]
      omega
     have hjn : (j : Int) < (n : Int) := by omega
     clear hq hjq hvq hb hwq HWX' r2 hA'
     go_upto_region 4 with (fail)
     generalize hV : World.alloc wr _ = V
     have HBV := Lib.hid (show Below w.heap.size w V by rw [← hV]; exact chain HB.out (below_new _ _))
     obtain ⟨X, hX⟩ : ∃ X, wr.heap.size = X := ⟨_, rfl⟩
     have HXR := Lib.hid (show V.heap[X]? = some (.cells (cE x).toArray 75 (0, 0)) by rw [← hV, ← hX]; exact heap_alloc_new _ _)
     have HQR := Lib.hid (show V.rangeAt g (o + j * 5) (cE q) by rw [← hV]; exact rangeAt_on HQ0.out (below_new _ _))
     try simp only [hX]
     clear hV hX
     have mkS : ∀ z, Below V.heap.size V z → (fun (z : World) => z.rangeAt X 0 (cE x) ∧ z.rangeAt g (o + j * 5) (cE q)) z := fun z hz => ⟨row_range (cs := cE x) (row_on HXR.out hz), rangeAt_on HQR.out hz⟩
     refine wp_region_held_drew (S := fun (z : World) => z.rangeAt X 0 (cE x) ∧ z.rangeAt g (o + j * 5) (cE q)) (by kernel_rfl) (mkS _ (Below.refl _ _).drew) (fun hHeld => ?_)
     generalize hU : World.drew V = U at hHeld ⊢
     have HBC := Lib.hid (show Below V.heap.size V U by rw [← hU]; exact (Below.refl _ _).drew)
     clear hU
     refine wpAnyH_take (i := 0) (oi := { dst := some 12, op := .load 75 (.tmp 4), type := 75, pos := "element.go:38", after := #[], guard := none }) (v := .agg ((cE x)).toArray) rfl (by kernel_rfl) (by kernel_rfl) (by kernel_rfl) (fun _ _ _ h => h) (yieldsIf_load_mid (by rfl) _ _ rfl _ _ rfl ((cE x)) _ (fun w hSw => hSw.1) Try.underlying75 rfl (sz5p _ _ _ _ _)) hHeld ?_
     try simp only [Act.put, List.setIfInBounds_toArray, List.set_cons_zero, List.set_cons_succ]
     refine wpAnyH_ready (rs := [1]) (by kernel_rfl) (by simp) (AllReadyH.cons (o := { dst := some 13, op := .call { callee := .value (.func 67), args := #[.tmp 12], argTypes := #[75] }, type := 4, pos := "element.go:38", after := #[{ on := 0, ground := .data }], guard := none }) rfl (fun K hK => ?_) AllReadyH.nil)
     go_simp
     refine (HEL.out U).mono ?_
     rintro e z1 ⟨rfl, hb⟩
     have HBC := Lib.hid (chain HBC.out hb)
     clear hb 
     go_simp
     refine hK.out _ _ (mkS _ HBC.out) (fun hHeld2 => ?_)
     clear hK K hHeld
     have hHeld := hHeld2
     clear hHeld2
     try simp only [Act.put, List.setIfInBounds_toArray, List.set_cons_zero, List.set_cons_succ]
     refine wpAnyH_take (i := 2) (oi := { dst := some 14, op := .unOp .not 4 (.tmp 13), type := 4, pos := "element.go:38", after := #[{ on := 1, ground := .data }], guard := none }) (v := ?_) rfl (by kernel_rfl) (by kernel_rfl) (by kernel_rfl) (fun _ _ _ h => h) (Or.inl ⟨by rfl, ?_⟩) hHeld ?_
     rotate_left
     ·
      intro w hSw
      clear hSw
      go_simp
      try with_reducible rfl
     try simp only [Act.put, List.setIfInBounds_toArray, List.set_cons_zero, List.set_cons_succ]
     refine wpAnyH_take (i := 3) (oi := { dst := some 15, op := .move (.tmp 14), type := 4, pos := "element.go:38", after := #[{ on := 2, ground := .data }, { on := 1, ground := .chain }], guard := none }) (v := ?_) rfl (by kernel_rfl) (by kernel_rfl) (by kernel_rfl) (fun _ _ _ h => h) (Or.inl ⟨by rfl, ?_⟩) hHeld ?_
     rotate_left
     ·
      intro w hSw
      clear hSw
      go_simp
      try with_reducible rfl
     try simp only [Act.put, List.setIfInBounds_toArray, List.set_cons_zero, List.set_cons_succ]
     refine wpAnyH_take (i := 4) (oi := { dst := some 16, op := .move (.tmp 3), type := 3, pos := "element.go:38", after := #[{ on := 3, ground := .guard }], guard := some (3, false) }) (v := ?_) rfl (by kernel_rfl) (by kernel_rfl) (by kernel_rfl) (fun _ _ _ h => h) (Or.inl ⟨by rfl, ?_⟩) hHeld ?_
     rotate_left
     ·
      intro w hSw
      clear hSw
      go_simp
      try with_reducible rfl
     try simp only [Act.put, List.setIfInBounds_toArray, List.set_cons_zero, List.set_cons_succ]
     refine wpAnyH_take (i := 5) (oi := { dst := some 17, op := .binOp .gtr 3 (.tmp 16) (.const (.int .i64 0)) 3, type := 4, pos := "element.go:38", after := #[{ on := 4, ground := .data }, { on := 3, ground := .guard }], guard := some (3, false) }) (v := .bool true) rfl (by kernel_rfl) (by kernel_rfl) (by kernel_rfl) (fun _ _ _ h => h) (Or.inl ⟨by rfl, ?_⟩) hHeld ?_
     ·
      intro w hSw
      clear hSw
      go_simp
      first | exact congrArg (fun b => Result.ok (Value.bool b) _) (decide_eq_false hgt) | exact congrArg (fun b => Result.ok (Value.bool b) _) (decide_eq_true hgt) | (try simp [hgt])
      try omega
     try simp only [Act.put, List.setIfInBounds_toArray, List.set_cons_zero, List.set_cons_succ]
     refine wpAnyH_take (i := 6) (oi := { dst := some 18, op := .move (.tmp 17), type := 4, pos := "element.go:38", after := #[{ on := 5, ground := .data }, { on := 3, ground := .chain }, { on := 3, ground := .guard }], guard := some (3, false) }) (v := ?_) rfl (by kernel_rfl) (by kernel_rfl) (by kernel_rfl) (fun _ _ _ h => h) (Or.inl ⟨by rfl, ?_⟩) hHeld ?_
     rotate_left
     ·
      intro w hSw
      clear hSw
      go_simp
      try with_reducible rfl
     try simp only [Act.put, List.setIfInBounds_toArray, List.set_cons_zero, List.set_cons_succ]
     refine wpAnyH_take (i := 7) (oi := { dst := some 19, op := .move (.tmp 0), type := 23, pos := "element.go:38", after := #[{ on := 6, ground := .guard }], guard := some (6, true) }) (v := ?_) rfl (by kernel_rfl) (by kernel_rfl) (by kernel_rfl) (fun _ _ _ h => h) (Or.inl ⟨by rfl, ?_⟩) hHeld ?_
     rotate_left
     ·
      intro w hSw
      clear hSw
      go_simp
      try with_reducible rfl
     try simp only [Act.put, List.setIfInBounds_toArray, List.set_cons_zero, List.set_cons_succ]
     refine wpAnyH_take (i := 8) (oi := { dst := some 20, op := .move (.tmp 3), type := 3, pos := "element.go:38", after := #[{ on := 6, ground := .guard }], guard := some (6, true) }) (v := ?_) rfl (by kernel_rfl) (by kernel_rfl) (by kernel_rfl) (fun _ _ _ h => h) (Or.inl ⟨by rfl, ?_⟩) hHeld ?_
     rotate_left
     ·
      intro w hSw
      clear hSw
      go_simp
      try with_reducible rfl
     try simp only [Act.put, List.setIfInBounds_toArray, List.set_cons_zero, List.set_cons_succ]
     refine wpAnyH_take (i := 9) (oi := { dst := some 21, op := .binOp .sub 3 (.tmp 20) (.const (.int .i64 1)) 3, type := 3, pos := "element.go:38", after := #[{ on := 8, ground := .data }, { on := 6, ground := .guard }], guard := some (6, true) }) (v := .int .i64 (j : Int)) rfl (by kernel_rfl) (by kernel_rfl) (by kernel_rfl) (fun _ _ _ h => h) (Or.inl ⟨by rfl, ?_⟩) hHeld ?_
     ·
      intro w hSw
      clear hSw
      go_simp
      try rw [hsub]
      try exact hjw
     try simp only [Act.put, List.setIfInBounds_toArray, List.set_cons_zero, List.set_cons_succ]
     refine wpAnyH_take (i := 10) (oi := { dst := some 22, op := .indexAddr 23 (.tmp 19) (.tmp 21), type := 0, pos := "element.go:38", after := #[{ on := 7, ground := .data }, { on := 9, ground := .data }, { on := 6, ground := .guard }], guard := some (6, true) }) (v := ?_) rfl (by kernel_rfl) (by kernel_rfl) (by kernel_rfl) (fun _ _ _ h => h) (Or.inl ⟨by rfl, ?_⟩) hHeld ?_
     rotate_left
     ·
      intro w hSw
      clear hSw
      go_simp
      try with_reducible rfl
     try simp only [Act.put, List.setIfInBounds_toArray, List.set_cons_zero, List.set_cons_succ]
     refine wpAnyH_take (i := 11) (oi := { dst := some 23, op := .load 75 (.tmp 22), type := 75, pos := "element.go:38", after := #[{ on := 10, ground := .data }, { on := 6, ground := .guard }], guard := some (6, true) }) (v := .agg ((cE q)).toArray) rfl (by kernel_rfl) (by kernel_rfl) (by kernel_rfl) (fun _ _ _ h => h) (yieldsIf_load_mid (by rfl) _ _ rfl _ _ rfl ((cE q)) _ (fun w hSw => hSw.2) Try.underlying75 rfl (sz5p _ _ _ _ _)) hHeld ?_
     try simp only [Act.put, List.setIfInBounds_toArray, List.set_cons_zero, List.set_cons_succ]
     refine wpAnyH_take (i := 12) (oi := { dst := some 24, op := .load 75 (.tmp 4), type := 75, pos := "element.go:38", after := #[{ on := 6, ground := .guard }], guard := some (6, true) }) (v := .agg ((cE x)).toArray) rfl (by kernel_rfl) (by kernel_rfl) (by kernel_rfl) (fun _ _ _ h => h) (yieldsIf_load_mid (by rfl) _ _ rfl _ _ rfl ((cE x)) _ (fun w hSw => hSw.1) Try.underlying75 rfl (sz5p _ _ _ _ _)) hHeld ?_
     try simp only [Act.put, List.setIfInBounds_toArray, List.set_cons_zero, List.set_cons_succ]
     refine wpAnyH_ready (rs := [13]) (by kernel_rfl) (by simp) (AllReadyH.cons (o := { dst := some 25, op := .call { callee := .value (.func 68), args := #[.tmp 23, .tmp 24], argTypes := #[75, 75] }, type := 4, pos := "element.go:38", after := #[{ on := 11, ground := .data }, { on := 12, ground := .data }, { on := 6, ground := .chain }, { on := 6, ground := .guard }], guard := some (6, true) }) rfl (fun K hK => ?_) AllReadyH.nil)
     go_simp
     refine (HBF.out z1).mono ?_
     rintro e z13 ⟨rfl, hb⟩
     have HBC := Lib.hid (chain HBC.out hb)
     clear hb 
     go_simp
     refine hK.out _ _ (mkS _ HBC.out) (fun hHeld2 => ?_)
     clear hK K hHeld
     have hHeld := hHeld2
     clear hHeld2
     try simp only [Act.put, List.setIfInBounds_toArray, List.set_cons_zero, List.set_cons_succ]
     refine wpAnyH_take (i := 14) (oi := { dst := some 26, op := .unOp .not 4 (.tmp 25), type := 4, pos := "element.go:38", after := #[{ on := 13, ground := .data }, { on := 6, ground := .guard }], guard := some (6, true) }) (v := ?_) rfl (by kernel_rfl) (by kernel_rfl) (by kernel_rfl) (fun _ _ _ h => h) (Or.inl ⟨by rfl, ?_⟩) hHeld ?_
     rotate_left
     ·
      intro w hSw
      clear hSw
      go_simp
      try with_reducible rfl
     try simp only [Act.put, List.setIfInBounds_toArray, List.set_cons_zero, List.set_cons_succ]
     refine wpAnyH_take (i := 15) (oi := { dst := some 27, op := .pick (.tmp 18) (.tmp 26) (.const (.bool false)), type := 4, pos := "element.go:38", after := #[{ on := 6, ground := .data }, { on := 14, ground := .data }, { on := 3, ground := .guard }], guard := some (3, false) }) (v := ?_) rfl (by kernel_rfl) (by kernel_rfl) (by kernel_rfl) (fun _ _ _ h => h) (Or.inl ⟨by rfl, ?_⟩) hHeld ?_
     rotate_left
     ·
      intro w hSw
      clear hSw
      go_simp
      try with_reducible rfl
     try simp only [Act.put, List.setIfInBounds_toArray, List.set_cons_zero, List.set_cons_succ]
     refine wpAnyH_take (i := 16) (oi := { dst := some 28, op := .pick (.tmp 15) (.const (.bool true)) (.tmp 27), type := 4, pos := "element.go:38", after := #[{ on := 3, ground := .data }, { on := 15, ground := .data }], guard := none }) (v := ?_) rfl (by kernel_rfl) (by kernel_rfl) (by kernel_rfl) (fun _ _ _ h => h) (Or.inl ⟨by rfl, ?_⟩) hHeld ?_
     rotate_left
     ·
      intro w hSw
      clear hSw
      go_simp
      try with_reducible rfl
     try simp only [Act.put, List.setIfInBounds_toArray, List.set_cons_zero, List.set_cons_succ]
     refine wpAnyH_done (by kernel_rfl) ?_ _
     cases b with
     | true =>
      have HS := HST.out rfl
      clear HST HSF
      go_wp2_with fail
      exact ⟨⟨j + 1 + 1, by omega, by go_num, Lib.hid (chain HBV.out HBC.out), HS⟩, by simp [intOf]; omega⟩
     | false =>
      have HS := Lib.hid (HSF.out rfl)
      clear HST HSF
      go_wp2_with fail
      go_ret
      exact ⟨by rw [HS.out]; rfl, chain HBV.out HBC.out⟩
  ·
   have hki : ¬ (k : Int) < (n : Int) := by omega
   have HS := Lib.hid (PrevAt.done HQ.out (show ps.length ≤ k by rw [HN.out]; omega))
   go_wp2_with fail
   go_ret
   exact ⟨by rw [HS.out]; rfl, HB.out⟩
set_option maxRecDepth 100000 in
set_option maxHeartbeats 2000000 in
theorem rcheck_any (sy : Int) (ps : List Ap) (A : Option Addr) (c : Nat) (hl : ps.length ≤ 100000) (hwf : ∀ x ∈ ps, WfE x) (w : World) (hp : Aps A ps w) :
  Calls Try.prog 18 #[.agg #[.int .u32 sy, .slice A ps.length c]] w fun e w' => e = .returned (.int .i64 (raC ps)) ∧ Below w.heap.size w w' := by
 have HE := Lib.hid (fun (V : World) (hb : Below w.heap.size w V) => areelem_any ps A c hl hwf V (hp.on hb))
 obtain ⟨n, hn⟩ : ∃ n, ps.length = n := ⟨_, rfl⟩
 obtain ⟨R, hR⟩ : ∃ R, raC ps = R := ⟨_, rfl⟩
 rw [hR]
 unfold raC at hR
 rw [hn] at hl hR HE ⊢
 generalize srt none ps = s at HE hR
 have HB0 := Lib.hid (below_new w (.cells #[.int .u32 sy, .slice A n c] 25))
 have HR0 := Lib.hid (heap_alloc_new w (.cells #[.int .u32 sy, .slice A n c] 25))
 clear hn hwf hp
 by_cases h1 : 100 < n
 ·
  rw [if_pos h1] at hR
  have HR := Lib.hid hR
  have i1 : (n : Int) > 100 := by omega
  clear hR h1
  go_enter Try.func18, Try.ntmps18
  go_wp2_with fail
  go_ret
  exact ⟨by rw [← HR.out]; rfl, HB0.out⟩
 ·
  rw [if_neg h1] at hR
  have i1 : ¬ (n : Int) > 100 := by omega
  by_cases h2 : n = 0
  ·
   subst h2
   rw [if_pos rfl] at hR
   have HR := Lib.hid hR
   clear hR h1
   go_enter Try.func18, Try.ntmps18
   go_wp2_with fail
   go_ret
   exact ⟨by rw [← HR.out]; rfl, HB0.out⟩
  ·
   rw [if_neg h2] at hR
   have i2 : ((n : Int) == 0) = false := by rw [beq_eq_false_iff_ne]; omega
   clear h1 h2
   go_enter Try.func18, Try.ntmps18
   go_upto_region 1 with (fail)
   generalize hV : World.alloc w _ = V at HB0 HR0 ⊢
   clear hV
   obtain ⟨hlt, c0, c1⟩ := facts2 HR0.out
   go_wp2_with fail
   refine (HE.out V HB0.out).mono ?_
   rintro e w2 ⟨rfl, hb⟩
   have HB2 := Lib.hid (chain HB0.out hb)
   clear hb c0 c1 hlt
   cases s with
   | true =>
    have HR := Lib.hid (show R = 0 from hR.symm)
    clear hR
    go_wp2_with fail
    go_ret
    exact ⟨by rw [HR.out]; rfl, HB2.out⟩
   | false =>
    have HR := Lib.hid (show R = 8 from hR.symm)
    clear hR
    go_wp2_with fail
    go_ret
    exact ⟨by rw [HR.out]; rfl, HB2.out⟩
end Ro
end Go.Proofs.Ythfgdgcdicacpaa
