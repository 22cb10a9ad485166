import Derived.Test.YthfgdgcdicacpaaRoD
namespace Go.Proofs.Ythfgdgcdicacpaa
namespace Ro
open Go.RowKit Sha Adr
set_option linter.unusedVariables false
set_option linter.unusedSimpArgs false
theorem Try.fieldsAuth : (Try.prog.fieldsOf 75).toList = [{ name := "Prefix", type := 44, offset := 0, embedded := false, tag := "", pkgPath := "", byteOffset := 0 }, { name := "Max", type := 3, offset := 4, embedded := false, tag := "", pkgPath := "", byteOffset := 32 }] := by kernel_rfl
theorem Try.fieldsPrefix : (Try.prog.fieldsOf 44).toList = [{ name := "Family", type := 5, offset := 0, embedded := false, tag := "", pkgPath := "", byteOffset := 0 }, { name := "Addr", type := 42, offset := 1, embedded := false, tag := "", pkgPath := "", byteOffset := 8 }, { name := "Len", type := 3, offset := 3, embedded := false, tag := "", pkgPath := "", byteOffset := 24 }] := by kernel_rfl
theorem Try.fieldsAddr : (Try.prog.fieldsOf 42).toList = [{ name := "High", type := 40, offset := 0, embedded := false, tag := "", pkgPath := "", byteOffset := 0 }, { name := "Low", type := 40, offset := 1, embedded := false, tag := "", pkgPath := "", byteOffset := 8 }] := by kernel_rfl
theorem part_pre (a b c d e : Value) (w : World) : (part 44 #[a, b, c, d, e] 0).run Try.prog w = .ok (.agg #[a, b, c, d]) w := by kernel_rfl
theorem part_max (a b c d e : Value) (w : World) : (part 3 #[a, b, c, d, e] 4).run Try.prog w = .ok e w := by kernel_rfl
theorem part_fam (a b c d : Value) (w : World) : (part 5 #[a, b, c, d] 0).run Try.prog w = .ok a w := by kernel_rfl
theorem part_adr (a b c d : Value) (w : World) : (part 42 #[a, b, c, d] 1).run Try.prog w = .ok (.agg #[b, c]) w := by kernel_rfl
theorem part_len (a b c d : Value) (w : World) : (part 3 #[a, b, c, d] 3).run Try.prog w = .ok d w := by kernel_rfl
theorem part_hi (a b : Value) (w : World) : (part 40 #[a, b] 0).run Try.prog w = .ok a w := by kernel_rfl
theorem part_lo (a b : Value) (w : World) : (part 40 #[a, b] 1).run Try.prog w = .ok b w := by kernel_rfl
theorem eqin_adr (h l h' l' : Int) (w : World) : (Op.equalIn 9998 42 (.agg #[.int .u64 h, .int .u64 l]) (.agg #[.int .u64 h', .int .u64 l'])).run Try.prog w = .ok ((h == h') && (l == l')) w := by
 rw [run_equalIn_struct w 9997 42 _ _ (by kernel_rfl) (by kernel_rfl), Try.fieldsAddr]
 have h1 : (Op.equalIn 9997 40 (.int .u64 h) (.int .u64 h')).run Try.prog w = .ok (h == h') w := run_equalIn_int w 9996 40 .u64 .u64 h h' Try.underlying40
 have h2 : (Op.equalIn 9997 40 (.int .u64 l) (.int .u64 l')).run Try.prog w = .ok (l == l') w := run_equalIn_int w 9996 40 .u64 .u64 l l' Try.underlying40
 simp only [Op.eqFields]
 rw [if_pos (by decide), if_pos (by decide)]
 simp only [Sem.run_bind, part_hi, part_lo, Result.andThen_ok, h1, h2]
 cases (h == h')
 ·
  simp
 ·
  simp only [Bool.not_true, Bool.false_eq_true, if_false, Sem.run_bind, part_lo, Result.andThen_ok, h2]
  cases (l == l') <;> simp
theorem eqin_pre (f h l n f' h' l' n' : Int) (w : World) : (Op.equalIn 9999 44 (.agg #[.int .u8 f, .int .u64 h, .int .u64 l, .int .i64 n]) (.agg #[.int .u8 f', .int .u64 h', .int .u64 l', .int .i64 n'])).run Try.prog w = .ok ((f == f') && (((h == h') && (l == l')) && (n == n'))) w := by
 rw [run_equalIn_struct w 9998 44 _ _ (by kernel_rfl) (by kernel_rfl), Try.fieldsPrefix]
 have h1 : (Op.equalIn 9998 5 (.int .u8 f) (.int .u8 f')).run Try.prog w = .ok (f == f') w := run_equalIn_int w 9997 5 .u8 .u8 f f' Try.underlying5
 have h2 := eqin_adr h l h' l' w
 have h3 : (Op.equalIn 9998 3 (.int .i64 n) (.int .i64 n')).run Try.prog w = .ok (n == n') w := run_equalIn_int w 9997 3 .i64 .i64 n n' Try.underlying3
 simp only [Op.eqFields]
 rw [if_pos (by decide), if_pos (by decide), if_pos (by decide)]
 generalize ((h == h') && (l == l')) = b2 at h2 ⊢
 simp only [Sem.run_bind, part_fam, part_adr, part_len, Result.andThen_ok, h1, h2, h3]
 cases (f == f')
 ·
  simp
 ·
  simp only [Bool.not_true, Bool.false_eq_true, if_false, Sem.run_bind, part_adr, part_len, Result.andThen_ok, h2, h3]
  cases b2
  ·
   simp
  ·
   simp only [Bool.not_true, Bool.false_eq_true, if_false, Sem.run_bind, part_len, Result.andThen_ok, h3]
   cases (n == n') <;> simp
theorem neq_ap (x y : Ap) (w : World) : (binOp .neq 75 (.agg #[.int .u8 x.f, .int .u64 x.h, .int .u64 x.l, .int .i64 x.n, .int .i64 x.m]) (.agg #[.int .u8 y.f, .int .u64 y.h, .int .u64 y.l, .int .i64 y.n, .int .i64 y.m])).run Try.prog w = .ok (.bool (!(((x.f == y.f) && (((x.h == y.h) && (x.l == y.l)) && (x.n == y.n))) && (x.m == y.m)))) w := by
 rw [run_neq_struct, run_equalIn_struct w 9999 75 _ _ (by kernel_rfl) (by kernel_rfl), Try.fieldsAuth]
 have h1 := eqin_pre x.f x.h x.l x.n y.f y.h y.l y.n w
 have h2 : (Op.equalIn 9999 3 (.int .i64 x.m) (.int .i64 y.m)).run Try.prog w = .ok (x.m == y.m) w := run_equalIn_int w 9998 3 .i64 .i64 x.m y.m Try.underlying3
 simp only [Op.eqFields]
 rw [if_pos (by decide), if_pos (by decide)]
 generalize ((x.f == y.f) && (((x.h == y.h) && (x.l == y.l)) && (x.n == y.n))) = b1 at h1 ⊢
 simp only [Sem.run_bind, part_pre, part_max, Result.andThen_ok, h1, h2]
 cases b1
 ·
  simp
 ·
  simp only [Bool.not_true, Bool.false_eq_true, if_false, Sem.run_bind, part_max, Result.andThen_ok, h2]
  cases (x.m == y.m) <;> simp
def eqA (x y : Ap) : Bool := ((x.f == y.f) && (((x.h == y.h) && (x.l == y.l)) && (x.n == y.n))) && (x.m == y.m)
theorem eqA_iff (x y : Ap) : eqA x y = true ↔ x = y := by
 unfold eqA
 obtain ⟨a, b, c, d, e⟩ := x
 obtain ⟨a', b', c', d', e'⟩ := y
 simp only [Bool.and_eq_true, beq_iff_eq, Ap.mk.injEq]
 constructor
 ·
  rintro ⟨⟨h1, ⟨h2, h3⟩, h4⟩, h5⟩; exact ⟨h1, h2, h3, h4, h5⟩
 ·
  rintro ⟨h1, h2, h3, h4, h5⟩; exact ⟨⟨h1, ⟨h2, h3⟩, h4⟩, h5⟩
def eqL : List Ap → List Ap → Bool
 | [], [] => true
 | x :: r, y :: s => eqA x y && eqL r s
 | _, _ => false
theorem eqL_iff : ∀ l m : List Ap, eqL l m = true ↔ l = m
 | [], [] => by simp [eqL]
 | [], _ :: _ => by simp [eqL]
 | _ :: _, [] => by simp [eqL]
 | x :: r, y :: s => by rw [eqL, Bool.and_eq_true, eqA_iff, eqL_iff r s, List.cons.injEq]
theorem eqL_self (l : List Ap) : eqL l l = true := (eqL_iff l l).2 rfl
theorem eqL_at {l m : List Ap} {k : Nat} {x y : Ap} (hx : l[k]? = some x) (hy : m[k]? = some y) : eqL (l.drop k) (m.drop k) = (eqA x y && eqL (l.drop (k + 1)) (m.drop (k + 1))) := by
 rw [drop_at hx, drop_at hy, eqL]
theorem eqL_len : ∀ {l m : List Ap}, l.length ≠ m.length → eqL l m = false
 | [], [], h => absurd rfl h
 | [], _ :: _, _ => rfl
 | _ :: _, [], _ => rfl
 | x :: r, y :: s, h => by rw [eqL, eqL_len (l := r) (m := s) (by simpa using h), Bool.and_false]
set_option maxRecDepth 100000 in
set_option maxHeartbeats 4000000 in
theorem same_ref (sy sz : Int) (l m : List Ap) (A B : Option Addr) (c d : Nat) (hl : l.length ≤ 100000) (w : World) (hA : Aps A l w) (hB : Aps B m w) :
  Calls Try.prog 14 #[.agg #[.int .u32 sy, .slice A l.length c], .agg #[.int .u32 sz, .slice B m.length d]] w fun e w' => e = .returned (.bool ((sy == sz) && eqL l m)) ∧ Below w.heap.size w w' := by
 obtain ⟨n, hn⟩ : ∃ n, l.length = n := ⟨_, rfl⟩
 obtain ⟨n', hn'⟩ : ∃ n, m.length = n := ⟨_, rfl⟩
 have HA := Lib.hid hA
 have HBB := Lib.hid hB
 have HN := Lib.hid hn
 have HN' := Lib.hid hn'
 rw [hn] at hl
 rw [hn, hn']
 have hlen : n ≠ n' → eqL l m = false := fun h => eqL_len (by rw [hn, hn']; exact h)
 obtain ⟨R, hR⟩ : ∃ R, eqL l m = R := ⟨_, rfl⟩
 have HRR := Lib.hid hR
 rw [hR] at hlen ⊢
 have HB0 := Lib.hid ((below_new w (.cells #[.int .u32 sy, .slice A n c] 25)).alloc (by simp) (.cells #[.int .u32 sz, .slice B n' d] 25))
 have HX0 := Lib.hid (heap_alloc2_oldR w (.cells #[.int .u32 sy, .slice A n c] 25) (.cells #[.int .u32 sz, .slice B n' d] 25))
 have HY0 := Lib.hid (heap_alloc2_newR w (.cells #[.int .u32 sy, .slice A n c] 25) (.cells #[.int .u32 sz, .slice B n' d] 25))
 clear hn hn' hA hB hR
 by_cases hs : sy = sz
 ·
  have i1 : (sy != sz) = false := by rw [bne_eq_false_iff_eq]; exact hs
  have i0 : (sy == sz) = true := by rw [beq_iff_eq]; exact hs
  rw [i0, Bool.true_and]
  clear hs i0
  by_cases hnn : n = n'
  ·
   subst hnn
   have i2 : ((n : Int) != (n : Int)) = false := by simp
   clear hlen
   go_enter Try.func14, Try.ntmps14
   go_upto_region 1 with (fail)
   generalize hV : World.alloc (World.alloc w _) _ = V at HB0 HX0 HY0 ⊢
   clear hV
   obtain ⟨q1, a0, a1⟩ := facts2 HX0.out
   obtain ⟨q2, b0, b1⟩ := facts2 HY0.out
   go_wp2_with fail
   clear q1 q2 a0 a1 b0 b1
   go_loopw [5] (fun i wr => ∃ k : Nat, k ≤ n ∧ i = .int .i64 (k : Int) ∧ RowKit.Hid (Below V.heap.size V wr) ∧ RowKit.Hid (R = eqL (l.drop k) (m.drop k))) (fun i _ => n - (intOf i).toNat)
   case atStart => exact ⟨0, by omega, rfl, Lib.hid (Below.refl _ _), Lib.hid (by rw [List.drop_zero, List.drop_zero]; exact HRR.out.symm)⟩
   case round =>
   obtain ⟨k, hk, rfl, HBw, HQ⟩ := hrel
   have HB := Lib.hid (chain HB0.out HBw.out)
   have HXW := Lib.hid (row_on HX0.out HBw.out)
   have HYW := Lib.hid (row_on HY0.out HBw.out)
   obtain ⟨q1, a0, a1⟩ := facts2 HXW.out
   by_cases hlt : k < n
   ·
    obtain ⟨x, hx⟩ : ∃ x, l[k]? = some x := ⟨_, List.getElem?_eq_getElem (by rw [HN.out]; exact hlt)⟩
    obtain ⟨y, hy⟩ : ∃ x, m[k]? = some x := ⟨_, List.getElem?_eq_getElem (by rw [HN'.out]; exact hlt)⟩
    obtain ⟨g, o, hA, r1⟩ := HA.out.row k x hx
    obtain ⟨g', o', hB, r2⟩ := HBB.out.row k y hy
    subst hA hB
    have HR1 := Lib.hid (rangeAt_on r1 HB.out)
    have HR2 := Lib.hid (rangeAt_on r2 HB.out)
    have hki : (k : Int) < (n : Int) := by omega
    have hq := HQ.out.trans (eqL_at hx hy)
    have hne := fun (z : World) => neq_ap x y z
    have e9 : (((x.f == y.f) && (((x.h == y.h) && (x.l == y.l)) && (x.n == y.n))) && (x.m == y.m)) = eqA x y := rfl
    rw [e9] at hne
    clear r1 r2 hx hy e9
    generalize eqA x y = b at hq hne
    have mkS : ∀ z, Below wr.heap.size wr z → (fun (z : World) => z.heap[w.heap.size]? = some (.cells #[.int .u32 sy, .slice (some ⟨g, o, none⟩) n c] 25 (0, 0)) ∧ z.heap[w.heap.size + 1]? = some (.cells #[.int .u32 sz, .slice (some ⟨g', o', none⟩) n d] 25 (0, 0)) ∧ z.rangeAt g (o + k * 5) [.int .u8 x.f, .int .u64 x.h, .int .u64 x.l, .int .i64 x.n, .int .i64 x.m] ∧ z.rangeAt g' (o' + k * 5) [.int .u8 y.f, .int .u64 y.h, .int .u64 y.l, .int .i64 y.n, .int .i64 y.m]) z := fun z hz => ⟨row_on HXW.out hz, row_on HYW.out hz, rangeAt_on HR1.out hz, rangeAt_on HR2.out hz⟩
    go_wp2_with fail
    clear q1 a0 a1
    refine wp_region_held_drew (S := fun (z : World) => z.heap[w.heap.size]? = some (.cells #[.int .u32 sy, .slice (some ⟨g, o, none⟩) n c] 25 (0, 0)) ∧ z.heap[w.heap.size + 1]? = some (.cells #[.int .u32 sz, .slice (some ⟨g', o', none⟩) n d] 25 (0, 0)) ∧ z.rangeAt g (o + k * 5) [.int .u8 x.f, .int .u64 x.h, .int .u64 x.l, .int .i64 x.n, .int .i64 x.m] ∧ z.rangeAt g' (o' + k * 5) [.int .u8 y.f, .int .u64 y.h, .int .u64 y.l, .int .i64 y.n, .int .i64 y.m]) (by kernel_rfl) (mkS _ (Below.refl _ _).drew) (fun hHeld => ?_)
    generalize hU : World.drew wr = U at hHeld ⊢
    have HBC := Lib.hid (show Below wr.heap.size wr U by rw [← hU]; exact (Below.refl _ _).drew)
    clear hU
    refine wpAnyH_take (i := 0) (oi := { dst := some 27, op := .fieldAddr 25 (.tmp 2) 1, type := 0, pos := "ref.go:167", after := #[], guard := none }) (v := ?_) rfl (by kernel_rfl) (by kernel_rfl) (by kernel_rfl) (fun _ _ _ h => h) (Or.inl ⟨by rfl, ?_⟩) hHeld ?_
    rotate_left
    ·
     intro w hSw
     clear hSw
     go_simp
     try with_reducible rfl
    try simp only [Act.put, List.setIfInBounds_toArray, List.set_cons_zero, List.set_cons_succ]
    refine wpAnyH_take (i := 1) (oi := { dst := some 28, op := .load 23 (.tmp 27), type := 23, pos := "ref.go:167", after := #[{ on := 0, ground := .data }], guard := none }) (v := ?_) rfl (by kernel_rfl) (by kernel_rfl) (by kernel_rfl) (fun _ _ _ h => h) (Or.inl ⟨by rfl, ?_⟩) hHeld ?_
    rotate_left
    ·
     intro w hSw
     have hfc0 := hSw.1 |> c21
     clear hSw
     go_simp
     try with_reducible rfl
    try simp only [Act.put, List.setIfInBounds_toArray, List.set_cons_zero, List.set_cons_succ]
    refine wpAnyH_take (i := 2) (oi := { dst := some 29, op := .move (.tmp 5), type := 3, pos := "ref.go:167", after := #[], guard := none }) (v := ?_) rfl (by kernel_rfl) (by kernel_rfl) (by kernel_rfl) (fun _ _ _ h => h) (Or.inl ⟨by rfl, ?_⟩) hHeld ?_
    rotate_left
    ·
     intro w hSw
     clear hSw
     go_simp
     try with_reducible rfl
    try simp only [Act.put, List.setIfInBounds_toArray, List.set_cons_zero, List.set_cons_succ]
    refine wpAnyH_take (i := 3) (oi := { dst := some 30, op := .indexAddr 23 (.tmp 28) (.tmp 29), type := 0, pos := "ref.go:167", after := #[{ on := 1, ground := .data }, { on := 2, ground := .data }], guard := none }) (v := ?_) rfl (by kernel_rfl) (by kernel_rfl) (by kernel_rfl) (fun _ _ _ h => h) (Or.inl ⟨by rfl, ?_⟩) hHeld ?_
    rotate_left
    ·
     intro w hSw
     clear hSw
     go_simp
     try with_reducible rfl
    try simp only [Act.put, List.setIfInBounds_toArray, List.set_cons_zero, List.set_cons_succ]
    refine wpAnyH_take (i := 4) (oi := { dst := some 31, op := .load 75 (.tmp 30), type := 75, pos := "ref.go:167", after := #[{ on := 3, ground := .data }], guard := none }) (v := .agg ([.int .u8 x.f, .int .u64 x.h, .int .u64 x.l, .int .i64 x.n, .int .i64 x.m]).toArray) rfl (by kernel_rfl) (by kernel_rfl) (by kernel_rfl) (fun _ _ _ h => h) (yieldsIf_load_mid (by rfl) _ _ rfl _ _ rfl ([.int .u8 x.f, .int .u64 x.h, .int .u64 x.l, .int .i64 x.n, .int .i64 x.m]) _ (fun w hSw => hSw.2.2.1) Try.underlying75 rfl (sz5p _ _ _ _ _)) hHeld ?_
    try simp only [Act.put, List.setIfInBounds_toArray, List.set_cons_zero, List.set_cons_succ]
    refine wpAnyH_take (i := 5) (oi := { dst := some 32, op := .fieldAddr 25 (.tmp 3) 1, type := 0, pos := "ref.go:167", after := #[], guard := none }) (v := ?_) rfl (by kernel_rfl) (by kernel_rfl) (by kernel_rfl) (fun _ _ _ h => h) (Or.inl ⟨by rfl, ?_⟩) hHeld ?_
    rotate_left
    ·
     intro w hSw
     clear hSw
     go_simp
     try with_reducible rfl
    try simp only [Act.put, List.setIfInBounds_toArray, List.set_cons_zero, List.set_cons_succ]
    refine wpAnyH_take (i := 6) (oi := { dst := some 33, op := .load 23 (.tmp 32), type := 23, pos := "ref.go:167", after := #[{ on := 5, ground := .data }], guard := none }) (v := ?_) rfl (by kernel_rfl) (by kernel_rfl) (by kernel_rfl) (fun _ _ _ h => h) (Or.inl ⟨by rfl, ?_⟩) hHeld ?_
    rotate_left
    ·
     intro w hSw
     have hfc0 := hSw.2.1 |> c21
     clear hSw
     go_simp
     try with_reducible rfl
    try simp only [Act.put, List.setIfInBounds_toArray, List.set_cons_zero, List.set_cons_succ]
    refine wpAnyH_take (i := 7) (oi := { dst := some 34, op := .move (.tmp 5), type := 3, pos := "ref.go:167", after := #[], guard := none }) (v := ?_) rfl (by kernel_rfl) (by kernel_rfl) (by kernel_rfl) (fun _ _ _ h => h) (Or.inl ⟨by rfl, ?_⟩) hHeld ?_
    rotate_left
    ·
     intro w hSw
     clear hSw
     go_simp
     try with_reducible rfl
    try simp only [Act.put, List.setIfInBounds_toArray, List.set_cons_zero, List.set_cons_succ]
    refine wpAnyH_take (i := 8) (oi := { dst := some 35, op := .indexAddr 23 (.tmp 33) (.tmp 34), type := 0, pos := "ref.go:167", after := #[{ on := 6, ground := .data }, { on := 7, ground := .data }], guard := none }) (v := ?_) rfl (by kernel_rfl) (by kernel_rfl) (by kernel_rfl) (fun _ _ _ h => h) (Or.inl ⟨by rfl, ?_⟩) hHeld ?_
    rotate_left
    ·
     intro w hSw
     clear hSw
     go_simp
     try with_reducible rfl
    try simp only [Act.put, List.setIfInBounds_toArray, List.set_cons_zero, List.set_cons_succ]
    refine wpAnyH_take (i := 9) (oi := { dst := some 36, op := .load 75 (.tmp 35), type := 75, pos := "ref.go:167", after := #[{ on := 8, ground := .data }], guard := none }) (v := .agg ([.int .u8 y.f, .int .u64 y.h, .int .u64 y.l, .int .i64 y.n, .int .i64 y.m]).toArray) rfl (by kernel_rfl) (by kernel_rfl) (by kernel_rfl) (fun _ _ _ h => h) (yieldsIf_load_mid (by rfl) _ _ rfl _ _ rfl ([.int .u8 y.f, .int .u64 y.h, .int .u64 y.l, .int .i64 y.n, .int .i64 y.m]) _ (fun w hSw => hSw.2.2.2) Try.underlying75 rfl (sz5p _ _ _ _ _)) hHeld ?_
    try simp only [Act.put, List.setIfInBounds_toArray, List.set_cons_zero, List.set_cons_succ]
    refine wpAnyH_take (i := 10) (oi := { dst := some 37, op := .binOp .neq 75 (.tmp 31) (.tmp 36) 75, type := 4, pos := "ref.go:167", after := #[{ on := 4, ground := .data }, { on := 9, ground := .data }], guard := none }) (v := .bool (!b)) rfl (by kernel_rfl) (by kernel_rfl) (by kernel_rfl) (fun _ _ _ h => h) (Or.inl ⟨by rfl, ?_⟩) hHeld ?_
    ·
     intro w hSw
     clear hSw
     have hnw := hne w
     go_simp
     try exact hnw
     try simp [hnw]
    try simp only [Act.put, List.setIfInBounds_toArray, List.set_cons_zero, List.set_cons_succ]
    refine wpAnyH_done (by kernel_rfl) ?_ _
    cases b with
    | true =>
     have HS := Lib.hid (show R = eqL (l.drop (k + 1)) (m.drop (k + 1)) by rw [hq]; rfl)
     clear hq hne
     go_wp2_with fail
     exact ⟨⟨k + 1, by omega, by go_num, Lib.hid (chain HBw.out HBC.out), HS⟩, by simp [intOf]; omega⟩
    | false =>
     have HS := Lib.hid (show R = false by rw [hq]; rfl)
     clear hq hne
     go_wp2_with fail
     go_ret
     exact ⟨by rw [HS.out]; rfl, chain HB.out HBC.out⟩
   ·
    have hki : ¬ (k : Int) < (n : Int) := by omega
    have HS : RowKit.Hid (R = true) := Lib.hid (by
     have h1 : l.drop k = [] := List.drop_of_length_le (by rw [HN.out]; omega)
     have h2 : m.drop k = [] := List.drop_of_length_le (by rw [HN'.out]; omega)
     rw [HQ.out, h1, h2]
     rfl)
    go_wp2_with fail
    go_ret
    exact ⟨by rw [HS.out]; rfl, HB.out⟩
  ·
   have i2 : ((n : Int) != (n' : Int)) = true := by rw [bne_iff_ne]; omega
   have HS := Lib.hid (hlen hnn)
   clear hlen hnn
   go_enter Try.func14, Try.ntmps14
   go_upto_region 1 with (fail)
   generalize hV : World.alloc (World.alloc w _) _ = V at HB0 HX0 HY0 ⊢
   clear hV
   obtain ⟨q1, a0, a1⟩ := facts2 HX0.out
   obtain ⟨q2, b0, b1⟩ := facts2 HY0.out
   go_wp2_with fail
   go_ret
   exact ⟨by rw [HS.out]; rfl, HB0.out⟩
 ·
  have i1 : (sy != sz) = true := by rw [bne_iff_ne]; exact hs
  have i0 : (sy == sz) = false := by rw [beq_eq_false_iff_ne]; exact hs
  rw [i0, Bool.false_and]
  clear hs i0 hlen
  go_enter Try.func14, Try.ntmps14
  go_upto_region 1 with (fail)
  generalize hV : World.alloc (World.alloc w _) _ = V at HB0 HX0 HY0 ⊢
  clear hV
  obtain ⟨q1, a0, a1⟩ := facts2 HX0.out
  obtain ⟨q2, b0, b1⟩ := facts2 HY0.out
  go_wp2_with fail
  go_ret
  exact ⟨rfl, HB0.out⟩
end Ro
end Go.Proofs.Ythfgdgcdicacpaa
