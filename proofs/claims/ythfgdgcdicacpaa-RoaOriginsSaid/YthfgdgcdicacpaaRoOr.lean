import Derived.Test.YthfgdgcdicacpaaRoS
import Derived.Test.YthfgdgcdicacpaaRoT
namespace Go.Proofs.Ythfgdgcdicacpaa
namespace Ro
open Go.RowKit Sha Oc En Adr
set_option linter.unusedVariables false
set_option linter.unusedSimpArgs false
theorem r60 {V : World} {g o : Nat} {a b c d e f : Value} (H : V.rangeAt g o [a, b, c, d, e, f]) : V.cell? ⟨g, o, none⟩ = some a := H 0 _ rfl
theorem r65 {V : World} {g o : Nat} {a b c d e f : Value} (H : V.rangeAt g o [a, b, c, d, e, f]) : V.cell? ⟨g, o + 5, none⟩ = some f := H 5 _ rfl
theorem t61 {V : World} {g o : Nat} {a b c d e f : Value} (H : V.rangeAt g o [a, b, c, d, e, f]) : V.rangeAt g (o + 1) [b, c, d, e] := fun j v hj => by
 have h1 := H (j + 1) v (by
  rcases j with _ | _ | _ | _ | j
  all_goals first | exact hj | (simp at hj))
 have e9 : o + 1 + j = o + (j + 1) := by omega
 rw [e9]
 exact h1
set_option maxRecDepth 100000 in
set_option maxHeartbeats 8000000 in
theorem laworigins_any (ra : Ra) (hw : Wf ra) (A : Option Addr) (c : Nat) (pf ph pl pn : Int) (uph : U64 ph) (upl : U64 pl) (a : Int) (w : World) (hp : Aps A ra.ps w) :
  Calls Try.prog 7 #[.agg #[.int .u32 ra.sy, .slice A ra.ps.length c], .agg #[.int .u8 pf, .int .u64 ph, .int .u64 pl, .int .i64 pn], .int .u32 a] w fun e w' => e = .returned (.bool true) ∧ Below w.heap.size w w' := by
 obtain ⟨sy, ps⟩ := ra
 dsimp only at hp ⊢
 have HAL := Lib.hid (fun (V : World) => alive14_any V)
 have HP1 := Lib.hid (fun (hl : ps.length ≤ 100000) (V : World) (hb : Below w.heap.size w V) => allows_any sy ps A c hl hw.ps pf ph pl pn uph upl a V (hp.on hb))
 have HP2 := Lib.hid (fun (hl : ps.length ≤ 100000) (V : World) (hb : Below w.heap.size w V) => origins_any sy ps A c hl hw.ps V (hp.on hb))
 have HK := Lib.hid (fun (V : World) => chk_any pf ph pl pn V uph upl)
 have HCA := Lib.hid (fun (x : Ap) (hx : x ∈ ps) (V : World) => cov_any x.f x.h x.l x.n pf ph pl pn V (hw.ps x hx).h (hw.ps x hx).l uph upl)
 obtain ⟨n, hn⟩ : ∃ n, ps.length = n := ⟨_, rfl⟩
 have HN := Lib.hid hn
 unfold OrP at HP2
 rw [hn] at HP1 HP2 ⊢
 have HG := Lib.hid (fun (V : World) => great_any sy n A c V)
 obtain ⟨wW, hWW⟩ : ∃ W : Ap → Bool, W = fun x => (decide (a = sy) && decide (a ≠ 0)) && prA pf ph pl pn x := ⟨_, rfl⟩
 have HWW := Lib.hid (fun x => congrFun hWW x)
 have hv : (raC ps ≠ 0 ∧ alE ps pf ph pl pn = raC ps ∧ alV sy ps pf ph pl pn a = false) ∨ (raC ps = 0 ∧ alE ps pf ph pl pn = chk pf ph pl pn ∧ ((chk pf ph pl pn ≠ 0 ∧ alV sy ps pf ph pl pn a = false) ∨ (chk pf ph pl pn = 0 ∧ alV sy ps pf ph pl pn a = ps.any wW))) := by
  unfold alV alE
  by_cases h1 : raC ps = 0
  ·
   rw [if_pos h1]
   by_cases h2 : chk pf ph pl pn = 0
   ·
    refine .inr ⟨h1, rfl, .inr ⟨h2, ?_⟩⟩
    by_cases h3 : a ≠ 0 ∧ a = sy
    ·
     rw [if_pos ⟨h2, h3⟩, hWW]
     congr 1
     funext x
     rw [decide_eq_true h3.1, decide_eq_true h3.2]
     rfl
    ·
     rw [if_neg (fun h => h3 h.2), hWW]
     symm
     rw [List.any_eq_false]
     intro x _ hx
     simp only [Bool.and_eq_true, decide_eq_true_eq] at hx
     exact h3 ⟨hx.1.2, hx.1.1⟩
   ·
    exact .inr ⟨h1, rfl, .inl ⟨h2, if_neg (fun h => h2 h.1)⟩⟩
  ·
   rw [if_neg h1]
   exact .inl ⟨h1, rfl, if_neg (fun h => h1 h.1)⟩
 generalize alV sy ps pf ph pl pn a = RV at HP1 hv
 generalize alE ps pf ph pl pn = RE at HP1 hv
 generalize raC ps = CK at HP2 hv
 generalize chk pf ph pl pn = CP at HK hv
 have HVV := Lib.hid hv
 unfold AlP at HP1
 have HB0 := Lib.hid ((below_new w (.cells #[.int .u32 sy, .slice A n c] 25)).alloc (by simp) (.cells #[.int .u8 pf, .int .u64 ph, .int .u64 pl, .int .i64 pn] 44))
 have HR0 := Lib.hid (heap_alloc2_oldR w (.cells #[.int .u32 sy, .slice A n c] 25) (.cells #[.int .u8 pf, .int .u64 ph, .int .u64 pl, .int .i64 pn] 44))
 have HQ0 := Lib.hid (heap_alloc2_newR w (.cells #[.int .u32 sy, .slice A n c] 25) (.cells #[.int .u8 pf, .int .u64 ph, .int .u64 pl, .int .i64 pn] 44))
 clear hv hn hw hp uph upl hWW
 go_enter Try.func7, Try.ntmps7
 go_upto_region 1 with (fail)
 generalize hV : World.alloc (World.alloc w _) _ = V at HB0 HR0 HQ0 ⊢
 clear hV
 go_wp2_with fail
 refine (HAL.out V).mono ?_
 rintro e w1 ⟨rfl, hb⟩
 have HB1 := Lib.hid (chain HB0.out hb)
 have HR1 := Lib.hid (row_on HR0.out hb)
 have HQ1 := Lib.hid (row_on HQ0.out hb)
 clear hb
 obtain ⟨hlt, c0, c1⟩ := facts2 HR1.out
 go_wp2_with fail
 refine (HG.out w1).mono ?_
 rintro e w2 ⟨rfl, hb⟩
 have HB2 := Lib.hid (chain HB1.out hb)
 have HR2 := Lib.hid (row_on HR1.out hb)
 have HQ2 := Lib.hid (row_on HQ1.out hb)
 clear hb c0 c1 hlt
 by_cases h : 130 < n
 ·
  rw [decide_eq_true h]
  go_wp2_with fail
  go_ret
  exact ⟨rfl, HB2.out⟩
 ·
  rw [decide_eq_false h]
  have H1 := Lib.hid (HP1.out (by omega) w2 HB2.out)
  have H2 := Lib.hid (HP2.out (by omega))
  have HL := Lib.hid (show n ≤ 100000 by omega)
  clear h HP1 HP2
  obtain ⟨hlt, c0, c1⟩ := facts2 HR2.out
  obtain ⟨hlt', p0, p1, p2, p3⟩ := facts4 HQ2.out
  go_wp2_with fail
  refine H1.out.mono ?_
  rintro e w3 ⟨rfl, hb⟩
  have HB3 := Lib.hid (chain HB2.out hb)
  have HR3 := Lib.hid (row_on HR2.out hb)
  have HQ3 := Lib.hid (row_on HQ2.out hb)
  clear hb c0 c1 hlt p0 p1 p2 p3 hlt'
  obtain ⟨hlt, c0, c1⟩ := facts2 HR3.out
  go_wp2_with fail
  refine (H2.out w3 HB3.out).mono ?_
  rintro e w4 ⟨hb, ⟨h0, A1, d1, rfl, hog⟩ | ⟨h0, rfl⟩⟩
  ·
   have HB4 := Lib.hid (chain HB3.out hb)
   have HR4 := Lib.hid (row_on HR3.out hb)
   have HQ4 := Lib.hid (row_on HQ3.out hb)
   have HOG := Lib.hid hog
   obtain ⟨hre, hrest⟩ : RE = CP ∧ ((CP ≠ 0 ∧ RV = false) ∨ (CP = 0 ∧ RV = ps.any wW)) := by
    rcases HVV.out with ⟨h9, _⟩ | ⟨_, h8, h7⟩
    ·
     exact absurd h0 h9
    ·
     exact ⟨h8, h7⟩
   subst hre
   clear hb c0 c1 hlt hog HVV h0
   rcases hrest with ⟨h1, h2⟩ | ⟨h1, h2⟩
   ·
    have hc : (RE != 0) = true := by rw [bne_iff_ne]; exact h1
    subst h2
    obtain ⟨hlt', p0, p1, p2, p3⟩ := facts4 HQ4.out
    go_wp2_with fail
    refine (HK.out w4).mono ?_
    rintro e w5 ⟨rfl, hb⟩
    have HB5 := Lib.hid (chain HB4.out hb)
    clear hb hlt' p0 p1 p2 p3
    go_wp2_with fail
    go_ret
    exact ⟨by simp, HB5.out⟩
   ·
    subst h1
    have HRV := Lib.hid h2
    obtain ⟨V4, hV4⟩ : ∃ W, w4 = W := ⟨_, rfl⟩
    subst hV4
    clear h2
    go_wp2_with fail
    go_loopw [12, 13] (fun want i wr => ∃ (k : Nat) (b : Bool), k ≤ n ∧ want = .bool b ∧ i = .int .i64 (k : Int) ∧ RowKit.Hid (Below w4.heap.size w4 wr) ∧ RowKit.Hid (RV = (b || (ps.drop k).any wW))) (fun _ i _ => n - (intOf i).toNat)
    case atStart => exact ⟨0, false, by omega, rfl, rfl, Lib.hid (Below.refl _ _), Lib.hid (by rw [List.drop_zero, Bool.false_or]; exact HRV.out)⟩
    case round =>
    obtain ⟨k, b, hk, rfl, rfl, HBw, HQ⟩ := hrel
    have HPW := Lib.hid (row_on HQ4.out HBw.out)
    by_cases hlt : k < n
    ·
     have hl := HL.out
     obtain ⟨x, hx⟩ : ∃ x, ps[k]? = some x := ⟨_, List.getElem?_eq_getElem (by rw [HN.out]; exact hlt)⟩
     obtain ⟨g, o, hA, r1⟩ := HOG.out.row k x hx
     subst hA
     have HXW := Lib.hid (rangeAt_on r1 HBw.out)
     have hki : (k : Int) < (n : Int) := by omega
     have HCV := Lib.hid (HCA.out x (List.mem_of_getElem? hx))
     have hq := HQ.out
     rw [drop_at hx, List.any_cons, HWW.out x] at hq
     have hpr : prA pf ph pl pn x = (cov x.f x.h x.l x.n pf ph pl pn && decide (pn ≤ x.m)) := rfl
     rw [hpr] at hq
     generalize cov x.f x.h x.l x.n pf ph pl pn = cv at HCV hq
     clear r1 hx hpr
     cases b with
     | true =>
      have HS := Lib.hid (show RV = (true || (ps.drop (k + 1)).any wW) by rw [hq, Bool.true_or, Bool.true_or])
      clear hq
      go_upto_region 14 with (fail)
      have mkS : ∀ z, Below wr.heap.size wr z → (fun (z : World) => z.heap[w.heap.size + 1]? = some (.cells #[.int .u8 pf, .int .u64 ph, .int .u64 pl, .int .i64 pn] 44 (0, 0)) ∧ z.rangeAt g (o + k * 6) [.int .u32 sy, .int .u8 x.f, .int .u64 x.h, .int .u64 x.l, .int .i64 x.n, .int .i64 x.m]) z := fun z hz => ⟨row_on HPW.out hz, rangeAt_on HXW.out hz⟩
      refine wp_region_held_drew (S := fun (z : World) => z.heap[w.heap.size + 1]? = some (.cells #[.int .u8 pf, .int .u64 ph, .int .u64 pl, .int .i64 pn] 44 (0, 0)) ∧ z.rangeAt g (o + k * 6) [.int .u32 sy, .int .u8 x.f, .int .u64 x.h, .int .u64 x.l, .int .i64 x.n, .int .i64 x.m]) (by kernel_rfl) (mkS _ (Below.refl _ _).drew) (fun hHeld => ?_)
      generalize hU : World.drew wr = U at hHeld ⊢
      have HBC := Lib.hid (show Below wr.heap.size wr U by rw [← hU]; exact (Below.refl _ _).drew)
      clear hU
      refine wpAnyH_take (i := 0) (oi := { dst := some 70, op := .move (.tmp 12), type := 4, pos := "law.go:151", after := #[], guard := none }) (v := ?_) rfl (by kernel_rfl) (by kernel_rfl) (by kernel_rfl) (fun _ _ _ h => h) (Or.inl ⟨by rfl, ?_⟩) hHeld ?_
      rotate_left
      ·
       intro w hSw
       clear hSw
       go_simp
       try with_reducible rfl
      try simp only [Act.put, List.setIfInBounds_toArray, List.set_cons_zero, List.set_cons_succ]
      refine wpAnyH_take (i := 1) (oi := { dst := some 71, op := .move (.tmp 70), type := 4, pos := "law.go:151", after := #[{ on := 0, ground := .data }], guard := none }) (v := ?_) rfl (by kernel_rfl) (by kernel_rfl) (by kernel_rfl) (fun _ _ _ h => h) (Or.inl ⟨by rfl, ?_⟩) hHeld ?_
      rotate_left
      ·
       intro w hSw
       clear hSw
       go_simp
       try with_reducible rfl
      try simp only [Act.put, List.setIfInBounds_toArray, List.set_cons_zero, List.set_cons_succ]
      refine wpAnyH_take (i := 2) (oi := { dst := some 72, op := .move (.tmp 10), type := 53, pos := "law.go:151", after := #[{ on := 1, ground := .guard }], guard := some (1, false) }) (v := undef) rfl (by kernel_rfl) (by kernel_rfl) (by kernel_rfl) (fun _ _ _ h => h) (Or.inr ⟨by rfl, rfl⟩) hHeld ?_
      try simp only [Act.put, List.setIfInBounds_toArray, List.set_cons_zero, List.set_cons_succ]
      refine wpAnyH_take (i := 3) (oi := { dst := some 73, op := .move (.tmp 13), type := 3, pos := "law.go:151", after := #[{ on := 1, ground := .guard }], guard := some (1, false) }) (v := undef) rfl (by kernel_rfl) (by kernel_rfl) (by kernel_rfl) (fun _ _ _ h => h) (Or.inr ⟨by rfl, rfl⟩) hHeld ?_
      try simp only [Act.put, List.setIfInBounds_toArray, List.set_cons_zero, List.set_cons_succ]
      refine wpAnyH_take (i := 4) (oi := { dst := some 74, op := .indexAddr 53 (.tmp 72) (.tmp 73), type := 0, pos := "law.go:151", after := #[{ on := 2, ground := .data }, { on := 3, ground := .data }, { on := 1, ground := .guard }], guard := some (1, false) }) (v := undef) rfl (by kernel_rfl) (by kernel_rfl) (by kernel_rfl) (fun _ _ _ h => h) (Or.inr ⟨by rfl, rfl⟩) hHeld ?_
      try simp only [Act.put, List.setIfInBounds_toArray, List.set_cons_zero, List.set_cons_succ]
      refine wpAnyH_take (i := 5) (oi := { dst := some 75, op := .fieldAddr 58 (.tmp 74) 0, type := 0, pos := "law.go:151", after := #[{ on := 4, ground := .data }, { on := 1, ground := .guard }], guard := some (1, false) }) (v := undef) rfl (by kernel_rfl) (by kernel_rfl) (by kernel_rfl) (fun _ _ _ h => h) (Or.inr ⟨by rfl, rfl⟩) hHeld ?_
      try simp only [Act.put, List.setIfInBounds_toArray, List.set_cons_zero, List.set_cons_succ]
      refine wpAnyH_take (i := 6) (oi := { dst := some 76, op := .load 22 (.tmp 75), type := 22, pos := "law.go:151", after := #[{ on := 5, ground := .data }, { on := 1, ground := .guard }], guard := some (1, false) }) (v := undef) rfl (by kernel_rfl) (by kernel_rfl) (by kernel_rfl) (fun _ _ _ h => h) (Or.inr ⟨by rfl, rfl⟩) hHeld ?_
      try simp only [Act.put, List.setIfInBounds_toArray, List.set_cons_zero, List.set_cons_succ]
      refine wpAnyH_take (i := 7) (oi := { dst := some 77, op := .move (.tmp 2), type := 22, pos := "law.go:151", after := #[{ on := 1, ground := .guard }], guard := some (1, false) }) (v := undef) rfl (by kernel_rfl) (by kernel_rfl) (by kernel_rfl) (fun _ _ _ h => h) (Or.inr ⟨by rfl, rfl⟩) hHeld ?_
      try simp only [Act.put, List.setIfInBounds_toArray, List.set_cons_zero, List.set_cons_succ]
      refine wpAnyH_take (i := 8) (oi := { dst := some 78, op := .binOp .eql 22 (.tmp 76) (.tmp 77) 22, type := 4, pos := "law.go:151", after := #[{ on := 6, ground := .data }, { on := 7, ground := .data }, { on := 1, ground := .guard }], guard := some (1, false) }) (v := undef) rfl (by kernel_rfl) (by kernel_rfl) (by kernel_rfl) (fun _ _ _ h => h) (Or.inr ⟨by rfl, rfl⟩) hHeld ?_
      try simp only [Act.put, List.setIfInBounds_toArray, List.set_cons_zero, List.set_cons_succ]
      refine wpAnyH_take (i := 9) (oi := { dst := some 79, op := .move (.tmp 78), type := 4, pos := "law.go:151", after := #[{ on := 8, ground := .data }, { on := 1, ground := .chain }, { on := 1, ground := .guard }], guard := some (1, false) }) (v := undef) rfl (by kernel_rfl) (by kernel_rfl) (by kernel_rfl) (fun _ _ _ h => h) (Or.inr ⟨by rfl, rfl⟩) hHeld ?_
      try simp only [Act.put, List.setIfInBounds_toArray, List.set_cons_zero, List.set_cons_succ]
      refine wpAnyH_take (i := 10) (oi := { dst := some 80, op := .move (.tmp 2), type := 22, pos := "law.go:151", after := #[{ on := 9, ground := .guard }], guard := some (9, true) }) (v := undef) rfl (by kernel_rfl) (by kernel_rfl) (by kernel_rfl) (fun _ _ _ h => h) (Or.inr ⟨by rfl, rfl⟩) hHeld ?_
      try simp only [Act.put, List.setIfInBounds_toArray, List.set_cons_zero, List.set_cons_succ]
      refine wpAnyH_take (i := 11) (oi := { dst := some 81, op := .binOp .neq 22 (.tmp 80) (.const (.int .u32 0)) 22, type := 4, pos := "law.go:151", after := #[{ on := 10, ground := .data }, { on := 9, ground := .guard }], guard := some (9, true) }) (v := undef) rfl (by kernel_rfl) (by kernel_rfl) (by kernel_rfl) (fun _ _ _ h => h) (Or.inr ⟨by rfl, rfl⟩) hHeld ?_
      try simp only [Act.put, List.setIfInBounds_toArray, List.set_cons_zero, List.set_cons_succ]
      refine wpAnyH_take (i := 12) (oi := { dst := some 82, op := .pick (.tmp 79) (.tmp 81) (.const (.bool false)), type := 4, pos := "law.go:151", after := #[{ on := 9, ground := .data }, { on := 11, ground := .data }, { on := 1, ground := .guard }], guard := some (1, false) }) (v := undef) rfl (by kernel_rfl) (by kernel_rfl) (by kernel_rfl) (fun _ _ _ h => h) (Or.inr ⟨by rfl, rfl⟩) hHeld ?_
      try simp only [Act.put, List.setIfInBounds_toArray, List.set_cons_zero, List.set_cons_succ]
      refine wpAnyH_take (i := 13) (oi := { dst := some 83, op := .move (.tmp 82), type := 4, pos := "law.go:151", after := #[{ on := 12, ground := .data }, { on := 9, ground := .chain }, { on := 1, ground := .guard }], guard := some (1, false) }) (v := undef) rfl (by kernel_rfl) (by kernel_rfl) (by kernel_rfl) (fun _ _ _ h => h) (Or.inr ⟨by rfl, rfl⟩) hHeld ?_
      try simp only [Act.put, List.setIfInBounds_toArray, List.set_cons_zero, List.set_cons_succ]
      refine wpAnyH_take (i := 14) (oi := { dst := some 84, op := .move (.tmp 10), type := 53, pos := "law.go:151", after := #[{ on := 13, ground := .guard }], guard := some (13, true) }) (v := undef) rfl (by kernel_rfl) (by kernel_rfl) (by kernel_rfl) (fun _ _ _ h => h) (Or.inr ⟨by rfl, rfl⟩) hHeld ?_
      try simp only [Act.put, List.setIfInBounds_toArray, List.set_cons_zero, List.set_cons_succ]
      refine wpAnyH_take (i := 15) (oi := { dst := some 85, op := .move (.tmp 13), type := 3, pos := "law.go:151", after := #[{ on := 13, ground := .guard }], guard := some (13, true) }) (v := undef) rfl (by kernel_rfl) (by kernel_rfl) (by kernel_rfl) (fun _ _ _ h => h) (Or.inr ⟨by rfl, rfl⟩) hHeld ?_
      try simp only [Act.put, List.setIfInBounds_toArray, List.set_cons_zero, List.set_cons_succ]
      refine wpAnyH_take (i := 16) (oi := { dst := some 86, op := .indexAddr 53 (.tmp 84) (.tmp 85), type := 0, pos := "law.go:151", after := #[{ on := 14, ground := .data }, { on := 15, ground := .data }, { on := 13, ground := .guard }], guard := some (13, true) }) (v := undef) rfl (by kernel_rfl) (by kernel_rfl) (by kernel_rfl) (fun _ _ _ h => h) (Or.inr ⟨by rfl, rfl⟩) hHeld ?_
      try simp only [Act.put, List.setIfInBounds_toArray, List.set_cons_zero, List.set_cons_succ]
      refine wpAnyH_take (i := 17) (oi := { dst := some 87, op := .fieldAddr 58 (.tmp 86) 1, type := 0, pos := "law.go:151", after := #[{ on := 16, ground := .data }, { on := 13, ground := .guard }], guard := some (13, true) }) (v := undef) rfl (by kernel_rfl) (by kernel_rfl) (by kernel_rfl) (fun _ _ _ h => h) (Or.inr ⟨by rfl, rfl⟩) hHeld ?_
      try simp only [Act.put, List.setIfInBounds_toArray, List.set_cons_zero, List.set_cons_succ]
      refine wpAnyH_take (i := 18) (oi := { dst := some 88, op := .load 44 (.tmp 87), type := 44, pos := "law.go:151", after := #[{ on := 17, ground := .data }, { on := 13, ground := .guard }], guard := some (13, true) }) (v := undef) rfl (by kernel_rfl) (by kernel_rfl) (by kernel_rfl) (fun _ _ _ h => h) (Or.inr ⟨by rfl, rfl⟩) hHeld ?_
      try simp only [Act.put, List.setIfInBounds_toArray, List.set_cons_zero, List.set_cons_succ]
      refine wpAnyH_take (i := 19) (oi := { dst := some 89, op := .load 44 (.tmp 4), type := 44, pos := "law.go:151", after := #[{ on := 13, ground := .guard }], guard := some (13, true) }) (v := undef) rfl (by kernel_rfl) (by kernel_rfl) (by kernel_rfl) (fun _ _ _ h => h) (Or.inr ⟨by rfl, rfl⟩) hHeld ?_
      try simp only [Act.put, List.setIfInBounds_toArray, List.set_cons_zero, List.set_cons_succ]
      refine wpAnyH_take (i := 20) (oi := { dst := some 90, op := .call { callee := .value (.func 21), args := #[.tmp 88, .tmp 89], argTypes := #[44, 44] }, type := 4, pos := "law.go:151", after := #[{ on := 18, ground := .data }, { on := 19, ground := .data }, { on := 13, ground := .chain }, { on := 13, ground := .guard }], guard := some (13, true) }) (v := undef) rfl (by kernel_rfl) (by kernel_rfl) (by kernel_rfl) (fun _ _ _ h => h) (Or.inr ⟨by rfl, rfl⟩) hHeld ?_
      try simp only [Act.put, List.setIfInBounds_toArray, List.set_cons_zero, List.set_cons_succ]
      refine wpAnyH_take (i := 21) (oi := { dst := some 91, op := .pick (.tmp 83) (.tmp 90) (.const (.bool false)), type := 4, pos := "law.go:151", after := #[{ on := 13, ground := .data }, { on := 20, ground := .data }, { on := 1, ground := .guard }], guard := some (1, false) }) (v := undef) rfl (by kernel_rfl) (by kernel_rfl) (by kernel_rfl) (fun _ _ _ h => h) (Or.inr ⟨by rfl, rfl⟩) hHeld ?_
      try simp only [Act.put, List.setIfInBounds_toArray, List.set_cons_zero, List.set_cons_succ]
      refine wpAnyH_take (i := 22) (oi := { dst := some 92, op := .move (.tmp 91), type := 4, pos := "law.go:151", after := #[{ on := 21, ground := .data }, { on := 20, ground := .chain }, { on := 1, ground := .guard }], guard := some (1, false) }) (v := undef) rfl (by kernel_rfl) (by kernel_rfl) (by kernel_rfl) (fun _ _ _ h => h) (Or.inr ⟨by rfl, rfl⟩) hHeld ?_
      try simp only [Act.put, List.setIfInBounds_toArray, List.set_cons_zero, List.set_cons_succ]
      refine wpAnyH_take (i := 23) (oi := { dst := some 93, op := .fieldAddr 44 (.tmp 4) 2, type := 0, pos := "law.go:151", after := #[{ on := 22, ground := .guard }], guard := some (22, true) }) (v := undef) rfl (by kernel_rfl) (by kernel_rfl) (by kernel_rfl) (fun _ _ _ h => h) (Or.inr ⟨by rfl, rfl⟩) hHeld ?_
      try simp only [Act.put, List.setIfInBounds_toArray, List.set_cons_zero, List.set_cons_succ]
      refine wpAnyH_take (i := 24) (oi := { dst := some 94, op := .load 3 (.tmp 93), type := 3, pos := "law.go:151", after := #[{ on := 23, ground := .data }, { on := 22, ground := .guard }], guard := some (22, true) }) (v := undef) rfl (by kernel_rfl) (by kernel_rfl) (by kernel_rfl) (fun _ _ _ h => h) (Or.inr ⟨by rfl, rfl⟩) hHeld ?_
      try simp only [Act.put, List.setIfInBounds_toArray, List.set_cons_zero, List.set_cons_succ]
      refine wpAnyH_take (i := 25) (oi := { dst := some 95, op := .move (.tmp 10), type := 53, pos := "law.go:151", after := #[{ on := 22, ground := .guard }], guard := some (22, true) }) (v := undef) rfl (by kernel_rfl) (by kernel_rfl) (by kernel_rfl) (fun _ _ _ h => h) (Or.inr ⟨by rfl, rfl⟩) hHeld ?_
      try simp only [Act.put, List.setIfInBounds_toArray, List.set_cons_zero, List.set_cons_succ]
      refine wpAnyH_take (i := 26) (oi := { dst := some 96, op := .move (.tmp 13), type := 3, pos := "law.go:151", after := #[{ on := 22, ground := .guard }], guard := some (22, true) }) (v := undef) rfl (by kernel_rfl) (by kernel_rfl) (by kernel_rfl) (fun _ _ _ h => h) (Or.inr ⟨by rfl, rfl⟩) hHeld ?_
      try simp only [Act.put, List.setIfInBounds_toArray, List.set_cons_zero, List.set_cons_succ]
      refine wpAnyH_take (i := 27) (oi := { dst := some 97, op := .indexAddr 53 (.tmp 95) (.tmp 96), type := 0, pos := "law.go:151", after := #[{ on := 25, ground := .data }, { on := 26, ground := .data }, { on := 22, ground := .guard }], guard := some (22, true) }) (v := undef) rfl (by kernel_rfl) (by kernel_rfl) (by kernel_rfl) (fun _ _ _ h => h) (Or.inr ⟨by rfl, rfl⟩) hHeld ?_
      try simp only [Act.put, List.setIfInBounds_toArray, List.set_cons_zero, List.set_cons_succ]
      refine wpAnyH_take (i := 28) (oi := { dst := some 98, op := .fieldAddr 58 (.tmp 97) 2, type := 0, pos := "law.go:151", after := #[{ on := 27, ground := .data }, { on := 22, ground := .guard }], guard := some (22, true) }) (v := undef) rfl (by kernel_rfl) (by kernel_rfl) (by kernel_rfl) (fun _ _ _ h => h) (Or.inr ⟨by rfl, rfl⟩) hHeld ?_
      try simp only [Act.put, List.setIfInBounds_toArray, List.set_cons_zero, List.set_cons_succ]
      refine wpAnyH_take (i := 29) (oi := { dst := some 99, op := .load 3 (.tmp 98), type := 3, pos := "law.go:151", after := #[{ on := 28, ground := .data }, { on := 22, ground := .guard }], guard := some (22, true) }) (v := undef) rfl (by kernel_rfl) (by kernel_rfl) (by kernel_rfl) (fun _ _ _ h => h) (Or.inr ⟨by rfl, rfl⟩) hHeld ?_
      try simp only [Act.put, List.setIfInBounds_toArray, List.set_cons_zero, List.set_cons_succ]
      refine wpAnyH_take (i := 30) (oi := { dst := some 100, op := .binOp .leq 3 (.tmp 94) (.tmp 99) 3, type := 4, pos := "law.go:151", after := #[{ on := 24, ground := .data }, { on := 29, ground := .data }, { on := 22, ground := .guard }], guard := some (22, true) }) (v := undef) rfl (by kernel_rfl) (by kernel_rfl) (by kernel_rfl) (fun _ _ _ h => h) (Or.inr ⟨by rfl, rfl⟩) hHeld ?_
      try simp only [Act.put, List.setIfInBounds_toArray, List.set_cons_zero, List.set_cons_succ]
      refine wpAnyH_take (i := 31) (oi := { dst := some 101, op := .pick (.tmp 92) (.tmp 100) (.const (.bool false)), type := 4, pos := "law.go:151", after := #[{ on := 22, ground := .data }, { on := 30, ground := .data }, { on := 1, ground := .guard }], guard := some (1, false) }) (v := undef) rfl (by kernel_rfl) (by kernel_rfl) (by kernel_rfl) (fun _ _ _ h => h) (Or.inr ⟨by rfl, rfl⟩) hHeld ?_
      try simp only [Act.put, List.setIfInBounds_toArray, List.set_cons_zero, List.set_cons_succ]
      refine wpAnyH_take (i := 32) (oi := { dst := some 102, op := .pick (.tmp 71) (.const (.bool true)) (.tmp 101), type := 4, pos := "law.go:151", after := #[{ on := 1, ground := .data }, { on := 31, ground := .data }], guard := none }) (v := ?_) rfl (by kernel_rfl) (by kernel_rfl) (by kernel_rfl) (fun _ _ _ h => h) (Or.inl ⟨by rfl, ?_⟩) hHeld ?_
      rotate_left
      ·
       intro w hSw
       clear hSw
       go_simp
       try with_reducible rfl
      try simp only [Act.put, List.setIfInBounds_toArray, List.set_cons_zero, List.set_cons_succ]
      refine wpAnyH_take (i := 33) (oi := { dst := some 12, op := .assign (.tmp 102), type := 4, pos := "law.go:151", after := #[{ on := 32, ground := .data }, { on := 22, ground := .chain }, { on := 0, ground := .phase }, { on := 1, ground := .phase }, { on := 2, ground := .phase }, { on := 3, ground := .phase }, { on := 4, ground := .phase }, { on := 5, ground := .phase }, { on := 6, ground := .phase }, { on := 7, ground := .phase }, { on := 8, ground := .phase }, { on := 9, ground := .phase }, { on := 10, ground := .phase }, { on := 11, ground := .phase }, { on := 12, ground := .phase }, { on := 13, ground := .phase }, { on := 14, ground := .phase }, { on := 15, ground := .phase }, { on := 16, ground := .phase }, { on := 17, ground := .phase }, { on := 18, ground := .phase }, { on := 19, ground := .phase }, { on := 20, ground := .phase }, { on := 21, ground := .phase }, { on := 22, ground := .phase }, { on := 23, ground := .phase }, { on := 24, ground := .phase }, { on := 25, ground := .phase }, { on := 26, ground := .phase }, { on := 27, ground := .phase }, { on := 28, ground := .phase }, { on := 29, ground := .phase }, { on := 30, ground := .phase }, { on := 31, ground := .phase }, { on := 32, ground := .phase }], guard := none }) (v := ?_) rfl (by kernel_rfl) (by kernel_rfl) (by kernel_rfl) (fun _ _ _ h => h) (Or.inl ⟨by rfl, ?_⟩) hHeld ?_
      rotate_left
      ·
       intro w hSw
       clear hSw
       go_simp
       try with_reducible rfl
      try simp only [Act.put, List.setIfInBounds_toArray, List.set_cons_zero, List.set_cons_succ]
      refine wpAnyH_done (by kernel_rfl) ?_ _
      go_wp2_with fail
      exact ⟨⟨k + 1, true, by omega, rfl, by go_num, Lib.hid (chain HBw.out HBC.out), HS⟩, by simp [intOf]; omega⟩
     | false =>
      rw [Bool.false_or] at hq
      by_cases hs : a = sy
      ·
       have i2 : (sy == a) = true := by rw [beq_iff_eq]; exact hs.symm
       rw [decide_eq_true hs, Bool.true_and] at hq
       by_cases ha : a = 0
       ·
        have i1 : (a != 0) = false := by rw [bne_eq_false_iff_eq]; exact ha
        rw [decide_eq_false (fun h => h ha), Bool.false_and] at hq
        have HS := Lib.hid hq
        clear hq ha hs
        go_upto_region 14 with (fail)
        have mkS : ∀ z, Below wr.heap.size wr z → (fun (z : World) => z.heap[w.heap.size + 1]? = some (.cells #[.int .u8 pf, .int .u64 ph, .int .u64 pl, .int .i64 pn] 44 (0, 0)) ∧ z.rangeAt g (o + k * 6) [.int .u32 sy, .int .u8 x.f, .int .u64 x.h, .int .u64 x.l, .int .i64 x.n, .int .i64 x.m]) z := fun z hz => ⟨row_on HPW.out hz, rangeAt_on HXW.out hz⟩
        refine wp_region_held_drew (S := fun (z : World) => z.heap[w.heap.size + 1]? = some (.cells #[.int .u8 pf, .int .u64 ph, .int .u64 pl, .int .i64 pn] 44 (0, 0)) ∧ z.rangeAt g (o + k * 6) [.int .u32 sy, .int .u8 x.f, .int .u64 x.h, .int .u64 x.l, .int .i64 x.n, .int .i64 x.m]) (by kernel_rfl) (mkS _ (Below.refl _ _).drew) (fun hHeld => ?_)
        generalize hU : World.drew wr = U at hHeld ⊢
        have HBC := Lib.hid (show Below wr.heap.size wr U by rw [← hU]; exact (Below.refl _ _).drew)
        clear hU
        refine wpAnyH_take (i := 0) (oi := { dst := some 70, op := .move (.tmp 12), type := 4, pos := "law.go:151", after := #[], guard := none }) (v := ?_) rfl (by kernel_rfl) (by kernel_rfl) (by kernel_rfl) (fun _ _ _ h => h) (Or.inl ⟨by rfl, ?_⟩) hHeld ?_
        rotate_left
        ·
         intro w hSw
         clear hSw
         go_simp
         try with_reducible rfl
        try simp only [Act.put, List.setIfInBounds_toArray, List.set_cons_zero, List.set_cons_succ]
        refine wpAnyH_take (i := 1) (oi := { dst := some 71, op := .move (.tmp 70), type := 4, pos := "law.go:151", after := #[{ on := 0, ground := .data }], guard := none }) (v := ?_) rfl (by kernel_rfl) (by kernel_rfl) (by kernel_rfl) (fun _ _ _ h => h) (Or.inl ⟨by rfl, ?_⟩) hHeld ?_
        rotate_left
        ·
         intro w hSw
         clear hSw
         go_simp
         try with_reducible rfl
        try simp only [Act.put, List.setIfInBounds_toArray, List.set_cons_zero, List.set_cons_succ]
        refine wpAnyH_take (i := 2) (oi := { dst := some 72, op := .move (.tmp 10), type := 53, pos := "law.go:151", after := #[{ on := 1, ground := .guard }], guard := some (1, false) }) (v := ?_) rfl (by kernel_rfl) (by kernel_rfl) (by kernel_rfl) (fun _ _ _ h => h) (Or.inl ⟨by rfl, ?_⟩) hHeld ?_
        rotate_left
        ·
         intro w hSw
         clear hSw
         go_simp
         try with_reducible rfl
        try simp only [Act.put, List.setIfInBounds_toArray, List.set_cons_zero, List.set_cons_succ]
        refine wpAnyH_take (i := 3) (oi := { dst := some 73, op := .move (.tmp 13), type := 3, pos := "law.go:151", after := #[{ on := 1, ground := .guard }], guard := some (1, false) }) (v := ?_) rfl (by kernel_rfl) (by kernel_rfl) (by kernel_rfl) (fun _ _ _ h => h) (Or.inl ⟨by rfl, ?_⟩) hHeld ?_
        rotate_left
        ·
         intro w hSw
         clear hSw
         go_simp
         try with_reducible rfl
        try simp only [Act.put, List.setIfInBounds_toArray, List.set_cons_zero, List.set_cons_succ]
        refine wpAnyH_take (i := 4) (oi := { dst := some 74, op := .indexAddr 53 (.tmp 72) (.tmp 73), type := 0, pos := "law.go:151", after := #[{ on := 2, ground := .data }, { on := 3, ground := .data }, { on := 1, ground := .guard }], guard := some (1, false) }) (v := ?_) rfl (by kernel_rfl) (by kernel_rfl) (by kernel_rfl) (fun _ _ _ h => h) (Or.inl ⟨by rfl, ?_⟩) hHeld ?_
        rotate_left
        ·
         intro w hSw
         clear hSw
         go_simp
         try with_reducible rfl
        try simp only [Act.put, List.setIfInBounds_toArray, List.set_cons_zero, List.set_cons_succ]
        refine wpAnyH_take (i := 5) (oi := { dst := some 75, op := .fieldAddr 58 (.tmp 74) 0, type := 0, pos := "law.go:151", after := #[{ on := 4, ground := .data }, { on := 1, ground := .guard }], guard := some (1, false) }) (v := ?_) rfl (by kernel_rfl) (by kernel_rfl) (by kernel_rfl) (fun _ _ _ h => h) (Or.inl ⟨by rfl, ?_⟩) hHeld ?_
        rotate_left
        ·
         intro w hSw
         clear hSw
         go_simp
         try with_reducible rfl
        try simp only [Act.put, List.setIfInBounds_toArray, List.set_cons_zero, List.set_cons_succ]
        refine wpAnyH_take (i := 6) (oi := { dst := some 76, op := .load 22 (.tmp 75), type := 22, pos := "law.go:151", after := #[{ on := 5, ground := .data }, { on := 1, ground := .guard }], guard := some (1, false) }) (v := ?_) rfl (by kernel_rfl) (by kernel_rfl) (by kernel_rfl) (fun _ _ _ h => h) (Or.inl ⟨by rfl, ?_⟩) hHeld ?_
        rotate_left
        ·
         intro w hSw
         have hfc0 := hSw.2 |> r60
         clear hSw
         go_simp
         try with_reducible rfl
        try simp only [Act.put, List.setIfInBounds_toArray, List.set_cons_zero, List.set_cons_succ]
        refine wpAnyH_take (i := 7) (oi := { dst := some 77, op := .move (.tmp 2), type := 22, pos := "law.go:151", after := #[{ on := 1, ground := .guard }], guard := some (1, false) }) (v := ?_) rfl (by kernel_rfl) (by kernel_rfl) (by kernel_rfl) (fun _ _ _ h => h) (Or.inl ⟨by rfl, ?_⟩) hHeld ?_
        rotate_left
        ·
         intro w hSw
         clear hSw
         go_simp
         try with_reducible rfl
        try simp only [Act.put, List.setIfInBounds_toArray, List.set_cons_zero, List.set_cons_succ]
        refine wpAnyH_take (i := 8) (oi := { dst := some 78, op := .binOp .eql 22 (.tmp 76) (.tmp 77) 22, type := 4, pos := "law.go:151", after := #[{ on := 6, ground := .data }, { on := 7, ground := .data }, { on := 1, ground := .guard }], guard := some (1, false) }) (v := .bool true) rfl (by kernel_rfl) (by kernel_rfl) (by kernel_rfl) (fun _ _ _ h => h) (Or.inl ⟨by rfl, ?_⟩) hHeld ?_
        ·
         intro w hSw
         have hfc0 := hSw.1
         clear hSw
         go_simp
         try rw [i2]
        try simp only [Act.put, List.setIfInBounds_toArray, List.set_cons_zero, List.set_cons_succ]
        refine wpAnyH_take (i := 9) (oi := { dst := some 79, op := .move (.tmp 78), type := 4, pos := "law.go:151", after := #[{ on := 8, ground := .data }, { on := 1, ground := .chain }, { on := 1, ground := .guard }], guard := some (1, false) }) (v := ?_) rfl (by kernel_rfl) (by kernel_rfl) (by kernel_rfl) (fun _ _ _ h => h) (Or.inl ⟨by rfl, ?_⟩) hHeld ?_
        rotate_left
        ·
         intro w hSw
         clear hSw
         go_simp
         try with_reducible rfl
        try simp only [Act.put, List.setIfInBounds_toArray, List.set_cons_zero, List.set_cons_succ]
        refine wpAnyH_take (i := 10) (oi := { dst := some 80, op := .move (.tmp 2), type := 22, pos := "law.go:151", after := #[{ on := 9, ground := .guard }], guard := some (9, true) }) (v := ?_) rfl (by kernel_rfl) (by kernel_rfl) (by kernel_rfl) (fun _ _ _ h => h) (Or.inl ⟨by rfl, ?_⟩) hHeld ?_
        rotate_left
        ·
         intro w hSw
         clear hSw
         go_simp
         try with_reducible rfl
        try simp only [Act.put, List.setIfInBounds_toArray, List.set_cons_zero, List.set_cons_succ]
        refine wpAnyH_take (i := 11) (oi := { dst := some 81, op := .binOp .neq 22 (.tmp 80) (.const (.int .u32 0)) 22, type := 4, pos := "law.go:151", after := #[{ on := 10, ground := .data }, { on := 9, ground := .guard }], guard := some (9, true) }) (v := .bool false) rfl (by kernel_rfl) (by kernel_rfl) (by kernel_rfl) (fun _ _ _ h => h) (Or.inl ⟨by rfl, ?_⟩) hHeld ?_
        ·
         intro w hSw
         clear hSw
         go_simp
         try rw [i1]
        try simp only [Act.put, List.setIfInBounds_toArray, List.set_cons_zero, List.set_cons_succ]
        refine wpAnyH_take (i := 12) (oi := { dst := some 82, op := .pick (.tmp 79) (.tmp 81) (.const (.bool false)), type := 4, pos := "law.go:151", after := #[{ on := 9, ground := .data }, { on := 11, ground := .data }, { on := 1, ground := .guard }], guard := some (1, false) }) (v := ?_) rfl (by kernel_rfl) (by kernel_rfl) (by kernel_rfl) (fun _ _ _ h => h) (Or.inl ⟨by rfl, ?_⟩) hHeld ?_
        rotate_left
        ·
         intro w hSw
         clear hSw
         go_simp
         try with_reducible rfl
        try simp only [Act.put, List.setIfInBounds_toArray, List.set_cons_zero, List.set_cons_succ]
        refine wpAnyH_take (i := 13) (oi := { dst := some 83, op := .move (.tmp 82), type := 4, pos := "law.go:151", after := #[{ on := 12, ground := .data }, { on := 9, ground := .chain }, { on := 1, ground := .guard }], guard := some (1, false) }) (v := ?_) rfl (by kernel_rfl) (by kernel_rfl) (by kernel_rfl) (fun _ _ _ h => h) (Or.inl ⟨by rfl, ?_⟩) hHeld ?_
        rotate_left
        ·
         intro w hSw
         clear hSw
         go_simp
         try with_reducible rfl
        try simp only [Act.put, List.setIfInBounds_toArray, List.set_cons_zero, List.set_cons_succ]
        refine wpAnyH_take (i := 14) (oi := { dst := some 84, op := .move (.tmp 10), type := 53, pos := "law.go:151", after := #[{ on := 13, ground := .guard }], guard := some (13, true) }) (v := undef) rfl (by kernel_rfl) (by kernel_rfl) (by kernel_rfl) (fun _ _ _ h => h) (Or.inr ⟨by rfl, rfl⟩) hHeld ?_
        try simp only [Act.put, List.setIfInBounds_toArray, List.set_cons_zero, List.set_cons_succ]
        refine wpAnyH_take (i := 15) (oi := { dst := some 85, op := .move (.tmp 13), type := 3, pos := "law.go:151", after := #[{ on := 13, ground := .guard }], guard := some (13, true) }) (v := undef) rfl (by kernel_rfl) (by kernel_rfl) (by kernel_rfl) (fun _ _ _ h => h) (Or.inr ⟨by rfl, rfl⟩) hHeld ?_
        try simp only [Act.put, List.setIfInBounds_toArray, List.set_cons_zero, List.set_cons_succ]
        refine wpAnyH_take (i := 16) (oi := { dst := some 86, op := .indexAddr 53 (.tmp 84) (.tmp 85), type := 0, pos := "law.go:151", after := #[{ on := 14, ground := .data }, { on := 15, ground := .data }, { on := 13, ground := .guard }], guard := some (13, true) }) (v := undef) rfl (by kernel_rfl) (by kernel_rfl) (by kernel_rfl) (fun _ _ _ h => h) (Or.inr ⟨by rfl, rfl⟩) hHeld ?_
        try simp only [Act.put, List.setIfInBounds_toArray, List.set_cons_zero, List.set_cons_succ]
        refine wpAnyH_take (i := 17) (oi := { dst := some 87, op := .fieldAddr 58 (.tmp 86) 1, type := 0, pos := "law.go:151", after := #[{ on := 16, ground := .data }, { on := 13, ground := .guard }], guard := some (13, true) }) (v := undef) rfl (by kernel_rfl) (by kernel_rfl) (by kernel_rfl) (fun _ _ _ h => h) (Or.inr ⟨by rfl, rfl⟩) hHeld ?_
        try simp only [Act.put, List.setIfInBounds_toArray, List.set_cons_zero, List.set_cons_succ]
        refine wpAnyH_take (i := 18) (oi := { dst := some 88, op := .load 44 (.tmp 87), type := 44, pos := "law.go:151", after := #[{ on := 17, ground := .data }, { on := 13, ground := .guard }], guard := some (13, true) }) (v := undef) rfl (by kernel_rfl) (by kernel_rfl) (by kernel_rfl) (fun _ _ _ h => h) (Or.inr ⟨by rfl, rfl⟩) hHeld ?_
        try simp only [Act.put, List.setIfInBounds_toArray, List.set_cons_zero, List.set_cons_succ]
        refine wpAnyH_take (i := 19) (oi := { dst := some 89, op := .load 44 (.tmp 4), type := 44, pos := "law.go:151", after := #[{ on := 13, ground := .guard }], guard := some (13, true) }) (v := undef) rfl (by kernel_rfl) (by kernel_rfl) (by kernel_rfl) (fun _ _ _ h => h) (Or.inr ⟨by rfl, rfl⟩) hHeld ?_
        try simp only [Act.put, List.setIfInBounds_toArray, List.set_cons_zero, List.set_cons_succ]
        refine wpAnyH_take (i := 20) (oi := { dst := some 90, op := .call { callee := .value (.func 21), args := #[.tmp 88, .tmp 89], argTypes := #[44, 44] }, type := 4, pos := "law.go:151", after := #[{ on := 18, ground := .data }, { on := 19, ground := .data }, { on := 13, ground := .chain }, { on := 13, ground := .guard }], guard := some (13, true) }) (v := undef) rfl (by kernel_rfl) (by kernel_rfl) (by kernel_rfl) (fun _ _ _ h => h) (Or.inr ⟨by rfl, rfl⟩) hHeld ?_
        try simp only [Act.put, List.setIfInBounds_toArray, List.set_cons_zero, List.set_cons_succ]
        refine wpAnyH_take (i := 21) (oi := { dst := some 91, op := .pick (.tmp 83) (.tmp 90) (.const (.bool false)), type := 4, pos := "law.go:151", after := #[{ on := 13, ground := .data }, { on := 20, ground := .data }, { on := 1, ground := .guard }], guard := some (1, false) }) (v := ?_) rfl (by kernel_rfl) (by kernel_rfl) (by kernel_rfl) (fun _ _ _ h => h) (Or.inl ⟨by rfl, ?_⟩) hHeld ?_
        rotate_left
        ·
         intro w hSw
         clear hSw
         go_simp
         try with_reducible rfl
        try simp only [Act.put, List.setIfInBounds_toArray, List.set_cons_zero, List.set_cons_succ]
        refine wpAnyH_take (i := 22) (oi := { dst := some 92, op := .move (.tmp 91), type := 4, pos := "law.go:151", after := #[{ on := 21, ground := .data }, { on := 20, ground := .chain }, { on := 1, ground := .guard }], guard := some (1, false) }) (v := ?_) rfl (by kernel_rfl) (by kernel_rfl) (by kernel_rfl) (fun _ _ _ h => h) (Or.inl ⟨by rfl, ?_⟩) hHeld ?_
        rotate_left
        ·
         intro w hSw
         clear hSw
         go_simp
         try with_reducible rfl
        try simp only [Act.put, List.setIfInBounds_toArray, List.set_cons_zero, List.set_cons_succ]
        refine wpAnyH_take (i := 23) (oi := { dst := some 93, op := .fieldAddr 44 (.tmp 4) 2, type := 0, pos := "law.go:151", after := #[{ on := 22, ground := .guard }], guard := some (22, true) }) (v := undef) rfl (by kernel_rfl) (by kernel_rfl) (by kernel_rfl) (fun _ _ _ h => h) (Or.inr ⟨by rfl, rfl⟩) hHeld ?_
        try simp only [Act.put, List.setIfInBounds_toArray, List.set_cons_zero, List.set_cons_succ]
        refine wpAnyH_take (i := 24) (oi := { dst := some 94, op := .load 3 (.tmp 93), type := 3, pos := "law.go:151", after := #[{ on := 23, ground := .data }, { on := 22, ground := .guard }], guard := some (22, true) }) (v := undef) rfl (by kernel_rfl) (by kernel_rfl) (by kernel_rfl) (fun _ _ _ h => h) (Or.inr ⟨by rfl, rfl⟩) hHeld ?_
        try simp only [Act.put, List.setIfInBounds_toArray, List.set_cons_zero, List.set_cons_succ]
        refine wpAnyH_take (i := 25) (oi := { dst := some 95, op := .move (.tmp 10), type := 53, pos := "law.go:151", after := #[{ on := 22, ground := .guard }], guard := some (22, true) }) (v := undef) rfl (by kernel_rfl) (by kernel_rfl) (by kernel_rfl) (fun _ _ _ h => h) (Or.inr ⟨by rfl, rfl⟩) hHeld ?_
        try simp only [Act.put, List.setIfInBounds_toArray, List.set_cons_zero, List.set_cons_succ]
        refine wpAnyH_take (i := 26) (oi := { dst := some 96, op := .move (.tmp 13), type := 3, pos := "law.go:151", after := #[{ on := 22, ground := .guard }], guard := some (22, true) }) (v := undef) rfl (by kernel_rfl) (by kernel_rfl) (by kernel_rfl) (fun _ _ _ h => h) (Or.inr ⟨by rfl, rfl⟩) hHeld ?_
        try simp only [Act.put, List.setIfInBounds_toArray, List.set_cons_zero, List.set_cons_succ]
        refine wpAnyH_take (i := 27) (oi := { dst := some 97, op := .indexAddr 53 (.tmp 95) (.tmp 96), type := 0, pos := "law.go:151", after := #[{ on := 25, ground := .data }, { on := 26, ground := .data }, { on := 22, ground := .guard }], guard := some (22, true) }) (v := undef) rfl (by kernel_rfl) (by kernel_rfl) (by kernel_rfl) (fun _ _ _ h => h) (Or.inr ⟨by rfl, rfl⟩) hHeld ?_
        try simp only [Act.put, List.setIfInBounds_toArray, List.set_cons_zero, List.set_cons_succ]
        refine wpAnyH_take (i := 28) (oi := { dst := some 98, op := .fieldAddr 58 (.tmp 97) 2, type := 0, pos := "law.go:151", after := #[{ on := 27, ground := .data }, { on := 22, ground := .guard }], guard := some (22, true) }) (v := undef) rfl (by kernel_rfl) (by kernel_rfl) (by kernel_rfl) (fun _ _ _ h => h) (Or.inr ⟨by rfl, rfl⟩) hHeld ?_
        try simp only [Act.put, List.setIfInBounds_toArray, List.set_cons_zero, List.set_cons_succ]
        refine wpAnyH_take (i := 29) (oi := { dst := some 99, op := .load 3 (.tmp 98), type := 3, pos := "law.go:151", after := #[{ on := 28, ground := .data }, { on := 22, ground := .guard }], guard := some (22, true) }) (v := undef) rfl (by kernel_rfl) (by kernel_rfl) (by kernel_rfl) (fun _ _ _ h => h) (Or.inr ⟨by rfl, rfl⟩) hHeld ?_
        try simp only [Act.put, List.setIfInBounds_toArray, List.set_cons_zero, List.set_cons_succ]
        refine wpAnyH_take (i := 30) (oi := { dst := some 100, op := .binOp .leq 3 (.tmp 94) (.tmp 99) 3, type := 4, pos := "law.go:151", after := #[{ on := 24, ground := .data }, { on := 29, ground := .data }, { on := 22, ground := .guard }], guard := some (22, true) }) (v := undef) rfl (by kernel_rfl) (by kernel_rfl) (by kernel_rfl) (fun _ _ _ h => h) (Or.inr ⟨by rfl, rfl⟩) hHeld ?_
        try simp only [Act.put, List.setIfInBounds_toArray, List.set_cons_zero, List.set_cons_succ]
        refine wpAnyH_take (i := 31) (oi := { dst := some 101, op := .pick (.tmp 92) (.tmp 100) (.const (.bool false)), type := 4, pos := "law.go:151", after := #[{ on := 22, ground := .data }, { on := 30, ground := .data }, { on := 1, ground := .guard }], guard := some (1, false) }) (v := ?_) rfl (by kernel_rfl) (by kernel_rfl) (by kernel_rfl) (fun _ _ _ h => h) (Or.inl ⟨by rfl, ?_⟩) hHeld ?_
        rotate_left
        ·
         intro w hSw
         clear hSw
         go_simp
         try with_reducible rfl
        try simp only [Act.put, List.setIfInBounds_toArray, List.set_cons_zero, List.set_cons_succ]
        refine wpAnyH_take (i := 32) (oi := { dst := some 102, op := .pick (.tmp 71) (.const (.bool true)) (.tmp 101), type := 4, pos := "law.go:151", after := #[{ on := 1, ground := .data }, { on := 31, ground := .data }], guard := none }) (v := ?_) rfl (by kernel_rfl) (by kernel_rfl) (by kernel_rfl) (fun _ _ _ h => h) (Or.inl ⟨by rfl, ?_⟩) hHeld ?_
        rotate_left
        ·
         intro w hSw
         clear hSw
         go_simp
         try with_reducible rfl
        try simp only [Act.put, List.setIfInBounds_toArray, List.set_cons_zero, List.set_cons_succ]
        refine wpAnyH_take (i := 33) (oi := { dst := some 12, op := .assign (.tmp 102), type := 4, pos := "law.go:151", after := #[{ on := 32, ground := .data }, { on := 22, ground := .chain }, { on := 0, ground := .phase }, { on := 1, ground := .phase }, { on := 2, ground := .phase }, { on := 3, ground := .phase }, { on := 4, ground := .phase }, { on := 5, ground := .phase }, { on := 6, ground := .phase }, { on := 7, ground := .phase }, { on := 8, ground := .phase }, { on := 9, ground := .phase }, { on := 10, ground := .phase }, { on := 11, ground := .phase }, { on := 12, ground := .phase }, { on := 13, ground := .phase }, { on := 14, ground := .phase }, { on := 15, ground := .phase }, { on := 16, ground := .phase }, { on := 17, ground := .phase }, { on := 18, ground := .phase }, { on := 19, ground := .phase }, { on := 20, ground := .phase }, { on := 21, ground := .phase }, { on := 22, ground := .phase }, { on := 23, ground := .phase }, { on := 24, ground := .phase }, { on := 25, ground := .phase }, { on := 26, ground := .phase }, { on := 27, ground := .phase }, { on := 28, ground := .phase }, { on := 29, ground := .phase }, { on := 30, ground := .phase }, { on := 31, ground := .phase }, { on := 32, ground := .phase }], guard := none }) (v := ?_) rfl (by kernel_rfl) (by kernel_rfl) (by kernel_rfl) (fun _ _ _ h => h) (Or.inl ⟨by rfl, ?_⟩) hHeld ?_
        rotate_left
        ·
         intro w hSw
         clear hSw
         go_simp
         try with_reducible rfl
        try simp only [Act.put, List.setIfInBounds_toArray, List.set_cons_zero, List.set_cons_succ]
        refine wpAnyH_done (by kernel_rfl) ?_ _
        go_wp2_with fail
        exact ⟨⟨k + 1, false, by omega, rfl, by go_num, Lib.hid (chain HBw.out HBC.out), HS⟩, by simp [intOf]; omega⟩
       ·
        have i1 : (a != 0) = true := by rw [bne_iff_ne]; exact ha
        rw [decide_eq_true ha, Bool.true_and] at hq
        cases cv with
        | false =>
         rw [Bool.false_and] at hq
         have HS := Lib.hid hq
         clear hq ha hs
         go_upto_region 14 with (fail)
         have mkS : ∀ z, Below wr.heap.size wr z → (fun (z : World) => z.heap[w.heap.size + 1]? = some (.cells #[.int .u8 pf, .int .u64 ph, .int .u64 pl, .int .i64 pn] 44 (0, 0)) ∧ z.rangeAt g (o + k * 6) [.int .u32 sy, .int .u8 x.f, .int .u64 x.h, .int .u64 x.l, .int .i64 x.n, .int .i64 x.m]) z := fun z hz => ⟨row_on HPW.out hz, rangeAt_on HXW.out hz⟩
         refine wp_region_held_drew (S := fun (z : World) => z.heap[w.heap.size + 1]? = some (.cells #[.int .u8 pf, .int .u64 ph, .int .u64 pl, .int .i64 pn] 44 (0, 0)) ∧ z.rangeAt g (o + k * 6) [.int .u32 sy, .int .u8 x.f, .int .u64 x.h, .int .u64 x.l, .int .i64 x.n, .int .i64 x.m]) (by kernel_rfl) (mkS _ (Below.refl _ _).drew) (fun hHeld => ?_)
         generalize hU : World.drew wr = U at hHeld ⊢
         have HBC := Lib.hid (show Below wr.heap.size wr U by rw [← hU]; exact (Below.refl _ _).drew)
         clear hU
         refine wpAnyH_take (i := 0) (oi := { dst := some 70, op := .move (.tmp 12), type := 4, pos := "law.go:151", after := #[], guard := none }) (v := ?_) rfl (by kernel_rfl) (by kernel_rfl) (by kernel_rfl) (fun _ _ _ h => h) (Or.inl ⟨by rfl, ?_⟩) hHeld ?_
         rotate_left
         ·
          intro w hSw
          clear hSw
          go_simp
          try with_reducible rfl
         try simp only [Act.put, List.setIfInBounds_toArray, List.set_cons_zero, List.set_cons_succ]
         refine wpAnyH_take (i := 1) (oi := { dst := some 71, op := .move (.tmp 70), type := 4, pos := "law.go:151", after := #[{ on := 0, ground := .data }], guard := none }) (v := ?_) rfl (by kernel_rfl) (by kernel_rfl) (by kernel_rfl) (fun _ _ _ h => h) (Or.inl ⟨by rfl, ?_⟩) hHeld ?_
         rotate_left
         ·
          intro w hSw
          clear hSw
          go_simp
          try with_reducible rfl
         try simp only [Act.put, List.setIfInBounds_toArray, List.set_cons_zero, List.set_cons_succ]
         refine wpAnyH_take (i := 2) (oi := { dst := some 72, op := .move (.tmp 10), type := 53, pos := "law.go:151", after := #[{ on := 1, ground := .guard }], guard := some (1, false) }) (v := ?_) rfl (by kernel_rfl) (by kernel_rfl) (by kernel_rfl) (fun _ _ _ h => h) (Or.inl ⟨by rfl, ?_⟩) hHeld ?_
         rotate_left
         ·
          intro w hSw
          clear hSw
          go_simp
          try with_reducible rfl
         try simp only [Act.put, List.setIfInBounds_toArray, List.set_cons_zero, List.set_cons_succ]
         refine wpAnyH_take (i := 3) (oi := { dst := some 73, op := .move (.tmp 13), type := 3, pos := "law.go:151", after := #[{ on := 1, ground := .guard }], guard := some (1, false) }) (v := ?_) rfl (by kernel_rfl) (by kernel_rfl) (by kernel_rfl) (fun _ _ _ h => h) (Or.inl ⟨by rfl, ?_⟩) hHeld ?_
         rotate_left
         ·
          intro w hSw
          clear hSw
          go_simp
          try with_reducible rfl
         try simp only [Act.put, List.setIfInBounds_toArray, List.set_cons_zero, List.set_cons_succ]
         refine wpAnyH_take (i := 4) (oi := { dst := some 74, op := .indexAddr 53 (.tmp 72) (.tmp 73), type := 0, pos := "law.go:151", after := #[{ on := 2, ground := .data }, { on := 3, ground := .data }, { on := 1, ground := .guard }], guard := some (1, false) }) (v := ?_) rfl (by kernel_rfl) (by kernel_rfl) (by kernel_rfl) (fun _ _ _ h => h) (Or.inl ⟨by rfl, ?_⟩) hHeld ?_
         rotate_left
         ·
          intro w hSw
          clear hSw
          go_simp
          try with_reducible rfl
         try simp only [Act.put, List.setIfInBounds_toArray, List.set_cons_zero, List.set_cons_succ]
         refine wpAnyH_take (i := 5) (oi := { dst := some 75, op := .fieldAddr 58 (.tmp 74) 0, type := 0, pos := "law.go:151", after := #[{ on := 4, ground := .data }, { on := 1, ground := .guard }], guard := some (1, false) }) (v := ?_) rfl (by kernel_rfl) (by kernel_rfl) (by kernel_rfl) (fun _ _ _ h => h) (Or.inl ⟨by rfl, ?_⟩) hHeld ?_
         rotate_left
         ·
          intro w hSw
          clear hSw
          go_simp
          try with_reducible rfl
         try simp only [Act.put, List.setIfInBounds_toArray, List.set_cons_zero, List.set_cons_succ]
         refine wpAnyH_take (i := 6) (oi := { dst := some 76, op := .load 22 (.tmp 75), type := 22, pos := "law.go:151", after := #[{ on := 5, ground := .data }, { on := 1, ground := .guard }], guard := some (1, false) }) (v := ?_) rfl (by kernel_rfl) (by kernel_rfl) (by kernel_rfl) (fun _ _ _ h => h) (Or.inl ⟨by rfl, ?_⟩) hHeld ?_
         rotate_left
         ·
          intro w hSw
          have hfc0 := hSw.2 |> r60
          clear hSw
          go_simp
          try with_reducible rfl
         try simp only [Act.put, List.setIfInBounds_toArray, List.set_cons_zero, List.set_cons_succ]
         refine wpAnyH_take (i := 7) (oi := { dst := some 77, op := .move (.tmp 2), type := 22, pos := "law.go:151", after := #[{ on := 1, ground := .guard }], guard := some (1, false) }) (v := ?_) rfl (by kernel_rfl) (by kernel_rfl) (by kernel_rfl) (fun _ _ _ h => h) (Or.inl ⟨by rfl, ?_⟩) hHeld ?_
         rotate_left
         ·
          intro w hSw
          clear hSw
          go_simp
          try with_reducible rfl
         try simp only [Act.put, List.setIfInBounds_toArray, List.set_cons_zero, List.set_cons_succ]
         refine wpAnyH_take (i := 8) (oi := { dst := some 78, op := .binOp .eql 22 (.tmp 76) (.tmp 77) 22, type := 4, pos := "law.go:151", after := #[{ on := 6, ground := .data }, { on := 7, ground := .data }, { on := 1, ground := .guard }], guard := some (1, false) }) (v := .bool true) rfl (by kernel_rfl) (by kernel_rfl) (by kernel_rfl) (fun _ _ _ h => h) (Or.inl ⟨by rfl, ?_⟩) hHeld ?_
         ·
          intro w hSw
          have hfc0 := hSw.1
          clear hSw
          go_simp
          try rw [i2]
         try simp only [Act.put, List.setIfInBounds_toArray, List.set_cons_zero, List.set_cons_succ]
         refine wpAnyH_take (i := 9) (oi := { dst := some 79, op := .move (.tmp 78), type := 4, pos := "law.go:151", after := #[{ on := 8, ground := .data }, { on := 1, ground := .chain }, { on := 1, ground := .guard }], guard := some (1, false) }) (v := ?_) rfl (by kernel_rfl) (by kernel_rfl) (by kernel_rfl) (fun _ _ _ h => h) (Or.inl ⟨by rfl, ?_⟩) hHeld ?_
         rotate_left
         ·
          intro w hSw
          clear hSw
          go_simp
          try with_reducible rfl
         try simp only [Act.put, List.setIfInBounds_toArray, List.set_cons_zero, List.set_cons_succ]
         refine wpAnyH_take (i := 10) (oi := { dst := some 80, op := .move (.tmp 2), type := 22, pos := "law.go:151", after := #[{ on := 9, ground := .guard }], guard := some (9, true) }) (v := ?_) rfl (by kernel_rfl) (by kernel_rfl) (by kernel_rfl) (fun _ _ _ h => h) (Or.inl ⟨by rfl, ?_⟩) hHeld ?_
         rotate_left
         ·
          intro w hSw
          clear hSw
          go_simp
          try with_reducible rfl
         try simp only [Act.put, List.setIfInBounds_toArray, List.set_cons_zero, List.set_cons_succ]
         refine wpAnyH_take (i := 11) (oi := { dst := some 81, op := .binOp .neq 22 (.tmp 80) (.const (.int .u32 0)) 22, type := 4, pos := "law.go:151", after := #[{ on := 10, ground := .data }, { on := 9, ground := .guard }], guard := some (9, true) }) (v := .bool true) rfl (by kernel_rfl) (by kernel_rfl) (by kernel_rfl) (fun _ _ _ h => h) (Or.inl ⟨by rfl, ?_⟩) hHeld ?_
         ·
          intro w hSw
          clear hSw
          go_simp
          try rw [i1]
         try simp only [Act.put, List.setIfInBounds_toArray, List.set_cons_zero, List.set_cons_succ]
         refine wpAnyH_take (i := 12) (oi := { dst := some 82, op := .pick (.tmp 79) (.tmp 81) (.const (.bool false)), type := 4, pos := "law.go:151", after := #[{ on := 9, ground := .data }, { on := 11, ground := .data }, { on := 1, ground := .guard }], guard := some (1, false) }) (v := ?_) rfl (by kernel_rfl) (by kernel_rfl) (by kernel_rfl) (fun _ _ _ h => h) (Or.inl ⟨by rfl, ?_⟩) hHeld ?_
         rotate_left
         ·
          intro w hSw
          clear hSw
          go_simp
          try with_reducible rfl
         try simp only [Act.put, List.setIfInBounds_toArray, List.set_cons_zero, List.set_cons_succ]
         refine wpAnyH_take (i := 13) (oi := { dst := some 83, op := .move (.tmp 82), type := 4, pos := "law.go:151", after := #[{ on := 12, ground := .data }, { on := 9, ground := .chain }, { on := 1, ground := .guard }], guard := some (1, false) }) (v := ?_) rfl (by kernel_rfl) (by kernel_rfl) (by kernel_rfl) (fun _ _ _ h => h) (Or.inl ⟨by rfl, ?_⟩) hHeld ?_
         rotate_left
         ·
          intro w hSw
          clear hSw
          go_simp
          try with_reducible rfl
         try simp only [Act.put, List.setIfInBounds_toArray, List.set_cons_zero, List.set_cons_succ]
         refine wpAnyH_take (i := 14) (oi := { dst := some 84, op := .move (.tmp 10), type := 53, pos := "law.go:151", after := #[{ on := 13, ground := .guard }], guard := some (13, true) }) (v := ?_) rfl (by kernel_rfl) (by kernel_rfl) (by kernel_rfl) (fun _ _ _ h => h) (Or.inl ⟨by rfl, ?_⟩) hHeld ?_
         rotate_left
         ·
          intro w hSw
          clear hSw
          go_simp
          try with_reducible rfl
         try simp only [Act.put, List.setIfInBounds_toArray, List.set_cons_zero, List.set_cons_succ]
         refine wpAnyH_take (i := 15) (oi := { dst := some 85, op := .move (.tmp 13), type := 3, pos := "law.go:151", after := #[{ on := 13, ground := .guard }], guard := some (13, true) }) (v := ?_) rfl (by kernel_rfl) (by kernel_rfl) (by kernel_rfl) (fun _ _ _ h => h) (Or.inl ⟨by rfl, ?_⟩) hHeld ?_
         rotate_left
         ·
          intro w hSw
          clear hSw
          go_simp
          try with_reducible rfl
         try simp only [Act.put, List.setIfInBounds_toArray, List.set_cons_zero, List.set_cons_succ]
         refine wpAnyH_take (i := 16) (oi := { dst := some 86, op := .indexAddr 53 (.tmp 84) (.tmp 85), type := 0, pos := "law.go:151", after := #[{ on := 14, ground := .data }, { on := 15, ground := .data }, { on := 13, ground := .guard }], guard := some (13, true) }) (v := ?_) rfl (by kernel_rfl) (by kernel_rfl) (by kernel_rfl) (fun _ _ _ h => h) (Or.inl ⟨by rfl, ?_⟩) hHeld ?_
         rotate_left
         ·
          intro w hSw
          clear hSw
          go_simp
          try with_reducible rfl
         try simp only [Act.put, List.setIfInBounds_toArray, List.set_cons_zero, List.set_cons_succ]
         refine wpAnyH_take (i := 17) (oi := { dst := some 87, op := .fieldAddr 58 (.tmp 86) 1, type := 0, pos := "law.go:151", after := #[{ on := 16, ground := .data }, { on := 13, ground := .guard }], guard := some (13, true) }) (v := ?_) rfl (by kernel_rfl) (by kernel_rfl) (by kernel_rfl) (fun _ _ _ h => h) (Or.inl ⟨by rfl, ?_⟩) hHeld ?_
         rotate_left
         ·
          intro w hSw
          clear hSw
          go_simp
          try with_reducible rfl
         try simp only [Act.put, List.setIfInBounds_toArray, List.set_cons_zero, List.set_cons_succ]
         refine wpAnyH_take (i := 18) (oi := { dst := some 88, op := .load 44 (.tmp 87), type := 44, pos := "law.go:151", after := #[{ on := 17, ground := .data }, { on := 13, ground := .guard }], guard := some (13, true) }) (v := .agg ([.int .u8 x.f, .int .u64 x.h, .int .u64 x.l, .int .i64 x.n]).toArray) rfl (by kernel_rfl) (by kernel_rfl) (by kernel_rfl) (fun _ _ _ h => h) (yieldsIf_load_mid (by rfl) _ _ rfl _ _ rfl ([.int .u8 x.f, .int .u64 x.h, .int .u64 x.l, .int .i64 x.n]) _ (fun w hSw => hSw.2 |> t61) Try.underlying44 rfl (sz4p _ _ _ _)) hHeld ?_
         try simp only [Act.put, List.setIfInBounds_toArray, List.set_cons_zero, List.set_cons_succ]
         refine wpAnyH_take (i := 19) (oi := { dst := some 89, op := .load 44 (.tmp 4), type := 44, pos := "law.go:151", after := #[{ on := 13, ground := .guard }], guard := some (13, true) }) (v := .agg ([.int .u8 pf, .int .u64 ph, .int .u64 pl, .int .i64 pn]).toArray) rfl (by kernel_rfl) (by kernel_rfl) (by kernel_rfl) (fun _ _ _ h => h) (yieldsIf_load_mid (by rfl) _ _ rfl _ _ rfl ([.int .u8 pf, .int .u64 ph, .int .u64 pl, .int .i64 pn]) _ (fun w hSw => hSw.1 |> row_range (cs := [.int .u8 pf, .int .u64 ph, .int .u64 pl, .int .i64 pn])) Try.underlying44 rfl (sz4p _ _ _ _)) hHeld ?_
         try simp only [Act.put, List.setIfInBounds_toArray, List.set_cons_zero, List.set_cons_succ]
         refine wpAnyH_ready (rs := [20]) (by kernel_rfl) (by simp) (AllReadyH.cons (o := { dst := some 90, op := .call { callee := .value (.func 21), args := #[.tmp 88, .tmp 89], argTypes := #[44, 44] }, type := 4, pos := "law.go:151", after := #[{ on := 18, ground := .data }, { on := 19, ground := .data }, { on := 13, ground := .chain }, { on := 13, ground := .guard }], guard := some (13, true) }) rfl (fun K hK => ?_) AllReadyH.nil)
         go_simp
         refine (HCV.out U).mono ?_
         rintro e z20 ⟨rfl, hb⟩
         have HBC := Lib.hid (chain HBC.out hb)
         clear hb 
         go_simp
         refine hK.out _ _ (mkS _ HBC.out) (fun hHeld2 => ?_)
         clear hK K hHeld
         have hHeld := hHeld2
         clear hHeld2
         try simp only [Act.put, List.setIfInBounds_toArray, List.set_cons_zero, List.set_cons_succ]
         refine wpAnyH_take (i := 21) (oi := { dst := some 91, op := .pick (.tmp 83) (.tmp 90) (.const (.bool false)), type := 4, pos := "law.go:151", after := #[{ on := 13, ground := .data }, { on := 20, ground := .data }, { on := 1, ground := .guard }], guard := some (1, false) }) (v := ?_) rfl (by kernel_rfl) (by kernel_rfl) (by kernel_rfl) (fun _ _ _ h => h) (Or.inl ⟨by rfl, ?_⟩) hHeld ?_
         rotate_left
         ·
          intro w hSw
          clear hSw
          go_simp
          try with_reducible rfl
         try simp only [Act.put, List.setIfInBounds_toArray, List.set_cons_zero, List.set_cons_succ]
         refine wpAnyH_take (i := 22) (oi := { dst := some 92, op := .move (.tmp 91), type := 4, pos := "law.go:151", after := #[{ on := 21, ground := .data }, { on := 20, ground := .chain }, { on := 1, ground := .guard }], guard := some (1, false) }) (v := ?_) rfl (by kernel_rfl) (by kernel_rfl) (by kernel_rfl) (fun _ _ _ h => h) (Or.inl ⟨by rfl, ?_⟩) hHeld ?_
         rotate_left
         ·
          intro w hSw
          clear hSw
          go_simp
          try with_reducible rfl
         try simp only [Act.put, List.setIfInBounds_toArray, List.set_cons_zero, List.set_cons_succ]
         refine wpAnyH_take (i := 23) (oi := { dst := some 93, op := .fieldAddr 44 (.tmp 4) 2, type := 0, pos := "law.go:151", after := #[{ on := 22, ground := .guard }], guard := some (22, true) }) (v := undef) rfl (by kernel_rfl) (by kernel_rfl) (by kernel_rfl) (fun _ _ _ h => h) (Or.inr ⟨by rfl, rfl⟩) hHeld ?_
         try simp only [Act.put, List.setIfInBounds_toArray, List.set_cons_zero, List.set_cons_succ]
         refine wpAnyH_take (i := 24) (oi := { dst := some 94, op := .load 3 (.tmp 93), type := 3, pos := "law.go:151", after := #[{ on := 23, ground := .data }, { on := 22, ground := .guard }], guard := some (22, true) }) (v := undef) rfl (by kernel_rfl) (by kernel_rfl) (by kernel_rfl) (fun _ _ _ h => h) (Or.inr ⟨by rfl, rfl⟩) hHeld ?_
         try simp only [Act.put, List.setIfInBounds_toArray, List.set_cons_zero, List.set_cons_succ]
         refine wpAnyH_take (i := 25) (oi := { dst := some 95, op := .move (.tmp 10), type := 53, pos := "law.go:151", after := #[{ on := 22, ground := .guard }], guard := some (22, true) }) (v := undef) rfl (by kernel_rfl) (by kernel_rfl) (by kernel_rfl) (fun _ _ _ h => h) (Or.inr ⟨by rfl, rfl⟩) hHeld ?_
         try simp only [Act.put, List.setIfInBounds_toArray, List.set_cons_zero, List.set_cons_succ]
         refine wpAnyH_take (i := 26) (oi := { dst := some 96, op := .move (.tmp 13), type := 3, pos := "law.go:151", after := #[{ on := 22, ground := .guard }], guard := some (22, true) }) (v := undef) rfl (by kernel_rfl) (by kernel_rfl) (by kernel_rfl) (fun _ _ _ h => h) (Or.inr ⟨by rfl, rfl⟩) hHeld ?_
         try simp only [Act.put, List.setIfInBounds_toArray, List.set_cons_zero, List.set_cons_succ]
         refine wpAnyH_take (i := 27) (oi := { dst := some 97, op := .indexAddr 53 (.tmp 95) (.tmp 96), type := 0, pos := "law.go:151", after := #[{ on := 25, ground := .data }, { on := 26, ground := .data }, { on := 22, ground := .guard }], guard := some (22, true) }) (v := undef) rfl (by kernel_rfl) (by kernel_rfl) (by kernel_rfl) (fun _ _ _ h => h) (Or.inr ⟨by rfl, rfl⟩) hHeld ?_
         try simp only [Act.put, List.setIfInBounds_toArray, List.set_cons_zero, List.set_cons_succ]
         refine wpAnyH_take (i := 28) (oi := { dst := some 98, op := .fieldAddr 58 (.tmp 97) 2, type := 0, pos := "law.go:151", after := #[{ on := 27, ground := .data }, { on := 22, ground := .guard }], guard := some (22, true) }) (v := undef) rfl (by kernel_rfl) (by kernel_rfl) (by kernel_rfl) (fun _ _ _ h => h) (Or.inr ⟨by rfl, rfl⟩) hHeld ?_
         try simp only [Act.put, List.setIfInBounds_toArray, List.set_cons_zero, List.set_cons_succ]
         refine wpAnyH_take (i := 29) (oi := { dst := some 99, op := .load 3 (.tmp 98), type := 3, pos := "law.go:151", after := #[{ on := 28, ground := .data }, { on := 22, ground := .guard }], guard := some (22, true) }) (v := undef) rfl (by kernel_rfl) (by kernel_rfl) (by kernel_rfl) (fun _ _ _ h => h) (Or.inr ⟨by rfl, rfl⟩) hHeld ?_
         try simp only [Act.put, List.setIfInBounds_toArray, List.set_cons_zero, List.set_cons_succ]
         refine wpAnyH_take (i := 30) (oi := { dst := some 100, op := .binOp .leq 3 (.tmp 94) (.tmp 99) 3, type := 4, pos := "law.go:151", after := #[{ on := 24, ground := .data }, { on := 29, ground := .data }, { on := 22, ground := .guard }], guard := some (22, true) }) (v := undef) rfl (by kernel_rfl) (by kernel_rfl) (by kernel_rfl) (fun _ _ _ h => h) (Or.inr ⟨by rfl, rfl⟩) hHeld ?_
         try simp only [Act.put, List.setIfInBounds_toArray, List.set_cons_zero, List.set_cons_succ]
         refine wpAnyH_take (i := 31) (oi := { dst := some 101, op := .pick (.tmp 92) (.tmp 100) (.const (.bool false)), type := 4, pos := "law.go:151", after := #[{ on := 22, ground := .data }, { on := 30, ground := .data }, { on := 1, ground := .guard }], guard := some (1, false) }) (v := ?_) rfl (by kernel_rfl) (by kernel_rfl) (by kernel_rfl) (fun _ _ _ h => h) (Or.inl ⟨by rfl, ?_⟩) hHeld ?_
         rotate_left
         ·
          intro w hSw
          clear hSw
          go_simp
          try with_reducible rfl
         try simp only [Act.put, List.setIfInBounds_toArray, List.set_cons_zero, List.set_cons_succ]
         refine wpAnyH_take (i := 32) (oi := { dst := some 102, op := .pick (.tmp 71) (.const (.bool true)) (.tmp 101), type := 4, pos := "law.go:151", after := #[{ on := 1, ground := .data }, { on := 31, ground := .data }], guard := none }) (v := ?_) rfl (by kernel_rfl) (by kernel_rfl) (by kernel_rfl) (fun _ _ _ h => h) (Or.inl ⟨by rfl, ?_⟩) hHeld ?_
         rotate_left
         ·
          intro w hSw
          clear hSw
          go_simp
          try with_reducible rfl
         try simp only [Act.put, List.setIfInBounds_toArray, List.set_cons_zero, List.set_cons_succ]
         refine wpAnyH_take (i := 33) (oi := { dst := some 12, op := .assign (.tmp 102), type := 4, pos := "law.go:151", after := #[{ on := 32, ground := .data }, { on := 22, ground := .chain }, { on := 0, ground := .phase }, { on := 1, ground := .phase }, { on := 2, ground := .phase }, { on := 3, ground := .phase }, { on := 4, ground := .phase }, { on := 5, ground := .phase }, { on := 6, ground := .phase }, { on := 7, ground := .phase }, { on := 8, ground := .phase }, { on := 9, ground := .phase }, { on := 10, ground := .phase }, { on := 11, ground := .phase }, { on := 12, ground := .phase }, { on := 13, ground := .phase }, { on := 14, ground := .phase }, { on := 15, ground := .phase }, { on := 16, ground := .phase }, { on := 17, ground := .phase }, { on := 18, ground := .phase }, { on := 19, ground := .phase }, { on := 20, ground := .phase }, { on := 21, ground := .phase }, { on := 22, ground := .phase }, { on := 23, ground := .phase }, { on := 24, ground := .phase }, { on := 25, ground := .phase }, { on := 26, ground := .phase }, { on := 27, ground := .phase }, { on := 28, ground := .phase }, { on := 29, ground := .phase }, { on := 30, ground := .phase }, { on := 31, ground := .phase }, { on := 32, ground := .phase }], guard := none }) (v := ?_) rfl (by kernel_rfl) (by kernel_rfl) (by kernel_rfl) (fun _ _ _ h => h) (Or.inl ⟨by rfl, ?_⟩) hHeld ?_
         rotate_left
         ·
          intro w hSw
          clear hSw
          go_simp
          try with_reducible rfl
         try simp only [Act.put, List.setIfInBounds_toArray, List.set_cons_zero, List.set_cons_succ]
         refine wpAnyH_done (by kernel_rfl) ?_ _
         go_wp2_with fail
         exact ⟨⟨k + 1, false, by omega, rfl, by go_num, Lib.hid (chain HBw.out HBC.out), HS⟩, by simp [intOf]; omega⟩
        | true =>
         rw [Bool.true_and] at hq
         by_cases hm : pn ≤ x.m
         ·
          rw [decide_eq_true hm] at hq
          have HS := Lib.hid hq
          clear hq ha hs
          go_upto_region 14 with (fail)
          have mkS : ∀ z, Below wr.heap.size wr z → (fun (z : World) => z.heap[w.heap.size + 1]? = some (.cells #[.int .u8 pf, .int .u64 ph, .int .u64 pl, .int .i64 pn] 44 (0, 0)) ∧ z.rangeAt g (o + k * 6) [.int .u32 sy, .int .u8 x.f, .int .u64 x.h, .int .u64 x.l, .int .i64 x.n, .int .i64 x.m]) z := fun z hz => ⟨row_on HPW.out hz, rangeAt_on HXW.out hz⟩
          refine wp_region_held_drew (S := fun (z : World) => z.heap[w.heap.size + 1]? = some (.cells #[.int .u8 pf, .int .u64 ph, .int .u64 pl, .int .i64 pn] 44 (0, 0)) ∧ z.rangeAt g (o + k * 6) [.int .u32 sy, .int .u8 x.f, .int .u64 x.h, .int .u64 x.l, .int .i64 x.n, .int .i64 x.m]) (by kernel_rfl) (mkS _ (Below.refl _ _).drew) (fun hHeld => ?_)
          generalize hU : World.drew wr = U at hHeld ⊢
          have HBC := Lib.hid (show Below wr.heap.size wr U by rw [← hU]; exact (Below.refl _ _).drew)
          clear hU
          refine wpAnyH_take (i := 0) (oi := { dst := some 70, op := .move (.tmp 12), type := 4, pos := "law.go:151", after := #[], guard := none }) (v := ?_) rfl (by kernel_rfl) (by kernel_rfl) (by kernel_rfl) (fun _ _ _ h => h) (Or.inl ⟨by rfl, ?_⟩) hHeld ?_
          rotate_left
          ·
           intro w hSw
           clear hSw
           go_simp
           try with_reducible rfl
          try simp only [Act.put, List.setIfInBounds_toArray, List.set_cons_zero, List.set_cons_succ]
          refine wpAnyH_take (i := 1) (oi := { dst := some 71, op := .move (.tmp 70), type := 4, pos := "law.go:151", after := #[{ on := 0, ground := .data }], guard := none }) (v := ?_) rfl (by kernel_rfl) (by kernel_rfl) (by kernel_rfl) (fun _ _ _ h => h) (Or.inl ⟨by rfl, ?_⟩) hHeld ?_
          rotate_left
          ·
           intro w hSw
           clear hSw
           go_simp
           try with_reducible rfl
          try simp only [Act.put, List.setIfInBounds_toArray, List.set_cons_zero, List.set_cons_succ]
          refine wpAnyH_take (i := 2) (oi := { dst := some 72, op := .move (.tmp 10), type := 53, pos := "law.go:151", after := #[{ on := 1, ground := .guard }], guard := some (1, false) }) (v := ?_) rfl (by kernel_rfl) (by kernel_rfl) (by kernel_rfl) (fun _ _ _ h => h) (Or.inl ⟨by rfl, ?_⟩) hHeld ?_
          rotate_left
          ·
           intro w hSw
           clear hSw
           go_simp
           try with_reducible rfl
          try simp only [Act.put, List.setIfInBounds_toArray, List.set_cons_zero, List.set_cons_succ]
          refine wpAnyH_take (i := 3) (oi := { dst := some 73, op := .move (.tmp 13), type := 3, pos := "law.go:151", after := #[{ on := 1, ground := .guard }], guard := some (1, false) }) (v := ?_) rfl (by kernel_rfl) (by kernel_rfl) (by kernel_rfl) (fun _ _ _ h => h) (Or.inl ⟨by rfl, ?_⟩) hHeld ?_
          rotate_left
          ·
           intro w hSw
           clear hSw
           go_simp
           try with_reducible rfl
          try simp only [Act.put, List.setIfInBounds_toArray, List.set_cons_zero, List.set_cons_succ]
          refine wpAnyH_take (i := 4) (oi := { dst := some 74, op := .indexAddr 53 (.tmp 72) (.tmp 73), type := 0, pos := "law.go:151", after := #[{ on := 2, ground := .data }, { on := 3, ground := .data }, { on := 1, ground := .guard }], guard := some (1, false) }) (v := ?_) rfl (by kernel_rfl) (by kernel_rfl) (by kernel_rfl) (fun _ _ _ h => h) (Or.inl ⟨by rfl, ?_⟩) hHeld ?_
          rotate_left
          ·
           intro w hSw
           clear hSw
           go_simp
           try with_reducible rfl
          try simp only [Act.put, List.setIfInBounds_toArray, List.set_cons_zero, List.set_cons_succ]
          refine wpAnyH_take (i := 5) (oi := { dst := some 75, op := .fieldAddr 58 (.tmp 74) 0, type := 0, pos := "law.go:151", after := #[{ on := 4, ground := .data }, { on := 1, ground := .guard }], guard := some (1, false) }) (v := ?_) rfl (by kernel_rfl) (by kernel_rfl) (by kernel_rfl) (fun _ _ _ h => h) (Or.inl ⟨by rfl, ?_⟩) hHeld ?_
          rotate_left
          ·
           intro w hSw
           clear hSw
           go_simp
           try with_reducible rfl
          try simp only [Act.put, List.setIfInBounds_toArray, List.set_cons_zero, List.set_cons_succ]
          refine wpAnyH_take (i := 6) (oi := { dst := some 76, op := .load 22 (.tmp 75), type := 22, pos := "law.go:151", after := #[{ on := 5, ground := .data }, { on := 1, ground := .guard }], guard := some (1, false) }) (v := ?_) rfl (by kernel_rfl) (by kernel_rfl) (by kernel_rfl) (fun _ _ _ h => h) (Or.inl ⟨by rfl, ?_⟩) hHeld ?_
          rotate_left
          ·
           intro w hSw
           have hfc0 := hSw.2 |> r60
           clear hSw
           go_simp
           try with_reducible rfl
          try simp only [Act.put, List.setIfInBounds_toArray, List.set_cons_zero, List.set_cons_succ]
          refine wpAnyH_take (i := 7) (oi := { dst := some 77, op := .move (.tmp 2), type := 22, pos := "law.go:151", after := #[{ on := 1, ground := .guard }], guard := some (1, false) }) (v := ?_) rfl (by kernel_rfl) (by kernel_rfl) (by kernel_rfl) (fun _ _ _ h => h) (Or.inl ⟨by rfl, ?_⟩) hHeld ?_
          rotate_left
          ·
           intro w hSw
           clear hSw
           go_simp
           try with_reducible rfl
          try simp only [Act.put, List.setIfInBounds_toArray, List.set_cons_zero, List.set_cons_succ]
          refine wpAnyH_take (i := 8) (oi := { dst := some 78, op := .binOp .eql 22 (.tmp 76) (.tmp 77) 22, type := 4, pos := "law.go:151", after := #[{ on := 6, ground := .data }, { on := 7, ground := .data }, { on := 1, ground := .guard }], guard := some (1, false) }) (v := .bool true) rfl (by kernel_rfl) (by kernel_rfl) (by kernel_rfl) (fun _ _ _ h => h) (Or.inl ⟨by rfl, ?_⟩) hHeld ?_
          ·
           intro w hSw
           have hfc0 := hSw.1
           clear hSw
           go_simp
           try rw [i2]
          try simp only [Act.put, List.setIfInBounds_toArray, List.set_cons_zero, List.set_cons_succ]
          refine wpAnyH_take (i := 9) (oi := { dst := some 79, op := .move (.tmp 78), type := 4, pos := "law.go:151", after := #[{ on := 8, ground := .data }, { on := 1, ground := .chain }, { on := 1, ground := .guard }], guard := some (1, false) }) (v := ?_) rfl (by kernel_rfl) (by kernel_rfl) (by kernel_rfl) (fun _ _ _ h => h) (Or.inl ⟨by rfl, ?_⟩) hHeld ?_
          rotate_left
          ·
           intro w hSw
           clear hSw
           go_simp
           try with_reducible rfl
          try simp only [Act.put, List.setIfInBounds_toArray, List.set_cons_zero, List.set_cons_succ]
          refine wpAnyH_take (i := 10) (oi := { dst := some 80, op := .move (.tmp 2), type := 22, pos := "law.go:151", after := #[{ on := 9, ground := .guard }], guard := some (9, true) }) (v := ?_) rfl (by kernel_rfl) (by kernel_rfl) (by kernel_rfl) (fun _ _ _ h => h) (Or.inl ⟨by rfl, ?_⟩) hHeld ?_
          rotate_left
          ·
           intro w hSw
           clear hSw
           go_simp
           try with_reducible rfl
          try simp only [Act.put, List.setIfInBounds_toArray, List.set_cons_zero, List.set_cons_succ]
          refine wpAnyH_take (i := 11) (oi := { dst := some 81, op := .binOp .neq 22 (.tmp 80) (.const (.int .u32 0)) 22, type := 4, pos := "law.go:151", after := #[{ on := 10, ground := .data }, { on := 9, ground := .guard }], guard := some (9, true) }) (v := .bool true) rfl (by kernel_rfl) (by kernel_rfl) (by kernel_rfl) (fun _ _ _ h => h) (Or.inl ⟨by rfl, ?_⟩) hHeld ?_
          ·
           intro w hSw
           clear hSw
           go_simp
           try rw [i1]
          try simp only [Act.put, List.setIfInBounds_toArray, List.set_cons_zero, List.set_cons_succ]
          refine wpAnyH_take (i := 12) (oi := { dst := some 82, op := .pick (.tmp 79) (.tmp 81) (.const (.bool false)), type := 4, pos := "law.go:151", after := #[{ on := 9, ground := .data }, { on := 11, ground := .data }, { on := 1, ground := .guard }], guard := some (1, false) }) (v := ?_) rfl (by kernel_rfl) (by kernel_rfl) (by kernel_rfl) (fun _ _ _ h => h) (Or.inl ⟨by rfl, ?_⟩) hHeld ?_
          rotate_left
          ·
           intro w hSw
           clear hSw
           go_simp
           try with_reducible rfl
          try simp only [Act.put, List.setIfInBounds_toArray, List.set_cons_zero, List.set_cons_succ]
          refine wpAnyH_take (i := 13) (oi := { dst := some 83, op := .move (.tmp 82), type := 4, pos := "law.go:151", after := #[{ on := 12, ground := .data }, { on := 9, ground := .chain }, { on := 1, ground := .guard }], guard := some (1, false) }) (v := ?_) rfl (by kernel_rfl) (by kernel_rfl) (by kernel_rfl) (fun _ _ _ h => h) (Or.inl ⟨by rfl, ?_⟩) hHeld ?_
          rotate_left
          ·
           intro w hSw
           clear hSw
           go_simp
           try with_reducible rfl
          try simp only [Act.put, List.setIfInBounds_toArray, List.set_cons_zero, List.set_cons_succ]
          refine wpAnyH_take (i := 14) (oi := { dst := some 84, op := .move (.tmp 10), type := 53, pos := "law.go:151", after := #[{ on := 13, ground := .guard }], guard := some (13, true) }) (v := ?_) rfl (by kernel_rfl) (by kernel_rfl) (by kernel_rfl) (fun _ _ _ h => h) (Or.inl ⟨by rfl, ?_⟩) hHeld ?_
          rotate_left
          ·
           intro w hSw
           clear hSw
           go_simp
           try with_reducible rfl
          try simp only [Act.put, List.setIfInBounds_toArray, List.set_cons_zero, List.set_cons_succ]
          refine wpAnyH_take (i := 15) (oi := { dst := some 85, op := .move (.tmp 13), type := 3, pos := "law.go:151", after := #[{ on := 13, ground := .guard }], guard := some (13, true) }) (v := ?_) rfl (by kernel_rfl) (by kernel_rfl) (by kernel_rfl) (fun _ _ _ h => h) (Or.inl ⟨by rfl, ?_⟩) hHeld ?_
          rotate_left
          ·
           intro w hSw
           clear hSw
           go_simp
           try with_reducible rfl
          try simp only [Act.put, List.setIfInBounds_toArray, List.set_cons_zero, List.set_cons_succ]
          refine wpAnyH_take (i := 16) (oi := { dst := some 86, op := .indexAddr 53 (.tmp 84) (.tmp 85), type := 0, pos := "law.go:151", after := #[{ on := 14, ground := .data }, { on := 15, ground := .data }, { on := 13, ground := .guard }], guard := some (13, true) }) (v := ?_) rfl (by kernel_rfl) (by kernel_rfl) (by kernel_rfl) (fun _ _ _ h => h) (Or.inl ⟨by rfl, ?_⟩) hHeld ?_
          rotate_left
          ·
           intro w hSw
           clear hSw
           go_simp
           try with_reducible rfl
          try simp only [Act.put, List.setIfInBounds_toArray, List.set_cons_zero, List.set_cons_succ]
          refine wpAnyH_take (i := 17) (oi := { dst := some 87, op := .fieldAddr 58 (.tmp 86) 1, type := 0, pos := "law.go:151", after := #[{ on := 16, ground := .data }, { on := 13, ground := .guard }], guard := some (13, true) }) (v := ?_) rfl (by kernel_rfl) (by kernel_rfl) (by kernel_rfl) (fun _ _ _ h => h) (Or.inl ⟨by rfl, ?_⟩) hHeld ?_
          rotate_left
          ·
           intro w hSw
           clear hSw
           go_simp
           try with_reducible rfl
          try simp only [Act.put, List.setIfInBounds_toArray, List.set_cons_zero, List.set_cons_succ]
          refine wpAnyH_take (i := 18) (oi := { dst := some 88, op := .load 44 (.tmp 87), type := 44, pos := "law.go:151", after := #[{ on := 17, ground := .data }, { on := 13, ground := .guard }], guard := some (13, true) }) (v := .agg ([.int .u8 x.f, .int .u64 x.h, .int .u64 x.l, .int .i64 x.n]).toArray) rfl (by kernel_rfl) (by kernel_rfl) (by kernel_rfl) (fun _ _ _ h => h) (yieldsIf_load_mid (by rfl) _ _ rfl _ _ rfl ([.int .u8 x.f, .int .u64 x.h, .int .u64 x.l, .int .i64 x.n]) _ (fun w hSw => hSw.2 |> t61) Try.underlying44 rfl (sz4p _ _ _ _)) hHeld ?_
          try simp only [Act.put, List.setIfInBounds_toArray, List.set_cons_zero, List.set_cons_succ]
          refine wpAnyH_take (i := 19) (oi := { dst := some 89, op := .load 44 (.tmp 4), type := 44, pos := "law.go:151", after := #[{ on := 13, ground := .guard }], guard := some (13, true) }) (v := .agg ([.int .u8 pf, .int .u64 ph, .int .u64 pl, .int .i64 pn]).toArray) rfl (by kernel_rfl) (by kernel_rfl) (by kernel_rfl) (fun _ _ _ h => h) (yieldsIf_load_mid (by rfl) _ _ rfl _ _ rfl ([.int .u8 pf, .int .u64 ph, .int .u64 pl, .int .i64 pn]) _ (fun w hSw => hSw.1 |> row_range (cs := [.int .u8 pf, .int .u64 ph, .int .u64 pl, .int .i64 pn])) Try.underlying44 rfl (sz4p _ _ _ _)) hHeld ?_
          try simp only [Act.put, List.setIfInBounds_toArray, List.set_cons_zero, List.set_cons_succ]
          refine wpAnyH_ready (rs := [20]) (by kernel_rfl) (by simp) (AllReadyH.cons (o := { dst := some 90, op := .call { callee := .value (.func 21), args := #[.tmp 88, .tmp 89], argTypes := #[44, 44] }, type := 4, pos := "law.go:151", after := #[{ on := 18, ground := .data }, { on := 19, ground := .data }, { on := 13, ground := .chain }, { on := 13, ground := .guard }], guard := some (13, true) }) rfl (fun K hK => ?_) AllReadyH.nil)
          go_simp
          refine (HCV.out U).mono ?_
          rintro e z20 ⟨rfl, hb⟩
          have HBC := Lib.hid (chain HBC.out hb)
          clear hb 
          go_simp
          refine hK.out _ _ (mkS _ HBC.out) (fun hHeld2 => ?_)
          clear hK K hHeld
          have hHeld := hHeld2
          clear hHeld2
          try simp only [Act.put, List.setIfInBounds_toArray, List.set_cons_zero, List.set_cons_succ]
          refine wpAnyH_take (i := 21) (oi := { dst := some 91, op := .pick (.tmp 83) (.tmp 90) (.const (.bool false)), type := 4, pos := "law.go:151", after := #[{ on := 13, ground := .data }, { on := 20, ground := .data }, { on := 1, ground := .guard }], guard := some (1, false) }) (v := ?_) rfl (by kernel_rfl) (by kernel_rfl) (by kernel_rfl) (fun _ _ _ h => h) (Or.inl ⟨by rfl, ?_⟩) hHeld ?_
          rotate_left
          ·
           intro w hSw
           clear hSw
           go_simp
           try with_reducible rfl
          try simp only [Act.put, List.setIfInBounds_toArray, List.set_cons_zero, List.set_cons_succ]
          refine wpAnyH_take (i := 22) (oi := { dst := some 92, op := .move (.tmp 91), type := 4, pos := "law.go:151", after := #[{ on := 21, ground := .data }, { on := 20, ground := .chain }, { on := 1, ground := .guard }], guard := some (1, false) }) (v := ?_) rfl (by kernel_rfl) (by kernel_rfl) (by kernel_rfl) (fun _ _ _ h => h) (Or.inl ⟨by rfl, ?_⟩) hHeld ?_
          rotate_left
          ·
           intro w hSw
           clear hSw
           go_simp
           try with_reducible rfl
          try simp only [Act.put, List.setIfInBounds_toArray, List.set_cons_zero, List.set_cons_succ]
          refine wpAnyH_take (i := 23) (oi := { dst := some 93, op := .fieldAddr 44 (.tmp 4) 2, type := 0, pos := "law.go:151", after := #[{ on := 22, ground := .guard }], guard := some (22, true) }) (v := ?_) rfl (by kernel_rfl) (by kernel_rfl) (by kernel_rfl) (fun _ _ _ h => h) (Or.inl ⟨by rfl, ?_⟩) hHeld ?_
          rotate_left
          ·
           intro w hSw
           clear hSw
           go_simp
           try with_reducible rfl
          try simp only [Act.put, List.setIfInBounds_toArray, List.set_cons_zero, List.set_cons_succ]
          refine wpAnyH_take (i := 24) (oi := { dst := some 94, op := .load 3 (.tmp 93), type := 3, pos := "law.go:151", after := #[{ on := 23, ground := .data }, { on := 22, ground := .guard }], guard := some (22, true) }) (v := ?_) rfl (by kernel_rfl) (by kernel_rfl) (by kernel_rfl) (fun _ _ _ h => h) (Or.inl ⟨by rfl, ?_⟩) hHeld ?_
          rotate_left
          ·
           intro w hSw
           have hfc0 := hSw.1 |> c43
           clear hSw
           go_simp
           try with_reducible rfl
          try simp only [Act.put, List.setIfInBounds_toArray, List.set_cons_zero, List.set_cons_succ]
          refine wpAnyH_take (i := 25) (oi := { dst := some 95, op := .move (.tmp 10), type := 53, pos := "law.go:151", after := #[{ on := 22, ground := .guard }], guard := some (22, true) }) (v := ?_) rfl (by kernel_rfl) (by kernel_rfl) (by kernel_rfl) (fun _ _ _ h => h) (Or.inl ⟨by rfl, ?_⟩) hHeld ?_
          rotate_left
          ·
           intro w hSw
           clear hSw
           go_simp
           try with_reducible rfl
          try simp only [Act.put, List.setIfInBounds_toArray, List.set_cons_zero, List.set_cons_succ]
          refine wpAnyH_take (i := 26) (oi := { dst := some 96, op := .move (.tmp 13), type := 3, pos := "law.go:151", after := #[{ on := 22, ground := .guard }], guard := some (22, true) }) (v := ?_) rfl (by kernel_rfl) (by kernel_rfl) (by kernel_rfl) (fun _ _ _ h => h) (Or.inl ⟨by rfl, ?_⟩) hHeld ?_
          rotate_left
          ·
           intro w hSw
           clear hSw
           go_simp
           try with_reducible rfl
          try simp only [Act.put, List.setIfInBounds_toArray, List.set_cons_zero, List.set_cons_succ]
          refine wpAnyH_take (i := 27) (oi := { dst := some 97, op := .indexAddr 53 (.tmp 95) (.tmp 96), type := 0, pos := "law.go:151", after := #[{ on := 25, ground := .data }, { on := 26, ground := .data }, { on := 22, ground := .guard }], guard := some (22, true) }) (v := ?_) rfl (by kernel_rfl) (by kernel_rfl) (by kernel_rfl) (fun _ _ _ h => h) (Or.inl ⟨by rfl, ?_⟩) hHeld ?_
          rotate_left
          ·
           intro w hSw
           clear hSw
           go_simp
           try with_reducible rfl
          try simp only [Act.put, List.setIfInBounds_toArray, List.set_cons_zero, List.set_cons_succ]
          refine wpAnyH_take (i := 28) (oi := { dst := some 98, op := .fieldAddr 58 (.tmp 97) 2, type := 0, pos := "law.go:151", after := #[{ on := 27, ground := .data }, { on := 22, ground := .guard }], guard := some (22, true) }) (v := ?_) rfl (by kernel_rfl) (by kernel_rfl) (by kernel_rfl) (fun _ _ _ h => h) (Or.inl ⟨by rfl, ?_⟩) hHeld ?_
          rotate_left
          ·
           intro w hSw
           clear hSw
           go_simp
           try with_reducible rfl
          try simp only [Act.put, List.setIfInBounds_toArray, List.set_cons_zero, List.set_cons_succ]
          refine wpAnyH_take (i := 29) (oi := { dst := some 99, op := .load 3 (.tmp 98), type := 3, pos := "law.go:151", after := #[{ on := 28, ground := .data }, { on := 22, ground := .guard }], guard := some (22, true) }) (v := ?_) rfl (by kernel_rfl) (by kernel_rfl) (by kernel_rfl) (fun _ _ _ h => h) (Or.inl ⟨by rfl, ?_⟩) hHeld ?_
          rotate_left
          ·
           intro w hSw
           have hfc0 := hSw.2 |> r65
           clear hSw
           go_simp
           try with_reducible rfl
          try simp only [Act.put, List.setIfInBounds_toArray, List.set_cons_zero, List.set_cons_succ]
          refine wpAnyH_take (i := 30) (oi := { dst := some 100, op := .binOp .leq 3 (.tmp 94) (.tmp 99) 3, type := 4, pos := "law.go:151", after := #[{ on := 24, ground := .data }, { on := 29, ground := .data }, { on := 22, ground := .guard }], guard := some (22, true) }) (v := .bool true) rfl (by kernel_rfl) (by kernel_rfl) (by kernel_rfl) (fun _ _ _ h => h) (Or.inl ⟨by rfl, ?_⟩) hHeld ?_
          ·
           intro w hSw
           clear hSw
           go_simp
           try omega
          try simp only [Act.put, List.setIfInBounds_toArray, List.set_cons_zero, List.set_cons_succ]
          refine wpAnyH_take (i := 31) (oi := { dst := some 101, op := .pick (.tmp 92) (.tmp 100) (.const (.bool false)), type := 4, pos := "law.go:151", after := #[{ on := 22, ground := .data }, { on := 30, ground := .data }, { on := 1, ground := .guard }], guard := some (1, false) }) (v := ?_) rfl (by kernel_rfl) (by kernel_rfl) (by kernel_rfl) (fun _ _ _ h => h) (Or.inl ⟨by rfl, ?_⟩) hHeld ?_
          rotate_left
          ·
           intro w hSw
           clear hSw
           go_simp
           try with_reducible rfl
          try simp only [Act.put, List.setIfInBounds_toArray, List.set_cons_zero, List.set_cons_succ]
          refine wpAnyH_take (i := 32) (oi := { dst := some 102, op := .pick (.tmp 71) (.const (.bool true)) (.tmp 101), type := 4, pos := "law.go:151", after := #[{ on := 1, ground := .data }, { on := 31, ground := .data }], guard := none }) (v := ?_) rfl (by kernel_rfl) (by kernel_rfl) (by kernel_rfl) (fun _ _ _ h => h) (Or.inl ⟨by rfl, ?_⟩) hHeld ?_
          rotate_left
          ·
           intro w hSw
           clear hSw
           go_simp
           try with_reducible rfl
          try simp only [Act.put, List.setIfInBounds_toArray, List.set_cons_zero, List.set_cons_succ]
          refine wpAnyH_take (i := 33) (oi := { dst := some 12, op := .assign (.tmp 102), type := 4, pos := "law.go:151", after := #[{ on := 32, ground := .data }, { on := 22, ground := .chain }, { on := 0, ground := .phase }, { on := 1, ground := .phase }, { on := 2, ground := .phase }, { on := 3, ground := .phase }, { on := 4, ground := .phase }, { on := 5, ground := .phase }, { on := 6, ground := .phase }, { on := 7, ground := .phase }, { on := 8, ground := .phase }, { on := 9, ground := .phase }, { on := 10, ground := .phase }, { on := 11, ground := .phase }, { on := 12, ground := .phase }, { on := 13, ground := .phase }, { on := 14, ground := .phase }, { on := 15, ground := .phase }, { on := 16, ground := .phase }, { on := 17, ground := .phase }, { on := 18, ground := .phase }, { on := 19, ground := .phase }, { on := 20, ground := .phase }, { on := 21, ground := .phase }, { on := 22, ground := .phase }, { on := 23, ground := .phase }, { on := 24, ground := .phase }, { on := 25, ground := .phase }, { on := 26, ground := .phase }, { on := 27, ground := .phase }, { on := 28, ground := .phase }, { on := 29, ground := .phase }, { on := 30, ground := .phase }, { on := 31, ground := .phase }, { on := 32, ground := .phase }], guard := none }) (v := ?_) rfl (by kernel_rfl) (by kernel_rfl) (by kernel_rfl) (fun _ _ _ h => h) (Or.inl ⟨by rfl, ?_⟩) hHeld ?_
          rotate_left
          ·
           intro w hSw
           clear hSw
           go_simp
           try with_reducible rfl
          try simp only [Act.put, List.setIfInBounds_toArray, List.set_cons_zero, List.set_cons_succ]
          refine wpAnyH_done (by kernel_rfl) ?_ _
          go_wp2_with fail
          exact ⟨⟨k + 1, true, by omega, rfl, by go_num, Lib.hid (chain HBw.out HBC.out), HS⟩, by simp [intOf]; omega⟩
         ·
          rw [decide_eq_false hm] at hq
          have HS := Lib.hid hq
          clear hq ha hs
          go_upto_region 14 with (fail)
          have mkS : ∀ z, Below wr.heap.size wr z → (fun (z : World) => z.heap[w.heap.size + 1]? = some (.cells #[.int .u8 pf, .int .u64 ph, .int .u64 pl, .int .i64 pn] 44 (0, 0)) ∧ z.rangeAt g (o + k * 6) [.int .u32 sy, .int .u8 x.f, .int .u64 x.h, .int .u64 x.l, .int .i64 x.n, .int .i64 x.m]) z := fun z hz => ⟨row_on HPW.out hz, rangeAt_on HXW.out hz⟩
          refine wp_region_held_drew (S := fun (z : World) => z.heap[w.heap.size + 1]? = some (.cells #[.int .u8 pf, .int .u64 ph, .int .u64 pl, .int .i64 pn] 44 (0, 0)) ∧ z.rangeAt g (o + k * 6) [.int .u32 sy, .int .u8 x.f, .int .u64 x.h, .int .u64 x.l, .int .i64 x.n, .int .i64 x.m]) (by kernel_rfl) (mkS _ (Below.refl _ _).drew) (fun hHeld => ?_)
          generalize hU : World.drew wr = U at hHeld ⊢
          have HBC := Lib.hid (show Below wr.heap.size wr U by rw [← hU]; exact (Below.refl _ _).drew)
          clear hU
          refine wpAnyH_take (i := 0) (oi := { dst := some 70, op := .move (.tmp 12), type := 4, pos := "law.go:151", after := #[], guard := none }) (v := ?_) rfl (by kernel_rfl) (by kernel_rfl) (by kernel_rfl) (fun _ _ _ h => h) (Or.inl ⟨by rfl, ?_⟩) hHeld ?_
          rotate_left
          ·
           intro w hSw
           clear hSw
           go_simp
           try with_reducible rfl
          try simp only [Act.put, List.setIfInBounds_toArray, List.set_cons_zero, List.set_cons_succ]
          refine wpAnyH_take (i := 1) (oi := { dst := some 71, op := .move (.tmp 70), type := 4, pos := "law.go:151", after := #[{ on := 0, ground := .data }], guard := none }) (v := ?_) rfl (by kernel_rfl) (by kernel_rfl) (by kernel_rfl) (fun _ _ _ h => h) (Or.inl ⟨by rfl, ?_⟩) hHeld ?_
          rotate_left
          ·
           intro w hSw
           clear hSw
           go_simp
           try with_reducible rfl
          try simp only [Act.put, List.setIfInBounds_toArray, List.set_cons_zero, List.set_cons_succ]
          refine wpAnyH_take (i := 2) (oi := { dst := some 72, op := .move (.tmp 10), type := 53, pos := "law.go:151", after := #[{ on := 1, ground := .guard }], guard := some (1, false) }) (v := ?_) rfl (by kernel_rfl) (by kernel_rfl) (by kernel_rfl) (fun _ _ _ h => h) (Or.inl ⟨by rfl, ?_⟩) hHeld ?_
          rotate_left
          ·
           intro w hSw
           clear hSw
           go_simp
           try with_reducible rfl
          try simp only [Act.put, List.setIfInBounds_toArray, List.set_cons_zero, List.set_cons_succ]
          refine wpAnyH_take (i := 3) (oi := { dst := some 73, op := .move (.tmp 13), type := 3, pos := "law.go:151", after := #[{ on := 1, ground := .guard }], guard := some (1, false) }) (v := ?_) rfl (by kernel_rfl) (by kernel_rfl) (by kernel_rfl) (fun _ _ _ h => h) (Or.inl ⟨by rfl, ?_⟩) hHeld ?_
          rotate_left
          ·
           intro w hSw
           clear hSw
           go_simp
           try with_reducible rfl
          try simp only [Act.put, List.setIfInBounds_toArray, List.set_cons_zero, List.set_cons_succ]
          refine wpAnyH_take (i := 4) (oi := { dst := some 74, op := .indexAddr 53 (.tmp 72) (.tmp 73), type := 0, pos := "law.go:151", after := #[{ on := 2, ground := .data }, { on := 3, ground := .data }, { on := 1, ground := .guard }], guard := some (1, false) }) (v := ?_) rfl (by kernel_rfl) (by kernel_rfl) (by kernel_rfl) (fun _ _ _ h => h) (Or.inl ⟨by rfl, ?_⟩) hHeld ?_
          rotate_left
          ·
           intro w hSw
           clear hSw
           go_simp
           try with_reducible rfl
          try simp only [Act.put, List.setIfInBounds_toArray, List.set_cons_zero, List.set_cons_succ]
          refine wpAnyH_take (i := 5) (oi := { dst := some 75, op := .fieldAddr 58 (.tmp 74) 0, type := 0, pos := "law.go:151", after := #[{ on := 4, ground := .data }, { on := 1, ground := .guard }], guard := some (1, false) }) (v := ?_) rfl (by kernel_rfl) (by kernel_rfl) (by kernel_rfl) (fun _ _ _ h => h) (Or.inl ⟨by rfl, ?_⟩) hHeld ?_
          rotate_left
          ·
           intro w hSw
           clear hSw
           go_simp
           try with_reducible rfl
          try simp only [Act.put, List.setIfInBounds_toArray, List.set_cons_zero, List.set_cons_succ]
          refine wpAnyH_take (i := 6) (oi := { dst := some 76, op := .load 22 (.tmp 75), type := 22, pos := "law.go:151", after := #[{ on := 5, ground := .data }, { on := 1, ground := .guard }], guard := some (1, false) }) (v := ?_) rfl (by kernel_rfl) (by kernel_rfl) (by kernel_rfl) (fun _ _ _ h => h) (Or.inl ⟨by rfl, ?_⟩) hHeld ?_
          rotate_left
          ·
           intro w hSw
           have hfc0 := hSw.2 |> r60
           clear hSw
           go_simp
           try with_reducible rfl
          try simp only [Act.put, List.setIfInBounds_toArray, List.set_cons_zero, List.set_cons_succ]
          refine wpAnyH_take (i := 7) (oi := { dst := some 77, op := .move (.tmp 2), type := 22, pos := "law.go:151", after := #[{ on := 1, ground := .guard }], guard := some (1, false) }) (v := ?_) rfl (by kernel_rfl) (by kernel_rfl) (by kernel_rfl) (fun _ _ _ h => h) (Or.inl ⟨by rfl, ?_⟩) hHeld ?_
          rotate_left
          ·
           intro w hSw
           clear hSw
           go_simp
           try with_reducible rfl
          try simp only [Act.put, List.setIfInBounds_toArray, List.set_cons_zero, List.set_cons_succ]
          refine wpAnyH_take (i := 8) (oi := { dst := some 78, op := .binOp .eql 22 (.tmp 76) (.tmp 77) 22, type := 4, pos := "law.go:151", after := #[{ on := 6, ground := .data }, { on := 7, ground := .data }, { on := 1, ground := .guard }], guard := some (1, false) }) (v := .bool true) rfl (by kernel_rfl) (by kernel_rfl) (by kernel_rfl) (fun _ _ _ h => h) (Or.inl ⟨by rfl, ?_⟩) hHeld ?_
          ·
           intro w hSw
           have hfc0 := hSw.1
           clear hSw
           go_simp
           try rw [i2]
          try simp only [Act.put, List.setIfInBounds_toArray, List.set_cons_zero, List.set_cons_succ]
          refine wpAnyH_take (i := 9) (oi := { dst := some 79, op := .move (.tmp 78), type := 4, pos := "law.go:151", after := #[{ on := 8, ground := .data }, { on := 1, ground := .chain }, { on := 1, ground := .guard }], guard := some (1, false) }) (v := ?_) rfl (by kernel_rfl) (by kernel_rfl) (by kernel_rfl) (fun _ _ _ h => h) (Or.inl ⟨by rfl, ?_⟩) hHeld ?_
          rotate_left
          ·
           intro w hSw
           clear hSw
           go_simp
           try with_reducible rfl
          try simp only [Act.put, List.setIfInBounds_toArray, List.set_cons_zero, List.set_cons_succ]
          refine wpAnyH_take (i := 10) (oi := { dst := some 80, op := .move (.tmp 2), type := 22, pos := "law.go:151", after := #[{ on := 9, ground := .guard }], guard := some (9, true) }) (v := ?_) rfl (by kernel_rfl) (by kernel_rfl) (by kernel_rfl) (fun _ _ _ h => h) (Or.inl ⟨by rfl, ?_⟩) hHeld ?_
          rotate_left
          ·
           intro w hSw
           clear hSw
           go_simp
           try with_reducible rfl
          try simp only [Act.put, List.setIfInBounds_toArray, List.set_cons_zero, List.set_cons_succ]
          refine wpAnyH_take (i := 11) (oi := { dst := some 81, op := .binOp .neq 22 (.tmp 80) (.const (.int .u32 0)) 22, type := 4, pos := "law.go:151", after := #[{ on := 10, ground := .data }, { on := 9, ground := .guard }], guard := some (9, true) }) (v := .bool true) rfl (by kernel_rfl) (by kernel_rfl) (by kernel_rfl) (fun _ _ _ h => h) (Or.inl ⟨by rfl, ?_⟩) hHeld ?_
          ·
           intro w hSw
           clear hSw
           go_simp
           try rw [i1]
          try simp only [Act.put, List.setIfInBounds_toArray, List.set_cons_zero, List.set_cons_succ]
          refine wpAnyH_take (i := 12) (oi := { dst := some 82, op := .pick (.tmp 79) (.tmp 81) (.const (.bool false)), type := 4, pos := "law.go:151", after := #[{ on := 9, ground := .data }, { on := 11, ground := .data }, { on := 1, ground := .guard }], guard := some (1, false) }) (v := ?_) rfl (by kernel_rfl) (by kernel_rfl) (by kernel_rfl) (fun _ _ _ h => h) (Or.inl ⟨by rfl, ?_⟩) hHeld ?_
          rotate_left
          ·
           intro w hSw
           clear hSw
           go_simp
           try with_reducible rfl
          try simp only [Act.put, List.setIfInBounds_toArray, List.set_cons_zero, List.set_cons_succ]
          refine wpAnyH_take (i := 13) (oi := { dst := some 83, op := .move (.tmp 82), type := 4, pos := "law.go:151", after := #[{ on := 12, ground := .data }, { on := 9, ground := .chain }, { on := 1, ground := .guard }], guard := some (1, false) }) (v := ?_) rfl (by kernel_rfl) (by kernel_rfl) (by kernel_rfl) (fun _ _ _ h => h) (Or.inl ⟨by rfl, ?_⟩) hHeld ?_
          rotate_left
          ·
           intro w hSw
           clear hSw
           go_simp
           try with_reducible rfl
          try simp only [Act.put, List.setIfInBounds_toArray, List.set_cons_zero, List.set_cons_succ]
          refine wpAnyH_take (i := 14) (oi := { dst := some 84, op := .move (.tmp 10), type := 53, pos := "law.go:151", after := #[{ on := 13, ground := .guard }], guard := some (13, true) }) (v := ?_) rfl (by kernel_rfl) (by kernel_rfl) (by kernel_rfl) (fun _ _ _ h => h) (Or.inl ⟨by rfl, ?_⟩) hHeld ?_
          rotate_left
          ·
           intro w hSw
           clear hSw
           go_simp
           try with_reducible rfl
          try simp only [Act.put, List.setIfInBounds_toArray, List.set_cons_zero, List.set_cons_succ]
          refine wpAnyH_take (i := 15) (oi := { dst := some 85, op := .move (.tmp 13), type := 3, pos := "law.go:151", after := #[{ on := 13, ground := .guard }], guard := some (13, true) }) (v := ?_) rfl (by kernel_rfl) (by kernel_rfl) (by kernel_rfl) (fun _ _ _ h => h) (Or.inl ⟨by rfl, ?_⟩) hHeld ?_
          rotate_left
          ·
           intro w hSw
           clear hSw
           go_simp
           try with_reducible rfl
          try simp only [Act.put, List.setIfInBounds_toArray, List.set_cons_zero, List.set_cons_succ]
          refine wpAnyH_take (i := 16) (oi := { dst := some 86, op := .indexAddr 53 (.tmp 84) (.tmp 85), type := 0, pos := "law.go:151", after := #[{ on := 14, ground := .data }, { on := 15, ground := .data }, { on := 13, ground := .guard }], guard := some (13, true) }) (v := ?_) rfl (by kernel_rfl) (by kernel_rfl) (by kernel_rfl) (fun _ _ _ h => h) (Or.inl ⟨by rfl, ?_⟩) hHeld ?_
          rotate_left
          ·
           intro w hSw
           clear hSw
           go_simp
           try with_reducible rfl
          try simp only [Act.put, List.setIfInBounds_toArray, List.set_cons_zero, List.set_cons_succ]
          refine wpAnyH_take (i := 17) (oi := { dst := some 87, op := .fieldAddr 58 (.tmp 86) 1, type := 0, pos := "law.go:151", after := #[{ on := 16, ground := .data }, { on := 13, ground := .guard }], guard := some (13, true) }) (v := ?_) rfl (by kernel_rfl) (by kernel_rfl) (by kernel_rfl) (fun _ _ _ h => h) (Or.inl ⟨by rfl, ?_⟩) hHeld ?_
          rotate_left
          ·
           intro w hSw
           clear hSw
           go_simp
           try with_reducible rfl
          try simp only [Act.put, List.setIfInBounds_toArray, List.set_cons_zero, List.set_cons_succ]
          refine wpAnyH_take (i := 18) (oi := { dst := some 88, op := .load 44 (.tmp 87), type := 44, pos := "law.go:151", after := #[{ on := 17, ground := .data }, { on := 13, ground := .guard }], guard := some (13, true) }) (v := .agg ([.int .u8 x.f, .int .u64 x.h, .int .u64 x.l, .int .i64 x.n]).toArray) rfl (by kernel_rfl) (by kernel_rfl) (by kernel_rfl) (fun _ _ _ h => h) (yieldsIf_load_mid (by rfl) _ _ rfl _ _ rfl ([.int .u8 x.f, .int .u64 x.h, .int .u64 x.l, .int .i64 x.n]) _ (fun w hSw => hSw.2 |> t61) Try.underlying44 rfl (sz4p _ _ _ _)) hHeld ?_
          try simp only [Act.put, List.setIfInBounds_toArray, List.set_cons_zero, List.set_cons_succ]
          refine wpAnyH_take (i := 19) (oi := { dst := some 89, op := .load 44 (.tmp 4), type := 44, pos := "law.go:151", after := #[{ on := 13, ground := .guard }], guard := some (13, true) }) (v := .agg ([.int .u8 pf, .int .u64 ph, .int .u64 pl, .int .i64 pn]).toArray) rfl (by kernel_rfl) (by kernel_rfl) (by kernel_rfl) (fun _ _ _ h => h) (yieldsIf_load_mid (by rfl) _ _ rfl _ _ rfl ([.int .u8 pf, .int .u64 ph, .int .u64 pl, .int .i64 pn]) _ (fun w hSw => hSw.1 |> row_range (cs := [.int .u8 pf, .int .u64 ph, .int .u64 pl, .int .i64 pn])) Try.underlying44 rfl (sz4p _ _ _ _)) hHeld ?_
          try simp only [Act.put, List.setIfInBounds_toArray, List.set_cons_zero, List.set_cons_succ]
          refine wpAnyH_ready (rs := [20]) (by kernel_rfl) (by simp) (AllReadyH.cons (o := { dst := some 90, op := .call { callee := .value (.func 21), args := #[.tmp 88, .tmp 89], argTypes := #[44, 44] }, type := 4, pos := "law.go:151", after := #[{ on := 18, ground := .data }, { on := 19, ground := .data }, { on := 13, ground := .chain }, { on := 13, ground := .guard }], guard := some (13, true) }) rfl (fun K hK => ?_) AllReadyH.nil)
          go_simp
          refine (HCV.out U).mono ?_
          rintro e z20 ⟨rfl, hb⟩
          have HBC := Lib.hid (chain HBC.out hb)
          clear hb 
          go_simp
          refine hK.out _ _ (mkS _ HBC.out) (fun hHeld2 => ?_)
          clear hK K hHeld
          have hHeld := hHeld2
          clear hHeld2
          try simp only [Act.put, List.setIfInBounds_toArray, List.set_cons_zero, List.set_cons_succ]
          refine wpAnyH_take (i := 21) (oi := { dst := some 91, op := .pick (.tmp 83) (.tmp 90) (.const (.bool false)), type := 4, pos := "law.go:151", after := #[{ on := 13, ground := .data }, { on := 20, ground := .data }, { on := 1, ground := .guard }], guard := some (1, false) }) (v := ?_) rfl (by kernel_rfl) (by kernel_rfl) (by kernel_rfl) (fun _ _ _ h => h) (Or.inl ⟨by rfl, ?_⟩) hHeld ?_
          rotate_left
          ·
           intro w hSw
           clear hSw
           go_simp
           try with_reducible rfl
          try simp only [Act.put, List.setIfInBounds_toArray, List.set_cons_zero, List.set_cons_succ]
          refine wpAnyH_take (i := 22) (oi := { dst := some 92, op := .move (.tmp 91), type := 4, pos := "law.go:151", after := #[{ on := 21, ground := .data }, { on := 20, ground := .chain }, { on := 1, ground := .guard }], guard := some (1, false) }) (v := ?_) rfl (by kernel_rfl) (by kernel_rfl) (by kernel_rfl) (fun _ _ _ h => h) (Or.inl ⟨by rfl, ?_⟩) hHeld ?_
          rotate_left
          ·
           intro w hSw
           clear hSw
           go_simp
           try with_reducible rfl
          try simp only [Act.put, List.setIfInBounds_toArray, List.set_cons_zero, List.set_cons_succ]
          refine wpAnyH_take (i := 23) (oi := { dst := some 93, op := .fieldAddr 44 (.tmp 4) 2, type := 0, pos := "law.go:151", after := #[{ on := 22, ground := .guard }], guard := some (22, true) }) (v := ?_) rfl (by kernel_rfl) (by kernel_rfl) (by kernel_rfl) (fun _ _ _ h => h) (Or.inl ⟨by rfl, ?_⟩) hHeld ?_
          rotate_left
          ·
           intro w hSw
           clear hSw
           go_simp
           try with_reducible rfl
          try simp only [Act.put, List.setIfInBounds_toArray, List.set_cons_zero, List.set_cons_succ]
          refine wpAnyH_take (i := 24) (oi := { dst := some 94, op := .load 3 (.tmp 93), type := 3, pos := "law.go:151", after := #[{ on := 23, ground := .data }, { on := 22, ground := .guard }], guard := some (22, true) }) (v := ?_) rfl (by kernel_rfl) (by kernel_rfl) (by kernel_rfl) (fun _ _ _ h => h) (Or.inl ⟨by rfl, ?_⟩) hHeld ?_
          rotate_left
          ·
           intro w hSw
           have hfc0 := hSw.1 |> c43
           clear hSw
           go_simp
           try with_reducible rfl
          try simp only [Act.put, List.setIfInBounds_toArray, List.set_cons_zero, List.set_cons_succ]
          refine wpAnyH_take (i := 25) (oi := { dst := some 95, op := .move (.tmp 10), type := 53, pos := "law.go:151", after := #[{ on := 22, ground := .guard }], guard := some (22, true) }) (v := ?_) rfl (by kernel_rfl) (by kernel_rfl) (by kernel_rfl) (fun _ _ _ h => h) (Or.inl ⟨by rfl, ?_⟩) hHeld ?_
          rotate_left
          ·
           intro w hSw
           clear hSw
           go_simp
           try with_reducible rfl
          try simp only [Act.put, List.setIfInBounds_toArray, List.set_cons_zero, List.set_cons_succ]
          refine wpAnyH_take (i := 26) (oi := { dst := some 96, op := .move (.tmp 13), type := 3, pos := "law.go:151", after := #[{ on := 22, ground := .guard }], guard := some (22, true) }) (v := ?_) rfl (by kernel_rfl) (by kernel_rfl) (by kernel_rfl) (fun _ _ _ h => h) (Or.inl ⟨by rfl, ?_⟩) hHeld ?_
          rotate_left
          ·
           intro w hSw
           clear hSw
           go_simp
           try with_reducible rfl
          try simp only [Act.put, List.setIfInBounds_toArray, List.set_cons_zero, List.set_cons_succ]
          refine wpAnyH_take (i := 27) (oi := { dst := some 97, op := .indexAddr 53 (.tmp 95) (.tmp 96), type := 0, pos := "law.go:151", after := #[{ on := 25, ground := .data }, { on := 26, ground := .data }, { on := 22, ground := .guard }], guard := some (22, true) }) (v := ?_) rfl (by kernel_rfl) (by kernel_rfl) (by kernel_rfl) (fun _ _ _ h => h) (Or.inl ⟨by rfl, ?_⟩) hHeld ?_
          rotate_left
          ·
           intro w hSw
           clear hSw
           go_simp
           try with_reducible rfl
          try simp only [Act.put, List.setIfInBounds_toArray, List.set_cons_zero, List.set_cons_succ]
          refine wpAnyH_take (i := 28) (oi := { dst := some 98, op := .fieldAddr 58 (.tmp 97) 2, type := 0, pos := "law.go:151", after := #[{ on := 27, ground := .data }, { on := 22, ground := .guard }], guard := some (22, true) }) (v := ?_) rfl (by kernel_rfl) (by kernel_rfl) (by kernel_rfl) (fun _ _ _ h => h) (Or.inl ⟨by rfl, ?_⟩) hHeld ?_
          rotate_left
          ·
           intro w hSw
           clear hSw
           go_simp
           try with_reducible rfl
          try simp only [Act.put, List.setIfInBounds_toArray, List.set_cons_zero, List.set_cons_succ]
          refine wpAnyH_take (i := 29) (oi := { dst := some 99, op := .load 3 (.tmp 98), type := 3, pos := "law.go:151", after := #[{ on := 28, ground := .data }, { on := 22, ground := .guard }], guard := some (22, true) }) (v := ?_) rfl (by kernel_rfl) (by kernel_rfl) (by kernel_rfl) (fun _ _ _ h => h) (Or.inl ⟨by rfl, ?_⟩) hHeld ?_
          rotate_left
          ·
           intro w hSw
           have hfc0 := hSw.2 |> r65
           clear hSw
           go_simp
           try with_reducible rfl
          try simp only [Act.put, List.setIfInBounds_toArray, List.set_cons_zero, List.set_cons_succ]
          refine wpAnyH_take (i := 30) (oi := { dst := some 100, op := .binOp .leq 3 (.tmp 94) (.tmp 99) 3, type := 4, pos := "law.go:151", after := #[{ on := 24, ground := .data }, { on := 29, ground := .data }, { on := 22, ground := .guard }], guard := some (22, true) }) (v := .bool false) rfl (by kernel_rfl) (by kernel_rfl) (by kernel_rfl) (fun _ _ _ h => h) (Or.inl ⟨by rfl, ?_⟩) hHeld ?_
          ·
           intro w hSw
           clear hSw
           go_simp
           try omega
          try simp only [Act.put, List.setIfInBounds_toArray, List.set_cons_zero, List.set_cons_succ]
          refine wpAnyH_take (i := 31) (oi := { dst := some 101, op := .pick (.tmp 92) (.tmp 100) (.const (.bool false)), type := 4, pos := "law.go:151", after := #[{ on := 22, ground := .data }, { on := 30, ground := .data }, { on := 1, ground := .guard }], guard := some (1, false) }) (v := ?_) rfl (by kernel_rfl) (by kernel_rfl) (by kernel_rfl) (fun _ _ _ h => h) (Or.inl ⟨by rfl, ?_⟩) hHeld ?_
          rotate_left
          ·
           intro w hSw
           clear hSw
           go_simp
           try with_reducible rfl
          try simp only [Act.put, List.setIfInBounds_toArray, List.set_cons_zero, List.set_cons_succ]
          refine wpAnyH_take (i := 32) (oi := { dst := some 102, op := .pick (.tmp 71) (.const (.bool true)) (.tmp 101), type := 4, pos := "law.go:151", after := #[{ on := 1, ground := .data }, { on := 31, ground := .data }], guard := none }) (v := ?_) rfl (by kernel_rfl) (by kernel_rfl) (by kernel_rfl) (fun _ _ _ h => h) (Or.inl ⟨by rfl, ?_⟩) hHeld ?_
          rotate_left
          ·
           intro w hSw
           clear hSw
           go_simp
           try with_reducible rfl
          try simp only [Act.put, List.setIfInBounds_toArray, List.set_cons_zero, List.set_cons_succ]
          refine wpAnyH_take (i := 33) (oi := { dst := some 12, op := .assign (.tmp 102), type := 4, pos := "law.go:151", after := #[{ on := 32, ground := .data }, { on := 22, ground := .chain }, { on := 0, ground := .phase }, { on := 1, ground := .phase }, { on := 2, ground := .phase }, { on := 3, ground := .phase }, { on := 4, ground := .phase }, { on := 5, ground := .phase }, { on := 6, ground := .phase }, { on := 7, ground := .phase }, { on := 8, ground := .phase }, { on := 9, ground := .phase }, { on := 10, ground := .phase }, { on := 11, ground := .phase }, { on := 12, ground := .phase }, { on := 13, ground := .phase }, { on := 14, ground := .phase }, { on := 15, ground := .phase }, { on := 16, ground := .phase }, { on := 17, ground := .phase }, { on := 18, ground := .phase }, { on := 19, ground := .phase }, { on := 20, ground := .phase }, { on := 21, ground := .phase }, { on := 22, ground := .phase }, { on := 23, ground := .phase }, { on := 24, ground := .phase }, { on := 25, ground := .phase }, { on := 26, ground := .phase }, { on := 27, ground := .phase }, { on := 28, ground := .phase }, { on := 29, ground := .phase }, { on := 30, ground := .phase }, { on := 31, ground := .phase }, { on := 32, ground := .phase }], guard := none }) (v := ?_) rfl (by kernel_rfl) (by kernel_rfl) (by kernel_rfl) (fun _ _ _ h => h) (Or.inl ⟨by rfl, ?_⟩) hHeld ?_
          rotate_left
          ·
           intro w hSw
           clear hSw
           go_simp
           try with_reducible rfl
          try simp only [Act.put, List.setIfInBounds_toArray, List.set_cons_zero, List.set_cons_succ]
          refine wpAnyH_done (by kernel_rfl) ?_ _
          go_wp2_with fail
          exact ⟨⟨k + 1, false, by omega, rfl, by go_num, Lib.hid (chain HBw.out HBC.out), HS⟩, by simp [intOf]; omega⟩
      ·
       have i2 : (sy == a) = false := by rw [beq_eq_false_iff_ne]; exact fun h => hs h.symm
       rw [decide_eq_false hs, Bool.false_and, Bool.false_and] at hq
       have HS := Lib.hid hq
       clear hq hs
       go_upto_region 14 with (fail)
       have mkS : ∀ z, Below wr.heap.size wr z → (fun (z : World) => z.heap[w.heap.size + 1]? = some (.cells #[.int .u8 pf, .int .u64 ph, .int .u64 pl, .int .i64 pn] 44 (0, 0)) ∧ z.rangeAt g (o + k * 6) [.int .u32 sy, .int .u8 x.f, .int .u64 x.h, .int .u64 x.l, .int .i64 x.n, .int .i64 x.m]) z := fun z hz => ⟨row_on HPW.out hz, rangeAt_on HXW.out hz⟩
       refine wp_region_held_drew (S := fun (z : World) => z.heap[w.heap.size + 1]? = some (.cells #[.int .u8 pf, .int .u64 ph, .int .u64 pl, .int .i64 pn] 44 (0, 0)) ∧ z.rangeAt g (o + k * 6) [.int .u32 sy, .int .u8 x.f, .int .u64 x.h, .int .u64 x.l, .int .i64 x.n, .int .i64 x.m]) (by kernel_rfl) (mkS _ (Below.refl _ _).drew) (fun hHeld => ?_)
       generalize hU : World.drew wr = U at hHeld ⊢
       have HBC := Lib.hid (show Below wr.heap.size wr U by rw [← hU]; exact (Below.refl _ _).drew)
       clear hU
       refine wpAnyH_take (i := 0) (oi := { dst := some 70, op := .move (.tmp 12), type := 4, pos := "law.go:151", after := #[], guard := none }) (v := ?_) rfl (by kernel_rfl) (by kernel_rfl) (by kernel_rfl) (fun _ _ _ h => h) (Or.inl ⟨by rfl, ?_⟩) hHeld ?_
       rotate_left
       ·
        intro w hSw
        clear hSw
        go_simp
        try with_reducible rfl
       try simp only [Act.put, List.setIfInBounds_toArray, List.set_cons_zero, List.set_cons_succ]
       refine wpAnyH_take (i := 1) (oi := { dst := some 71, op := .move (.tmp 70), type := 4, pos := "law.go:151", after := #[{ on := 0, ground := .data }], guard := none }) (v := ?_) rfl (by kernel_rfl) (by kernel_rfl) (by kernel_rfl) (fun _ _ _ h => h) (Or.inl ⟨by rfl, ?_⟩) hHeld ?_
       rotate_left
       ·
        intro w hSw
        clear hSw
        go_simp
        try with_reducible rfl
       try simp only [Act.put, List.setIfInBounds_toArray, List.set_cons_zero, List.set_cons_succ]
       refine wpAnyH_take (i := 2) (oi := { dst := some 72, op := .move (.tmp 10), type := 53, pos := "law.go:151", after := #[{ on := 1, ground := .guard }], guard := some (1, false) }) (v := ?_) rfl (by kernel_rfl) (by kernel_rfl) (by kernel_rfl) (fun _ _ _ h => h) (Or.inl ⟨by rfl, ?_⟩) hHeld ?_
       rotate_left
       ·
        intro w hSw
        clear hSw
        go_simp
        try with_reducible rfl
       try simp only [Act.put, List.setIfInBounds_toArray, List.set_cons_zero, List.set_cons_succ]
       refine wpAnyH_take (i := 3) (oi := { dst := some 73, op := .move (.tmp 13), type := 3, pos := "law.go:151", after := #[{ on := 1, ground := .guard }], guard := some (1, false) }) (v := ?_) rfl (by kernel_rfl) (by kernel_rfl) (by kernel_rfl) (fun _ _ _ h => h) (Or.inl ⟨by rfl, ?_⟩) hHeld ?_
       rotate_left
       ·
        intro w hSw
        clear hSw
        go_simp
        try with_reducible rfl
       try simp only [Act.put, List.setIfInBounds_toArray, List.set_cons_zero, List.set_cons_succ]
       refine wpAnyH_take (i := 4) (oi := { dst := some 74, op := .indexAddr 53 (.tmp 72) (.tmp 73), type := 0, pos := "law.go:151", after := #[{ on := 2, ground := .data }, { on := 3, ground := .data }, { on := 1, ground := .guard }], guard := some (1, false) }) (v := ?_) rfl (by kernel_rfl) (by kernel_rfl) (by kernel_rfl) (fun _ _ _ h => h) (Or.inl ⟨by rfl, ?_⟩) hHeld ?_
       rotate_left
       ·
        intro w hSw
        clear hSw
        go_simp
        try with_reducible rfl
       try simp only [Act.put, List.setIfInBounds_toArray, List.set_cons_zero, List.set_cons_succ]
       refine wpAnyH_take (i := 5) (oi := { dst := some 75, op := .fieldAddr 58 (.tmp 74) 0, type := 0, pos := "law.go:151", after := #[{ on := 4, ground := .data }, { on := 1, ground := .guard }], guard := some (1, false) }) (v := ?_) rfl (by kernel_rfl) (by kernel_rfl) (by kernel_rfl) (fun _ _ _ h => h) (Or.inl ⟨by rfl, ?_⟩) hHeld ?_
       rotate_left
       ·
        intro w hSw
        clear hSw
        go_simp
        try with_reducible rfl
       try simp only [Act.put, List.setIfInBounds_toArray, List.set_cons_zero, List.set_cons_succ]
       refine wpAnyH_take (i := 6) (oi := { dst := some 76, op := .load 22 (.tmp 75), type := 22, pos := "law.go:151", after := #[{ on := 5, ground := .data }, { on := 1, ground := .guard }], guard := some (1, false) }) (v := ?_) rfl (by kernel_rfl) (by kernel_rfl) (by kernel_rfl) (fun _ _ _ h => h) (Or.inl ⟨by rfl, ?_⟩) hHeld ?_
       rotate_left
       ·
        intro w hSw
        have hfc0 := hSw.2 |> r60
        clear hSw
        go_simp
        try with_reducible rfl
       try simp only [Act.put, List.setIfInBounds_toArray, List.set_cons_zero, List.set_cons_succ]
       refine wpAnyH_take (i := 7) (oi := { dst := some 77, op := .move (.tmp 2), type := 22, pos := "law.go:151", after := #[{ on := 1, ground := .guard }], guard := some (1, false) }) (v := ?_) rfl (by kernel_rfl) (by kernel_rfl) (by kernel_rfl) (fun _ _ _ h => h) (Or.inl ⟨by rfl, ?_⟩) hHeld ?_
       rotate_left
       ·
        intro w hSw
        clear hSw
        go_simp
        try with_reducible rfl
       try simp only [Act.put, List.setIfInBounds_toArray, List.set_cons_zero, List.set_cons_succ]
       refine wpAnyH_take (i := 8) (oi := { dst := some 78, op := .binOp .eql 22 (.tmp 76) (.tmp 77) 22, type := 4, pos := "law.go:151", after := #[{ on := 6, ground := .data }, { on := 7, ground := .data }, { on := 1, ground := .guard }], guard := some (1, false) }) (v := .bool false) rfl (by kernel_rfl) (by kernel_rfl) (by kernel_rfl) (fun _ _ _ h => h) (Or.inl ⟨by rfl, ?_⟩) hHeld ?_
       ·
        intro w hSw
        have hfc0 := hSw.1
        clear hSw
        go_simp
        try rw [i2]
       try simp only [Act.put, List.setIfInBounds_toArray, List.set_cons_zero, List.set_cons_succ]
       refine wpAnyH_take (i := 9) (oi := { dst := some 79, op := .move (.tmp 78), type := 4, pos := "law.go:151", after := #[{ on := 8, ground := .data }, { on := 1, ground := .chain }, { on := 1, ground := .guard }], guard := some (1, false) }) (v := ?_) rfl (by kernel_rfl) (by kernel_rfl) (by kernel_rfl) (fun _ _ _ h => h) (Or.inl ⟨by rfl, ?_⟩) hHeld ?_
       rotate_left
       ·
        intro w hSw
        clear hSw
        go_simp
        try with_reducible rfl
       try simp only [Act.put, List.setIfInBounds_toArray, List.set_cons_zero, List.set_cons_succ]
       refine wpAnyH_take (i := 10) (oi := { dst := some 80, op := .move (.tmp 2), type := 22, pos := "law.go:151", after := #[{ on := 9, ground := .guard }], guard := some (9, true) }) (v := undef) rfl (by kernel_rfl) (by kernel_rfl) (by kernel_rfl) (fun _ _ _ h => h) (Or.inr ⟨by rfl, rfl⟩) hHeld ?_
       try simp only [Act.put, List.setIfInBounds_toArray, List.set_cons_zero, List.set_cons_succ]
       refine wpAnyH_take (i := 11) (oi := { dst := some 81, op := .binOp .neq 22 (.tmp 80) (.const (.int .u32 0)) 22, type := 4, pos := "law.go:151", after := #[{ on := 10, ground := .data }, { on := 9, ground := .guard }], guard := some (9, true) }) (v := undef) rfl (by kernel_rfl) (by kernel_rfl) (by kernel_rfl) (fun _ _ _ h => h) (Or.inr ⟨by rfl, rfl⟩) hHeld ?_
       try simp only [Act.put, List.setIfInBounds_toArray, List.set_cons_zero, List.set_cons_succ]
       refine wpAnyH_take (i := 12) (oi := { dst := some 82, op := .pick (.tmp 79) (.tmp 81) (.const (.bool false)), type := 4, pos := "law.go:151", after := #[{ on := 9, ground := .data }, { on := 11, ground := .data }, { on := 1, ground := .guard }], guard := some (1, false) }) (v := ?_) rfl (by kernel_rfl) (by kernel_rfl) (by kernel_rfl) (fun _ _ _ h => h) (Or.inl ⟨by rfl, ?_⟩) hHeld ?_
       rotate_left
       ·
        intro w hSw
        clear hSw
        go_simp
        try with_reducible rfl
       try simp only [Act.put, List.setIfInBounds_toArray, List.set_cons_zero, List.set_cons_succ]
       refine wpAnyH_take (i := 13) (oi := { dst := some 83, op := .move (.tmp 82), type := 4, pos := "law.go:151", after := #[{ on := 12, ground := .data }, { on := 9, ground := .chain }, { on := 1, ground := .guard }], guard := some (1, false) }) (v := ?_) rfl (by kernel_rfl) (by kernel_rfl) (by kernel_rfl) (fun _ _ _ h => h) (Or.inl ⟨by rfl, ?_⟩) hHeld ?_
       rotate_left
       ·
        intro w hSw
        clear hSw
        go_simp
        try with_reducible rfl
       try simp only [Act.put, List.setIfInBounds_toArray, List.set_cons_zero, List.set_cons_succ]
       refine wpAnyH_take (i := 14) (oi := { dst := some 84, op := .move (.tmp 10), type := 53, pos := "law.go:151", after := #[{ on := 13, ground := .guard }], guard := some (13, true) }) (v := undef) rfl (by kernel_rfl) (by kernel_rfl) (by kernel_rfl) (fun _ _ _ h => h) (Or.inr ⟨by rfl, rfl⟩) hHeld ?_
       try simp only [Act.put, List.setIfInBounds_toArray, List.set_cons_zero, List.set_cons_succ]
       refine wpAnyH_take (i := 15) (oi := { dst := some 85, op := .move (.tmp 13), type := 3, pos := "law.go:151", after := #[{ on := 13, ground := .guard }], guard := some (13, true) }) (v := undef) rfl (by kernel_rfl) (by kernel_rfl) (by kernel_rfl) (fun _ _ _ h => h) (Or.inr ⟨by rfl, rfl⟩) hHeld ?_
       try simp only [Act.put, List.setIfInBounds_toArray, List.set_cons_zero, List.set_cons_succ]
       refine wpAnyH_take (i := 16) (oi := { dst := some 86, op := .indexAddr 53 (.tmp 84) (.tmp 85), type := 0, pos := "law.go:151", after := #[{ on := 14, ground := .data }, { on := 15, ground := .data }, { on := 13, ground := .guard }], guard := some (13, true) }) (v := undef) rfl (by kernel_rfl) (by kernel_rfl) (by kernel_rfl) (fun _ _ _ h => h) (Or.inr ⟨by rfl, rfl⟩) hHeld ?_
       try simp only [Act.put, List.setIfInBounds_toArray, List.set_cons_zero, List.set_cons_succ]
       refine wpAnyH_take (i := 17) (oi := { dst := some 87, op := .fieldAddr 58 (.tmp 86) 1, type := 0, pos := "law.go:151", after := #[{ on := 16, ground := .data }, { on := 13, ground := .guard }], guard := some (13, true) }) (v := undef) rfl (by kernel_rfl) (by kernel_rfl) (by kernel_rfl) (fun _ _ _ h => h) (Or.inr ⟨by rfl, rfl⟩) hHeld ?_
       try simp only [Act.put, List.setIfInBounds_toArray, List.set_cons_zero, List.set_cons_succ]
       refine wpAnyH_take (i := 18) (oi := { dst := some 88, op := .load 44 (.tmp 87), type := 44, pos := "law.go:151", after := #[{ on := 17, ground := .data }, { on := 13, ground := .guard }], guard := some (13, true) }) (v := undef) rfl (by kernel_rfl) (by kernel_rfl) (by kernel_rfl) (fun _ _ _ h => h) (Or.inr ⟨by rfl, rfl⟩) hHeld ?_
       try simp only [Act.put, List.setIfInBounds_toArray, List.set_cons_zero, List.set_cons_succ]
       refine wpAnyH_take (i := 19) (oi := { dst := some 89, op := .load 44 (.tmp 4), type := 44, pos := "law.go:151", after := #[{ on := 13, ground := .guard }], guard := some (13, true) }) (v := undef) rfl (by kernel_rfl) (by kernel_rfl) (by kernel_rfl) (fun _ _ _ h => h) (Or.inr ⟨by rfl, rfl⟩) hHeld ?_
       try simp only [Act.put, List.setIfInBounds_toArray, List.set_cons_zero, List.set_cons_succ]
       refine wpAnyH_take (i := 20) (oi := { dst := some 90, op := .call { callee := .value (.func 21), args := #[.tmp 88, .tmp 89], argTypes := #[44, 44] }, type := 4, pos := "law.go:151", after := #[{ on := 18, ground := .data }, { on := 19, ground := .data }, { on := 13, ground := .chain }, { on := 13, ground := .guard }], guard := some (13, true) }) (v := undef) rfl (by kernel_rfl) (by kernel_rfl) (by kernel_rfl) (fun _ _ _ h => h) (Or.inr ⟨by rfl, rfl⟩) hHeld ?_
       try simp only [Act.put, List.setIfInBounds_toArray, List.set_cons_zero, List.set_cons_succ]
       refine wpAnyH_take (i := 21) (oi := { dst := some 91, op := .pick (.tmp 83) (.tmp 90) (.const (.bool false)), type := 4, pos := "law.go:151", after := #[{ on := 13, ground := .data }, { on := 20, ground := .data }, { on := 1, ground := .guard }], guard := some (1, false) }) (v := ?_) rfl (by kernel_rfl) (by kernel_rfl) (by kernel_rfl) (fun _ _ _ h => h) (Or.inl ⟨by rfl, ?_⟩) hHeld ?_
       rotate_left
       ·
        intro w hSw
        clear hSw
        go_simp
        try with_reducible rfl
       try simp only [Act.put, List.setIfInBounds_toArray, List.set_cons_zero, List.set_cons_succ]
       refine wpAnyH_take (i := 22) (oi := { dst := some 92, op := .move (.tmp 91), type := 4, pos := "law.go:151", after := #[{ on := 21, ground := .data }, { on := 20, ground := .chain }, { on := 1, ground := .guard }], guard := some (1, false) }) (v := ?_) rfl (by kernel_rfl) (by kernel_rfl) (by kernel_rfl) (fun _ _ _ h => h) (Or.inl ⟨by rfl, ?_⟩) hHeld ?_
       rotate_left
       ·
        intro w hSw
        clear hSw
        go_simp
        try with_reducible rfl
       try simp only [Act.put, List.setIfInBounds_toArray, List.set_cons_zero, List.set_cons_succ]
       refine wpAnyH_take (i := 23) (oi := { dst := some 93, op := .fieldAddr 44 (.tmp 4) 2, type := 0, pos := "law.go:151", after := #[{ on := 22, ground := .guard }], guard := some (22, true) }) (v := undef) rfl (by kernel_rfl) (by kernel_rfl) (by kernel_rfl) (fun _ _ _ h => h) (Or.inr ⟨by rfl, rfl⟩) hHeld ?_
       try simp only [Act.put, List.setIfInBounds_toArray, List.set_cons_zero, List.set_cons_succ]
       refine wpAnyH_take (i := 24) (oi := { dst := some 94, op := .load 3 (.tmp 93), type := 3, pos := "law.go:151", after := #[{ on := 23, ground := .data }, { on := 22, ground := .guard }], guard := some (22, true) }) (v := undef) rfl (by kernel_rfl) (by kernel_rfl) (by kernel_rfl) (fun _ _ _ h => h) (Or.inr ⟨by rfl, rfl⟩) hHeld ?_
       try simp only [Act.put, List.setIfInBounds_toArray, List.set_cons_zero, List.set_cons_succ]
       refine wpAnyH_take (i := 25) (oi := { dst := some 95, op := .move (.tmp 10), type := 53, pos := "law.go:151", after := #[{ on := 22, ground := .guard }], guard := some (22, true) }) (v := undef) rfl (by kernel_rfl) (by kernel_rfl) (by kernel_rfl) (fun _ _ _ h => h) (Or.inr ⟨by rfl, rfl⟩) hHeld ?_
       try simp only [Act.put, List.setIfInBounds_toArray, List.set_cons_zero, List.set_cons_succ]
       refine wpAnyH_take (i := 26) (oi := { dst := some 96, op := .move (.tmp 13), type := 3, pos := "law.go:151", after := #[{ on := 22, ground := .guard }], guard := some (22, true) }) (v := undef) rfl (by kernel_rfl) (by kernel_rfl) (by kernel_rfl) (fun _ _ _ h => h) (Or.inr ⟨by rfl, rfl⟩) hHeld ?_
       try simp only [Act.put, List.setIfInBounds_toArray, List.set_cons_zero, List.set_cons_succ]
       refine wpAnyH_take (i := 27) (oi := { dst := some 97, op := .indexAddr 53 (.tmp 95) (.tmp 96), type := 0, pos := "law.go:151", after := #[{ on := 25, ground := .data }, { on := 26, ground := .data }, { on := 22, ground := .guard }], guard := some (22, true) }) (v := undef) rfl (by kernel_rfl) (by kernel_rfl) (by kernel_rfl) (fun _ _ _ h => h) (Or.inr ⟨by rfl, rfl⟩) hHeld ?_
       try simp only [Act.put, List.setIfInBounds_toArray, List.set_cons_zero, List.set_cons_succ]
       refine wpAnyH_take (i := 28) (oi := { dst := some 98, op := .fieldAddr 58 (.tmp 97) 2, type := 0, pos := "law.go:151", after := #[{ on := 27, ground := .data }, { on := 22, ground := .guard }], guard := some (22, true) }) (v := undef) rfl (by kernel_rfl) (by kernel_rfl) (by kernel_rfl) (fun _ _ _ h => h) (Or.inr ⟨by rfl, rfl⟩) hHeld ?_
       try simp only [Act.put, List.setIfInBounds_toArray, List.set_cons_zero, List.set_cons_succ]
       refine wpAnyH_take (i := 29) (oi := { dst := some 99, op := .load 3 (.tmp 98), type := 3, pos := "law.go:151", after := #[{ on := 28, ground := .data }, { on := 22, ground := .guard }], guard := some (22, true) }) (v := undef) rfl (by kernel_rfl) (by kernel_rfl) (by kernel_rfl) (fun _ _ _ h => h) (Or.inr ⟨by rfl, rfl⟩) hHeld ?_
       try simp only [Act.put, List.setIfInBounds_toArray, List.set_cons_zero, List.set_cons_succ]
       refine wpAnyH_take (i := 30) (oi := { dst := some 100, op := .binOp .leq 3 (.tmp 94) (.tmp 99) 3, type := 4, pos := "law.go:151", after := #[{ on := 24, ground := .data }, { on := 29, ground := .data }, { on := 22, ground := .guard }], guard := some (22, true) }) (v := undef) rfl (by kernel_rfl) (by kernel_rfl) (by kernel_rfl) (fun _ _ _ h => h) (Or.inr ⟨by rfl, rfl⟩) hHeld ?_
       try simp only [Act.put, List.setIfInBounds_toArray, List.set_cons_zero, List.set_cons_succ]
       refine wpAnyH_take (i := 31) (oi := { dst := some 101, op := .pick (.tmp 92) (.tmp 100) (.const (.bool false)), type := 4, pos := "law.go:151", after := #[{ on := 22, ground := .data }, { on := 30, ground := .data }, { on := 1, ground := .guard }], guard := some (1, false) }) (v := ?_) rfl (by kernel_rfl) (by kernel_rfl) (by kernel_rfl) (fun _ _ _ h => h) (Or.inl ⟨by rfl, ?_⟩) hHeld ?_
       rotate_left
       ·
        intro w hSw
        clear hSw
        go_simp
        try with_reducible rfl
       try simp only [Act.put, List.setIfInBounds_toArray, List.set_cons_zero, List.set_cons_succ]
       refine wpAnyH_take (i := 32) (oi := { dst := some 102, op := .pick (.tmp 71) (.const (.bool true)) (.tmp 101), type := 4, pos := "law.go:151", after := #[{ on := 1, ground := .data }, { on := 31, ground := .data }], guard := none }) (v := ?_) rfl (by kernel_rfl) (by kernel_rfl) (by kernel_rfl) (fun _ _ _ h => h) (Or.inl ⟨by rfl, ?_⟩) hHeld ?_
       rotate_left
       ·
        intro w hSw
        clear hSw
        go_simp
        try with_reducible rfl
       try simp only [Act.put, List.setIfInBounds_toArray, List.set_cons_zero, List.set_cons_succ]
       refine wpAnyH_take (i := 33) (oi := { dst := some 12, op := .assign (.tmp 102), type := 4, pos := "law.go:151", after := #[{ on := 32, ground := .data }, { on := 22, ground := .chain }, { on := 0, ground := .phase }, { on := 1, ground := .phase }, { on := 2, ground := .phase }, { on := 3, ground := .phase }, { on := 4, ground := .phase }, { on := 5, ground := .phase }, { on := 6, ground := .phase }, { on := 7, ground := .phase }, { on := 8, ground := .phase }, { on := 9, ground := .phase }, { on := 10, ground := .phase }, { on := 11, ground := .phase }, { on := 12, ground := .phase }, { on := 13, ground := .phase }, { on := 14, ground := .phase }, { on := 15, ground := .phase }, { on := 16, ground := .phase }, { on := 17, ground := .phase }, { on := 18, ground := .phase }, { on := 19, ground := .phase }, { on := 20, ground := .phase }, { on := 21, ground := .phase }, { on := 22, ground := .phase }, { on := 23, ground := .phase }, { on := 24, ground := .phase }, { on := 25, ground := .phase }, { on := 26, ground := .phase }, { on := 27, ground := .phase }, { on := 28, ground := .phase }, { on := 29, ground := .phase }, { on := 30, ground := .phase }, { on := 31, ground := .phase }, { on := 32, ground := .phase }], guard := none }) (v := ?_) rfl (by kernel_rfl) (by kernel_rfl) (by kernel_rfl) (fun _ _ _ h => h) (Or.inl ⟨by rfl, ?_⟩) hHeld ?_
       rotate_left
       ·
        intro w hSw
        clear hSw
        go_simp
        try with_reducible rfl
       try simp only [Act.put, List.setIfInBounds_toArray, List.set_cons_zero, List.set_cons_succ]
       refine wpAnyH_done (by kernel_rfl) ?_ _
       go_wp2_with fail
       exact ⟨⟨k + 1, false, by omega, rfl, by go_num, Lib.hid (chain HBw.out HBC.out), HS⟩, by simp [intOf]; omega⟩
    ·
     have hki : ¬ (k : Int) < (n : Int) := by omega
     have HS := Lib.hid (show RV = b by rw [HQ.out, List.drop_of_length_le (by rw [HN.out]; omega), List.any_nil, Bool.or_false])
     have HR5 := Lib.hid (row_on HR4.out HBw.out)
     obtain ⟨hlt, c0, c1⟩ := facts2 HR5.out
     have HB5 := Lib.hid (chain HB4.out HBw.out)
     have hs9 := HS.out
     clear HQ HS
     subst hs9
     cases RV
     all_goals
      go_wp2_with fail
      go_ret
      exact ⟨by simp, HB5.out⟩
  ·
   have HB4 := Lib.hid (chain HB3.out hb)
   obtain ⟨h7, h8⟩ : RE = CK ∧ RV = false := by
    rcases HVV.out with ⟨h9, h8, h7⟩ | ⟨h9, _⟩
    ·
     exact ⟨h8, h7⟩
    ·
     exact absurd h9 h0
   have hc : (RE != 0) = true := by rw [bne_iff_ne, h7]; exact h0
   subst h7
   subst h8
   clear hb c0 c1 hlt h0
   go_wp2_with fail
   go_ret
   exact ⟨by simp, HB4.out⟩
end Ro
end Go.Proofs.Ythfgdgcdicacpaa
