/-
  THE WALK over NumberOrder.
-/
import Derived.Test.YtjpngoccmjpckaaDoorAlive
import Derived.Test.YtjpngoccmjpckaaDoorOrderMath
namespace Go.Proofs.YtjpngoccmjpckaaDoor
open Go.RowKit Adr
set_option linter.unusedVariables false
abbrev pv (f h l n : Int) : Value := .agg #[.int .u8 f, .int .u64 h, .int .u64 l, .int .i64 n]
/-- three prefixes lie in three blocks -/
structure Three (N : Nat) (W : World) (f h l n f' h' l' n' f2 hr lr n2 : Int) : Prop where
  c0 : W.cell? ⟨N, 0, none⟩ = some (.int .u8 f)
  c1 : W.cell? ⟨N, 1, none⟩ = some (.int .u64 h)
  c2 : W.cell? ⟨N, 2, none⟩ = some (.int .u64 l)
  c3 : W.cell? ⟨N, 3, none⟩ = some (.int .i64 n)
  d0 : W.cell? ⟨N + 1, 0, none⟩ = some (.int .u8 f')
  d1 : W.cell? ⟨N + 1, 1, none⟩ = some (.int .u64 h')
  d2 : W.cell? ⟨N + 1, 2, none⟩ = some (.int .u64 l')
  d3 : W.cell? ⟨N + 1, 3, none⟩ = some (.int .i64 n')
  e0 : W.cell? ⟨N + 1 + 1, 0, none⟩ = some (.int .u8 f2)
  e1 : W.cell? ⟨N + 1 + 1, 1, none⟩ = some (.int .u64 hr)
  e2 : W.cell? ⟨N + 1 + 1, 2, none⟩ = some (.int .u64 lr)
  e3 : W.cell? ⟨N + 1 + 1, 3, none⟩ = some (.int .i64 n2)
theorem Three.on {N : Nat} {W W' : World} {f h l n f' h' l' n' f2 hr lr n2 : Int} (t : Three N W f h l n f' h' l' n' f2 hr lr n2) (hb : Below W.heap.size W W') : Three N W' f h l n f' h' l' n' f2 hr lr n2 := by
  have z0 := World.block_lt_of_cell? _ _ t.c0
  have z1 := World.block_lt_of_cell? _ _ t.d0
  have z2 := World.block_lt_of_cell? _ _ t.e0
  exact ⟨(hb.cell (p := ⟨N, 0, none⟩) z0).trans t.c0, (hb.cell (p := ⟨N, 1, none⟩) z0).trans t.c1, (hb.cell (p := ⟨N, 2, none⟩) z0).trans t.c2, (hb.cell (p := ⟨N, 3, none⟩) z0).trans t.c3,
    (hb.cell (p := ⟨N + 1, 0, none⟩) z1).trans t.d0, (hb.cell (p := ⟨N + 1, 1, none⟩) z1).trans t.d1, (hb.cell (p := ⟨N + 1, 2, none⟩) z1).trans t.d2, (hb.cell (p := ⟨N + 1, 3, none⟩) z1).trans t.d3,
    (hb.cell (p := ⟨N + 1 + 1, 0, none⟩) z2).trans t.e0, (hb.cell (p := ⟨N + 1 + 1, 1, none⟩) z2).trans t.e1, (hb.cell (p := ⟨N + 1 + 1, 2, none⟩) z2).trans t.e2, (hb.cell (p := ⟨N + 1 + 1, 3, none⟩) z2).trans t.e3⟩
/-- a call that answers a truth -/
abbrev Tells (f : FuncId) (args : Array Value) (b : Bool) : Prop := ∀ w, Calls Tryd.prog f args w fun e w' => e = .returned (.bool b) ∧ Below w.heap.size w w'
theorem tells_cov (f h l n f' h' l' n' : Int) (b : Bool) (uh : U64 h) (ul : U64 l) (uh' : U64 h') (ul' : U64 l') (hc : cov f h l n f' h' l' n' = b) : Tells 16 #[pv f h l n, pv f' h' l' n'] b := by
  subst hc; exact fun w => cov_any f h l n f' h' l' n' w uh ul uh' ul'
abbrev Says (f : FuncId) (args : Array Value) (c : Int) : Prop := ∀ w, Calls Tryd.prog f args w fun e w' => e = .returned (.int .i64 c) ∧ Below w.heap.size w w'
set_option maxRecDepth 100000 in
set_option maxHeartbeats 8000000 in
theorem order_core (f h l n f' h' l' n' f2 hr lr n2 k : Int) (a b c d : Bool) (w : World) (env : Env w)
    (hk : Says 13 #[pv f h l n] k)
    (h0 : Tells 16 #[pv f h l n, pv f h l n] (k == 0))
    (h1 : Tells 16 #[pv f h l n, pv f' h' l' n'] a)
    (h2 : Tells 16 #[pv f' h' l' n', pv f h l n] b)
    (h3 : Tells 16 #[pv f' h' l' n', pv f2 hr lr n2] c)
    (h4 : Tells 16 #[pv f h l n, pv f2 hr lr n2] d)
    (hab : a = true → b = true → f = f' ∧ h = h' ∧ l = l' ∧ n = n') (hacd : (!(a && c) || d) = true) (hdc : (!(d && c) || (a || b)) = true) :
    Calls Tryd.prog 5 #[pv f h l n, pv f' h' l' n', pv f2 hr lr n2] w fun e w' => e = .returned (.bool true) ∧ Below w.heap.size w w' := by
  have hG := env.big
  have HE := Lib.hid env
  have H0 := Lib.hid h0
  have H1 := Lib.hid h1
  have H2 := Lib.hid h2
  have H3 := Lib.hid h3
  have H4 := Lib.hid h4
  have HK := Lib.hid hk
  clear env h0 h1 h2 h3 h4 hk
  go_enter Tryd.func5, Tryd.ntmps5
  go_wp2_with fail
  generalize hv : World.alloc _ _ = v
  have HB := Lib.hid (show Below w.heap.size w v by rw [← hv]; exact (((Below.refl _ _).alloc (Nat.le_refl _) _).alloc (by simp) _).alloc (by simp; omega) _)
  have HT : RowKit.Hid (Three w.heap.size v f h l n f' h' l' n' f2 hr lr n2) := Lib.hid (by
    rw [← hv]
    exact ⟨Lib.cell?_alloc_some _ (Lib.cell?_alloc_some _ ((World.cell?_alloc_at _ _ _ _ rfl).trans rfl)), Lib.cell?_alloc_some _ (Lib.cell?_alloc_some _ ((World.cell?_alloc_at _ _ _ _ rfl).trans rfl)), Lib.cell?_alloc_some _ (Lib.cell?_alloc_some _ ((World.cell?_alloc_at _ _ _ _ rfl).trans rfl)), Lib.cell?_alloc_some _ (Lib.cell?_alloc_some _ ((World.cell?_alloc_at _ _ _ _ rfl).trans rfl)),
      Lib.cell?_alloc_some _ ((World.cell?_alloc_at _ _ _ _ (by simp)).trans rfl), Lib.cell?_alloc_some _ ((World.cell?_alloc_at _ _ _ _ (by simp)).trans rfl), Lib.cell?_alloc_some _ ((World.cell?_alloc_at _ _ _ _ (by simp)).trans rfl), Lib.cell?_alloc_some _ ((World.cell?_alloc_at _ _ _ _ (by simp)).trans rfl),
      (World.cell?_alloc_at _ _ _ _ (by simp)).trans rfl, (World.cell?_alloc_at _ _ _ _ (by simp)).trans rfl, (World.cell?_alloc_at _ _ _ _ (by simp)).trans rfl, (World.cell?_alloc_at _ _ _ _ (by simp)).trans rfl⟩)
  clear hv
  obtain ⟨c0, c1, c2, c3, d0, d1, d2, d3, e0, e1, e2, e3⟩ := HT.out
  have HA : RowKit.Hid (∀ u, Below w.heap.size w u → Calls Tryd.prog 15 #[] u fun e w' => e = .returned (.bool true) ∧ Below u.heap.size u w') := Lib.hid fun u hu => alive_any u (HE.out.below hu hG)
  (with_reducible refine (HK.out _).mono ?_; rintro e w1 ⟨rfl, hb1⟩; have HT' := Lib.hid ((HT).out.on hb1); have HB' := Lib.hid ((HB).out.trans (hb1.mono (HB).out.size)); clear HT HB c0 c1 c2 c3 d0 d1 d2 d3 e0 e1 e2 e3 hb1; have HT := HT'; have HB := HB'; clear HT' HB'; obtain ⟨c0, c1, c2, c3, d0, d1, d2, d3, e0, e1, e2, e3⟩ := (HT).out)
  go_wp2_with fail
  (with_reducible refine (H0.out _).mono ?_; rintro e w1 ⟨rfl, hb1⟩; have HT' := Lib.hid ((HT).out.on hb1); have HB' := Lib.hid ((HB).out.trans (hb1.mono (HB).out.size)); clear HT HB c0 c1 c2 c3 d0 d1 d2 d3 e0 e1 e2 e3 hb1; have HT := HT'; have HB := HB'; clear HT' HB'; obtain ⟨c0, c1, c2, c3, d0, d1, d2, d3, e0, e1, e2, e3⟩ := (HT).out)
  go_wp2_with fail
  cases a <;> cases b <;> cases c <;> cases d
  all_goals first
    | (exfalso; revert hacd; decide)
    | (exfalso; revert hdc; decide)
    | skip
  all_goals clear hacd hdc
  all_goals first
    | (obtain ⟨rfl, rfl, rfl, rfl⟩ := hab rfl rfl)
    | clear hab
  all_goals repeat ((first | (with_reducible refine (H1.out _).mono ?_; rintro e w1 ⟨rfl, hb1⟩; have HT' := Lib.hid ((HT).out.on hb1); have HB' := Lib.hid ((HB).out.trans (hb1.mono (HB).out.size)); clear HT HB c0 c1 c2 c3 d0 d1 d2 d3 e0 e1 e2 e3 hb1; have HT := HT'; have HB := HB'; clear HT' HB'; obtain ⟨c0, c1, c2, c3, d0, d1, d2, d3, e0, e1, e2, e3⟩ := (HT).out) | (with_reducible refine (H2.out _).mono ?_; rintro e w1 ⟨rfl, hb1⟩; have HT' := Lib.hid ((HT).out.on hb1); have HB' := Lib.hid ((HB).out.trans (hb1.mono (HB).out.size)); clear HT HB c0 c1 c2 c3 d0 d1 d2 d3 e0 e1 e2 e3 hb1; have HT := HT'; have HB := HB'; clear HT' HB'; obtain ⟨c0, c1, c2, c3, d0, d1, d2, d3, e0, e1, e2, e3⟩ := (HT).out) | (with_reducible refine (H3.out _).mono ?_; rintro e w1 ⟨rfl, hb1⟩; have HT' := Lib.hid ((HT).out.on hb1); have HB' := Lib.hid ((HB).out.trans (hb1.mono (HB).out.size)); clear HT HB c0 c1 c2 c3 d0 d1 d2 d3 e0 e1 e2 e3 hb1; have HT := HT'; have HB := HB'; clear HT' HB'; obtain ⟨c0, c1, c2, c3, d0, d1, d2, d3, e0, e1, e2, e3⟩ := (HT).out) | (with_reducible refine (H4.out _).mono ?_; rintro e w1 ⟨rfl, hb1⟩; have HT' := Lib.hid ((HT).out.on hb1); have HB' := Lib.hid ((HB).out.trans (hb1.mono (HB).out.size)); clear HT HB c0 c1 c2 c3 d0 d1 d2 d3 e0 e1 e2 e3 hb1; have HT := HT'; have HB := HB'; clear HT' HB'; obtain ⟨c0, c1, c2, c3, d0, d1, d2, d3, e0, e1, e2, e3⟩ := (HT).out) | (with_reducible refine (HA.out _ HB.out).mono ?_; rintro e w1 ⟨rfl, hb1⟩; have HB' := Lib.hid (HB.out.trans (hb1.mono HB.out.size)); clear HB c0 c1 c2 c3 d0 d1 d2 d3 e0 e1 e2 e3 hb1 HT; have HB := HB'; clear HB')); go_wp2_with fail)
  all_goals go_ret
  all_goals exact ⟨rfl, HB.out⟩
end Go.Proofs.YtjpngoccmjpckaaDoor
