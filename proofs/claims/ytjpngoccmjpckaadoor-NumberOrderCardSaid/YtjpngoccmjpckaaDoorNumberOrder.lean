/- NumberOrder: covering is an order and a tree. For every input. -/
import Derived.Test.YtjpngoccmjpckaaDoorDoorWrap
import Derived.Test.YtjpngoccmjpckaaDoorLawKit
import Derived.Test.YtjpngoccmjpckaaDoorCards
namespace Go.Proofs.YtjpngoccmjpckaaDoor
open Go.ChangeShapes Go.WideShapes Go.ChangeAt Go.RowKit Adr
open Go.WideMaps Go.WideElems
set_option linter.unusedVariables false
theorem chk_ok_eq (f h l n : Int) : (chk f h l n == 0) = ok f h l n := by
  cases hk : ok f h l n
  · rcases chk_no0 f h l n hk with e | e <;> rw [e] <;> rfl
  · rw [chk_ok0 f h l n hk]; rfl
theorem order_true (f h l n f' h' l' n' f2 hr lr n2 : Int) (w : World) (env : Env w) (u1 : U64 h) (u2 : U64 l) (u3 : U64 h') (u4 : U64 l') (u5 : U64 hr) (u6 : U64 lr) :
    Calls Tryd.prog 5 #[pv f h l n, pv f' h' l' n', pv f2 hr lr n2] w fun e w' => e = .returned (.bool true) ∧ Below w.heap.size w w' := by
  refine order_core f h l n f' h' l' n' f2 hr lr n2 _ _ _ _ _ w env (fun w => chk_any f h l n w u1 u2)
    (fun w => ?_) (fun w => cov_any f h l n f' h' l' n' w u1 u2 u3 u4) (fun w => cov_any f' h' l' n' f h l n w u3 u4 u1 u2) (fun w => cov_any f' h' l' n' f2 hr lr n2 w u3 u4 u5 u6) (fun w => cov_any f h l n f2 hr lr n2 w u1 u2 u5 u6)
    (fun a b => cov_anti u1 u2 u3 u4 a b) ?_ ?_
  · have := cov_any f h l n f h l n w u1 u2 u1 u2
    rw [cov_refl, ← chk_ok_eq] at this
    exact this
  · cases ha : cov f h l n f' h' l' n'
    · rfl
    · cases hc : cov f' h' l' n' f2 hr lr n2
      · rfl
      · rw [cov_trans u1 u2 u3 u4 u5 u6 ha hc]; rfl
  · cases hd : cov f h l n f2 hr lr n2
    · rfl
    · cases hc : cov f' h' l' n' f2 hr lr n2
      · rfl
      · rcases cov_tree u1 u2 u3 u4 u5 u6 hd hc with e | e <;> rw [e] <;> simp

set_option maxRecDepth 100000 in
theorem order_lifted (os : Os) (started : os.Started) (H : Type) (enc : TypeId × Value → H) :
    ReturnsInHanded {} Tryd.checked os 5 .any (fun w args => (Rows.numberOrderSpec.pre enc Tryd.prog Tryd.f5 Rows.numberOrderRow.domain false w args ∧ laidMet Tryd.prog laidAll w) ∧ sizedMet enc Tryd.prog Tryd.f5 (OpenSpec.ofChange Rows.numberOrderSpec) false w args)
      (Rows.numberOrderSpec.post enc Tryd.prog Tryd.f5 false true false false) := by
  refine returns_laid (C := Tryd.checked) (X := fun w => laidMet Tryd.prog laidAll w) (fun _ _ hh h => h.of_heap hh) Tryd.own started (by kernel_rfl) Tryd.func5
    (ChangeSpec.witness_at (enc := enc) (C := Tryd.checked) (os := os) (X := fun w _ => laidMet Tryd.prog laidAll w) false (laidWorld os) #[.agg #[.int .u8 0, .int .u64 0, .int .u64 0, .int .i64 0], .agg #[.int .u8 0, .int .u64 0, .int .u64 0, .int .i64 0], .agg #[.int .u8 0, .int .u64 0, .int .u64 0, .int .i64 0]] 8 rfl (by kernel_rfl) (by kernel_rfl) (by kernel_rfl) (by kernel_rfl) (by kernel_rfl) (laidWorld_met os _)) ?_
  intro W base args ds gs before hval0 hW hL hsh
  have hval : ∀ (j : Nat) t v, Tryd.f5.params[j]? = some t → args[j]? = some v → Value.okWide Tryd.prog W .any base t v := hval0
  have env := env_of_laid hL hsh
  have hW' := hW
  obtain ⟨p, q, hA0, hV, rfl, hfz, hnd⟩ := hW
  have hA : DataW.TrodAll enc Tryd.prog W 0 (fun _ => true) true Tryd.f5.params.toList args.toList ds p := hA0
  rw [Tryd.params5] at hA hval
  obtain ⟨v0, vs0, d0, ds0, p0, q0, hargs, rfl, rfl, h0, r0⟩ := trodAll_cons hA
  obtain ⟨v1, vs1, d1, ds1, p1, q1, rfl, rfl, rfl, h1, r1⟩ := trodAll_cons r0
  obtain ⟨v2, vs2, d2, ds2, p2, q2, rfl, rfl, rfl, h2, r2⟩ := trodAll_cons r1
  obtain ⟨rfl, rfl, rfl⟩ := trodAll_nil r2
  obtain rfl : args = #[v0, v1, v2] := by cases args; simp_all
  obtain ⟨rfl, rfl⟩ := trodVars_none hV
  obtain ⟨a4, b4, c4, n4, rfl, ub4, uc4, wa4, wn4⟩ := open_prefix (hval 0 34 v0 rfl rfl) h0
  obtain ⟨a5, b5, c5, n5, rfl, ub5, uc5, wa5, wn5⟩ := open_prefix (hval 1 34 v1 rfl rfl) h1
  obtain ⟨a6, b6, c6, n6, rfl, ub6, uc6, wa6, wn6⟩ := open_prefix (hval 2 34 v2 rfl rfl) h2
  refine (order_true a4 b4 c4 n4 a5 b5 c5 n5 a6 b6 c6 n6 W env ub4 uc4 ub5 uc5 ub6 uc6).mono fun e W' ⟨he, hg⟩ => ?_
  subst he
  exact ⟨_, rfl, law_post Tryd.laidOut (by kernel_rfl) (by kernel_rfl) hW' hg (trodAll_cons_mk (shut_bool Tryd.underlying4 _) trodAll_mk0) rfl rfl⟩

/-- the row -/
theorem order_row : Rows.NumberOrderSaid :=
  OpenClaim.holds_of_wide 5 Tryd.f5 rfl rfl rfl rfl rfl rfl rfl ⟨rfl, rfl, rfl, rfl, rfl⟩ rfl rfl rfl rfl rfl (by kernel_rfl) Tryd.func5 (by kernel_rfl)
    (of_decide_eq_true (by kernel_rfl)) (by unfold Func.isWrapper; rw [if_neg (of_decide_eq_false (by kernel_rfl))]; exact ⟨rfl, rfl⟩)
    (fun os started H enc _ => order_lifted os started H enc)

/-- the statement -/
theorem order_holds : Rows.NumberOrderCardSaid :=
  Claim7.holds_tied_plain_at .later [] [.data, .data, .data, .data, .sentinel, .sentinel, .pinned] true (true, "91ad2818a6c47621e95bd54849e3574ef8f01b267b1fb625b2ef7198fea266d0") true
    order_row (fun _ h => by cases h) (by kernel_rfl) (fun _ h => by cases h) numberOrder_row_tie rfl ⟨rfl, rfl⟩ (by kernel_rfl) rfl
    (fun f fn hf hfn => by
      obtain rfl : f = 5 := Option.some.inj ((show Tryd.prog.funcNamed "gatepath/gatepathlaw01.NumberOrder" = some 5 by kernel_rfl).symm.trans hf) |>.symm
      obtain rfl : fn = Tryd.f5 := (Option.some.inj (Tryd.func5.symm.trans hfn)).symm
      exact ⟨by kernel_rfl, fun j t ht => by
        rw [Tryd.params5] at ht
        have hp : t = 34 := by
          rcases j with _ | _ | _ | j
          · simpa using ht.symm
          · simpa using ht.symm
          · simpa using ht.symm
          · simp at ht
        subst hp
        exact (show Tryd.prog.wantsStandIn 34 = false by kernel_rfl)⟩)
    (by kernel_rfl)
#print axioms order_holds
end Go.Proofs.YtjpngoccmjpckaaDoor
