/- NumberCuts: what is cut from an address. For every input. -/
import Derived.Test.YtjpngoccmjpckaaDoorCutsWalk
import Derived.Test.YtjpngoccmjpckaaDoorDoorWrap
import Derived.Test.YtjpngoccmjpckaaDoorLawKit
import Derived.Test.YtjpngoccmjpckaaDoorCards
namespace Go.Proofs.YtjpngoccmjpckaaDoor
open Go.ChangeShapes Go.WideShapes Go.ChangeAt Go.RowKit Adr
open Go.WideMaps Go.WideElems
set_option linter.unusedVariables false
theorem cuts_true (f h l n o : Int) (w : World) (env : Env w) (uh : U64 h) (ul : U64 l) :
    Calls Tryd.prog 6 #[.int .u8 f, ad h l, .int .i64 n, .int .i64 o] w fun e w' => e = .returned (.bool true) ∧ Below w.heap.size w w' := by
  cases c : cutOk f h l n
  · exact cuts_no f h l n o w env uh ul c
  · obtain ⟨c1, c2, c3⟩ := cutOk_ca c
    obtain ⟨W, hW⟩ : ∃ W : Nat, wid f = (W : Int) := ⟨(wid f).toNat, by omega⟩
    obtain ⟨u1, u2⟩ := u64_cut (f := f) (n := n) uh ul
    have hz := clr0 h l
    have hb := fun (k : Nat) (hk : k < W) => bit_cut uh ul c (k : Int) (by omega) (by omega)
    have key : ∀ (qf qh ql qn eo : Int), (∀ w, Calls Tryd.prog 12 #[.int .u8 f, ad h l, .int .i64 o] w fun e w' => e = .returned (.tuple #[pv qf qh ql qn, .int .i64 eo]) ∧ Below w.heap.size w w') →
        (eo = 0 → Tells 16 #[pv f (clrH h (wid f - n)) (clrL l (wid f - n)) n, pv qf qh ql qn] (decide (n ≤ o))) →
        Calls Tryd.prog 6 #[.int .u8 f, ad h l, .int .i64 n, .int .i64 o] w fun e w' => e = .returned (.bool true) ∧ Below w.heap.size w w' := fun qf qh ql qn eo h3 h6 => by
      refine cuts_core f h l n o (clrH h (wid f - n)) (clrL l (wid f - n)) qf qh ql qn eo (wid f) W (fun k => bt h l (wid f - 1 - k)) (fun k => bt (clrH h (wid f - n)) (clrL l (wid f - n)) (wid f - 1 - k)) w env ?_ (fun w => cut_yes f h l n w uh ul c) (fun w => ?_) h3 (fun w => ?_) (fun w => ?_) h6 (fun k hk w => ?_) (fun k hk w => ?_) (fun k hk => bt_01 _ _ _) (fun k hk => (hb k hk).2.2)
      · rcases ca_fam c1 with rfl | rfl
        · left
          rw [wid_4] at hW
          exact ⟨rfl, by omega, rfl⟩
        · right
          rw [wid_6] at hW
          exact ⟨rfl, by omega, rfl⟩
      · have := cut_yes f h l (wid f) w uh ul (cutOk_wid c)
        rw [Int.sub_self, hz.1, hz.2] at this
        exact this
      · exact chk_call _ _ _ _ w u1 u2 0 (chk_ok0 _ _ _ _ (ok_cut uh ul c))
      · exact tells_cov _ _ _ _ _ _ _ _ true u1 u2 uh ul (cov_host uh ul c) w
      · exact bit_yes f h l k w uh ul (hb k hk).1
      · exact bit_yes f _ _ k w u1 u2 (hb k hk).2.1
    cases d : cutOk f h l o
    · exact key 0 0 0 0 2 (fun w => cut_no f h l o w ul d) (fun e => by omega)
    · obtain ⟨v1, v2⟩ := u64_cut (f := f) (n := o) uh ul
      exact key f _ _ o 0 (fun w => cut_yes f h l o w uh ul d) (fun _ => tells_cov _ _ _ _ _ _ _ _ _ u1 u2 v1 v2 (cov_cut uh ul c d))

set_option maxRecDepth 100000 in
theorem cuts_lifted (os : Os) (started : os.Started) (H : Type) (enc : TypeId × Value → H) :
    ReturnsInHanded {} Tryd.checked os 6 .any (fun w args => (Rows.numberCutsSpec.pre enc Tryd.prog Tryd.f6 Rows.numberCutsRow.domain false w args ∧ laidMet Tryd.prog laidAll w) ∧ sizedMet enc Tryd.prog Tryd.f6 (OpenSpec.ofChange Rows.numberCutsSpec) false w args)
      (Rows.numberCutsSpec.post enc Tryd.prog Tryd.f6 false true false false) := by
  refine returns_laid (C := Tryd.checked) (X := fun w => laidMet Tryd.prog laidAll w) (fun _ _ hh h => h.of_heap hh) Tryd.own started (by kernel_rfl) Tryd.func6
    (ChangeSpec.witness_at (enc := enc) (C := Tryd.checked) (os := os) (X := fun w _ => laidMet Tryd.prog laidAll w) false (laidWorld os) #[.int .u8 0, .agg #[.int .u64 0, .int .u64 0], .int .i64 0, .int .i64 0] 8 rfl (by kernel_rfl) (by kernel_rfl) (by kernel_rfl) (by kernel_rfl) (by kernel_rfl) (laidWorld_met os _)) ?_
  intro W base args ds gs before hval0 hW hL hsh
  have hval : ∀ (j : Nat) t v, Tryd.f6.params[j]? = some t → args[j]? = some v → Value.okWide Tryd.prog W .any base t v := hval0
  have env := env_of_laid hL hsh
  have hW' := hW
  obtain ⟨p, q, hA0, hV, rfl, hfz, hnd⟩ := hW
  have hA : DataW.TrodAll enc Tryd.prog W 0 (fun _ => true) true Tryd.f6.params.toList args.toList ds p := hA0
  rw [Tryd.params6] at hA hval
  obtain ⟨v0, vs0, d0, ds0, p0, q0, hargs, rfl, rfl, h0, r0⟩ := trodAll_cons hA
  obtain ⟨v1, vs1, d1, ds1, p1, q1, rfl, rfl, rfl, h1, r1⟩ := trodAll_cons r0
  obtain ⟨v2, vs2, d2, ds2, p2, q2, rfl, rfl, rfl, h2, r2⟩ := trodAll_cons r1
  obtain ⟨v3, vs3, d3, ds3, p3, q3, rfl, rfl, rfl, h3, r3⟩ := trodAll_cons r2
  obtain ⟨rfl, rfl, rfl⟩ := trodAll_nil r3
  obtain rfl : args = #[v0, v1, v2, v3] := by cases args; simp_all
  obtain ⟨rfl, rfl⟩ := trodVars_none hV
  obtain ⟨a0, rfl, e0, f0, w0⟩ := open_int Tryd.underlying5 (hval 0 5 v0 rfl rfl) h0
  obtain ⟨a1, b1, rfl, ua1, ub1⟩ := open_addr (hval 1 27 v1 rfl rfl) h1
  obtain ⟨a2, rfl, e2, f2, w2⟩ := open_int Tryd.underlying3 (hval 2 3 v2 rfl rfl) h2
  obtain ⟨a3, rfl, e3, f3, w3⟩ := open_int Tryd.underlying3 (hval 3 3 v3 rfl rfl) h3
  refine (cuts_true a0 a1 b1 a2 a3 W env ua1 ub1).mono fun e W' ⟨he, hg⟩ => ?_
  subst he
  exact ⟨_, rfl, law_post Tryd.laidOut (by kernel_rfl) (by kernel_rfl) hW' hg (trodAll_cons_mk (shut_bool Tryd.underlying4 _) trodAll_mk0) rfl rfl⟩

/-- the row -/
theorem cuts_row : Rows.NumberCutsSaid :=
  OpenClaim.holds_of_wide 6 Tryd.f6 rfl rfl rfl rfl rfl rfl rfl ⟨rfl, rfl, rfl, rfl, rfl⟩ rfl rfl rfl rfl rfl (by kernel_rfl) Tryd.func6 (by kernel_rfl)
    (of_decide_eq_true (by kernel_rfl)) (by unfold Func.isWrapper; rw [if_neg (of_decide_eq_false (by kernel_rfl))]; exact ⟨rfl, rfl⟩)
    (fun os started H enc _ => cuts_lifted os started H enc)

/-- the statement -/
theorem cuts_holds : Rows.NumberCutsCardSaid :=
  Claim7.holds_tied_plain_at .later [] [.data, .data, .data, .data, .sentinel, .sentinel, .pinned] true (true, "91ad2818a6c47621e95bd54849e3574ef8f01b267b1fb625b2ef7198fea266d0") true
    cuts_row (fun _ h => by cases h) (by kernel_rfl) (fun _ h => by cases h) numberCuts_row_tie rfl ⟨rfl, rfl⟩ (by kernel_rfl) rfl
    (fun f fn hf hfn => by
      obtain rfl : f = 6 := Option.some.inj ((show Tryd.prog.funcNamed "gatepath/gatepathlaw01.NumberCuts" = some 6 by kernel_rfl).symm.trans hf) |>.symm
      obtain rfl : fn = Tryd.f6 := (Option.some.inj (Tryd.func6.symm.trans hfn)).symm
      exact ⟨by kernel_rfl, fun j t ht => by
        rw [Tryd.params6] at ht
        have hp : t = 5 ∨ t = 27 ∨ t = 3 := by
          rcases j with _ | _ | _ | _ | j
          · left; simpa using ht.symm
          · right; left; simpa using ht.symm
          · right; right; simpa using ht.symm
          · right; right; simpa using ht.symm
          · simp at ht
        rcases hp with rfl | rfl | rfl
        · exact (show Tryd.prog.wantsStandIn 5 = false by kernel_rfl)
        · exact (show Tryd.prog.wantsStandIn 27 = false by kernel_rfl)
        · exact (show Tryd.prog.wantsStandIn 3 = false by kernel_rfl)⟩)
    (by kernel_rfl)
#print axioms cuts_holds
end Go.Proofs.YtjpngoccmjpckaaDoor
