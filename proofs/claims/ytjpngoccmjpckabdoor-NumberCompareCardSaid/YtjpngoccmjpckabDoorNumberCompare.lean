/- NumberCompare: a total order that agrees with the first differing bit. For every input. -/
import Derived.Test.YtjpngoccmjpckabDoorCompareWalk
import Derived.Test.YtjpngoccmjpckabDoorDoorWrap
import Derived.Test.YtjpngoccmjpckabDoorLawKit
import Derived.Test.YtjpngoccmjpckabDoorCards
namespace Go.Proofs.YtjpngoccmjpckabDoor
open Go.ChangeShapes Go.WideShapes Go.ChangeAt Go.RowKit Adr
open Go.WideMaps Go.WideElems
set_option linter.unusedVariables false
theorem bt_01 (h l k : Int) : bt h l k = 0 ∨ bt h l k = 1 := by
  unfold bt
  split <;> omega
theorem cmp_anti (h l h' l' : Int) : cmp h' l' h l = - cmp h l h' l' := by
  unfold cmp
  by_cases c1 : h = h'
  · subst c1
    by_cases c2 : l = l'
    · subst c2; simp
    · by_cases c3 : l < l'
      · rw [if_neg (by omega), if_neg (by omega), if_neg (by omega), if_pos (by omega)]; rfl
      · rw [if_neg (by omega), if_pos (by omega), if_neg (by omega), if_neg (by omega)]
  · by_cases c3 : h < h'
    · rw [if_neg (by omega), if_neg (by omega), if_neg (by omega), if_pos (by omega)]; rfl
    · rw [if_neg (by omega), if_pos (by omega), if_neg (by omega), if_neg (by omega)]
theorem cmp_ne {h l h' l' : Int} (q : ¬ (h = h' ∧ l = l')) : cmp h l h' l' = -1 ∨ cmp h l h' l' = 1 := by
  unfold cmp
  rw [if_neg q]
  split
  · left; rfl
  · right; rfl
theorem cmp_eq (h l : Int) : cmp h l h l = 0 := by simp [cmp]
theorem compare_true (h l h' l' : Int) (w : World) (env : Env w) (uh : U64 h) (ul : U64 l) (uh' : U64 h') (ul' : U64 l') :
    Calls Tryd.prog 3 #[ad h l, ad h' l'] w fun e w' => e = .returned (.bool true) ∧ Below w.heap.size w w' := by
  have b1 : ∀ (h l : Int), U64 h → U64 l → ∀ k : Nat, k < 128 → ∀ w, Calls Tryd.prog 6 #[.int .u8 6, ad h l, .int .i64 k] w fun e w' => e = .returned (.tuple #[.int .i64 (bt h l (128 - 1 - k)), .int .i64 0]) ∧ Below w.heap.size w w' := fun h l uh ul k hk w =>
    bit_yes 6 h l k w uh ul (by have e : ca 6 h l = true := rfl
                                have z : (k : Int) < 128 := by omega
                                simp [bitOk, e, wid_6, z])
  by_cases c1 : h = h' ∧ l = l'
  · obtain ⟨rfl, rfl⟩ := c1
    exact compare_same h l 0 0 (fun k => bt h l (128 - 1 - k)) (fun k => bt h l (128 - 1 - k)) w env ⟨rfl, rfl⟩
      (fun w => by have := cmp_any h l h l w; rw [cmp_eq] at this; exact this) (fun w => by have := cmp_any h l h l w; rw [cmp_eq] at this; exact this)
      (b1 h l uh ul) (b1 h l uh ul) (fun k _ => bt_01 _ _ _) (fun k _ => bt_01 _ _ _) (fun k _ _ hne => absurd rfl hne) (fun _ => rfl)
  · have hcd : (cmp h l h' l' = -1 ∧ cmp h' l' h l = 1) ∨ (cmp h l h' l' = 1 ∧ cmp h' l' h l = -1) := by
      have := cmp_anti h l h' l'
      rcases cmp_ne c1 with e | e
      · left; exact ⟨e, by omega⟩
      · right; exact ⟨e, by omega⟩
    by_cases c2 : h = h'
    · subst c2
      exact compare_low h l l' _ _ (fun k => bt h l (128 - 1 - k)) (fun k => bt h l' (128 - 1 - k)) w env (fun e => c1 ⟨rfl, e⟩) hcd
        (fun w => cmp_any h l h l' w) (fun w => cmp_any h l' h l w)
        (b1 h l uh ul) (b1 h l' uh' ul') (fun k _ => bt_01 _ _ _) (fun k _ => bt_01 _ _ _) (fun k hk hj hne => first_bit uh ul uh' ul' k hk hj hne) (fun hj => absurd (all_bits uh ul uh' ul' hj) c1)
    · exact compare_high h l h' l' _ _ (fun k => bt h l (128 - 1 - k)) (fun k => bt h' l' (128 - 1 - k)) w env c2 hcd
        (fun w => cmp_any h l h' l' w) (fun w => cmp_any h' l' h l w)
        (b1 h l uh ul) (b1 h' l' uh' ul') (fun k _ => bt_01 _ _ _) (fun k _ => bt_01 _ _ _) (fun k hk hj hne => first_bit uh ul uh' ul' k hk hj hne) (fun hj => absurd (all_bits uh ul uh' ul' hj) c1)

set_option maxRecDepth 100000 in
theorem compare_lifted (os : Os) (started : os.Started) (H : Type) (enc : TypeId × Value → H) :
    ReturnsInHanded {} Tryd.checked os 3 .any (fun w args => (Rows.numberCompareSpec.pre enc Tryd.prog Tryd.f3 Rows.numberCompareRow.domain false w args ∧ laidMet Tryd.prog laidAll w) ∧ sizedMet enc Tryd.prog Tryd.f3 (OpenSpec.ofChange Rows.numberCompareSpec) false w args)
      (Rows.numberCompareSpec.post enc Tryd.prog Tryd.f3 false true false false) := by
  refine returns_laid (C := Tryd.checked) (X := fun w => laidMet Tryd.prog laidAll w) (fun _ _ hh h => h.of_heap hh) Tryd.own started (by kernel_rfl) Tryd.func3
    (ChangeSpec.witness_at (enc := enc) (C := Tryd.checked) (os := os) (X := fun w _ => laidMet Tryd.prog laidAll w) false (laidWorld os) #[.agg #[.int .u64 0, .int .u64 0], .agg #[.int .u64 0, .int .u64 0]] 8 rfl (by kernel_rfl) (by kernel_rfl) (by kernel_rfl) (by kernel_rfl) (by kernel_rfl) (laidWorld_met os _)) ?_
  intro W base args ds gs before hval0 hW hL hsh
  have hval : ∀ (j : Nat) t v, Tryd.f3.params[j]? = some t → args[j]? = some v → Value.okWide Tryd.prog W .any base t v := hval0
  have env := env_of_laid hL hsh
  have hW' := hW
  obtain ⟨p, q, hA0, hV, rfl, hfz, hnd⟩ := hW
  have hA : DataW.TrodAll enc Tryd.prog W 0 (fun _ => true) true Tryd.f3.params.toList args.toList ds p := hA0
  rw [Tryd.params3] at hA hval
  obtain ⟨v0, vs0, d0, ds0, p0, q0, hargs, rfl, rfl, h0, r0⟩ := trodAll_cons hA
  obtain ⟨v1, vs1, d1, ds1, p1, q1, rfl, rfl, rfl, h1, r1⟩ := trodAll_cons r0
  obtain ⟨rfl, rfl, rfl⟩ := trodAll_nil r1
  obtain rfl : args = #[v0, v1] := by cases args; simp_all
  obtain ⟨rfl, rfl⟩ := trodVars_none hV
  obtain ⟨a0, b0, rfl, ua0, ub0⟩ := open_addr (hval 0 24 v0 rfl rfl) h0
  obtain ⟨a1, b1, rfl, ua1, ub1⟩ := open_addr (hval 1 24 v1 rfl rfl) h1
  refine (compare_true a0 b0 a1 b1 W env ua0 ub0 ua1 ub1).mono fun e W' ⟨he, hg⟩ => ?_
  subst he
  exact ⟨_, rfl, law_post Tryd.laidOut (by kernel_rfl) (by kernel_rfl) hW' hg (trodAll_cons_mk (shut_bool Tryd.underlying4 _) trodAll_mk0) rfl rfl⟩

/-- the row -/
theorem compare_row : Rows.NumberCompareSaid :=
  OpenClaim.holds_of_wide 3 Tryd.f3 rfl rfl rfl rfl rfl rfl rfl ⟨rfl, rfl, rfl, rfl, rfl⟩ rfl rfl rfl rfl rfl (by kernel_rfl) Tryd.func3 (by kernel_rfl)
    (of_decide_eq_true (by kernel_rfl)) (by unfold Func.isWrapper; rw [if_neg (of_decide_eq_false (by kernel_rfl))]; exact ⟨rfl, rfl⟩)
    (fun os started H enc _ => compare_lifted os started H enc)

/-- the statement -/
theorem compare_holds : Rows.NumberCompareCardSaid :=
  Claim7.holds_tied_plain_at .later [] [.data, .data, .data, .data, .sentinel, .sentinel, .pinned] true (true, "6355022ee24af8f4b4698df4e3c16c3dec4e862a48e69d22009c36974a98ec00") true
    compare_row (fun _ h => by cases h) (by kernel_rfl) (fun _ h => by cases h) numberCompare_row_tie rfl ⟨rfl, rfl⟩ (by kernel_rfl) rfl
    (fun f fn hf hfn => by
      obtain rfl : f = 3 := Option.some.inj ((show Tryd.prog.funcNamed "gatepath/gatepathlaw01.NumberCompare" = some 3 by kernel_rfl).symm.trans hf) |>.symm
      obtain rfl : fn = Tryd.f3 := (Option.some.inj (Tryd.func3.symm.trans hfn)).symm
      exact ⟨by kernel_rfl, fun j t ht => by
        rw [Tryd.params3] at ht
        have hp : t = 24 := by
          rcases j with _ | _ | j
          · simpa using ht.symm
          · simpa using ht.symm
          · simp at ht
        subst hp
        exact (show Tryd.prog.wantsStandIn 24 = false by kernel_rfl)⟩)
    (by kernel_rfl)
#print axioms compare_holds
end Go.Proofs.YtjpngoccmjpckabDoor
