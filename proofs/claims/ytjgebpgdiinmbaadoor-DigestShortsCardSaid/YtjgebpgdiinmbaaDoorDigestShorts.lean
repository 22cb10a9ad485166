/- DigestShorts, for every input: a short digest is the first half of the digest. Condition: what the row lists of the program's tables (tied by the card). -/
import Derived.Test.YtjgebpgdiinmbaaDoorDigSame
import Derived.Test.YtjgebpgdiinmbaaDoorLawKit
import Derived.Test.YtjgebpgdiinmbaaDoorCards
namespace Go.Proofs.YtjgebpgdiinmbaaDoor
open Go.ChangeShapes Go.WideShapes Go.ChangeAt Go.RowKit Sha
open Go.WideMaps Go.WideElems
set_option linter.unusedVariables false
set_option linter.unusedSimpArgs false
theorem slice_hash16 (X : Nat) (w : World) : (Instr.sliceAt 24 (.pointer (some ⟨X, 0, none⟩)) none (some (.int .i64 16)) none).run Tryd.prog w = .ok (.slice (some ⟨X, 0, none⟩) 16 32) w := by
  have ha : Tryd.prog.arrayLen 24 = 32 := by kernel_rfl
  have h := run_sliceAt_array_h (P := Tryd.prog) w 24 ⟨X, 0, none⟩ (by kernel_rfl) .i64 16 (by decide) (by rw [ha]; decide)
  have hs : ∀ w, (sizeOf (Tryd.prog.elem 24)).run Tryd.prog w = .ok 1 w := fun _ => by kernel_rfl
  rw [h, hs, ha]
  rfl
theorem srcAt_part {w : World} {g n : Nat} {l : List UInt8} {t : TypeId} {fr : Nat × Nat} (h : w.heap[g]? = some (.cells (bcells l) t fr)) : SrcAt (some ⟨g, 0, none⟩) (l.take n) w := fun _ =>
  ⟨g, 0, rfl, fun j x hj => by
    have hjn : j < n := by
      have := (List.getElem?_eq_some_iff.1 hj).1
      simp at this
      omega
    rw [List.getElem?_take, if_pos hjn] at hj
    obtain ⟨hlt, e⟩ := List.getElem?_eq_some_iff.1 hj
    rw [Nat.zero_add, cell_of_row w g j _ _ _ h, bcells_at _ _ hlt, List.getD_eq_getElem?_getD, hj]
    rfl⟩
set_option maxRecDepth 100000 in
set_option maxHeartbeats 2000000 in
theorem shorts_true (l : List UInt8) (A : Option Addr) (c : Nat) (hc : l.length ≤ c) (hcm : c ≤ maxLen) (w : World) (hs : SrcAt A l w) (env : DEnv w) :
    Calls Tryd.prog 6 #[.slice A l.length c] w fun e w' => e = .returned (.bool true) ∧ Below w.heap.size w w' := by
  have hal : ∀ V : World, Below w.heap.size w V → Calls Tryd.prog 15 #[] V fun e w' => e = .returned (.bool true) ∧ Below V.heap.size V w' := fun V hb => alive_any V (env.on hb)
  have hlm : l.length ≤ 9223372036854775807 := by unfold maxLen at hcm; omega
  by_cases h5 : l.length ≤ 5000
  · have hsum : ∀ V : World, Below w.heap.size w V → Calls Tryd.prog 10 #[.slice A l.length c] V fun e w' => e = .returned (.agg (bcells (sha l))) ∧ Below V.heap.size V w' := fun V hb => sum_any l A c (by omega) hc hcm V (hs.on hb) (env.on hb)
    have hsho : ∀ V : World, Below w.heap.size w V → Calls Tryd.prog 19 #[.slice A l.length c] V fun e w' => e = .returned (.agg (bcells ((sha l).take 16))) ∧ Below V.heap.size V w' := fun V hb => short_any l A c (by omega) hc hcm V (hs.on hb) (env.on hb)
    obtain ⟨F, hF⟩ : ∃ F, sha l = F := ⟨_, rfl⟩
    have hF32 : F.length = 32 := by rw [← hF]; exact sha_len _
    have hT16 : (F.take 16).length = 16 := by rw [List.length_take, hF32]; rfl
    rw [hF] at hsum hsho
    obtain ⟨n, hn⟩ : ∃ n, l.length = n := ⟨_, rfl⟩
    rw [hn] at hsum hsho h5 hlm ⊢
    have hsame : ∀ (V : World) (X Y : Nat), V.heap[X]? = some (.cells (bcells F) 24 (0, 0)) → V.heap[Y]? = some (.cells (bcells (F.take 16)) 38 (0, 0)) → Calls Tryd.prog 16 #[.slice (some ⟨X, 0, none⟩) 16 32, .slice (some ⟨Y, 0, none⟩) 16 16] V fun e w' => e = .returned (.bool true) ∧ ∃ m, w' = V.drewN m := fun V X Y h1 h2 => by
      have h := same_eq (F.take 16) (some ⟨X, 0, none⟩) (some ⟨Y, 0, none⟩) 32 16 (by omega) (by omega) (by omega) V (srcAt_part h1) (srcAt_row h2)
      rw [hT16] at h
      exact h
    have hsz : (Tryd.prog.info? 24).map (·.size) = some (bcells F).size := by rw [bcells_size, hF32]; kernel_rfl
    have hso : (32 : Nat) = (bcells F).size := by rw [bcells_size, hF32]
    have hsz2 : (Tryd.prog.info? 38).map (·.size) = some (bcells (F.take 16)).size := by rw [bcells_size, hT16]; kernel_rfl
    have hso2 : (16 : Nat) = (bcells (F.take 16)).size := by rw [bcells_size, hT16]
    have AL := Lib.hid hal
    have SU := Lib.hid hsum
    have SH := Lib.hid hsho
    have SA := Lib.hid hsame
    have HSZ := Lib.hid hsz
    have HSO := Lib.hid hso
    have HSZ2 := Lib.hid hsz2
    have HSO2 := Lib.hid hso2
    have s1 := slice_hash16
    have s2 := slice_short
    clear hal hsum hsho hsame hsz hso hsz2 hso2 hF hF32 hT16 hn hs env hc hcm
    go_enter Tryd.func6, Tryd.ntmps6
    go_wp2_with fail
    refine (AL.out _ (Below.refl _ _)).mono ?_
    rintro e w1 ⟨rfl, hb1⟩
    have HB1 := Lib.hid hb1
    clear hb1
    go_wp2_with fail
    refine (SU.out _ HB1.out).mono ?_
    rintro e w2 ⟨rfl, hb2⟩
    have HB2 := Lib.hid (chain HB1.out hb2)
    clear hb2 HB1
    go_wp2_with fail
    refine (SH.out _ HB2.out).mono ?_
    rintro e w3 ⟨rfl, hb3⟩
    have HB3 := Lib.hid (chain HB2.out hb3)
    clear hb3 HB2
    go_wp2_with (first | (refine wpList_store_row rfl 24 (.tmp 4) (.tmp 16) rfl w3.heap.size (bcells F) rfl rfl 24 _ (heap_alloc2_old _ _ _) HSZ.out HSO.out (bcells_one _) ?_) | (refine wpList_store_row rfl 38 (.tmp 5) (.tmp 18) rfl (w3.heap.size + 1) (bcells (F.take 16)) rfl rfl 38 _ ((setRow_other _ _ _ _ (by omega)).trans (heap_alloc2_new _ _ _)) HSZ2.out HSO2.out (bcells_one _) ?_))
    obtain ⟨X, hX⟩ : ∃ X, w3.heap.size = X := ⟨_, rfl⟩
    simp only [hX]
    generalize hV : World.setRow _ (X + 1) _ = V
    have hv0 : V.heap[X]? = some (.cells (bcells F) 24 (0, 0)) := by
      rw [← hV, setRow_other _ _ _ _ (by omega)]
      exact setRow_heap _ _ _ _ _ _ (by rw [← hX]; exact heap_alloc2_old _ _ _)
    have hv1 : V.heap[X + 1]? = some (.cells (bcells (F.take 16)) 38 (0, 0)) := by
      rw [← hV]
      exact setRow_heap _ _ _ _ _ _ ((setRow_other _ _ _ _ (by omega)).trans (by rw [← hX]; exact heap_alloc2_new _ _ _))
    have hbV : Below w.heap.size w V := by
      have h := HB3.out.size
      rw [← hV]
      exact below_row (below_row ((HB3.out.alloc h _).alloc (by simp; omega) _) (by omega) _) (by omega) _
    have HBV := Lib.hid hbV
    have hsm := fun (V' : World) (h : ∃ m, V' = V.drewN m) => SA.out V' X (X + 1) (by obtain ⟨m, rfl⟩ := h; exact hv0) (by obtain ⟨m, rfl⟩ := h; exact hv1)
    have HSM := Lib.hid hsm
    clear hV hv0 hv1 hbV hX hsm
    go_wp2_with fail
    go_quiet ((go_at_call 16; exact Calls.quiet_of ((HSM.out _ ⟨_, rfl⟩).mono fun _ _ h => h)))
    go_wp2_with fail
    go_ret
    exact ⟨rfl, below_drewN HBV.out _⟩
  · have h6 : (5000 : Int) < (l.length : Int) := by omega
    have AL := Lib.hid hal
    obtain ⟨n, hn⟩ : ∃ n, l.length = n := ⟨_, rfl⟩
    rw [hn] at h6 hlm ⊢
    clear hal h5 hn hs env hc hcm
    go_enter Tryd.func6, Tryd.ntmps6
    go_wp2_with fail
    refine (AL.out _ (Below.refl _ _)).mono ?_
    rintro e w1 ⟨rfl, hb1⟩
    have HB1 := Lib.hid hb1
    clear hb1
    go_wp2_with fail
    go_ret
    exact ⟨rfl, HB1.out⟩
set_option maxRecDepth 100000 in
theorem shorts_lifted (os : Os) (started : os.Started) (H : Type) (enc : TypeId × Value → H) :
    ReturnsInHanded {} Tryd.checked os 6 .any (fun w args => (Rows.digestShortsSpec.pre enc Tryd.prog Tryd.f6 Rows.digestShortsRow.domain false w args ∧ laidMet Tryd.prog laidDig w) ∧ sizedMet enc Tryd.prog Tryd.f6 (OpenSpec.ofChange Rows.digestShortsSpec) false w args)
      (Rows.digestShortsSpec.post enc Tryd.prog Tryd.f6 false true false false) := by
  refine returns_laid (C := Tryd.checked) (X := fun w => laidMet Tryd.prog laidDig w) (fun _ _ hh h => h.of_heap hh) Tryd.own started (by kernel_rfl) Tryd.func6
    (ChangeSpec.witness_at (enc := enc) (C := Tryd.checked) (os := os) (X := fun w _ => laidMet Tryd.prog laidDig w) false (laidWorldD os) #[.slice none 0 0] 8 rfl (by kernel_rfl) (by kernel_rfl) (by kernel_rfl) (by kernel_rfl) (by kernel_rfl) (laidWorldD_met os _)) ?_
  intro W base args ds gs before hval0 hW hL hsh
  have hval : ∀ (j : Nat) t v, Tryd.f6.params[j]? = some t → args[j]? = some v → Value.okWide Tryd.prog W .any base t v := hval0
  have env := denv_of_laid hL
  have hW' := hW
  obtain ⟨p, q, hA0, hV, rfl, hfz, hnd⟩ := hW
  have hA : DataW.TrodAll enc Tryd.prog W 0 (fun _ => true) true Tryd.f6.params.toList args.toList ds p := hA0
  rw [Tryd.params6] at hA hval
  obtain ⟨v0, vs0, d0, ds0, p0, q0, hargs, rfl, rfl, h0, r0⟩ := trodAll_cons hA
  obtain ⟨rfl, rfl, rfl⟩ := trodAll_nil r0
  obtain rfl : args = #[v0] := by cases args; simp_all
  obtain ⟨rfl, rfl⟩ := trodVars_none hV
  obtain ⟨A0, l0, c0, rfl, hc0, hm0, hs0⟩ := open_bytes (hval 0 26 v0 rfl rfl) h0
  refine (shorts_true l0 A0 c0 hc0 hm0 W hs0 env).mono fun e W' ⟨he, hg⟩ => ?_
  subst he
  exact ⟨_, rfl, law_post Tryd.laidOut (by kernel_rfl) (by kernel_rfl) hW' hg (trodAll_cons_mk (shut_bool Tryd.underlying4 _) trodAll_mk0) rfl rfl⟩
/-- the row -/
theorem shorts_row : Rows.DigestShortsSaid :=
  OpenClaim.holds_of_wide 6 Tryd.f6 rfl rfl rfl rfl rfl rfl rfl ⟨rfl, rfl, rfl, rfl, rfl⟩ rfl rfl rfl rfl rfl (by kernel_rfl) Tryd.func6 (by kernel_rfl)
    (of_decide_eq_true (by kernel_rfl)) (by unfold Func.isWrapper; rw [if_neg (of_decide_eq_false (by kernel_rfl))]; exact ⟨rfl, rfl⟩)
    (fun os started H enc _ => shorts_lifted os started H enc)
/-- the statement -/
theorem shorts_holds : Rows.DigestShortsCardSaid :=
  Claim7.holds_tied_plain_at .later [] [.data, .data] true (true, "b86af4fe130f55cd64608773ec711eb422a857e1c5e1d3a0e74c34bd440be449") false
    shorts_row (fun _ h => by cases h) (by kernel_rfl) (fun _ h => by cases h) digestShorts_row_tie rfl ⟨rfl, rfl⟩ (by kernel_rfl) rfl
    (fun f fn hf hfn => by
      obtain rfl : f = 6 := Option.some.inj ((show Tryd.prog.funcNamed "gatepath/gatepathlaw05.DigestShorts" = some 6 by kernel_rfl).symm.trans hf) |>.symm
      obtain rfl : fn = Tryd.f6 := (Option.some.inj (Tryd.func6.symm.trans hfn)).symm
      exact ⟨by kernel_rfl, fun j t ht => by
        rw [Tryd.params6] at ht
        have hp : t = 26 := by
          rcases j with _ | j
          · simpa using ht.symm
          · simp at ht
        subst hp
        exact (show Tryd.prog.wantsStandIn 26 = false by kernel_rfl)⟩)
    (by kernel_rfl)
#print axioms shorts_holds
end Go.Proofs.YtjgebpgdiinmbaaDoor
