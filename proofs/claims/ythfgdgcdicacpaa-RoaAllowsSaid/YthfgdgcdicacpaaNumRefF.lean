/-
  THE WALKS over the reference of layer 1: Covers.
-/
import Derived.Test.YthfgdgcdicacpaaNumRefE
namespace Go.Proofs.Ythfgdgcdicacpaa
open Go.RowKit Adr
theorem rchk_call (f h l n : Int) (w : World) (uh : U64 h) (ul : U64 l) (c : Int) (hc : chk f h l n = c) :
    Calls Try.prog 34 #[.agg #[.int .u8 f, .int .u64 h, .int .u64 l, .int .i64 n]] w fun e w' => e = .returned (.int .i64 c) ∧ Below w.heap.size w w' := by
  subst hc; exact rchk_any f h l n w uh ul
set_option maxHeartbeats 400000 in
theorem rcov_no1 (f h l n f' h' l' n' : Int) (w : World) (uh : U64 h) (ul : U64 l) (c : Int) (c0 : (c != 0) = true) (hk : chk f h l n = c) :
    Calls Try.prog 35 #[.agg #[.int .u8 f, .int .u64 h, .int .u64 l, .int .i64 n], .agg #[.int .u8 f', .int .u64 h', .int .u64 l', .int .i64 n']] w fun e w' => e = .returned (.bool false) ∧ Below w.heap.size w w' := by
  have Uh := Lib.hid uh
  have Ul := Lib.hid ul
  have Hk := Lib.hid hk
  clear uh ul hk
  go_enter Try.func35, Try.ntmps35
  go_wp2_with (go_at_call 34; refine (rchk_call _ _ _ _ _ Uh.out Ul.out _ Hk.out).mono ?_; rintro e w1 ⟨rfl, hb1⟩; obtain ⟨hc1, hf1⟩ := bcell hb1; have hz1 : w.heap.size + 1 < w1.heap.size := (by (have := hb1.size; (try simp at this); omega)); have hy1 : w.heap.size < w1.heap.size := (by omega))
  go_ret
  exact ⟨rfl, (((Below.refl _ _).alloc (Nat.le_refl _) _).alloc (by simp) _).trans (hb1.mono (by simp; omega))⟩
set_option maxHeartbeats 400000 in
theorem rcov_no2 (f h l n f' h' l' n' : Int) (w : World) (uh : U64 h) (ul : U64 l) (uh' : U64 h') (ul' : U64 l') (c : Int) (c0 : (c != 0) = true) (hk : chk f h l n = 0) (hk' : chk f' h' l' n' = c) :
    Calls Try.prog 35 #[.agg #[.int .u8 f, .int .u64 h, .int .u64 l, .int .i64 n], .agg #[.int .u8 f', .int .u64 h', .int .u64 l', .int .i64 n']] w fun e w' => e = .returned (.bool false) ∧ Below w.heap.size w w' := by
  have Uh := Lib.hid uh
  have Ul := Lib.hid ul
  have Hk := Lib.hid hk
  have Uh' := Lib.hid uh'
  have Ul' := Lib.hid ul'
  have Hk' := Lib.hid hk'
  clear uh ul hk uh' ul' hk'
  go_enter Try.func35, Try.ntmps35
  go_wp2_with fail
  refine (rchk_call _ _ _ _ _ Uh.out Ul.out _ Hk.out).mono ?_; rintro e w1 ⟨rfl, hb1⟩; obtain ⟨hc1, hf1⟩ := bcell hb1; have hz1 : w.heap.size + 1 < w1.heap.size := (by (have := hb1.size; (try simp at this); omega)); have hy1 : w.heap.size < w1.heap.size := (by omega)
  go_wp2_with fail
  refine (rchk_call _ _ _ _ _ Uh'.out Ul'.out _ Hk'.out).mono ?_; rintro e w2 ⟨rfl, hb2⟩; obtain ⟨hc2, hf2⟩ := bcell hb2; have hz2 : w.heap.size + 1 < w2.heap.size := (by (have := hb2.size; (try simp at this); omega)); have hy2 : w.heap.size < w2.heap.size := (by omega)
  go_wp2_with fail
  go_ret
  exact ⟨rfl, ((((Below.refl _ _).alloc (Nat.le_refl _) _).alloc (by simp) _).trans (hb1.mono (by simp; omega))).trans (hb2.mono (by omega))⟩
set_option maxHeartbeats 400000 in
theorem rcov_no3 (f h l n f' h' l' n' : Int) (w : World) (uh : U64 h) (ul : U64 l) (uh' : U64 h') (ul' : U64 l') (hk : chk f h l n = 0) (hk' : chk f' h' l' n' = 0) (_nf : (f != f') = true) :
    Calls Try.prog 35 #[.agg #[.int .u8 f, .int .u64 h, .int .u64 l, .int .i64 n], .agg #[.int .u8 f', .int .u64 h', .int .u64 l', .int .i64 n']] w fun e w' => e = .returned (.bool false) ∧ Below w.heap.size w w' := by
  have Uh := Lib.hid uh
  have Ul := Lib.hid ul
  have Hk := Lib.hid hk
  have Uh' := Lib.hid uh'
  have Ul' := Lib.hid ul'
  have Hk' := Lib.hid hk'
  clear uh ul hk uh' ul' hk'
  go_enter Try.func35, Try.ntmps35
  go_wp2_with fail
  refine (rchk_call _ _ _ _ _ Uh.out Ul.out _ Hk.out).mono ?_; rintro e w1 ⟨rfl, hb1⟩; obtain ⟨hc1, hf1⟩ := bcell hb1; have hz1 : w.heap.size + 1 < w1.heap.size := (by (have := hb1.size; (try simp at this); omega)); have hy1 : w.heap.size < w1.heap.size := (by omega)
  go_wp2_with fail
  refine (rchk_call _ _ _ _ _ Uh'.out Ul'.out _ Hk'.out).mono ?_; rintro e w2 ⟨rfl, hb2⟩; obtain ⟨hc2, hf2⟩ := bcell hb2; have hz2 : w.heap.size + 1 < w2.heap.size := (by (have := hb2.size; (try simp at this); omega)); have hy2 : w.heap.size < w2.heap.size := (by omega)
  go_wp2_with fail
  go_ret
  exact ⟨rfl, ((((Below.refl _ _).alloc (Nat.le_refl _) _).alloc (by simp) _).trans (hb1.mono (by simp; omega))).trans (hb2.mono (by omega))⟩
set_option maxHeartbeats 400000 in
theorem rcov_no4 (f h l n f' h' l' n' : Int) (w : World) (uh : U64 h) (ul : U64 l) (uh' : U64 h') (ul' : U64 l') (hk : chk f h l n = 0) (hk' : chk f' h' l' n' = 0) (_nf : (f != f') = false) (_nn : n' < n) :
    Calls Try.prog 35 #[.agg #[.int .u8 f, .int .u64 h, .int .u64 l, .int .i64 n], .agg #[.int .u8 f', .int .u64 h', .int .u64 l', .int .i64 n']] w fun e w' => e = .returned (.bool false) ∧ Below w.heap.size w w' := by
  have Uh := Lib.hid uh
  have Ul := Lib.hid ul
  have Hk := Lib.hid hk
  have Uh' := Lib.hid uh'
  have Ul' := Lib.hid ul'
  have Hk' := Lib.hid hk'
  clear uh ul hk uh' ul' hk'
  go_enter Try.func35, Try.ntmps35
  go_wp2_with fail
  refine (rchk_call _ _ _ _ _ Uh.out Ul.out _ Hk.out).mono ?_; rintro e w1 ⟨rfl, hb1⟩; obtain ⟨hc1, hf1⟩ := bcell hb1; have hz1 : w.heap.size + 1 < w1.heap.size := (by (have := hb1.size; (try simp at this); omega)); have hy1 : w.heap.size < w1.heap.size := (by omega)
  go_wp2_with fail
  refine (rchk_call _ _ _ _ _ Uh'.out Ul'.out _ Hk'.out).mono ?_; rintro e w2 ⟨rfl, hb2⟩; obtain ⟨hc2, hf2⟩ := bcell hb2; have hz2 : w.heap.size + 1 < w2.heap.size := (by (have := hb2.size; (try simp at this); omega)); have hy2 : w.heap.size < w2.heap.size := (by omega)
  go_wp2_with fail
  go_ret
  exact ⟨rfl, ((((Below.refl _ _).alloc (Nat.le_refl _) _).alloc (by simp) _).trans (hb1.mono (by simp; omega))).trans (hb2.mono (by omega))⟩
set_option maxHeartbeats 2000000 in
theorem rcov_yes (f h l : Int) (n : Nat) (h' l' n' : Int) (W : Nat) (w : World) (uh : U64 h) (ul : U64 l) (uh' : U64 h') (ul' : U64 l') (hW : wid f = (W : Int)) (hWpos : 0 < W) (hw : W ≤ 128) (hn : n ≤ W) (hk : chk f h l n = 0) (hk' : chk f h' l' n' = 0) (_nn : (n : Int) ≤ n') :
    Calls Try.prog 35 #[.agg #[.int .u8 f, .int .u64 h, .int .u64 l, .int .i64 n], .agg #[.int .u8 f, .int .u64 h', .int .u64 l', .int .i64 n']] w fun e w' => ∃ b : Bool, e = .returned (.bool b) ∧ (b = true ↔ ∀ j : Nat, j < n → bt h l ((W : Int) - 1 - j) = bt h' l' ((W : Int) - 1 - j)) ∧ Below w.heap.size w w' := by
  have Uh := Lib.hid uh
  have Ul := Lib.hid ul
  have Hk := Lib.hid hk
  have Uh' := Lib.hid uh'
  have Ul' := Lib.hid ul'
  have Hk' := Lib.hid hk'
  have HW := Lib.hid hW
  clear uh ul hk uh' ul' hk' hW
  go_enter Try.func35, Try.ntmps35
  go_wp2_with fail
  refine (rchk_call _ _ _ _ _ Uh.out Ul.out _ Hk.out).mono ?_; rintro e w1 ⟨rfl, hb1⟩; obtain ⟨hc1, hf1⟩ := bcell hb1; have hz1 : w.heap.size + 1 < w1.heap.size := (by (have := hb1.size; (try simp at this); omega)); have hy1 : w.heap.size < w1.heap.size := (by omega)
  go_wp2_with fail
  refine (rchk_call _ _ _ _ _ Uh'.out Ul'.out _ Hk'.out).mono ?_; rintro e w2 ⟨rfl, hb2⟩; obtain ⟨hc2, hf2⟩ := bcell hb2; have hz2 : w.heap.size + 1 < w2.heap.size := (by (have := hb2.size; (try simp at this); omega)); have hy2 : w.heap.size < w2.heap.size := (by omega)
  go_wp2_with fail
  have p0 : w2.cell? ⟨w.heap.size, 0, none⟩ = some (.int .u8 f) := by rw [hc2 _ _ hy1, hc1 _ _ (by simp <;> omega)]; simp
  have p1 : w2.cell? ⟨w.heap.size, 1, none⟩ = some (.int .u64 h) := by rw [hc2 _ _ hy1, hc1 _ _ (by simp <;> omega)]; simp
  have p2 : w2.cell? ⟨w.heap.size, 2, none⟩ = some (.int .u64 l) := by rw [hc2 _ _ hy1, hc1 _ _ (by simp <;> omega)]; simp
  have p3 : w2.cell? ⟨w.heap.size, 3, none⟩ = some (.int .i64 n) := by rw [hc2 _ _ hy1, hc1 _ _ (by simp <;> omega)]; simp
  have q0 : w2.cell? ⟨w.heap.size + 1, 0, none⟩ = some (.int .u8 f) := by rw [hc2 _ _ hz1, hc1 _ _ (by simp <;> omega)]; simp
  have q1 : w2.cell? ⟨w.heap.size + 1, 1, none⟩ = some (.int .u64 h') := by rw [hc2 _ _ hz1, hc1 _ _ (by simp <;> omega)]; simp
  have q2 : w2.cell? ⟨w.heap.size + 1, 2, none⟩ = some (.int .u64 l') := by rw [hc2 _ _ hz1, hc1 _ _ (by simp <;> omega)]; simp
  have hbb : Below w.heap.size w w2 := ((((Below.refl _ _).alloc (Nat.le_refl _) _).alloc (by simp) _).trans (hb1.mono (by simp; omega))).trans (hb2.mono (by omega))
  clear hc1 hc2 hf1 hf2 hb1 hb2
  go_region_held3 (fun x => x.cell? ⟨w.heap.size, 0, none⟩ = some (.int .u8 f) ∧ x.cell? ⟨w.heap.size, 1, none⟩ = some (.int .u64 h) ∧ x.cell? ⟨w.heap.size, 2, none⟩ = some (.int .u64 l) ∧ x.cell? ⟨w.heap.size, 3, none⟩ = some (.int .i64 n) ∧ x.cell? ⟨w.heap.size + 1, 0, none⟩ = some (.int .u8 f) ∧ x.cell? ⟨w.heap.size + 1, 1, none⟩ = some (.int .u64 h') ∧ x.cell? ⟨w.heap.size + 1, 2, none⟩ = some (.int .u64 l'))
    (first | exact ⟨p0, p1, p2, p3, q0, q1, q2⟩ | exact ⟨(hc3 _ _ hy2).trans p0, (hc3 _ _ hy2).trans p1, (hc3 _ _ hy2).trans p2, (hc3 _ _ hy2).trans p3, (hc3 _ _ hz2).trans q0, (hc3 _ _ hz2).trans q1, (hc3 _ _ hz2).trans q2⟩ | exact ⟨(hc4 _ _ hy3).trans ((hc3 _ _ hy2).trans p0), (hc4 _ _ hy3).trans ((hc3 _ _ hy2).trans p1), (hc4 _ _ hy3).trans ((hc3 _ _ hy2).trans p2), (hc4 _ _ hy3).trans ((hc3 _ _ hy2).trans p3), (hc4 _ _ hz3).trans ((hc3 _ _ hz2).trans q0), (hc4 _ _ hz3).trans ((hc3 _ _ hz2).trans q1), (hc4 _ _ hz3).trans ((hc3 _ _ hz2).trans q2)⟩)
    (first | (go_at_call_of 66 (Value.agg #[.int .u64 h, .int .u64 l]); refine (bits_call _ _ _ _ Uh.out Ul.out W HW.out hWpos).mono ?_; rintro e w3 ⟨g, cap, rfl, hg1, hg2, hcap1, hcap2, hcell, hfr, hb3⟩; obtain ⟨hc3, hf3⟩ := bcellD hb3; have hz3 : w.heap.size + 1 < w3.heap.size := (by (have := hb3.size; (try simp at this); omega)); have hy3 : w.heap.size < w3.heap.size := (by omega)) | (go_at_call_of 66 (Value.agg #[.int .u64 h', .int .u64 l']); refine (bits_call _ _ _ _ Uh'.out Ul'.out W HW.out hWpos).mono ?_; rintro e w4 ⟨g', cap', rfl, hg1', hg2', hcap1', hcap2', hcell', hfr', hb4⟩; obtain ⟨hc4, hf4⟩ := bcell hb4))
  go_wp2_with fail
  have cA : ∀ j, j < W → w4.cell? ⟨g, j, none⟩ = some (.int .i64 (bt h l ((W : Int) - 1 - j))) := fun j hj => (hc4 _ _ hg2).trans (hcell j hj)
  have p3' : w4.cell? ⟨w.heap.size, 3, none⟩ = some (.int .i64 n) := (hc4 _ _ hy3).trans ((hc3 _ _ hy2).trans p3)
  have hbb4 : Below w.heap.size w w4 := ((hbb.drew).trans (hb3.mono (by simp; omega))).trans (hb4.mono (by omega))
  have CA := Lib.hid cA
  have CB := Lib.hid hcell'
  have HBB := Lib.hid hbb4
  clear cA hcell' hbb4 hbb hc3 hf3 hc4 hf4 hb3 hb4 hcell hfr hfr' p0 p1 p2 p3 q0 q1 q2
  go_loopw [7] (fun i wr => ∃ k nq : Nat, k ≤ n ∧ i = .int .i64 k ∧ wr = w4.drewN nq ∧ ∀ j : Nat, j < k → bt h l ((W : Int) - 1 - j) = bt h' l' ((W : Int) - 1 - j)) (fun i _ => n - (intOf i).toNat)
  case atStart => exact ⟨0, 0, by omega, rfl, rfl, fun j hj => by omega⟩
  case round =>
    obtain ⟨k, nq, hk, rfl, rfl, hz⟩ := hrel
    have HZ := Lib.hid hz
    clear hz
    by_cases hlt : k < n
    · have hkA := CA.out k (by omega)
      have hkB := CB.out k (by omega)
      have hkW : (k : Int) < (W : Int) := by omega
      have hk0 : (0 : Int) ≤ (k : Int) := by omega
      by_cases hb : bt h l ((W : Int) - 1 - k) = bt h' l' ((W : Int) - 1 - k)
      · have HB := Lib.hid hb
        have hb0 : (bt h l ((W : Int) - 1 - k) != bt h' l' ((W : Int) - 1 - k)) = false := by simp [hb]
        clear hb
        go_wp2_with fail
        go_quiet (fail)
        go_wp2_with fail
        refine ⟨⟨k + 1, _, by omega, by go_num, rfl, fun j hj => ?_⟩, by simp [intOf]; omega⟩
        by_cases hjk : j = k
        · subst hjk; exact HB.out
        · exact HZ.out j (by omega)
      · have HB := Lib.hid hb
        have hb0 : (bt h l ((W : Int) - 1 - k) != bt h' l' ((W : Int) - 1 - k)) = true := by simp [hb]
        clear hb
        go_wp2_with fail
        go_quiet (fail)
        go_wp2_with fail
        go_ret
        exact ⟨false, rfl, ⟨(fun x => (by cases x)), (fun x => absurd (x k hlt) HB.out)⟩, below_drewN (below_drewN HBB.out _) _⟩
    · go_wp2
      go_ret
      have e : k = n := by omega
      subst e
      exact ⟨true, rfl, ⟨fun _ => HZ.out, fun _ => rfl⟩, below_drewN HBB.out _⟩
theorem rcov_any (f h l n f' h' l' n' : Int) (w : World) (uh : U64 h) (ul : U64 l) (uh' : U64 h') (ul' : U64 l') :
    Calls Try.prog 35 #[.agg #[.int .u8 f, .int .u64 h, .int .u64 l, .int .i64 n], .agg #[.int .u8 f', .int .u64 h', .int .u64 l', .int .i64 n']] w fun e w' => e = .returned (.bool (cov f h l n f' h' l' n')) ∧ Below w.heap.size w w' := by
  cases h1 : ok f h l n
  · have hv : cov f h l n f' h' l' n' = false := by simp [cov, h1]
    rw [hv]
    exact rcov_no1 f h l n f' h' l' n' w uh ul _ (by rcases chk_no0 f h l n h1 with e | e <;> rw [e] <;> rfl) rfl
  · have k1 := chk_ok0 f h l n h1
    cases h2 : ok f' h' l' n'
    · have hv : cov f h l n f' h' l' n' = false := by simp [cov, h2]
      rw [hv]
      exact rcov_no2 f h l n f' h' l' n' w uh ul uh' ul' _ (by rcases chk_no0 f' h' l' n' h2 with e | e <;> rw [e] <;> rfl) k1 rfl
    · have k2 := chk_ok0 f' h' l' n' h2
      by_cases h3 : f = f'
      · subst h3
        by_cases h4 : n ≤ n'
        · obtain ⟨b0, b1⟩ := cutOk_of f h l n h1
          have b2 := wid_hi f
          have h1' := h1
          have h2' := h2
          simp only [ok, cutOk, Bool.and_eq_true, beq_iff_eq, decide_eq_true_eq] at h1' h2'
          obtain ⟨⟨⟨c1, _⟩, _⟩, z1, z2⟩ := h1'
          obtain ⟨⟨⟨c2, _⟩, _⟩, _, _⟩ := h2'
          obtain ⟨m, rfl⟩ := Int.eq_ofNat_of_zero_le b0
          obtain ⟨W, hW⟩ : ∃ W : Nat, wid f = (W : Int) := ⟨(wid f).toNat, by omega⟩
          have w2 : 0 < W := by
            have : wid f ≠ 0 := by
              intro h0
              unfold wid at h0; unfold ca at c1
              split at h0
              · omega
              · split at h0
                · omega
                · simp [*] at c1
            omega
          rw [hW] at z1 z2
          have key := cov_iff uh ul uh' ul' f c1 c2 W m hW (by omega) z1 z2
          refine (rcov_yes f h l m h' l' n' W w uh ul uh' ul' hW w2 (by omega) (by omega) k1 k2 h4).mono ?_
          rintro e w' ⟨b, rfl, hb, hbel⟩
          refine ⟨?_, hbel⟩
          rw [key] at hb
          have hv : cov f h l m f h' l' n' = b := by
            rw [Bool.eq_iff_iff, hb]
            simp [cov, h1, h2, h4, hW]
          rw [hv]
        · have hv : cov f h l n f h' l' n' = false := by simp [cov, h4]
          rw [hv]
          exact rcov_no4 f h l n f h' l' n' w uh ul uh' ul' k1 k2 (by simp) (by omega)
      · have hv : cov f h l n f' h' l' n' = false := by simp [cov, h3]
        rw [hv]
        exact rcov_no3 f h l n f' h' l' n' w uh ul uh' ul' k1 k2 (by simp [h3])
end Go.Proofs.Ythfgdgcdicacpaa
