import Derived.Test.YtlikgfmcialepaaGreatDoorSpRefAll
import Derived.Test.YtlikgfmcialepaaGreatDoorSpanAll
import Derived.Test.YtlikgfmcialepaaGreatDoorTxRefD
import Derived.Test.YtlikgfmcialepaaGreatDoorTxRefQ
namespace Go.Proofs.YtlikgfmcialepaaGreatDoor
open Go.RowKit Adr Spn
set_option linter.unusedVariables false
set_option linter.unusedSimpArgs false
set_option maxRecDepth 100000 in
set_option maxHeartbeats 2000000 in
/-- the list has one prefix: its string -/
theorem rstext_1 (f a b c d h l i : Int) (X : ByteArray) (ec : Int) (w : World)
    (hp : ∀ w, Calls Tryz.prog 46 #[.int .u8 f, .agg #[.int .u64 a, .int .u64 b, .int .u64 c, .int .u64 d]] w fun e w' => ∃ v, e = .returned (.tuple #[v, .int .i64 0]) ∧ w'.ownsRow w.heap.size 26 4 v 1 [.int .u8 f, .int .u64 h, .int .u64 l, .int .i64 i] ∧ Below w.heap.size w w')
    (ht : ∀ w, Calls Tryz.prog 10 #[.agg #[.int .u8 f, .int .u64 h, .int .u64 l, .int .i64 i]] w fun e w' => e = .returned (.tuple #[.string X, .int .i64 ec]) ∧ Below w.heap.size w w') :
    Calls Tryz.prog 18 #[.int .u8 f, .agg #[.int .u64 a, .int .u64 b, .int .u64 c, .int .u64 d]] w fun e w' => e = .returned (.tuple #[.string X, .int .i64 ec]) ∧ Below w.heap.size w w' := by
  have HP := Lib.hid hp
  have HT := Lib.hid ht
  clear hp ht
  go_enter Tryz.func18, Tryz.ntmps18
  go_wp2_with fail
  generalize hv : World.alloc _ _ = v
  have HB := Lib.hid (show Below w.heap.size w v by rw [← hv]; exact below_new _ _)
  clear hv
  refine (HP.out v).mono ?_
  rintro e1 w1 ⟨v1, rfl, hown, hb1⟩
  obtain ⟨g, cap, rfl, hgb, hgl, hc2, hcm, hcells⟩ := own4 hown (by omega)
  have c0 : w1.cell? ⟨g, 0, none⟩ = some (.int .u8 f) := hcells 0 _ rfl
  have c1 : w1.cell? ⟨g, 1, none⟩ = some (.int .u64 h) := hcells 1 _ rfl
  have c2 : w1.cell? ⟨g, 2, none⟩ = some (.int .u64 l) := hcells 2 _ rfl
  have c3 : w1.cell? ⟨g, 3, none⟩ = some (.int .i64 i) := hcells 3 _ rfl
  have HB1 := Lib.hid (HB.out.trans (hb1.mono HB.out.size))
  clear hb1 HB hown hcells hgb hcm
  go_wp2_with fail
  refine (HT.out _).mono ?_
  rintro e2 w2 ⟨rfl, hb2⟩
  have HB2 := Lib.hid (HB1.out.trans (hb2.mono HB1.out.size))
  clear hb2 HB1
  go_wp2_with fail
  go_ret2
  exact ⟨rfl, HB2.out⟩
set_option maxRecDepth 100000 in
set_option maxHeartbeats 2000000 in
/-- the list has more prefixes: the strings of both ends -/
theorem rstext_2 (f a b c d : Int) (X Y : ByteArray) (n : Nat) (xs : List Value) (h2 : 2 ≤ n) (sX : X.size ≤ 83) (sY : Y.size ≤ 83) (w : World)
    (hp : ∀ w, Calls Tryz.prog 46 #[.int .u8 f, .agg #[.int .u64 a, .int .u64 b, .int .u64 c, .int .u64 d]] w fun e w' => ∃ v, e = .returned (.tuple #[v, .int .i64 0]) ∧ w'.ownsRow w.heap.size 26 4 v n xs ∧ Below w.heap.size w w')
    (hx : ∀ w, Calls Tryz.prog 6 #[.int .u8 f, .agg #[.int .u64 a, .int .u64 b]] w fun e w' => e = .returned (.tuple #[.string X, .int .i64 0]) ∧ Below w.heap.size w w')
    (hy : ∀ w, Calls Tryz.prog 6 #[.int .u8 f, .agg #[.int .u64 c, .int .u64 d]] w fun e w' => e = .returned (.tuple #[.string Y, .int .i64 0]) ∧ Below w.heap.size w w') :
    Calls Tryz.prog 18 #[.int .u8 f, .agg #[.int .u64 a, .int .u64 b, .int .u64 c, .int .u64 d]] w fun e w' => e = .returned (.tuple #[.string (X ++ ⟨#[45]⟩ ++ Y), .int .i64 0]) ∧ Below w.heap.size w w' := by
  have HP := Lib.hid hp
  have HX := Lib.hid hx
  have HY := Lib.hid hy
  have hn1 : ((n : Int) == 1) = false := by rw [beq_eq_false_iff_ne]; omega
  clear hp hx hy
  go_enter Tryz.func18, Tryz.ntmps18
  go_wp2_with fail
  generalize hv : World.alloc _ _ = v
  have TS : RowKit.Hid (Sp4 w.heap.size v a b c d) := Lib.hid (by rw [← hv]; exact Sp4.new w _ _ _ _ _)
  have HB := Lib.hid (show Below w.heap.size w v by rw [← hv]; exact below_new _ _)
  clear hv
  refine (HP.out v).mono ?_
  rintro e1 w1 ⟨v1, rfl, hown, hb1⟩
  obtain ⟨g, cap, rfl, hgb, hgl, hc2, hcm, -⟩ := own4 hown (by omega)
  have TS1 := Lib.hid (TS.out.on hb1)
  have HB1 := Lib.hid (HB.out.trans (hb1.mono HB.out.size))
  clear hb1 HB TS hown hgb hcm
  obtain ⟨s0, s1, s2, s3, _⟩ := TS1.out
  go_wp2_with fail
  refine (HX.out _).mono ?_
  rintro e2 w2 ⟨rfl, hb2⟩
  have TS2 := Lib.hid (TS1.out.on hb2)
  have HB2 := Lib.hid (HB1.out.trans (hb2.mono HB1.out.size))
  clear hb2 HB1 TS1 s0 s1 s2 s3
  obtain ⟨s0, s1, s2, s3, _⟩ := TS2.out
  go_wp2_with fail
  refine (HY.out _).mono ?_
  rintro e3 w3 ⟨rfl, hb3⟩
  have HB3 := Lib.hid (HB2.out.trans (hb3.mono HB2.out.size))
  clear hb3 HB2 TS2 s0 s1 s2 s3
  go_wp2_with fail
  go_ret2
  exact ⟨rfl, HB3.out⟩
/-- what is no span has no string -/
theorem rstext_no (f a b c d ec : Int) (hc0 : (ec != 0) = true) (w : World)
    (hp : ∀ w, Calls Tryz.prog 46 #[.int .u8 f, .agg #[.int .u64 a, .int .u64 b, .int .u64 c, .int .u64 d]] w fun e w' => e = .returned (.tuple #[.slice none 0 0, .int .i64 ec]) ∧ Below w.heap.size w w') :
    Calls Tryz.prog 18 #[.int .u8 f, .agg #[.int .u64 a, .int .u64 b, .int .u64 c, .int .u64 d]] w fun e w' => e = .returned (.tuple #[.string ⟨#[]⟩, .int .i64 ec]) ∧ Below w.heap.size w w' := by
  have HP := Lib.hid hp
  clear hp
  go_enter Tryz.func18, Tryz.ntmps18
  go_wp2_with fail
  generalize hv : World.alloc _ _ = v
  have HB := Lib.hid (show Below w.heap.size w v by rw [← hv]; exact below_new _ _)
  clear hv
  refine (HP.out v).mono ?_
  rintro e1 w1 ⟨rfl, hb1⟩
  have HB1 := Lib.hid (HB.out.trans (hb1.mono HB.out.size))
  clear hb1 HB
  go_wp2_with fail
  go_ret2
  exact ⟨rfl, HB1.out⟩
/-- one prefix or more -/
theorem win_one_or {W A M : Nat} (hAM : A ≤ M) (hM : M < 2 ^ W) :
    (2 ^ gre W A (M + 1 - A) = M + 1 - A ∧ win A M W 0 = [(A, gre W A (M + 1 - A))]) ∨ (¬ 2 ^ gre W A (M + 1 - A) = M + 1 - A ∧ 2 ≤ (win A M W 0).length) := by
  obtain ⟨t, hl, ht⟩ := (win_top hAM hM).inv (by omega)
  have hfit := gre_fits W A (M + 1 - A) (by omega)
  by_cases hp : 2 ^ gre W A (M + 1 - A) = M + 1 - A
  · left
    rw [hp, Nat.sub_self] at ht
    rw [ht.inv0] at hl
    exact ⟨hp, hl⟩
  · right
    refine ⟨hp, ?_⟩
    obtain ⟨t2, hl2, _⟩ := ht.inv (by omega)
    rw [hl, hl2]
    simp
/-- the reference's Text at every span -/
theorem rstext_any (f : Int) (A M : Nat) (hM : M < 2 ^ 128) (w : World) :
    Calls Tryz.prog 18 #[.int .u8 f, .agg #[.int .u64 (aH A), .int .u64 (aL A), .int .u64 (aH M), .int .u64 (aL M)]] w fun e w' => e = .returned (.tuple #[.string (stX f A M), .int .i64 (schk f A M)]) ∧ Below w.heap.size w w' := by
  unfold stX
  by_cases hs : schk f A M = 0
  · rw [if_pos hs]
    obtain ⟨W, hf, hAM, hMW⟩ := schk_fam hM hs
    rw [hf.famW]
    unfold sxS
    have hp := fun w => rpfx_yes hf A M hAM hMW hs w
    rw [hs]
    obtain ⟨w1, w2, w3, w4⟩ := hf.wid
    have hA : A < 2 ^ W := by omega
    have h128 := hf.lt hA
    have h2 : (2 : Nat) ^ 128 = 340282366920938463463374607431768211456 := by decide
    have hfit := gre_fits W A (M + 1 - A) (by omega)
    have hkW := gre_le W A (M + 1 - A)
    have hcA : ca f ((A / 18446744073709551616 : Nat) : Int) ((A % 18446744073709551616 : Nat) : Int) = true := by
      have := ca_num f A
      rw [show aH A = ((A / 18446744073709551616 : Nat) : Int) from rfl, show aL A = ((A % 18446744073709551616 : Nat) : Int) from rfl] at this
      rw [this]; exact hf.isA A hA
    have hcM : ca f ((M / 18446744073709551616 : Nat) : Int) ((M % 18446744073709551616 : Nat) : Int) = true := by
      have := ca_num f M
      rw [show aH M = ((M / 18446744073709551616 : Nat) : Int) from rfl, show aL M = ((M % 18446744073709551616 : Nat) : Int) from rfl] at this
      rw [this]; exact hf.isA M hMW
    rcases win_one_or hAM hMW with ⟨hq, hl⟩ | ⟨hq, hl⟩
    · rw [if_pos hq]
      obtain ⟨k, hk⟩ : ∃ k, gre W A (M + 1 - A) = k := ⟨_, rfl⟩
      rw [hk] at hl hfit hkW ⊢
      rw [hl] at hp
      have hchk : chk f (aH A) (aL A) ((W - k : Nat) : Int) = 0 := chk_of_num hf (by omega) hA (by rw [show W - (W - k) = k by omega]; exact hfit.1)
      exact rstext_1 f _ _ _ _ (aH A) (aL A) ((W - k : Nat) : Int) _ 0 w hp (fun w => rptext_yes f (A / 18446744073709551616) (A % 18446744073709551616) (W - k) w (by omega) (by omega) hchk hcA (by omega))
    · rw [if_neg hq]
      have s1 := str_size (addrS f (A / 18446744073709551616) (A % 18446744073709551616))
      have s2 := addrS_len f (A / 18446744073709551616) (A % 18446744073709551616)
      have s3 := str_size (addrS f (M / 18446744073709551616) (M % 18446744073709551616))
      have s4 := addrS_len f (M / 18446744073709551616) (M % 18446744073709551616)
      exact rstext_2 f _ _ _ _ _ _ _ _ hl (by omega) (by omega) w hp (fun w => rtext_yes f _ _ hcA (by omega) (by omega) w) (fun w => rtext_yes f _ _ hcM (by omega) (by omega) w)
  · rw [if_neg hs]
    exact rstext_no f _ _ _ _ _ (by rw [bne_iff_ne]; exact hs) w (fun w => rpfx_no f A M _ rfl (by rw [bne_iff_ne]; exact hs) w)
end Go.Proofs.YtlikgfmcialepaaGreatDoor
namespace Go.Proofs.YtlikgfmcialepaaGreatDoor
open Go.RowKit Adr Spn
set_option linter.unusedVariables false
set_option linter.unusedSimpArgs false
/-- what the reference answers, and nothing older is touched -/
def SpnLeft (f a b c d ec : Int) (w : World) (e : Ending) (w' : World) : Prop :=
  e = .returned (.tuple #[.int .u8 f, .agg #[.int .u64 a, .int .u64 b, .int .u64 c, .int .u64 d], .int .i64 ec]) ∧ Below w.heap.size w w'
def Zr6 (f a b c d ec : Int) : Prop := f = 0 ∧ a = 0 ∧ b = 0 ∧ c = 0 ∧ d = 0 ∧ ec = 12
set_option maxRecDepth 100000 in
set_option maxHeartbeats 4000000 in
/-- the string is a prefix's -/
theorem rsp_pfx (s : ByteArray) (f h l n A B C D : Int) (w : World)
    (hpa : ∀ w, Calls Tryz.prog 12 #[.string s] w (PfxLeft f h l n 0 w))
    (hof : ∀ w, Calls Tryz.prog 49 #[.agg #[.int .u8 f, .int .u64 h, .int .u64 l, .int .i64 n]] w fun e w' => e = .returned (.tuple #[.agg #[.int .u64 A, .int .u64 B, .int .u64 C, .int .u64 D], .int .i64 0]) ∧ Below w.heap.size w w') :
    Calls Tryz.prog 20 #[.string s] w (SpnLeft f A B C D 0 w) := by
  have HPA := Lib.hid hpa
  have HOF := Lib.hid hof
  clear hpa hof
  go_enter Tryz.func20, Tryz.ntmps20
  go_wp2_with fail
  have T0 := Lib.hid (Sp4.new w 0 0 0 0 50)
  have HB0 := Lib.hid (below_new w (.cells #[.int .u64 0, .int .u64 0, .int .u64 0, .int .u64 0] 50))
  refine (HPA.out _).mono ?_
  rintro e1 w1 ⟨rfl, hb1⟩
  have T1 := Lib.hid (T0.out.on hb1)
  have HB1 := Lib.hid (HB0.out.trans (hb1.mono HB0.out.size))
  clear hb1 T0 HB0
  go_upto_region 2 with fail
  obtain ⟨N1, hN1⟩ : ∃ N, w1.heap.size = N := ⟨_, rfl⟩
  generalize hv : World.alloc _ _ = v1
  have T2 : RowKit.Hid (Sp4 w.heap.size v1 0 0 0 0) := Lib.hid (by rw [← hv]; exact T1.out.on (below_new _ _))
  have P2 : RowKit.Hid (Pf4 N1 v1 f h l n) := Lib.hid (by rw [← hv, ← hN1]; exact Pf4.new w1 f h l n _)
  have HB2 : RowKit.Hid (Below w.heap.size w v1) := Lib.hid (by rw [← hv]; exact HB1.out.alloc HB1.out.size _)
  have n1 : w.heap.size < N1 := by rw [← hN1]; exact T1.out.lt
  clear hv T1 HB1
  try rw [hN1]
  clear hN1
  obtain ⟨p0, p1, p2, p3, _, _, _, _⟩ := P2.out
  go_wp2_with fail
  refine (HOF.out _).mono ?_
  rintro e2 w2 ⟨rfl, hb2⟩
  have T3 := Lib.hid (T2.out.on hb2)
  have P3 := Lib.hid (P2.out.on hb2)
  have HB3 := Lib.hid (HB2.out.trans (hb2.mono HB2.out.size))
  clear hb2 T2 P2 HB2 p0 p1 p2 p3
  go_upto_region 4 with fail
  obtain ⟨N2, hN2⟩ : ∃ N, w2.heap.size = N := ⟨_, rfl⟩
  generalize hv : World.alloc _ _ = v2
  have T4 : RowKit.Hid (Sp4 w.heap.size v2 0 0 0 0) := Lib.hid (by rw [← hv]; exact T3.out.on (below_new _ _))
  have P4 : RowKit.Hid (Pf4 N1 v2 f h l n) := Lib.hid (by rw [← hv]; exact P3.out.on (below_new _ _))
  have X4 : RowKit.Hid (Sp4 N2 v2 A B C D) := Lib.hid (by rw [← hv, ← hN2]; exact Sp4.new w2 A B C D _)
  have HB4 : RowKit.Hid (Below w.heap.size w v2) := Lib.hid (by rw [← hv]; exact HB3.out.alloc HB3.out.size _)
  have n2 : w.heap.size < N2 := by rw [← hN2]; exact T3.out.lt
  clear hv T3 P3 HB3
  try rw [hN2]
  clear hN2
  have HF1 : RowKit.Hid (∀ (q r : Nat), (⟨w.heap.size, q, none⟩ : Addr) ≠ ⟨N1, r, none⟩) := Lib.hid (fun q r h => Nat.ne_of_lt n1 (congrArg Addr.block h))
  have HF2 : RowKit.Hid (∀ (q r : Nat), (⟨w.heap.size, q, none⟩ : Addr) ≠ ⟨N2, r, none⟩) := Lib.hid (fun q r h => Nat.ne_of_lt n2 (congrArg Addr.block h))
  clear n1 n2
  obtain ⟨p0, p1, p2, p3, _, _, _, _⟩ := P4.out
  obtain ⟨x0, x1, x2, x3, _⟩ := X4.out
  obtain ⟨s0, s1, s2, s3, fz⟩ := T4.out
  have g0 := fz 0
  have g1 := fz 1
  have g2 := fz 2
  have g3 := fz 3
  clear fz
  try go_wp2_with fail
  go_region_held3 (fun z => z.cell? ⟨N1, 0, none⟩ = some (.int .u8 f) ∧ z.cell? ⟨N2, 0, none⟩ = some (.int .u64 A) ∧ z.cell? ⟨N2, 1, none⟩ = some (.int .u64 B) ∧ z.cell? ⟨N2, 2, none⟩ = some (.int .u64 C) ∧ z.cell? ⟨N2, 3, none⟩ = some (.int .u64 D))
    (first | exact ⟨p0, x0, x1, x2, x3⟩ | exact ⟨cell_far (cell_far (cell_far (cell_far p0 (HF1.out _ _)) (HF1.out _ _)) (HF1.out _ _)) (HF1.out _ _), cell_far (cell_far (cell_far (cell_far x0 (HF2.out _ _)) (HF2.out _ _)) (HF2.out _ _)) (HF2.out _ _), cell_far (cell_far (cell_far (cell_far x1 (HF2.out _ _)) (HF2.out _ _)) (HF2.out _ _)) (HF2.out _ _), cell_far (cell_far (cell_far (cell_far x2 (HF2.out _ _)) (HF2.out _ _)) (HF2.out _ _)) (HF2.out _ _), cell_far (cell_far (cell_far (cell_far x3 (HF2.out _ _)) (HF2.out _ _)) (HF2.out _ _)) (HF2.out _ _)⟩ | go_keep) (fail)
  rename_i hheld
  clear hheld
  have E := sp_set (a' := A) (b' := B) (c' := C) (d' := D) T4.out
  go_wp2_with fail
  refine bodyPost_ret (v := .tuple #[.int .u8 f, .agg #[.int .u64 A, .int .u64 B, .int .u64 C, .int .u64 D], .int .i64 0]) (by simp [results, Tryz.results20, go_sem, E.a0, E.a1, E.a2, E.a3]) rfl ⟨rfl, (pf_below HB4.out (Nat.le_refl _)).drew⟩
set_option maxRecDepth 100000 in
set_option maxHeartbeats 4000000 in
/-- no prefix's, and not of two parts -/
theorem rsp_parts (s : ByteArray) (hs : s.size ≤ 1000) (hl : ((splitL 45 s.data.toList).length : Int) ≠ 2) (f h l n pe : Int) (hpe : (pe == 0) = false) (w : World)
    (hpa : ∀ w, Calls Tryz.prog 12 #[.string s] w (PfxLeft f h l n pe w)) :
    Calls Tryz.prog 20 #[.string s] w (SpnLeft 0 0 0 0 0 12 w) := by
  have HPA := Lib.hid hpa
  have HP := Lib.hid (fun w => rparts_any s 45 hs w)
  have hl2 : (((splitL 45 s.data.toList).length : Int) != 2) = true := by simpa using hl
  generalize splitL 45 s.data.toList = ps at HP hl2
  clear hl hpa
  go_enter Tryz.func20, Tryz.ntmps20
  go_wp2_with fail
  have T0 := Lib.hid (Sp4.new w 0 0 0 0 50)
  have HB0 := Lib.hid (below_new w (.cells #[.int .u64 0, .int .u64 0, .int .u64 0, .int .u64 0] 50))
  refine (HPA.out _).mono ?_
  rintro e1 w1 ⟨rfl, hb1⟩
  have T1 := Lib.hid (T0.out.on hb1)
  have HB1 := Lib.hid (HB0.out.trans (hb1.mono HB0.out.size))
  clear hb1 T0 HB0
  go_upto_region 2 with fail
  generalize hv : World.alloc _ _ = v1
  have T2 : RowKit.Hid (Sp4 w.heap.size v1 0 0 0 0) := Lib.hid (by rw [← hv]; exact T1.out.on (below_new _ _))
  have HB2 : RowKit.Hid (Below w.heap.size w v1) := Lib.hid (by rw [← hv]; exact HB1.out.alloc HB1.out.size _)
  clear hv T1 HB1
  go_wp2_with fail
  refine (HP.out _).mono ?_
  rintro e2 w2 ⟨v2, rfl, hown, hb2⟩
  obtain ⟨p, cap, rfl, hc⟩ := own_shape hown
  have T3 := Lib.hid (T2.out.on hb2)
  have HB3 := Lib.hid (HB2.out.trans (hb2.mono HB2.out.size))
  clear hb2 T2 HB2 hown
  obtain ⟨s0, s1, s2, s3, fz⟩ := T3.out
  have g0 := fz 0
  have g1 := fz 1
  have g2 := fz 2
  have g3 := fz 3
  clear fz
  go_wp2_with fail
  have E := sp_set (a' := 0) (b' := 0) (c' := 0) (d' := 0) T3.out
  refine bodyPost_ret (v := .tuple #[.int .u8 0, .agg #[.int .u64 0, .int .u64 0, .int .u64 0, .int .u64 0], .int .i64 12]) (by simp [results, Tryz.results20, go_sem, E.a0, E.a1, E.a2, E.a3]) rfl ⟨rfl, pf_below HB3.out (Nat.le_refl _)⟩
set_option maxRecDepth 100000 in
set_option maxHeartbeats 8000000 in
/-- no prefix's, of two parts -/
theorem rsp_two (s : ByteArray) (hs : s.size ≤ 1000) (l0 l1 : List UInt8) (hsp : splitL 45 s.data.toList = [l0, l1]) (pf ph pl pn pe : Int) (hpe : (pe == 0) = false)
    (f a b e1 g c d e2 rf ra rb rc rd re : Int) (w : World)
    (hpa : ∀ w, Calls Tryz.prog 12 #[.string s] w (PfxLeft pf ph pl pn pe w))
    (h1 : ∀ w, Calls Tryz.prog 8 #[.string (str l0)] w fun e w' => e = .returned (.tuple #[.int .u8 f, .agg #[.int .u64 a, .int .u64 b], .int .i64 e1]) ∧ Below w.heap.size w w')
    (h2 : ∀ w, Calls Tryz.prog 8 #[.string (str l1)] w fun e w' => e = .returned (.tuple #[.int .u8 g, .agg #[.int .u64 c, .int .u64 d], .int .i64 e2]) ∧ Below w.heap.size w w')
    (hk : ((e1 != 0) = true ∨ e1 = 0 ∧ (e2 != 0) = true ∨ e1 = 0 ∧ e2 = 0 ∧ (f != g) = true) ∧ Zr6 rf ra rb rc rd re ∨
      e1 = 0 ∧ e2 = 0 ∧ (f != g) = false ∧ ∃ k, (∀ w, Calls Tryz.prog 50 #[.int .u8 f, .agg #[.int .u64 a, .int .u64 b, .int .u64 c, .int .u64 d]] w fun e w' => e = .returned (.int .i64 k) ∧ Below w.heap.size w w') ∧
        ((k != 0) = true ∧ Zr6 rf ra rb rc rd re ∨ k = 0 ∧ ∃ (n : Nat) (xs : List Value), (∀ w, Calls Tryz.prog 46 #[.int .u8 f, .agg #[.int .u64 a, .int .u64 b, .int .u64 c, .int .u64 d]] w fun e w' => ∃ v, e = .returned (.tuple #[v, .int .i64 0]) ∧ w'.ownsRow w.heap.size 26 4 v n xs ∧ Below w.heap.size w w') ∧
          (n = 1 ∧ Zr6 rf ra rb rc rd re ∨ 2 ≤ n ∧ rf = f ∧ ra = a ∧ rb = b ∧ rc = c ∧ rd = d ∧ re = 0))) :
    Calls Tryz.prog 20 #[.string s] w (SpnLeft rf ra rb rc rd re w) := by
  have HPA := Lib.hid hpa
  have HP : RowKit.Hid (∀ w, Calls Tryz.prog 39 #[.string s, .int .u8 45] w fun e w' => ∃ v, e = .returned v ∧ w'.ownsRow w.heap.size 9 1 v 2 (strsV [l0, l1]) ∧ Below w.heap.size w w') := Lib.hid (fun w => by
    have h := rparts_any s 45 hs w
    rw [hsp] at h
    exact h)
  have H1 := Lib.hid h1
  have H2 := Lib.hid h2
  have HK := Lib.hid hk
  have HCELL : RowKit.Hid (∃ sa sb, sa = str l0 ∧ sb = str l1 ∧ strsV [l0, l1] = [Value.string sa, Value.string sb]) := Lib.hid ⟨_, _, rfl, rfl, rfl⟩
  clear hpa h1 h2 hk hsp
  obtain ⟨sa, sb, ea, eb, hcv⟩ := HCELL.out
  rw [← ea] at H1
  rw [← eb] at H2
  rw [hcv] at HP
  clear ea eb hcv HCELL
  go_enter Tryz.func20, Tryz.ntmps20
  go_wp2_with fail
  have T0 := Lib.hid (Sp4.new w 0 0 0 0 50)
  have HB0 := Lib.hid (below_new w (.cells #[.int .u64 0, .int .u64 0, .int .u64 0, .int .u64 0] 50))
  refine (HPA.out _).mono ?_
  rintro x1 w1 ⟨rfl, hb1⟩
  have T1 := Lib.hid (T0.out.on hb1)
  have HB1 := Lib.hid (HB0.out.trans (hb1.mono HB0.out.size))
  clear hb1 T0 HB0
  go_upto_region 2 with fail
  generalize hv : World.alloc _ _ = v1
  have T2 : RowKit.Hid (Sp4 w.heap.size v1 0 0 0 0) := Lib.hid (by rw [← hv]; exact T1.out.on (below_new _ _))
  have HB2 : RowKit.Hid (Below w.heap.size w v1) := Lib.hid (by rw [← hv]; exact HB1.out.alloc HB1.out.size _)
  clear hv T1 HB1
  go_wp2_with fail
  refine (HP.out _).mono ?_
  rintro x2 w2 ⟨v2, rfl, hown, hb2⟩
  obtain ⟨q, cap, rfl, hgb, hgl, hc2, hcm, hcells⟩ := own_cellsT hown (by omega)
  have c0 : w2.cell? ⟨q, 0, none⟩ = some (.string sa) := hcells 0 _ rfl
  have C3 : RowKit.Hid (w2.cell? ⟨q, 1, none⟩ = some (.string sb)) := Lib.hid (hcells 1 _ rfl)
  have T3 := Lib.hid (T2.out.on hb2)
  have HB3 := Lib.hid (HB2.out.trans (hb2.mono HB2.out.size))
  clear hb2 T2 HB2 hown hcells hgb hcm
  go_wp2_with fail
  refine (H1.out _).mono ?_
  rintro x3 w3 ⟨rfl, hb3⟩
  have T4 := Lib.hid (T3.out.on hb3)
  have HB4 := Lib.hid (HB3.out.trans (hb3.mono HB3.out.size))
  have C4 := Lib.hid ((hb3.cell (p := ⟨q, 1, none⟩) hgl).trans C3.out)
  have hgl2 : q < w3.heap.size := Nat.lt_of_lt_of_le hgl hb3.size
  clear hb3 T3 HB3 c0 C3 hgl
  go_upto_region 9 with fail
  obtain ⟨N1, hN1⟩ : ∃ N, w3.heap.size = N := ⟨_, rfl⟩
  generalize hv : World.alloc _ _ = v4
  have T5 : RowKit.Hid (Sp4 w.heap.size v4 0 0 0 0) := Lib.hid (by rw [← hv]; exact T4.out.on (below_new _ _))
  have A5 : RowKit.Hid (Ad2 N1 v4 a b) := Lib.hid (by rw [← hv, ← hN1]; exact Ad2.new w3 a b _)
  have C5 : RowKit.Hid (v4.cell? ⟨q, 1, none⟩ = some (.string sb)) := Lib.hid (by rw [← hv]; exact ((below_new w3 _).cell (p := ⟨q, 1, none⟩) hgl2).trans C4.out)
  have HB5 : RowKit.Hid (Below w.heap.size w v4) := Lib.hid (by rw [← hv]; exact HB4.out.alloc HB4.out.size _)
  clear hv T4 HB4 C4 hgl2
  try rw [hN1]
  clear hN1
  have c1 := C5.out
  go_wp2_with fail
  refine (H2.out _).mono ?_
  rintro x5 w5 ⟨rfl, hb5⟩
  have T6 := Lib.hid (T5.out.on hb5)
  have A6 := Lib.hid (A5.out.on hb5)
  have HB6 := Lib.hid (HB5.out.trans (hb5.mono HB5.out.size))
  clear hb5 T5 A5 HB5 C5 c1
  go_upto_region 10 with fail
  obtain ⟨N2, hN2⟩ : ∃ N, w5.heap.size = N := ⟨_, rfl⟩
  generalize hv : World.alloc _ _ = v6
  have T7 : RowKit.Hid (Sp4 w.heap.size v6 0 0 0 0) := Lib.hid (by rw [← hv]; exact T6.out.on (below_new _ _))
  have A7 : RowKit.Hid (Ad2 N1 v6 a b) := Lib.hid (by rw [← hv]; exact A6.out.on (below_new _ _))
  have B7 : RowKit.Hid (Ad2 N2 v6 c d) := Lib.hid (by rw [← hv, ← hN2]; exact Ad2.new w5 c d _)
  have HB7 : RowKit.Hid (Below w.heap.size w v6) := Lib.hid (by rw [← hv]; exact HB6.out.alloc HB6.out.size _)
  clear hv T6 A6 HB6
  try rw [hN2]
  clear hN2
  obtain ⟨a0, a1, _, _⟩ := A7.out
  obtain ⟨b0, b1, _, _⟩ := B7.out
  go_upto_region 11 with fail
  obtain ⟨N3, hN3⟩ : ∃ N, v6.heap.size = N := ⟨_, rfl⟩
  generalize hv : World.alloc _ _ = v8
  have T8 : RowKit.Hid (Sp4 w.heap.size v8 0 0 0 0) := Lib.hid (by rw [← hv]; exact T7.out.on (below_new _ _))
  have X8 : RowKit.Hid (Sp4 N3 v8 a b c d) := Lib.hid (by rw [← hv, ← hN3]; exact Sp4.new v6 a b c d _)
  have HB8 : RowKit.Hid (Below w.heap.size w v8) := Lib.hid (by rw [← hv]; exact HB7.out.alloc HB7.out.size _)
  have n3 : w.heap.size < N3 := by rw [← hN3]; exact T7.out.lt
  clear hv T7 HB7 a0 a1 b0 b1 A7 B7
  try rw [hN3]
  clear hN3
  rcases HK.out with ⟨hbad, rfl, rfl, rfl, rfl, rfl, rfl⟩ | ⟨rfl, rfl, hfg, k, hck, hc⟩
  · obtain ⟨s0, s1, s2, s3, fz⟩ := T8.out
    have g0 := fz 0
    have g1 := fz 1
    have g2 := fz 2
    have g3 := fz 3
    clear fz
    rcases hbad with hbad | ⟨rfl, hbad⟩ | ⟨rfl, rfl, hbad⟩
    all_goals
      go_wp2_with fail
      have E := sp_set (a' := 0) (b' := 0) (c' := 0) (d' := 0) T8.out
      refine bodyPost_ret (v := .tuple #[.int .u8 0, .agg #[.int .u64 0, .int .u64 0, .int .u64 0, .int .u64 0], .int .i64 12]) (by simp [results, Tryz.results20, go_sem, E.a0, E.a1, E.a2, E.a3]) rfl ⟨rfl, pf_below HB8.out (Nat.le_refl _)⟩
  · have HCK := Lib.hid hck
    have HC := Lib.hid hc
    clear hck hc HK
    obtain ⟨x0, x1, x2, x3, _⟩ := X8.out
    go_wp2_with fail
    refine (HCK.out _).mono ?_
    rintro e9 w9 ⟨rfl, hb9⟩
    have T9 := Lib.hid (T8.out.on hb9)
    have X9 := Lib.hid (X8.out.on hb9)
    have HB9 := Lib.hid (HB8.out.trans (hb9.mono HB8.out.size))
    clear hb9 T8 X8 HB8 x0 x1 x2 x3
    rcases HC.out with ⟨hk0, rfl, rfl, rfl, rfl, rfl, rfl⟩ | ⟨rfl, n, xs, hpx, hn⟩
    · obtain ⟨s0, s1, s2, s3, fz⟩ := T9.out
      have g0 := fz 0
      have g1 := fz 1
      have g2 := fz 2
      have g3 := fz 3
      clear fz
      go_wp2_with fail
      have E := sp_set (a' := 0) (b' := 0) (c' := 0) (d' := 0) T9.out
      refine bodyPost_ret (v := .tuple #[.int .u8 0, .agg #[.int .u64 0, .int .u64 0, .int .u64 0, .int .u64 0], .int .i64 12]) (by simp [results, Tryz.results20, go_sem, E.a0, E.a1, E.a2, E.a3]) rfl ⟨rfl, pf_below HB9.out (Nat.le_refl _)⟩
    · have HPX := Lib.hid hpx
      have HN := Lib.hid hn
      clear hpx hn HC
      obtain ⟨x0, x1, x2, x3, _⟩ := X9.out
      go_wp2_with fail
      refine (HPX.out _).mono ?_
      rintro e10 w10 ⟨v10, rfl, hown, hb10⟩
      obtain ⟨y, cy, rfl, -, -, hy2, -, -⟩ := own4 hown (by have := HN.out; omega)
      have T10 := Lib.hid (T9.out.on hb10)
      have X10 := Lib.hid (X9.out.on hb10)
      have HB10 := Lib.hid (HB9.out.trans (hb10.mono HB9.out.size))
      clear hb10 T9 X9 HB9 x0 x1 x2 x3 hown
      obtain ⟨s0, s1, s2, s3, fz⟩ := T10.out
      have g0 := fz 0
      have g1 := fz 1
      have g2 := fz 2
      have g3 := fz 3
      clear fz
      rcases HN.out with ⟨rfl, rfl, rfl, rfl, rfl, rfl, rfl⟩ | ⟨h2n, rfl, rfl, rfl, rfl, rfl, rfl⟩
      · go_wp2_with fail
        have E := sp_set (a' := 0) (b' := 0) (c' := 0) (d' := 0) T10.out
        refine bodyPost_ret (v := .tuple #[.int .u8 0, .agg #[.int .u64 0, .int .u64 0, .int .u64 0, .int .u64 0], .int .i64 12]) (by simp [results, Tryz.results20, go_sem, E.a0, E.a1, E.a2, E.a3]) rfl ⟨rfl, pf_below HB10.out (Nat.le_refl _)⟩
      · have hn1 : ((n : Int) == 1) = false := by rw [beq_eq_false_iff_ne]; omega
        have HF : RowKit.Hid (∀ (q r : Nat), (⟨w.heap.size, q, none⟩ : Addr) ≠ ⟨N3, r, none⟩) := Lib.hid (fun q r h => Nat.ne_of_lt n3 (congrArg Addr.block h))
        clear n3
        obtain ⟨x0, x1, x2, x3, _⟩ := X10.out
        go_wp2_with fail
        go_region_held3 (fun z => z.cell? ⟨N3, 0, none⟩ = some (.int .u64 ra) ∧ z.cell? ⟨N3, 1, none⟩ = some (.int .u64 rb) ∧ z.cell? ⟨N3, 2, none⟩ = some (.int .u64 rc) ∧ z.cell? ⟨N3, 3, none⟩ = some (.int .u64 rd))
          (first | exact ⟨x0, x1, x2, x3⟩ | exact ⟨cell_far (cell_far (cell_far (cell_far x0 (HF.out _ _)) (HF.out _ _)) (HF.out _ _)) (HF.out _ _), cell_far (cell_far (cell_far (cell_far x1 (HF.out _ _)) (HF.out _ _)) (HF.out _ _)) (HF.out _ _), cell_far (cell_far (cell_far (cell_far x2 (HF.out _ _)) (HF.out _ _)) (HF.out _ _)) (HF.out _ _), cell_far (cell_far (cell_far (cell_far x3 (HF.out _ _)) (HF.out _ _)) (HF.out _ _)) (HF.out _ _)⟩ | go_keep) (fail)
        rename_i hheld
        clear hheld
        have E := sp_set (a' := ra) (b' := rb) (c' := rc) (d' := rd) T10.out
        go_wp2_with fail
        refine bodyPost_ret (v := .tuple #[.int .u8 rf, .agg #[.int .u64 ra, .int .u64 rb, .int .u64 rc, .int .u64 rd], .int .i64 0]) (by simp [results, Tryz.results20, go_sem, E.a0, E.a1, E.a2, E.a3]) rfl ⟨rfl, (pf_below HB10.out (Nat.le_refl _)).drew⟩
end Go.Proofs.YtlikgfmcialepaaGreatDoor
