/-
  THE WALKS over package span: Parse at every string; strings and spans are inverse (plain mathematics).
-/
import Derived.Test.YtjngfieggacpiaaGreatDoorSpanJ
import Derived.Test.YtjngfieggacpiaaGreatDoorInvMath
import Derived.Test.YtjngfieggacpiaaGreatDoorExactWalk
namespace Go.Proofs.YtjngfieggacpiaaGreatDoor
open Go.RowKit Adr Spn
set_option linter.unusedVariables false
set_option linter.unusedSimpArgs false
variable {fl : Bool}
/-- the number of bits of a family -/
def famW (f : Int) : Nat := if f = 4 then 32 else 128
theorem Fam.famW {f : Int} {W : Nat} (h : Fam f W) : famW f = W := by
  rcases h with ⟨rfl, rfl⟩ | ⟨rfl, rfl⟩ <;> decide
/-- the string of a span -/
def sxS (f : Int) (W A M : Nat) : ByteArray :=
  if 2 ^ gre W A (M + 1 - A) = M + 1 - A then str (pfxS f (A / 18446744073709551616) (A % 18446744073709551616) (W - gre W A (M + 1 - A)))
  else str (addrS f (A / 18446744073709551616) (A % 18446744073709551616)) ++ ⟨#[45]⟩ ++ str (addrS f (M / 18446744073709551616) (M % 18446744073709551616))
def stX (f : Int) (A M : Nat) : ByteArray := if schk f A M = 0 then sxS f (famW f) A M else ⟨#[]⟩
/-- span.Text at every span -/
theorem stext_any (f : Int) (A M : Nat) (hM : M < 2 ^ 128) (w : World) (env : Env fl w) :
    Calls Tryz.prog 18 #[.int .u8 f, .agg #[.int .u64 (aH A), .int .u64 (aL A), .int .u64 (aH M), .int .u64 (aL M)]] w fun e w' => e = .returned (.tuple #[.string (stX f A M), .int .i64 (schk f A M)]) ∧ Below w.heap.size w w' := by
  unfold stX
  by_cases hs : schk f A M = 0
  · rw [if_pos hs, hs]
    obtain ⟨W, hf, hAM, hMW⟩ := schk_fam hM hs
    rw [hf.famW]
    unfold sxS
    by_cases hp : 2 ^ gre W A (M + 1 - A) = M + 1 - A
    · rw [if_pos hp]
      exact stext_p hf A M _ hAM hMW rfl hp w env
    · rw [if_neg hp]
      exact stext_2 hf A M _ hAM hMW rfl hp w env
  · rw [if_neg hs]
    exact stext_no f A M _ rfl (by rw [bne_iff_ne]; exact hs) w
/-- the address that is read of a string -/
def apN (s : ByteArray) : Nat := apH s * 18446744073709551616 + apL s
theorem apN_h (s : ByteArray) : aH (apN s) = (apH s : Int) ∧ aL (apN s) = (apL s : Int) := by
  have h := ap_u64 s
  unfold aH aL apN
  constructor <;> omega
theorem apN_lt (s : ByteArray) : apN s < 2 ^ 128 := by
  have h := ap_u64 s
  have h2 : (2 : Nat) ^ 128 = 340282366920938463463374607431768211456 := by decide
  unfold apN
  omega
/-- what stands before and behind a dash -/
def cutL (s : ByteArray) : ByteArray := ⟨(Lib.cut s.data.toList [45]).1.toArray⟩
def cutR (s : ByteArray) : ByteArray := ⟨(Lib.cut s.data.toList [45]).2.1.toArray⟩
def cutM (s : ByteArray) : Bool := (Lib.cut s.data.toList [45]).2.2
set_option maxRecDepth 100000 in
set_option maxHeartbeats 4000000 in
theorem ends_core (s X Y : ByteArray) (f1 h1 l1 e1 f2 h2 l2 e2 : Int) (b1 b2 b3 : Bool) (hb1 : (e1 != 0) = b1) (hb2 : (e2 != 0) = b2) (hb3 : (f1 != f2) = b3)
    (hX : cutL s = X) (hY : cutR s = Y) (H1 : ApIs X f1 h1 l1 e1) (H2 : ApIs Y f2 h2 l2 e2) (w : World) (env : Env true w) (hs : s.size ≤ 1000) :
    Calls Tryz.prog 51 #[.string s] w fun e w' => e = .returned (.tuple #[.int .u8 (bif (b1 || b2 || b3) then 0 else f1), .agg #[.int .u64 (bif (b1 || b2 || b3) then 0 else h1), .int .u64 (bif (b1 || b2 || b3) then 0 else l1), .int .u64 (bif (b1 || b2 || b3) then 0 else h2), .int .u64 (bif (b1 || b2 || b3) then 0 else l2)]]) ∧ Below w.heap.size w w' := by
  have hG := env.big
  have HE := Lib.hid env
  have hcut : ∀ w, Env true w → Calls Tryz.prog 42 #[.string s, .string ⟨#[45]⟩] w fun e w' => e = .returned (.tuple #[.string X, .string Y, .bool (cutM s)]) ∧ ∃ n, w' = w.drewN n := by
    intro w env
    obtain ⟨m, hm⟩ := env.mx
    have h := Tryz.strings_Cut s ⟨#[45]⟩ m w (by omega) hm
    rw [← hX, ← hY]
    exact h
  have HCUT := Lib.hid hcut
  have HA := Lib.hid H1
  have HB := Lib.hid H2
  obtain ⟨mm, hmm⟩ : ∃ mm, cutM s = mm := ⟨_, rfl⟩
  rw [hmm] at HCUT
  clear hcut env hs H1 H2 hX hY hmm
  cases b1 <;> cases b2 <;> cases b3
  all_goals
    simp only [Bool.or_false, Bool.or_true, Bool.or_self, cond_true, cond_false]
    go_enter Tryz.func51, Tryz.ntmps51
    go_wp2_with fail
    generalize hv : World.alloc _ _ = v
    have TS : RowKit.Hid (Sp4 w.heap.size v 0 0 0 0) := Lib.hid (by rw [← hv]; exact Sp4.new w _ _ _ _ _)
    have HV := Lib.hid (show Below w.heap.size w v by rw [← hv]; exact below_new _ _)
    clear hv
    refine (HCUT.out v (HE.out.below HV.out hG)).mono ?_
    rintro e w1 ⟨rfl, nq, rfl⟩
    have TS1 := Lib.hid (TS.out.on (below_drewN (Below.refl _ _) nq))
    have HB1 := Lib.hid (below_drewN HV.out nq)
    clear TS HV
    generalize World.drewN _ nq = v1 at TS1 HB1 ⊢
    go_wp2_with fail
    refine (HA.out _ (HE.out.below HB1.out hG)).mono ?_
    rintro e w2 ⟨rfl, hb2⟩
    have TS2 := Lib.hid (TS1.out.on hb2)
    have HB2 := Lib.hid (HB1.out.trans (hb2.mono HB1.out.size))
    clear hb2 HB1 TS1
    go_wp2_with fail
    generalize hv : World.alloc _ _ = v3
    have TA3 : RowKit.Hid (Ad2 w2.heap.size v3 h1 l1) := Lib.hid (by rw [← hv]; exact Ad2.new w2 h1 l1 _)
    have TS3 : RowKit.Hid (Sp4 w.heap.size v3 0 0 0 0) := Lib.hid (by rw [← hv]; exact TS2.out.on (below_new _ _))
    have HB3 := Lib.hid (show Below w.heap.size w v3 by rw [← hv]; exact HB2.out.alloc HB2.out.size _)
    clear hv HB2 TS2
    obtain ⟨P, hP⟩ : ∃ P, w2.heap.size = P := ⟨_, rfl⟩
    try rw [hP] at TA3
    try rw [hP]
    clear hP
    refine (HB.out _ (HE.out.below HB3.out hG)).mono ?_
    rintro e w4 ⟨rfl, hb4⟩
    have HB4 := Lib.hid (HB3.out.trans (hb4.mono HB3.out.size))
    have TA4 := Lib.hid (TA3.out.on hb4)
    have TS4 := Lib.hid (TS3.out.on hb4)
    clear hb4 HB3 TA3 TS3
    go_upto_region 4 with fail
    generalize hv : World.alloc _ _ = v5
    have TB5 : RowKit.Hid (Ad2 w4.heap.size v5 h2 l2) := Lib.hid (by rw [← hv]; exact Ad2.new w4 h2 l2 _)
    have TA5 : RowKit.Hid (Ad2 P v5 h1 l1) := Lib.hid (by rw [← hv]; exact TA4.out.on (below_new _ _))
    have TS5 : RowKit.Hid (Sp4 w.heap.size v5 0 0 0 0) := Lib.hid (by rw [← hv]; exact TS4.out.on (below_new _ _))
    have HB5 := Lib.hid (show Below w.heap.size w v5 by rw [← hv]; exact HB4.out.alloc HB4.out.size _)
    clear hv TA4 TS4 HB4
    obtain ⟨Q, hQ⟩ : ∃ Q, w4.heap.size = Q := ⟨_, rfl⟩
    try rw [hQ] at TB5
    try rw [hQ]
    clear hQ
    obtain ⟨a0, a1, _, _⟩ := TA5.out
    obtain ⟨c0, c1, _, _⟩ := TB5.out
    obtain ⟨s0, s1, s2, s3, fz⟩ := TS5.out
    have g0 := fz 0
    have g1 := fz 1
    have g2 := fz 2
    have g3 := fz 3
    clear fz
    go_wp2_with fail
    first
      | (have A := sp_set (a' := 0) (b' := 0) (c' := 0) (d' := 0) TS5.out
         exact bodyPost_ret (v := .tuple #[.int .u8 0, .agg #[.int .u64 0, .int .u64 0, .int .u64 0, .int .u64 0]]) (by simp [results, Tryz.results51, go_sem, A.a0, A.a1, A.a2, A.a3]) rfl ⟨rfl, pf_below HB5.out (Nat.le_refl _)⟩)
      | (go_region
         all_goals
           go_wp2_with fail
           have A := sp_set (a' := h1) (b' := l1) (c' := h2) (d' := l2) TS5.out
           refine bodyPost_ret (v := .tuple #[.int .u8 f1, .agg #[.int .u64 h1, .int .u64 l1, .int .u64 h2, .int .u64 l2]]) (by simp [results, Tryz.results51, go_sem, A.a0, A.a1, A.a2, A.a3]) rfl ⟨rfl, ?_⟩
           first
             | exact pf_below HB5.out (Nat.le_refl _)
             | exact (pf_below HB5.out (Nat.le_refl _)).drew)
set_option maxRecDepth 100000 in
set_option maxHeartbeats 4000000 in
theorem rpfx_no (s : ByteArray) (f h l n : Int) (e1 : Int) (he : (e1 != 0) = true) (H1 : ∀ w, Env true w → Calls Tryz.prog 12 #[.string s] w (PfxLeft f h l n e1 w)) (w : World) (env : Env true w) :
    Calls Tryz.prog 52 #[.string s] w fun e w' => e = .returned (.tuple #[.int .u8 0, .agg #[.int .u64 0, .int .u64 0, .int .u64 0, .int .u64 0]]) ∧ Below w.heap.size w w' := by
  have hG := env.big
  have HE := Lib.hid env
  have HP := Lib.hid H1
  clear H1 env
  go_enter Tryz.func52, Tryz.ntmps52
  go_wp2_with fail
  generalize hv : World.alloc _ _ = v
  have TS : RowKit.Hid (Sp4 w.heap.size v 0 0 0 0) := Lib.hid (by rw [← hv]; exact Sp4.new w _ _ _ _ _)
  have HV := Lib.hid (show Below w.heap.size w v by rw [← hv]; exact below_new _ _)
  clear hv
  refine (HP.out v (HE.out.below HV.out hG)).mono ?_
  rintro e w1 ⟨rfl, hb1⟩
  have TS1 := Lib.hid (TS.out.on hb1)
  have HB1 := Lib.hid (HV.out.trans (hb1.mono HV.out.size))
  clear hb1 HV TS
  go_upto_region 2 with fail
  generalize hv : World.alloc _ _ = v2
  have TS2 : RowKit.Hid (Sp4 w.heap.size v2 0 0 0 0) := Lib.hid (by rw [← hv]; exact TS1.out.on (below_new _ _))
  have HB2 := Lib.hid (show Below w.heap.size w v2 by rw [← hv]; exact HB1.out.alloc HB1.out.size _)
  clear hv TS1 HB1
  obtain ⟨s0, s1, s2, s3, fz⟩ := TS2.out
  have g0 := fz 0
  have g1 := fz 1
  have g2 := fz 2
  have g3 := fz 3
  clear fz
  go_wp2_with fail
  have A := sp_set (a' := 0) (b' := 0) (c' := 0) (d' := 0) TS2.out
  exact bodyPost_ret (v := .tuple #[.int .u8 0, .agg #[.int .u64 0, .int .u64 0, .int .u64 0, .int .u64 0]]) (by simp [results, Tryz.results52, go_sem, A.a0, A.a1, A.a2, A.a3]) rfl ⟨rfl, pf_below HB2.out (Nat.le_refl _)⟩
set_option maxRecDepth 100000 in
set_option maxHeartbeats 4000000 in
theorem rpfx_yes (s : ByteArray) (f h l n a b c d : Int) (H1 : ∀ w, Env true w → Calls Tryz.prog 12 #[.string s] w (PfxLeft f h l n 0 w))
    (H2 : ∀ w, Calls Tryz.prog 24 #[.agg #[.int .u8 f, .int .u64 h, .int .u64 l, .int .i64 n]] w fun e w' => e = .returned (.tuple #[.agg #[.int .u64 a, .int .u64 b, .int .u64 c, .int .u64 d], .int .i64 0]) ∧ Below w.heap.size w w') (w : World) (env : Env true w) :
    Calls Tryz.prog 52 #[.string s] w fun e w' => e = .returned (.tuple #[.int .u8 f, .agg #[.int .u64 a, .int .u64 b, .int .u64 c, .int .u64 d]]) ∧ Below w.heap.size w w' := by
  have hG := env.big
  have HE := Lib.hid env
  have HP := Lib.hid H1
  have HO := Lib.hid H2
  clear H1 H2 env
  go_enter Tryz.func52, Tryz.ntmps52
  go_wp2_with fail
  generalize hv : World.alloc _ _ = v
  have TS : RowKit.Hid (Sp4 w.heap.size v 0 0 0 0) := Lib.hid (by rw [← hv]; exact Sp4.new w _ _ _ _ _)
  have HV := Lib.hid (show Below w.heap.size w v by rw [← hv]; exact below_new _ _)
  clear hv
  refine (HP.out v (HE.out.below HV.out hG)).mono ?_
  rintro e w1 ⟨rfl, hb1⟩
  have TS1 := Lib.hid (TS.out.on hb1)
  have HB1 := Lib.hid (HV.out.trans (hb1.mono HV.out.size))
  clear hb1 HV TS
  go_upto_region 2 with fail
  generalize hv : World.alloc _ _ = v2
  have TP2 : RowKit.Hid (Pf4 w1.heap.size v2 f h l n) := Lib.hid (by rw [← hv]; exact Pf4.new w1 _ _ _ _ _)
  have TS2 : RowKit.Hid (Sp4 w.heap.size v2 0 0 0 0) := Lib.hid (by rw [← hv]; exact TS1.out.on (below_new _ _))
  have HB2 := Lib.hid (show Below w.heap.size w v2 by rw [← hv]; exact HB1.out.alloc HB1.out.size _)
  clear hv TS1 HB1
  obtain ⟨P, hP⟩ : ∃ P, w1.heap.size = P := ⟨_, rfl⟩
  try rw [hP] at TP2
  try rw [hP]
  clear hP
  obtain ⟨p0, p1, p2, p3, _, _, _, _⟩ := TP2.out
  go_wp2_with fail
  refine (HO.out v2).mono ?_
  rintro e w3 ⟨rfl, hb3⟩
  have TP3 := Lib.hid (TP2.out.on hb3)
  have TS3 := Lib.hid (TS2.out.on hb3)
  have HB3 := Lib.hid (HB2.out.trans (hb3.mono HB2.out.size))
  clear hb3 TP2 TS2 HB2 p0 p1 p2 p3
  go_upto_region 5 with fail
  generalize hv : World.alloc _ _ = v4
  have TO4 : RowKit.Hid (Sp4 w3.heap.size v4 a b c d) := Lib.hid (by rw [← hv]; exact Sp4.new w3 _ _ _ _ _)
  have TP4 : RowKit.Hid (Pf4 P v4 f h l n) := Lib.hid (by rw [← hv]; exact TP3.out.on (below_new _ _))
  have TS4 : RowKit.Hid (Sp4 w.heap.size v4 0 0 0 0) := Lib.hid (by rw [← hv]; exact TS3.out.on (below_new _ _))
  have HB4 := Lib.hid (show Below w.heap.size w v4 by rw [← hv]; exact HB3.out.alloc HB3.out.size _)
  clear hv TP3 TS3 HB3
  obtain ⟨Q, hQ⟩ : ∃ Q, w3.heap.size = Q := ⟨_, rfl⟩
  try rw [hQ] at TO4
  try rw [hQ]
  clear hQ
  obtain ⟨p0, p1, p2, p3, _, _, _, _⟩ := TP4.out
  obtain ⟨o0, o1, o2, o3, _⟩ := TO4.out
  obtain ⟨s0, s1, s2, s3, fz⟩ := TS4.out
  have g0 := fz 0
  have g1 := fz 1
  have g2 := fz 2
  have g3 := fz 3
  clear fz
  go_region
  all_goals
    go_wp2_with fail
    have A := sp_set (a' := a) (b' := b) (c' := c) (d' := d) TS4.out
    refine bodyPost_ret (v := .tuple #[.int .u8 f, .agg #[.int .u64 a, .int .u64 b, .int .u64 c, .int .u64 d]]) (by simp [results, Tryz.results52, go_sem, A.a0, A.a1, A.a2, A.a3]) rfl ⟨rfl, ?_⟩
    first
      | exact pf_below HB4.out (Nat.le_refl _)
      | exact (pf_below HB4.out (Nat.le_refl _)).drew
set_option maxRecDepth 100000 in
set_option maxHeartbeats 4000000 in
theorem sparse_core (s X : ByteArray) (bc : Bool) (f a b c d ec rf ra rb rc rd re : Int) (hc : decide (0 ≤ Lib.indexByte s.data.toList 45) = bc)
    (H1 : bc = true → ∀ w, Env true w → Calls Tryz.prog 51 #[.string s] w fun e w' => e = .returned (.tuple #[.int .u8 f, .agg #[.int .u64 a, .int .u64 b, .int .u64 c, .int .u64 d]]) ∧ Below w.heap.size w w')
    (H2 : bc = false → ∀ w, Env true w → Calls Tryz.prog 52 #[.string s] w fun e w' => e = .returned (.tuple #[.int .u8 f, .agg #[.int .u64 a, .int .u64 b, .int .u64 c, .int .u64 d]]) ∧ Below w.heap.size w w')
    (H3 : ∀ w, Env true w → Calls Tryz.prog 18 #[.int .u8 f, .agg #[.int .u64 a, .int .u64 b, .int .u64 c, .int .u64 d]] w fun e w' => e = .returned (.tuple #[.string X, .int .i64 ec]) ∧ Below w.heap.size w w')
    (k : (ec = 0 ∧ X = s ∧ f = rf ∧ a = ra ∧ b = rb ∧ c = rc ∧ d = rd ∧ re = 0) ∨ (ec = 0 ∧ (X.toList == s.toList) = false ∧ rf = 0 ∧ ra = 0 ∧ rb = 0 ∧ rc = 0 ∧ rd = 0 ∧ re = 12) ∨ ((ec != 0) = true ∧ rf = 0 ∧ ra = 0 ∧ rb = 0 ∧ rc = 0 ∧ rd = 0 ∧ re = 12))
    (w : World) (env : Env true w) :
    Calls Tryz.prog 20 #[.string s] w fun e w' => e = .returned (.tuple #[.int .u8 rf, .agg #[.int .u64 ra, .int .u64 rb, .int .u64 rc, .int .u64 rd], .int .i64 re]) ∧ Below w.heap.size w w' := by
  have hG := env.big
  have HE := Lib.hid env
  have hct := fun w => Tryz.strings_Contains_one s 45 w
  rw [hc] at hct
  have HCT := Lib.hid hct
  have HA := Lib.hid H1
  have HB := Lib.hid H2
  have HT := Lib.hid H3
  have K := Lib.hid k
  clear hct env hc H1 H2 H3 k
  cases bc
  all_goals
    rcases K.out with ⟨rfl, rfl, rfl, rfl, rfl, rfl, rfl, rfl⟩ | ⟨rfl, hk, rfl, rfl, rfl, rfl, rfl, rfl⟩ | ⟨hk, rfl, rfl, rfl, rfl, rfl, rfl⟩
  all_goals
    clear K
    go_enter Tryz.func20, Tryz.ntmps20
    go_wp2_with fail
    generalize hv : World.alloc _ _ = v
    have TS : RowKit.Hid (Sp4 w.heap.size v 0 0 0 0) := Lib.hid (by rw [← hv]; exact Sp4.new w _ _ _ _ _)
    have HV := Lib.hid (show Below w.heap.size w v by rw [← hv]; exact below_new _ _)
    clear hv
    refine (HCT.out v).mono ?_
    rintro e w1 ⟨rfl, rfl⟩
    go_wp2_with fail
    first
      | refine (HA.out (by first | exact rfl | trivial) _ (HE.out.below HV.out hG)).mono ?_
      | refine (HB.out (by first | exact rfl | trivial) _ (HE.out.below HV.out hG)).mono ?_
    rintro e w2 ⟨rfl, hb2⟩
    have TS2 := Lib.hid (TS.out.on hb2)
    have HV2 := Lib.hid (HV.out.trans (hb2.mono HV.out.size))
    clear hb2 TS HV
    obtain ⟨s0, s1, s2, s3, fz⟩ := TS2.out
    have g0 := fz 0
    have g1 := fz 1
    have g2 := fz 2
    have g3 := fz 3
    clear fz
    go_wp2_with fail
    have A3 := Lib.hid (sp_set (a' := a) (b' := b) (c' := c) (d' := d) TS2.out)
    have HV3 := Lib.hid (pf_below (v0 := .int .u64 a) (v1 := .int .u64 b) (v2 := .int .u64 c) (v3 := .int .u64 d) HV2.out (Nat.le_refl _))
    generalize hW3 : World.setCell (World.setCell (World.setCell (World.setCell w2 _ _) _ _) _ _) _ _ = W3 at A3 HV3 ⊢
    clear hW3 s0 s1 s2 s3 g0 g1 g2 g3 TS2 HV2
    refine (HT.out W3 (HE.out.below HV3.out hG)).mono ?_
    rintro e w4 ⟨rfl, hb4⟩
    have TS4 := Lib.hid (A3.out.on hb4)
    have HV4 := Lib.hid (HV3.out.trans (hb4.mono HV3.out.size))
    clear hb4 A3 HV3
    obtain ⟨s0, s1, s2, s3, fz⟩ := TS4.out
    have g0 := fz 0
    have g1 := fz 1
    have g2 := fz 2
    have g3 := fz 3
    have zs := TS4.out.lt
    clear fz
    go_wp2_with fail
    first
      | (have B := sp_set (a' := 0) (b' := 0) (c' := 0) (d' := 0) TS4.out
         refine bodyPost_ret (v := .tuple #[.int .u8 0, .agg #[.int .u64 0, .int .u64 0, .int .u64 0, .int .u64 0], .int .i64 12]) (by simp [results, Tryz.results20, go_sem, B.a0, B.a1, B.a2, B.a3]) rfl ⟨rfl, pf_below HV4.out (Nat.le_refl _)⟩)
      | (go_region
         all_goals
           go_wp2_with fail
           have B := sp_set (a' := a) (b' := b) (c' := c) (d' := d) TS4.out
           refine bodyPost_ret (v := .tuple #[.int .u8 f, .agg #[.int .u64 a, .int .u64 b, .int .u64 c, .int .u64 d], .int .i64 0]) (by simp [results, Tryz.results20, go_sem, B.a0, B.a1, B.a2, B.a3]) rfl ⟨rfl, (pf_below HV4.out (Nat.le_refl _)).drew⟩)
/-! what is read of a string -/
def dashed (s : ByteArray) : Bool := decide (0 ≤ Lib.indexByte s.data.toList 45)
def reOk (s : ByteArray) : Bool := (apE (cutL s) == 0) && (apE (cutR s) == 0) && (apF (cutL s) == apF (cutR s))
def rdF (s : ByteArray) : Nat := if dashed s = true then (if reOk s = true then apF (cutL s) else 0) else paF s
def rdA (s : ByteArray) : Nat := if dashed s = true then (if reOk s = true then apN (cutL s) else 0) else paH s * 18446744073709551616 + paL s
def rdM (s : ByteArray) : Nat := if dashed s = true then (if reOk s = true then apN (cutR s) else 0) else if paE s = 0 then paH s * 18446744073709551616 + paL s + 2 ^ (famW (paF s) - paN s) - 1 else 0
theorem ap_e2 (s : ByteArray) : apE s = 0 ∨ apE s = 12 := by
  unfold apE; split <;> simp
theorem ends_any (s : ByteArray) (hd : dashed s = true) (w : World) (env : Env true w) (hs : s.size ≤ 1000) :
    Calls Tryz.prog 51 #[.string s] w fun e w' => e = .returned (.tuple #[.int .u8 (rdF s), .agg #[.int .u64 (aH (rdA s)), .int .u64 (aL (rdA s)), .int .u64 (aH (rdM s)), .int .u64 (aL (rdM s))]]) ∧ Below w.heap.size w w' := by
  have h := ends_core s _ _ _ _ _ _ _ _ _ _ _ _ _ rfl rfl rfl rfl rfl (ap_any (cutL s)) (ap_any (cutR s)) w env hs
  unfold rdF rdA rdM
  rw [if_pos hd, if_pos hd, if_pos hd]
  by_cases hr : reOk s = true
  · rw [if_pos hr, if_pos hr, if_pos hr, (apN_h (cutL s)).1, (apN_h (cutL s)).2, (apN_h (cutR s)).1, (apN_h (cutR s)).2]
    have hr2 := hr
    unfold reOk at hr2
    simp only [Bool.and_eq_true, beq_iff_eq] at hr2
    obtain ⟨⟨r1, r2⟩, r3⟩ := hr2
    have hb : ((apE (cutL s) != 0) || (apE (cutR s) != 0) || ((apF (cutL s) : Int) != apF (cutR s))) = false := by
      rw [r1, r2, r3]; simp
    rw [hb] at h
    exact h
  · rw [if_neg hr, if_neg hr, if_neg hr]
    have hb : ((apE (cutL s) != 0) || (apE (cutR s) != 0) || ((apF (cutL s) : Int) != apF (cutR s))) = true := by
      by_cases e1 : apE (cutL s) = 0
      · by_cases e2 : apE (cutR s) = 0
        · by_cases e3 : apF (cutL s) = apF (cutR s)
          · exact absurd (by unfold reOk; rw [e1, e2, e3]; simp) hr
          · have e4 : ((apF (cutL s) : Int) != apF (cutR s)) = true := by rw [bne_iff_ne]; omega
            rw [e4, Bool.or_true]
        · have e4 : (apE (cutR s) != 0) = true := by rw [bne_iff_ne]; exact e2
          rw [e4]; simp
      · have e4 : (apE (cutL s) != 0) = true := by rw [bne_iff_ne]; exact e1
        rw [e4]; simp
    rw [hb] at h
    exact h
theorem rpfx_any (s : ByteArray) (hd : dashed s = false) (w : World) (env : Env true w) (hs : s.size ≤ 1000) :
    Calls Tryz.prog 52 #[.string s] w fun e w' => e = .returned (.tuple #[.int .u8 (rdF s), .agg #[.int .u64 (aH (rdA s)), .int .u64 (aL (rdA s)), .int .u64 (aH (rdM s)), .int .u64 (aL (rdM s))]]) ∧ Below w.heap.size w w' := by
  have hd2 : ¬ dashed s = true := by rw [hd]; simp
  unfold rdF rdA rdM
  rw [if_neg hd2, if_neg hd2, if_neg hd2]
  by_cases he : paE s = 0
  · rw [if_pos he]
    obtain ⟨q1, q2, q3, q4, q5, q6⟩ := pa_forth he
    obtain ⟨N, hN⟩ : ∃ N, paH s * 18446744073709551616 + paL s = N := ⟨_, rfl⟩
    have hN1 : (paH s : Int) = aH N ∧ (paL s : Int) = aL N := by
      unfold aH aL
      constructor <;> omega
    have hN2 : N < 2 ^ 128 := by
      have h2 : (2 : Nat) ^ 128 = 340282366920938463463374607431768211456 := by decide
      omega
    rw [hN]
    have hq := q2
    rw [hN1.1, hN1.2] at hq
    obtain ⟨W, i, hf, hi, hiW, hNW, _, ha⟩ := chk_num hN2 hq
    have hi2 : paN s = i := by omega
    have hof := fun w => of_yes hf N i hiW hNW ha w
    rw [hf.famW, hi2]
    refine rpfx_yes s _ (aH N) (aL N) i _ _ _ _ (fun w env => ?_) hof w env
    have h := pa_any s w env hs
    rw [hN1.1, hN1.2, hi2, he] at h
    exact h
  · rw [if_neg he]
    obtain ⟨z1, z2, z3, z4, z5⟩ := pa_zero he
    rw [z1, z2, z3]
    exact rpfx_no s _ _ _ _ (paE s) (by rw [z5]; decide) (fun w env => pa_any s w env hs) w env
theorem rdM_lt (s : ByteArray) : rdM s < 2 ^ 128 := by
  unfold rdM
  split
  · split
    · exact apN_lt _
    · exact Nat.two_pow_pos _
  · split
    · rename_i he
      obtain ⟨q1, q2, q3, q4, q5, q6⟩ := pa_forth he
      obtain ⟨N, hN⟩ : ∃ N, paH s * 18446744073709551616 + paL s = N := ⟨_, rfl⟩
      have hN1 : (paH s : Int) = aH N ∧ (paL s : Int) = aL N := by
        unfold aH aL
        constructor <;> omega
      have hN2 : N < 2 ^ 128 := by
        have h2 : (2 : Nat) ^ 128 = 340282366920938463463374607431768211456 := by decide
        omega
      rw [hN]
      have hq := q2
      rw [hN1.1, hN1.2] at hq
      obtain ⟨W, i, hf, hi, hiW, hNW, _, ha⟩ := chk_num hN2 hq
      have hi2 : paN s = i := by omega
      rw [hf.famW, hi2]
      obtain ⟨q, hq⟩ := Nat.dvd_of_mod_eq_zero ha
      have e : 2 ^ W = 2 ^ (W - i) * 2 ^ i := by rw [← Nat.pow_add]; congr 1; omega
      have hroom : N + 2 ^ (W - i) ≤ 2 ^ W := by
        rw [e] at hNW ⊢
        subst hq
        have hlt : q < 2 ^ i := Nat.lt_of_mul_lt_mul_left hNW
        calc 2 ^ (W - i) * q + 2 ^ (W - i) = 2 ^ (W - i) * (q + 1) := by rw [Nat.mul_add, Nat.mul_one]
          _ ≤ 2 ^ (W - i) * 2 ^ i := Nat.mul_le_mul_left _ hlt
      have h1 : 2 ^ W ≤ 2 ^ 128 := Nat.pow_le_pow_right (by omega) hf.wid.2.2.2
      have h3 := Nat.two_pow_pos (W - i)
      omega
    · exact Nat.two_pow_pos _
/-- what span.Parse answers -/
def spOk (s : ByteArray) : Bool := (schk (rdF s) (rdA s) (rdM s) == 0) && decide (stX (rdF s) (rdA s) (rdM s) = s)
def spF (s : ByteArray) : Nat := if spOk s = true then rdF s else 0
def spA (s : ByteArray) : Nat := if spOk s = true then rdA s else 0
def spM (s : ByteArray) : Nat := if spOk s = true then rdM s else 0
def spE (s : ByteArray) : Int := if spOk s = true then 0 else 12
theorem sparse_any (s : ByteArray) (w : World) (env : Env true w) (hs : s.size ≤ 1000) :
    Calls Tryz.prog 20 #[.string s] w fun e w' => e = .returned (.tuple #[.int .u8 (spF s), .agg #[.int .u64 (aH (spA s)), .int .u64 (aL (spA s)), .int .u64 (aH (spM s)), .int .u64 (aL (spM s))], .int .i64 (spE s)]) ∧ Below w.heap.size w w' := by
  refine sparse_core s (stX (rdF s) (rdA s) (rdM s)) (dashed s) (rdF s) _ _ _ _ (schk (rdF s) (rdA s) (rdM s)) _ _ _ _ _ _ rfl (fun hd w env => ends_any s hd w env hs) (fun hd w env => rpfx_any s hd w env hs) (fun w env => stext_any _ _ _ (rdM_lt s) w env) ?_ w env
  unfold spF spA spM spE spOk
  by_cases h1 : schk (rdF s) (rdA s) (rdM s) = 0
  · by_cases h2 : stX (rdF s) (rdA s) (rdM s) = s
    · left
      simp [h1, h2]
    · right; left
      have : (( stX (rdF s) (rdA s) (rdM s)).toList == s.toList) = false := bytes_ne (fun h => h2 (by
        rw [← str_list (stX _ _ _), h, str_list]))
      simp [h1, h2, this, aH, aL]
  · right; right
    have : (schk (rdF s) (rdA s) (rdM s) == 0) = false := beq_eq_false_iff_ne.2 h1
    simp [h1, this, aH, aL]
end Go.Proofs.YtjngfieggacpiaaGreatDoor
