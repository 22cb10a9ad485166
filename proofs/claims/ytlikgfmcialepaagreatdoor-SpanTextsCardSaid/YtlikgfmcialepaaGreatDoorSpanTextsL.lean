import Derived.Test.YtlikgfmcialepaaGreatDoorDoorAll
import Derived.Test.YtlikgfmcialepaaGreatDoorSpTxAB
import Derived.Test.YtlikgfmcialepaaGreatDoorLawKit
import Derived.Test.YtlikgfmcialepaaGreatDoorCards
namespace Go.Proofs.YtlikgfmcialepaaGreatDoor
open Go.ChangeShapes Go.WideShapes Go.ChangeAt Go.RowKit Go.Joins Adr
theorem Tryz.cellsSpan : Tryz.prog.cellsOf 50 = 4 := by kernel_rfl
section
variable {H : Type} {enc : TypeId × Value → H} {w : World} {base : Nat} {spare : Nat → Bool} {held : Bool}
set_option maxRecDepth 100000 in
theorem open_span {r : Reach} {b0 : Nat} {v : Value} {d : DataW H} {p : List MemPlace} (hv : Value.okWide Tryz.prog w r b0 50 v) (h : DataW.Trod enc Tryz.prog w base spare held 50 v d p) :
    ∃ a b c k : Int, v = .agg #[.int .u64 a, .int .u64 b, .int .u64 c, .int .u64 k] ∧ U64 a ∧ U64 b ∧ U64 c ∧ U64 k := by
  obtain ⟨cs, rfl, hsz⟩ := okWide_struct Tryz.underlying50 hv
  obtain ⟨l⟩ := cs
  match l, hsz.trans Tryz.cellsSpan with
  | [c0, c1, c2, c3], _ =>
    obtain ⟨fuel, hf⟩ := h
    obtain ⟨xs, n, _, hx, _, hlen, hg⟩ := DataW.trod_struct Tryz.underlying50 hf
    match xs, hlen with
    | [y0, y1], _ =>
      have g0 := hg 0 _ rfl
      have g1 := hg 1 _ rfl
      simp [Value.cells, Tryz.cellsAddr] at g0 g1
      obtain ⟨ys, n', _, hx', _, hlen', hg'⟩ := DataW.trod_struct Tryz.underlying24 g0
      obtain ⟨zs, n2, _, hx2, _, hlen2, hg2⟩ := DataW.trod_struct Tryz.underlying24 g1
      match ys, hlen', zs, hlen2 with
      | [z0, z1], _, [z2, z3], _ =>
        have k0 := hg' 0 _ rfl
        have k1 := hg' 1 _ rfl
        have k2 := hg2 0 _ rfl
        have k3 := hg2 1 _ rfl
        simp [show Tryz.prog.cellsOf 22 = 1 by kernel_rfl] at k0 k1 k2 k3
        obtain ⟨x0, e0, _, w0⟩ := DataW.trod_int Tryz.underlying22 k0
        obtain ⟨x1, e1, _, w1⟩ := DataW.trod_int Tryz.underlying22 k1
        obtain ⟨x2, e2, _, w2⟩ := DataW.trod_int Tryz.underlying22 k2
        obtain ⟨x3, e3, _, w3⟩ := DataW.trod_int Tryz.underlying22 k3
        simp at e0 e1 e2 e3
        subst e0 e1 e2 e3
        exact ⟨x0, x1, x2, x3, rfl, wf_u64 w0, wf_u64 w1, wf_u64 w2, wf_u64 w3⟩
end
end Go.Proofs.YtlikgfmcialepaaGreatDoor
namespace Go.Proofs.YtlikgfmcialepaaGreatDoor
open Go.RowKit Adr Spn
set_option linter.unusedVariables false
set_option linter.unusedSimpArgs false
theorem sp_zero {s : ByteArray} (h : spOk s = false) : spF s = 0 ∧ spA s = 0 ∧ spM s = 0 ∧ spE s = 12 := by
  unfold spF spA spM spE
  rw [h]
  simp
theorem sp_yes {s : ByteArray} (h : spOk s = true) : spF s = rdF s ∧ spA s = rdA s ∧ spM s = rdM s ∧ spE s = 0 := by
  unfold spF spA spM spE
  rw [h]
  simp
theorem schk_zero : schk ((0 : Nat) : Int) 0 0 ≠ 0 := by decide
theorem sp_not {s : ByteArray} (h : schk (rdF s) (rdA s) (rdM s) ≠ 0) : spOk s = false := by
  unfold spOk
  rw [beq_eq_false_iff_ne.2 h]
  rfl
theorem rd_none {s : ByteArray} (hd : dashed s = true) (hr : reOk s = false) : spOk s = false := by
  refine sp_not ?_
  unfold rdF rdA rdM
  rw [if_pos hd, if_pos hd, if_pos hd, hr]
  exact schk_zero
theorem split_two45 {r : List UInt8} (h : (45 : UInt8) ∈ r) : 2 ≤ (splitL 45 r).length := by
  rw [splitL_len]
  have := List.count_pos_iff.2 h
  omega
theorem str_back {l m : List UInt8} (h : str l = str m) : l = m := by
  have := congrArg (fun b : ByteArray => b.data.toList) h
  simpa [str_dat] using this
theorem str_of_dat {s : ByteArray} {l : List UInt8} (h : s.data.toList = l) : s = str l := by
  subst h
  cases s
  simp [str]
set_option maxHeartbeats 1000000 in
theorem rsp_same (s : ByteArray) (hs : s.size ≤ 1000) (w : World) :
    Calls Tryz.prog 20 #[.string s] w (SpnLeft (spF s : Int) (aH (spA s)) (aL (spA s)) (aH (spM s)) (aL (spM s)) (spE s) w) := by
  have hpa := fun w => rpa_same s hs w
  have z : spOk s = false → Zr6 (spF s : Int) (aH (spA s)) (aL (spA s)) (aH (spM s)) (aL (spM s)) (spE s) := fun h => by
    obtain ⟨e1, e2, e3, e4⟩ := sp_zero h
    rw [e1, e2, e3, e4]
    exact ⟨rfl, rfl, rfl, rfl, rfl, rfl⟩
  by_cases he : paE s = 0
  · obtain ⟨q1, q2, q3, q4, q5, q6⟩ := pa_forth he
    obtain ⟨N, hN⟩ : ∃ N, paH s * 18446744073709551616 + paL s = N := ⟨_, rfl⟩
    have hN1 : (paH s : Int) = aH N ∧ (paL s : Int) = aL N := by
      unfold aH aL
      constructor <;> omega
    have hdv : N / 18446744073709551616 = paH s ∧ N % 18446744073709551616 = paL s := by constructor <;> omega
    have hN2 : N < 2 ^ 128 := by
      have h2 : (2 : Nat) ^ 128 = 340282366920938463463374607431768211456 := by decide
      omega
    have hq := q2
    rw [hN1.1, hN1.2] at hq
    obtain ⟨W, i, hf, hi, hiW, hNW, _, ha⟩ := chk_num hN2 hq
    have hi2 : paN s = i := by omega
    have hno : (45 : UInt8) ∉ s.data.toList := by
      rw [← q1, str_dat]
      exact pfxS_dash _ _ _ _
    have hd : ¬ dashed s = true := by
      unfold dashed
      simpa using indexByte_no 45 _ hno
    have hp0 := Nat.two_pow_pos (W - i)
    have hroom : N + 2 ^ (W - i) ≤ 2 ^ W := blk_le ha hNW (by omega)
    have r1 : rdF s = paF s := by unfold rdF; rw [if_neg hd]
    have r2 : rdA s = N := by unfold rdA; rw [if_neg hd, hN]
    have r3 : rdM s = N + 2 ^ (W - i) - 1 := by unfold rdM; rw [if_neg hd, if_pos he, hN, hf.famW, hi2]
    have hof := fun w => rof_yes hf N i hiW hNW ha w
    have hMN : N + 2 ^ (W - i) - 1 + 1 - N = 2 ^ (W - i) := by omega
    have hAM : N ≤ N + 2 ^ (W - i) - 1 := by omega
    have hsch : schk (paF s : Int) N (N + 2 ^ (W - i) - 1) = 0 := by
      unfold schk
      rw [hf.isA 0 (Nat.two_pow_pos W), if_pos rfl, hf.isA N hNW, hf.isA _ (by omega)]
      simp [hAM]
    have hst : stX (paF s : Int) N (N + 2 ^ (W - i) - 1) = s := by
      unfold stX
      rw [if_pos hsch, hf.famW]
      unfold sxS
      rw [hMN, gre_whole W N (W - i) (by omega) ha, if_pos rfl, show W - (W - i) = i by omega, hdv.1, hdv.2]
      rw [hi2] at q1
      exact q1
    have hok : spOk s = true := by
      unfold spOk
      rw [r1, r2, r3, hsch]
      simp [hst]
    obtain ⟨e1, e2, e3, e4⟩ := sp_yes hok
    rw [e1, e2, e3, e4, r1, r2, r3]
    refine rsp_pfx s _ (aH N) (aL N) i _ _ _ _ w (fun w => ?_) hof
    have h := hpa w
    rw [hN1.1, hN1.2, hi2, he] at h
    exact h
  · obtain ⟨z1, z2, z3, z4, z5⟩ := pa_zero he
    have hpe : (paE s == 0) = false := beq_eq_false_iff_ne.2 he
    rcases head_c 45 s.data.toList with hn | ⟨h, r, e, hn⟩
    · have hd : ¬ dashed s = true := by
        unfold dashed
        simpa using indexByte_no 45 _ hn
      have hz : spOk s = false := by
        refine sp_not ?_
        unfold rdF rdA rdM
        rw [if_neg hd, if_neg hd, if_neg hd, if_neg he, z1, z2, z3]
        exact schk_zero
      obtain ⟨y1, y2, y3, y4, y5, y6⟩ := z hz
      rw [y1, y2, y3, y4, y5, y6]
      exact rsp_parts s hs (by rw [splitL_all 45 _ hn]; simp) _ _ _ _ _ hpe w hpa
    · have hd : dashed s = true := by
        unfold dashed
        rw [e]
        simpa using indexByte_yes 45 (h ++ 45 :: r) (by simp)
      have cL : cutL s = str h := by
        unfold cutL
        rw [e, cut_at 45 h r hn]; rfl
      have cR : cutR s = str r := by
        unfold cutR
        rw [e, cut_at 45 h r hn]; rfl
      have hsp : splitL 45 s.data.toList = h :: splitL 45 r := by rw [e]; exact splitL_app 45 r h hn
      by_cases hr : (45 : UInt8) ∈ r
      · have h2 : ¬ apE (str r) = 0 := fun h0 => by
          have h4 := str_back (ap_forth h0).1
          exact (addrS_slash _ _ _).2 (h4 ▸ hr)
        have hre : reOk s = false := by
          unfold reOk
          rw [cR, beq_eq_false_iff_ne.2 h2]
          simp
        obtain ⟨y1, y2, y3, y4, y5, y6⟩ := z (rd_none hd hre)
        rw [y1, y2, y3, y4, y5, y6]
        refine rsp_parts s hs ?_ _ _ _ _ _ hpe w hpa
        rw [hsp]
        have := split_two45 hr
        simp only [List.length_cons]
        omega
      · rw [splitL_all 45 r hr] at hsp
        have h1 := fun w => rap_same (str h) w
        have h2 := fun w => rap_same (str r) w
        rw [← (apN_h (str h)).1, ← (apN_h (str h)).2] at h1
        rw [← (apN_h (str r)).1, ← (apN_h (str r)).2] at h2
        by_cases ho : reOk s = true
        · have ho2 := ho
          unfold reOk at ho2
          rw [cL, cR] at ho2
          simp only [Bool.and_eq_true, beq_iff_eq] at ho2
          obtain ⟨⟨e1, e2⟩, e3⟩ := ho2
          have r1 : rdF s = apF (str h) := by unfold rdF; rw [if_pos hd, if_pos ho, cL]
          have r2 : rdA s = apN (str h) := by unfold rdA; rw [if_pos hd, if_pos ho, cL]
          have r3 : rdM s = apN (str r) := by unfold rdM; rw [if_pos hd, if_pos ho, cR]
          have hfg : ((apF (str h) : Int) != (apF (str r) : Int)) = false := by rw [e3]; simp
          by_cases hc : schk (apF (str h) : Int) (apN (str h)) (apN (str r)) = 0
          · obtain ⟨W, hf, hAM, hMW⟩ := schk_fam (apN_lt _) hc
            have hpx := fun w => rpfx_yes hf (apN (str h)) (apN (str r)) hAM hMW hc w
            rcases win_one_or hAM hMW with ⟨hq, hl⟩ | ⟨hq, hl⟩
            · have hz : spOk s = false := by
                have hne : ¬ stX (rdF s : Int) (rdA s) (rdM s) = s := fun h0 => by
                  rw [r1, r2, r3] at h0
                  unfold stX at h0
                  rw [if_pos hc, hf.famW] at h0
                  unfold sxS at h0
                  rw [if_pos hq] at h0
                  have h5 := congrArg (fun b : ByteArray => b.data.toList) h0
                  simp only [str_dat] at h5
                  have h6 := pfxS_dash (apF (str h) : Int) (apN (str h) / 18446744073709551616) (apN (str h) % 18446744073709551616) (W - gre W (apN (str h)) (apN (str r) + 1 - apN (str h)))
                  rw [h5, e] at h6
                  exact h6 (by simp)
                unfold spOk
                simp [hne]
              exact rsp_two s hs h r hsp _ _ _ _ _ hpe _ _ _ _ _ _ _ _ _ _ _ _ _ _ w hpa h1 h2 (Or.inr ⟨e1, e2, hfg, _, fun w => rschk_any _ _ _ w, Or.inr ⟨hc, _, _, hpx, Or.inl ⟨by rw [hl]; rfl, z hz⟩⟩⟩)
            · have hst : stX (rdF s : Int) (rdA s) (rdM s) = s := by
                rw [r1, r2, r3]
                unfold stX
                rw [if_pos hc, hf.famW]
                unfold sxS
                rw [if_neg hq, dash_app]
                have u1 := ap_u64 (str h)
                have u2 := ap_u64 (str r)
                have d1 : apN (str h) / 18446744073709551616 = apH (str h) ∧ apN (str h) % 18446744073709551616 = apL (str h) := by
                  unfold apN
                  constructor <;> omega
                have d2 : apN (str r) / 18446744073709551616 = apH (str r) ∧ apN (str r) % 18446744073709551616 = apL (str r) := by
                  unfold apN
                  constructor <;> omega
                rw [d1.1, d1.2, d2.1, d2.2]
                have b1 := str_back (ap_forth e1).1
                have b2 := str_back (ap_forth e2).1
                rw [← e3] at b2
                rw [b1, b2]
                exact (str_of_dat e).symm
              have hok : spOk s = true := by
                unfold spOk
                rw [hst, r1, r2, r3, hc]
                simp
              obtain ⟨y1, y2, y3, y4⟩ := sp_yes hok
              rw [y1, y2, y3, y4, r1, r2, r3]
              exact rsp_two s hs h r hsp _ _ _ _ _ hpe _ _ _ _ _ _ _ _ _ _ _ _ _ _ w hpa h1 h2 (Or.inr ⟨e1, e2, hfg, _, fun w => rschk_any _ _ _ w, Or.inr ⟨hc, _, _, hpx, Or.inr ⟨hl, rfl, rfl, rfl, rfl, rfl, rfl⟩⟩⟩)
          · have hz : spOk s = false := sp_not (by rw [r1, r2, r3]; exact hc)
            exact rsp_two s hs h r hsp _ _ _ _ _ hpe _ _ _ _ _ _ _ _ _ _ _ _ _ _ w hpa h1 h2 (Or.inr ⟨e1, e2, hfg, _, fun w => rschk_any _ _ _ w, Or.inl ⟨by rw [bne_iff_ne]; exact hc, z hz⟩⟩)
        · have hre : reOk s = false := by simpa using ho
          have hb : (apE (str h) != 0) = true ∨ apE (str h) = 0 ∧ (apE (str r) != 0) = true ∨ apE (str h) = 0 ∧ apE (str r) = 0 ∧ ((apF (str h) : Int) != (apF (str r) : Int)) = true := by
            by_cases e1 : apE (str h) = 0
            · by_cases e2 : apE (str r) = 0
              · by_cases e3 : apF (str h) = apF (str r)
                · exact absurd (by unfold reOk; rw [cL, cR, e1, e2, e3]; simp) ho
                · exact Or.inr (Or.inr ⟨e1, e2, by rw [bne_iff_ne]; omega⟩)
              · exact Or.inr (Or.inl ⟨e1, by rw [bne_iff_ne]; exact e2⟩)
            · exact Or.inl (by rw [bne_iff_ne]; exact e1)
          exact rsp_two s hs h r hsp _ _ _ _ _ hpe _ _ _ _ _ _ _ _ _ _ _ _ _ _ w hpa h1 h2 (Or.inl ⟨hb, z (rd_none hd hre)⟩)
end Go.Proofs.YtlikgfmcialepaaGreatDoor
namespace Go.Proofs.YtlikgfmcialepaaGreatDoor
open Go.RowKit Adr Spn
set_option linter.unusedVariables false
set_option linter.unusedSimpArgs false
set_option maxRecDepth 100000 in
set_option maxHeartbeats 4000000 in
theorem sptx_core (f a b c d : Int) (s : ByteArray) (w : World) (env : Env true w) (hs : s.size ≤ 1000) (X : ByteArray) (ec rf ra rb rc rd re : Int)
    (h1 : ∀ w, Env true w → Calls Tryz.prog 17 #[.int .u8 f, .agg #[.int .u64 a, .int .u64 b, .int .u64 c, .int .u64 d]] w fun e w' => e = .returned (.tuple #[.string X, .int .i64 ec]) ∧ Below w.heap.size w w')
    (h2 : ∀ w, Calls Tryz.prog 18 #[.int .u8 f, .agg #[.int .u64 a, .int .u64 b, .int .u64 c, .int .u64 d]] w fun e w' => e = .returned (.tuple #[.string X, .int .i64 ec]) ∧ Below w.heap.size w w')
    (h3 : ∀ w, Env true w → Calls Tryz.prog 19 #[.string s] w fun e w' => e = .returned (.tuple #[.int .u8 rf, .agg #[.int .u64 ra, .int .u64 rb, .int .u64 rc, .int .u64 rd], .int .i64 re]) ∧ Below w.heap.size w w')
    (h4 : ∀ w, Calls Tryz.prog 20 #[.string s] w (SpnLeft rf ra rb rc rd re w)) :
    Calls Tryz.prog 4 #[.int .u8 f, .agg #[.int .u64 a, .int .u64 b, .int .u64 c, .int .u64 d], .string s] w fun e w' => e = .returned (.bool true) ∧ Below w.heap.size w w' := by
  have hG := env.big
  have HE := Lib.hid env
  have hz : (s.size : Int) ≤ 1000 := by omega
  have H1 := Lib.hid h1
  have H2 := Lib.hid h2
  have H3 := Lib.hid h3
  have H4 := Lib.hid h4
  clear env hs h1 h2 h3 h4
  go_enter Tryz.func4, Tryz.ntmps4
  go_upto_region 3 with fail
  generalize hv : World.alloc _ _ = v
  have T0 : RowKit.Hid (Sp4 w.heap.size v a b c d) := Lib.hid (by rw [← hv]; exact Sp4.new w _ _ _ _ _)
  have HB0 := Lib.hid (show Below w.heap.size w v by rw [← hv]; exact below_new _ _)
  clear hv
  obtain ⟨s0, s1, s2, s3, _⟩ := T0.out
  go_wp2_with fail
  refine (H1.out _ (HE.out.below HB0.out hG)).mono ?_
  rintro e w1 ⟨rfl, hb1⟩
  have T1 := Lib.hid (T0.out.on hb1)
  have HB1 := Lib.hid (HB0.out.trans (hb1.mono HB0.out.size))
  clear hb1 T0 HB0 s0 s1 s2 s3
  obtain ⟨s0, s1, s2, s3, _⟩ := T1.out
  go_wp2_with fail
  refine (H2.out _).mono ?_
  rintro e w2 ⟨rfl, hb2⟩
  have HB2 := Lib.hid (HB1.out.trans (hb2.mono HB1.out.size))
  clear hb2 T1 HB1 s0 s1 s2 s3
  go_wp2_with fail
  refine (H3.out _ (HE.out.below HB2.out hG)).mono ?_
  rintro e w3 ⟨rfl, hb3⟩
  have HB3 := Lib.hid (HB2.out.trans (hb3.mono HB2.out.size))
  clear hb3 HB2
  go_upto_region 6 with fail
  obtain ⟨N, hN⟩ : ∃ N, w3.heap.size = N := ⟨_, rfl⟩
  generalize hv : World.alloc _ _ = v
  have A4 : RowKit.Hid (Sp4 N v ra rb rc rd) := Lib.hid (by rw [← hv, ← hN]; exact Sp4.new w3 _ _ _ _ _)
  have HB4 : RowKit.Hid (Below w.heap.size w v) := Lib.hid (by rw [← hv]; exact HB3.out.alloc HB3.out.size _)
  clear hv HB3
  try rw [hN]
  clear hN
  go_wp2_with fail
  refine (H4.out _).mono ?_
  rintro e w5 ⟨rfl, hb5⟩
  have A5 := Lib.hid (A4.out.on hb5)
  have HB5 := Lib.hid (HB4.out.trans (hb5.mono HB4.out.size))
  clear hb5 A4 HB4
  go_upto_region 7 with fail
  obtain ⟨M, hM⟩ : ∃ M, w5.heap.size = M := ⟨_, rfl⟩
  generalize hv : World.alloc _ _ = v
  have A6 : RowKit.Hid (Sp4 N v ra rb rc rd) := Lib.hid (by rw [← hv]; exact A5.out.on (below_new _ _))
  have C6 : RowKit.Hid (Sp4 M v ra rb rc rd) := Lib.hid (by rw [← hv, ← hM]; exact Sp4.new w5 _ _ _ _ _)
  have HB6 : RowKit.Hid (Below w.heap.size w v) := Lib.hid (by rw [← hv]; exact HB5.out.alloc HB5.out.size _)
  clear hv A5 HB5
  try rw [hM]
  clear hM
  obtain ⟨a0, a1, a2, a3, _⟩ := A6.out
  obtain ⟨c0, c1, c2, c3, _⟩ := C6.out
  go_wp2_with fail
  go_ret
  exact ⟨rfl, HB6.out⟩
set_option maxRecDepth 100000 in
set_option maxHeartbeats 1000000 in
theorem sptx_long (f a b c d : Int) (s : ByteArray) (w : World) (hs : 1000 < s.size) :
    Calls Tryz.prog 4 #[.int .u8 f, .agg #[.int .u64 a, .int .u64 b, .int .u64 c, .int .u64 d], .string s] w fun e w' => e = .returned (.bool true) ∧ Below w.heap.size w w' := by
  have hz : (1000 : Int) < (s.size : Int) := by omega
  clear hs
  go_enter Tryz.func4, Tryz.ntmps4
  go_wp2_with fail
  go_ret
  exact ⟨rfl, (Below.refl _ _).alloc (Nat.le_refl _) _⟩
theorem sptx_true (f a b c d : Int) (s : ByteArray) (w : World) (env : Env true w) (ua : U64 a) (ub : U64 b) (uc : U64 c) (ud : U64 d) :
    Calls Tryz.prog 4 #[.int .u8 f, .agg #[.int .u64 a, .int .u64 b, .int .u64 c, .int .u64 d], .string s] w fun e w' => e = .returned (.bool true) ∧ Below w.heap.size w w' := by
  by_cases hs : s.size ≤ 1000
  · obtain ⟨A, hA, rfl, rfl⟩ := a_of ua ub
    obtain ⟨M, hM, rfl, rfl⟩ := a_of uc ud
    exact sptx_core f _ _ _ _ s w env hs _ _ _ _ _ _ _ _ (fun w env => stext_any f A M hM w env) (fun w => rstext_any f A M hM w) (fun w env => sparse_any s w env hs) (fun w => rsp_same s hs w)
  · exact sptx_long f a b c d s w (by omega)
end Go.Proofs.YtlikgfmcialepaaGreatDoor
namespace Go.Proofs.YtlikgfmcialepaaGreatDoor
open Go.ChangeShapes Go.WideShapes Go.ChangeAt Go.RowKit Adr
open Go.WideMaps Go.WideElems
open Go.ChangeMaps (open_string shut_string)
set_option linter.unusedVariables false
set_option maxRecDepth 100000 in
theorem sptx_lifted (os : Os) (started : os.Started) (H : Type) (enc : TypeId × Value → H) :
    ReturnsInHanded {} Tryz.checked os 4 .any (fun w args => (Rows.spanTextsSpec.pre enc Tryz.prog Tryz.f4 Rows.spanTextsRow.domain false w args ∧ laidMet Tryz.prog laidAll w) ∧ sizedMet enc Tryz.prog Tryz.f4 (OpenSpec.ofChange Rows.spanTextsSpec) false w args)
      (Rows.spanTextsSpec.post enc Tryz.prog Tryz.f4 false true false false) := by
  refine returns_laid (C := Tryz.checked) (X := fun w => laidMet Tryz.prog laidAll w) (fun _ _ hh h => h.of_heap hh) Tryz.own started (by kernel_rfl) Tryz.func4
    (ChangeSpec.witness_at (enc := enc) (C := Tryz.checked) (os := os) (X := fun w _ => laidMet Tryz.prog laidAll w) false (laidWorld os) #[.int .u8 0, .agg #[.int .u64 0, .int .u64 0, .int .u64 0, .int .u64 0], .string ⟨#[]⟩] 8 rfl (by kernel_rfl) (by kernel_rfl) (by kernel_rfl) (by kernel_rfl) (by kernel_rfl) (laidWorld_met os _)) ?_
  intro W base args ds gs before hval0 hW hL hsh
  have hval : ∀ (j : Nat) t v, Tryz.f4.params[j]? = some t → args[j]? = some v → Value.okWide Tryz.prog W .any base t v := hval0
  have env := env_of_laid hL hsh
  have hW' := hW
  obtain ⟨p, q, hA0, hV, rfl, hfz, hnd⟩ := hW
  have hA : DataW.TrodAll enc Tryz.prog W 0 (fun _ => true) true Tryz.f4.params.toList args.toList ds p := hA0
  rw [Tryz.params4] at hA hval
  obtain ⟨v0, vs0, d0, ds0, p0, q0, hargs, rfl, rfl, h0, r0⟩ := trodAll_cons hA
  obtain ⟨v1, vs1, d1, ds1, p1, q1, rfl, rfl, rfl, h1, r1⟩ := trodAll_cons r0
  obtain ⟨v2, vs2, d2, ds2, p2, q2, rfl, rfl, rfl, h2, r2⟩ := trodAll_cons r1
  obtain ⟨rfl, rfl, rfl⟩ := trodAll_nil r2
  obtain rfl : args = #[v0, v1, v2] := by cases args; simp_all
  obtain ⟨rfl, rfl⟩ := trodVars_none hV
  obtain ⟨a0, rfl, e0, f0, w0⟩ := open_int Tryz.underlying5 (hval 0 5 v0 rfl rfl) h0
  obtain ⟨a1, b1, c1, k1, rfl, ua1, ub1, uc1, uk1⟩ := open_span (hval 1 50 v1 rfl rfl) h1
  obtain ⟨s2, rfl, e2, f2, w2⟩ := open_string Tryz.underlying9 (hval 2 9 v2 rfl rfl) h2
  refine (sptx_true a0 a1 b1 c1 k1 s2 W env ua1 ub1 uc1 uk1).mono fun e W' ⟨he, hg⟩ => ?_
  subst he
  exact ⟨_, rfl, law_post Tryz.laidOut (by kernel_rfl) (by kernel_rfl) hW' hg (trodAll_cons_mk (shut_bool Tryz.underlying4 _) trodAll_mk0) rfl rfl⟩

/-- the row -/
theorem sptx_row : Rows.SpanTextsSaid :=
  OpenClaim.holds_of_wide 4 Tryz.f4 rfl rfl rfl rfl rfl rfl rfl ⟨rfl, rfl, rfl, rfl, rfl⟩ rfl rfl rfl rfl rfl (by kernel_rfl) Tryz.func4 (by kernel_rfl)
    (of_decide_eq_true (by kernel_rfl)) (by unfold Func.isWrapper; rw [if_neg (of_decide_eq_false (by kernel_rfl))]; exact ⟨rfl, rfl⟩)
    (fun os started H enc _ => sptx_lifted os started H enc)

/-- the statement -/
theorem sptx_holds : Rows.SpanTextsCardSaid :=
  Claim7.holds_tied_plain_at .later [] [.data, .data, .data, .data, .sentinel, .sentinel, .pinned] true (true, "418328774325961588037f1d2f81350676c7a0901aed42e1b6bba3267e123e12") true
    sptx_row (fun _ h => by cases h) (by kernel_rfl) (fun _ h => by cases h) spanTexts_row_tie rfl ⟨rfl, rfl⟩ (by kernel_rfl) rfl
    (fun f fn hf hfn => by
      obtain rfl : f = 4 := Option.some.inj ((show Tryz.prog.funcNamed "gatepath/gatepathlaw02.SpanTexts" = some 4 by kernel_rfl).symm.trans hf) |>.symm
      obtain rfl : fn = Tryz.f4 := (Option.some.inj (Tryz.func4.symm.trans hfn)).symm
      exact ⟨by kernel_rfl, fun j t ht => by
        rw [Tryz.params4] at ht
        have hp : t = 5 ∨ t = 50 ∨ t = 9 := by
          rcases j with _ | _ | _ | j
          · left; simpa using ht.symm
          · right; left; simpa using ht.symm
          · right; right; simpa using ht.symm
          · simp at ht
        rcases hp with rfl | rfl | rfl
        · exact (show Tryz.prog.wantsStandIn 5 = false by kernel_rfl)
        · exact (show Tryz.prog.wantsStandIn 50 = false by kernel_rfl)
        · exact (show Tryz.prog.wantsStandIn 9 = false by kernel_rfl)⟩)
    (by kernel_rfl)
#print axioms sptx_holds
end Go.Proofs.YtlikgfmcialepaaGreatDoor
