import Derived.Test.YtcgffkkfeimifaaGreatDoorRwCD
import Derived.Test.YtcgffkkfeimifaaGreatDoorSgJP
namespace Go.Proofs.YtcgffkkfeimifaaGreatDoor
open Go.RowKit Sha Ots
set_option linter.unusedVariables false
set_option linter.unusedSimpArgs false
namespace Sg
open Oc
def ScPost (a : Rl × Int) (w : World) (e : Ending) (w' : World) : Prop := ∃ m, e = .returned (.tuple #[.agg (rlC a.1 m), .int .i64 a.2]) ∧ RlAt a.1 m w' ∧ (m.PA = none → m.pc = 0) ∧ Below w.heap.size w w'
def RcTwin (l : Rl) (w : World) (e : Ending) (w' : World) : Prop := ∃ m, e = .returned (.agg (rlC l m)) ∧ RlAt l m w' ∧ l.ser.length ≤ m.sc ∧ Below w.heap.size w w'
set_option maxRecDepth 100000 in
set_option maxHeartbeats 16000000 in
theorem sign_caps (l : Rl) (p : Mp) (hz : l.iss.size ≤ maxLen) (hwf : Wf l) (hcp : p.SA = none → p.sc = 0) (seed : List UInt8) (hs : seed.length = 16) (h n : Int) (w : World) (hat : RlAt l p w) (env : DEnv w) :
  Calls Tryz.prog 13 #[.agg (rlC l p), .agg (bcells seed), .int .i64 h, .int .i64 n] w (ScPost (sgR l seed h n) w) := by
 have hwf0 : Wf (sgn0 l) := ⟨hwf.num, hwf.ser, fun x hx => (by cases hx), fun x hx => (by cases hx)⟩
 have hat0 : ∀ V : World, Below w.heap.size w V → RlAt (sgn0 l) ⟨p.SA, p.sc, none, 0, none, 0⟩ V := fun V hb => ⟨(hat.on hb).ser, shs_nil rfl _ _, shs_nil rfl _ _, hat.ls, by show 0 ≤ _; omega, by show 0 ≤ _; omega⟩
 have hbd := fun (V : World) (hb : Below w.heap.size w V) => (body_any (sgn0 l) ⟨p.SA, p.sc, none, 0, none, 0⟩ hz hwf0 V (hat0 V hb)).mono fun e z k => vbpost_of k
 have hob : enc (rbv (rbOf (sgn0 l))) = enc (rbv (rbOf l)) := rfl
 rw [hob] at hbd
 have hln := fun (h0 : rvC (sgn0 l) = 0) => (show (enc (rbv (rbOf l))).length ≤ 100000 by have := (fit_ck (hwf0.fit h0)).2.2.1; rw [hob] at this; omega)
 have htw := fun (h0 : rvC (sgn0 l) = 0) (V : World) (hb : Below w.heap.size w V) => rtwin_any (sgn0 l) ⟨p.SA, p.sc, none, 0, none, 0⟩ V (hat0 V hb) ⟨hcp, fun _ => rfl, fun _ => rfl⟩
 have HSB := Lib.hid (fun (hg : ¬ (0 ≤ h ∧ h ≤ 4 ∧ 0 ≤ n ∧ n < ((2 ^ h.toNat : Nat) : Int))) (V : World) (M : Value) => sign7_bad seed h n M hg V)
 have hsg := fun (h0 : rvC (sgn0 l) = 0) (hg : 0 ≤ h ∧ h ≤ 4 ∧ 0 ≤ n ∧ n < ((2 ^ h.toNat : Nat) : Int)) (V : World) (hb : Below w.heap.size w V) (A : Option Addr) (c : Nat) (h1 : (enc (rbv (rbOf l))).length ≤ c) (h2 : c ≤ maxLen) (h3 : SrcAt A (enc (rbv (rbOf l))) V) => (by
  have k := sign7_any seed hs h.toNat n.toNat (by omega) (by omega) (enc (rbv (rbOf l))) A c (hln h0) h1 h2 V h3 (env.on hb)
  have e1 : (h.toNat : Int) = h := by omega
  have e2 : (n.toNat : Int) = n := by omega
  rw [e1] at k
  exact (show Calls Tryz.prog 40 #[.agg (bcells seed), .int .i64 h, .int .i64 n, .slice A (enc (rbv (rbOf l))).length c] V fun e w' => ∃ X PA pc, e = .returned (.tuple #[.agg #[.int .i64 (n.toNat : Int), .slice (some ⟨X, 0, none⟩) 35 35, .slice PA h.toNat pc], .int .i64 0]) ∧ (PA = none → pc = 0) ∧ Shorts (some ⟨X, 0, none⟩) (sgn (msd seed n.toNat) (enc (rbv (rbOf l)))) w' ∧ Shorts PA (pth seed 0 n.toNat h.toNat) w' ∧ Below V.heap.size V w' by
   rw [show (.int .i64 n : Value) = .int .i64 (n.toNat : Int) by rw [e2]]
   exact k))
 have hsz : (Tryz.prog.info? 41).map (·.size) = some (bcells seed).size := sz16 seed hs
 have hls := hat.ls
 obtain ⟨r, hr⟩ : ∃ r, sgR l seed h n = r := ⟨_, rfl⟩
 have hres := hr.symm
 unfold sgR at hres
 rw [hr]
 obtain ⟨D, hD⟩ : ∃ D, enc (rbv (rbOf l)) = D := ⟨_, rfl⟩
 obtain ⟨E, hE⟩ : ∃ E, rvC (sgn0 l) = E := ⟨_, rfl⟩
 rw [hD] at hbd hsg hres
 rw [hE] at hbd hsg htw hres
 obtain ⟨nI, hnI⟩ : ∃ q : Int, (n.toNat : Int) = q := ⟨_, rfl⟩
 rw [hnI] at hsg hres
 have HRES := Lib.hid hres
 obtain ⟨SD, hSD⟩ : ∃ SD, bcells seed = SD := ⟨_, rfl⟩
 rw [hSD] at hsg HSB hsz ⊢
 unfold VbPost rlC sgn0 at hbd
 unfold rlC sgn0 at htw
 dsimp only [List.length_nil] at hbd htw
 unfold ScPost
 rw [show rlC l p = #[Value.string l.iss, .int .u64 l.num, .int .i64 l.fr, .int .i64 l.tt, .slice p.SA l.ser.length p.sc, .int .i64 l.sg.idx, .slice p.CA l.sg.cs.length p.cc, .slice p.PA l.sg.ps.length p.pc] from rfl]
 have HBD := Lib.hid hbd
 have HTW0 := Lib.hid htw
 have HSG := Lib.hid hsg
 have HSZ := Lib.hid hsz
 have HLS := Lib.hid hls
 obtain ⟨hw0, hra, hrb, hrc⟩ := three_rows3 w #[Value.string l.iss, .int .u64 l.num, .int .i64 l.fr, .int .i64 l.tt, .slice p.SA l.ser.length p.sc, .int .i64 l.sg.idx, .slice p.CA l.sg.cs.length p.cc, .slice p.PA l.sg.ps.length p.pc] SD #[Value.string ⟨#[]⟩, .int .u64 0, .int .i64 0, .int .i64 0, .slice none 0 0, .int .i64 0, .slice none 0 0, .slice none 0 0] 32 41 32
 have HRL0 := Lib.hid hra
 have HRS0 := Lib.hid hrb
 have HRR0 := Lib.hid hrc
 have HB0 := Lib.hid hw0
 clear hnI hr hres hbd htw hsg hsz hls hw0 hra hrb hrc hln hob hD hE hSD hwf0 hat0 hz hwf hcp hs hat env
 go_enter Tryz.func13, Tryz.ntmps13
 go_upto_region 1 with (fail)
 generalize World.alloc (World.alloc (World.alloc w _) _) _ = V0 at HRL0 HRS0 HRR0 HB0 ⊢
 obtain ⟨hl0, f0, f1, f2, f3, f4, f5, f6, f7⟩ := facts8 HRL0.out
 obtain ⟨z0, z1, z2, z3, z4, z5, z6, z7⟩ := free8 HRL0.out
 go_upto_region 2 with (fail)
 generalize hV1 : World.setCell _ _ _ = V1
 have hV1' : V0.setCells w.heap.size 5 [.int .i64 0, .slice none 0 0, .slice none 0 0] = V1 := hV1
 clear hV1 z0 z1 z2 z3 z4 z5 z6 z7
 clear hl0 f0 f1 f2 f3 f4 f5 f6 f7
 have ho : ∀ b, b ≠ w.heap.size → V1.heap[b]? = V0.heap[b]? := fun b hb => by rw [← hV1']; exact heap_setCells_other _ _ _ hb
 have HRL1 := Lib.hid (show V1.heap[w.heap.size]? = some (.cells #[Value.string l.iss, .int .u64 l.num, .int .i64 l.fr, .int .i64 l.tt, .slice p.SA l.ser.length p.sc, .int .i64 0, .slice none 0 0, .slice none 0 0] 32 (0, 0)) by rw [← hV1']; exact heap_set3 HRL0.out)
 have HRS1 := Lib.hid ((ho _ (by omega)).trans HRS0.out)
 have HRR1 := Lib.hid ((ho _ (by omega)).trans HRR0.out)
 have HB1 := Lib.hid (show Below w.heap.size w V1 by rw [← hV1']; exact below_setCells _ _ _ HB0.out (Nat.le_refl _))
 clear ho hV1' HRL0 HRS0 HRR0 HB0
 obtain ⟨hl0, f0, f1, f2, f3, f4, f5, f6, f7⟩ := facts8 HRL1.out
 go_wp2_with fail
 refine (HBD.out V1 HB1.out).mono ?_
 rintro e V3 ⟨A1, c1, n1, rfl, hy, hn, hb⟩
 have HY := Lib.hid hy
 clear hy hn HBD
 clear hl0 f0 f1 f2 f3 f4 f5 f6 f7
 have HRL3 := Lib.hid (row_on HRL1.out hb)
 have HRS3 := Lib.hid (row_on HRS1.out hb)
 have HRR3 := Lib.hid (row_on HRR1.out hb)
 have HB3 := Lib.hid (chain HB1.out hb)
 clear hb HRL1 HRS1 HRR1 HB1
 by_cases h0 : E = 0
 ·
  have HRES1 := Lib.hid (HRES.out.trans (if_pos h0))
  clear HRES
  subst h0
  obtain ⟨rfl, q1, q2, q3⟩ := HY.out rfl
  have HTW := Lib.hid (HTW0.out rfl)
  clear HY HTW0
  go_wp2_with (refine wpList_load_row rfl 41 (.tmp 5) rfl (w.heap.size + 1) rfl 41 SD (0, 0) _ HRS3.out Tryz.underlying41 rfl HSZ.out ?_)
  by_cases hg : 0 ≤ h ∧ h ≤ 4 ∧ 0 ≤ n ∧ n < ((2 ^ h.toNat : Nat) : Int)
  ·
   have HG := Lib.hid hg
   have HS7 := Lib.hid (HSG.out (by first | rfl | trivial) hg)
   refine (HS7.out V3 HB3.out A1 c1 q1 q2 q3).mono ?_
   rintro e V4 ⟨X, PA, pc, rfl, hpn, hX, hP, hb⟩
   have HPN := Lib.hid hpn
   have HX := Lib.hid hX
   have HP := Lib.hid hP
   clear hpn hX hP q1 q2 q3 HS7
   have HRL4 := Lib.hid (row_on HRL3.out hb)
   have HRS4 := Lib.hid (row_on HRS3.out hb)
   have HRR4 := Lib.hid (row_on HRR3.out hb)
   have HB4 := Lib.hid (chain HB3.out hb)
   clear hb HRL3 HRS3 HRR3 HB3
   go_upto_region 6 with (fail)
   obtain ⟨M2, hM2⟩ : ∃ M2, V4.heap.size = M2 := ⟨_, rfl⟩
   have hm2 := heap_alloc_new V4 (.cells #[Value.int .i64 nI, .slice (some ⟨X, 0, none⟩) 35 35, .slice PA h.toNat pc] 30)
   have hb := below_new V4 (.cells #[Value.int .i64 nI, .slice (some ⟨X, 0, none⟩) 35 35, .slice PA h.toNat pc] 30)
   rw [hM2] at hm2 ⊢
   generalize World.alloc V4 _ = V5 at hm2 hb ⊢
   have HM2 := Lib.hid hm2
   have HX5 := Lib.hid ((shs_from HX.out).on hb)
   have HP5 := Lib.hid ((shs_from HP.out).on hb)
   clear hm2 hM2 HX HP
   have HRL5 := Lib.hid (row_on HRL4.out hb)
   have HRS5 := Lib.hid (row_on HRS4.out hb)
   have HRR5 := Lib.hid (row_on HRR4.out hb)
   have HB5 := Lib.hid (chain HB4.out hb)
   clear hb HRL4 HRS4 HRR4 HB4
   obtain ⟨hl0, f0, f1, f2, f3, f4, f5, f6, f7⟩ := facts8 HRL5.out
   go_wp2_with fail
   have hm1 := HTW.out V5 HB5.out
   unfold PTwin rlC at hm1
   refine hm1.mono ?_
   clear hm1
   rintro e V6 ⟨m1, rfl, hl, hb, ho1, ho2, hap⟩
   have HNS2 := Lib.hid (fun (g o : Nat) (e : m1.SA = some ⟨g, o, none⟩) => show w.heap.size + 3 ≤ g from by
    have h1 := (ho1 g o e).1
    have h2 := (Array.getElem?_eq_some_iff.1 HRR5.out).1
    omega)
   have HTL := Lib.hid hl
   have HM26 := Lib.hid (row_on HM2.out hb)
   have HX6 := Lib.hid (HX5.out.on hb)
   have HP6 := Lib.hid (HP5.out.on hb)
   clear hl ho1 ho2 hap HM2 HX5 HP5 HTW
   clear hl0 f0 f1 f2 f3 f4 f5 f6 f7
   have HRL6 := Lib.hid (row_on HRL5.out hb)
   have HRS6 := Lib.hid (row_on HRS5.out hb)
   have HRR6 := Lib.hid (row_on HRR5.out hb)
   have HB6 := Lib.hid (chain HB5.out hb)
   clear hb HRL5 HRS5 HRR5 HB5
   go_upto_region 9 with (fail)
   have HM := Lib.hid (heap_alloc_new V6 (.cells #[Value.string l.iss, .int .u64 l.num, .int .i64 l.fr, .int .i64 l.tt, .slice m1.SA l.ser.length m1.sc, .int .i64 0, .slice m1.CA 0 m1.cc, .slice m1.PA 0 m1.pc] 32))
   obtain ⟨M, hM⟩ : ∃ M, V6.heap.size = M := ⟨_, rfl⟩
   rw [hM] at HM ⊢
   generalize hV7 : World.alloc V6 _ = V7 at HM ⊢
   have hb : Below V6.heap.size V6 V7 := by rw [← hV7]; exact below_new _ _
   have HLM := Lib.hid (show w.heap.size + 3 ≤ M ∧ M2 ≠ M by
    have h1 := (Array.getElem?_eq_some_iff.1 HRR6.out).1
    have h2 := (Array.getElem?_eq_some_iff.1 HM26.out).1
    omega)
   have HTL7 := Lib.hid (HTL.out.on hb)
   have HX7 := Lib.hid (HX6.out.on hb)
   have HP7 := Lib.hid (HP6.out.on hb)
   have HM27 := Lib.hid (row_on HM26.out hb)
   have HNS := Lib.hid (fun (g o : Nat) (e : m1.SA = some ⟨g, o, none⟩) => show l.ser ≠ [] → g ≠ M from fun hne e2 => by
    have h3 := nums_lt HTL.out.ser hne g o e
    omega)
   clear hV7 HTL HX6 HP6 HM26
   have HRL7 := Lib.hid (row_on HRL6.out hb)
   have HRS7 := Lib.hid (row_on HRS6.out hb)
   have HRR7 := Lib.hid (row_on HRR6.out hb)
   have HB7 := Lib.hid (chain HB6.out hb)
   clear hb HRL6 HRS6 HRR6 HB6
   obtain ⟨hl0, f0, f1, f2, f3, f4, f5, f6, f7⟩ := facts8 HM.out
   obtain ⟨z0, z1, z2, z3, z4, z5, z6, z7⟩ := free8 HM.out
   obtain ⟨_, b0, b1, b2⟩ := facts3 HM27.out
   have hrgs := range3s HM27.out
   go_upto_region 10 with (fail)
   generalize hV9 : World.setCell _ _ _ = V9
   have hV9' : V7.setCells M 5 [Value.int .i64 nI, .slice (some ⟨X, 0, none⟩) 35 35, .slice PA h.toNat pc] = V9 := hV9
   clear hV9 z0 z1 z2 z3 z4 z5 z6 z7 b0 b1 b2 hrgs
   clear hl0 f0 f1 f2 f3 f4 f5 f6 f7
   have HM9 := Lib.hid (show V9.heap[M]? = some (.cells #[Value.string l.iss, .int .u64 l.num, .int .i64 l.fr, .int .i64 l.tt, .slice m1.SA l.ser.length m1.sc, .int .i64 nI, .slice (some ⟨X, 0, none⟩) 35 35, .slice PA h.toNat pc] 32 (0, 0)) by rw [← hV9']; exact heap_set3 HM.out)
   have ho : ∀ b, b ≠ M → V9.heap[b]? = V7.heap[b]? := fun b hb => by rw [← hV9']; exact heap_setCells_other _ _ _ hb
   have HB9 := Lib.hid (show Below w.heap.size w V9 by rw [← hV9']; exact below_setCells _ _ _ HB7.out (by have := HLM.out.1; omega))
   have HRR9 := Lib.hid ((ho _ (by have := HLM.out.1; omega)).trans HRR7.out)
   have HN9 := Lib.hid (show Nums m1.SA l.ser V9 from nums_keep9 HTL7.out.ser HNS.out ho)
   have HX9 := Lib.hid (shs_keep HX7.out HM.out (show 8 < 16 by decide) ho)
   have HP9 := Lib.hid (shs_keep HP7.out HM.out (show 8 < 16 by decide) ho)
   clear ho hV9' HM HRL7 HRS7 HRR7 HB7 HTL7 HX7 HP7 HM27
   obtain ⟨hl1, p0, p1, p2, p3, p4, p5, p6, p7⟩ := facts8 HM9.out
   obtain ⟨hl0, f0, f1, f2, f3, f4, f5, f6, f7⟩ := facts8 HRR9.out
   obtain ⟨z0, z1, z2, z3, z4, z5, z6, z7⟩ := free8 HRR9.out
   go_wp2_with fail
   generalize hZ : World.setCell _ _ _ = Z
   obtain ⟨r1, r2, r3⟩ := put8 HRR9.out (show w.heap.size ≤ w.heap.size + 2 by omega) hZ
   clear hZ
   have hlc : (sgn (msd seed n.toNat) D).length = 35 := sgn35 _ _
   have hlp : (pth seed 0 n.toNat h.toNat).length = h.toNat := pth_length _ _ _ _
   have hr : r = ({ l with sg := ⟨nI, sgn (msd seed n.toNat) D, pth seed 0 n.toNat h.toNat⟩ }, 0) := by rw [HRES1.out, if_pos HG.out]
   refine bodyPost_ret (v := .tuple #[.agg (rlC r.1 ⟨m1.SA, m1.sc, some ⟨X, 0, none⟩, 35, PA, pc⟩), .int .i64 r.2]) ?resG rfl ⟨_, rfl, ?_, HPN.out, HB9.out.trans (r2.mono (Nat.le_refl _))⟩
   case resG =>
    obtain ⟨_, f0, f1, f2, f3, f4, f5, f6, f7⟩ := facts8 r1
    rw [hr]
    unfold rlC
    dsimp only
    rw [hlc, hlp]
    simp [results, Tryz.results13, go_sem, f0, f1, f2, f3, f4, f5, f6, f7]
    try rfl
   ·
    rw [hr]
    exact ⟨nums_keep9 HN9.out (fun g o e hne e2 => by
     have h1 := HNS2.out g o e
     omega) r3, shs_keep HX9.out HRR9.out (show 8 < 16 by decide) r3, shs_keep HP9.out HRR9.out (show 8 < 16 by decide) r3, HLS.out, by show (sgn (msd seed n.toNat) D).length ≤ _; rw [hlc]; decide, by show (pth seed 0 n.toNat h.toNat).length ≤ _; rw [hlp]; have := HG.out; omega⟩
  ·
   have hsb := HSB.out hg
   refine (hsb V3 _).mono ?_
   rintro e V4 ⟨rfl, hb⟩
   clear hsb q1 q2 q3 HTW
   have HRL4 := Lib.hid (row_on HRL3.out hb)
   have HRS4 := Lib.hid (row_on HRS3.out hb)
   have HRR4 := Lib.hid (row_on HRR3.out hb)
   have HB4 := Lib.hid (chain HB3.out hb)
   clear hb HRL3 HRS3 HRR3 HB3
   go_upto_region 6 with (fail)
   generalize hV5 : World.alloc V4 _ = V5
   have hb : Below V4.heap.size V4 V5 := by rw [← hV5]; exact below_new _ _
   clear hV5
   have HRL5 := Lib.hid (row_on HRL4.out hb)
   have HRS5 := Lib.hid (row_on HRS4.out hb)
   have HRR5 := Lib.hid (row_on HRR4.out hb)
   have HB5 := Lib.hid (chain HB4.out hb)
   clear hb HRL4 HRS4 HRR4 HB4
   obtain ⟨hl0, f0, f1, f2, f3, f4, f5, f6, f7⟩ := facts8 HRR5.out
   obtain ⟨z0, z1, z2, z3, z4, z5, z6, z7⟩ := free8 HRR5.out
   go_wp2_with fail
   generalize hZ : World.setCell _ _ _ = Z
   obtain ⟨r1, r2, r3⟩ := put8 HRR5.out (show w.heap.size ≤ w.heap.size + 2 by omega) hZ
   clear hZ
   have hr : r = (rl0, 2) := by rw [HRES1.out, if_neg hg]
   refine bodyPost_ret (v := .tuple #[.agg (rlC r.1 mp0), .int .i64 r.2]) ?res1 rfl ⟨mp0, rfl, by rw [hr]; exact rl0_at _, (fun _ => rfl), HB5.out.trans (r2.mono (Nat.le_refl _))⟩
   case res1 =>
    rw [hr]
    obtain ⟨_, f0, f1, f2, f3, f4, f5, f6, f7⟩ := facts8 r1
    simp [results, Tryz.results13, go_sem, f0, f1, f2, f3, f4, f5, f6, f7]
    try rfl
 ·
  clear HY HTW0 HSG HSB
  obtain ⟨hl0, f0, f1, f2, f3, f4, f5, f6, f7⟩ := facts8 HRR3.out
  obtain ⟨z0, z1, z2, z3, z4, z5, z6, z7⟩ := free8 HRR3.out
  go_wp2_with fail
  generalize hZ : World.setCell _ _ _ = Z
  obtain ⟨r1, r2, r3⟩ := put8 HRR3.out (show w.heap.size ≤ w.heap.size + 2 by omega) hZ
  clear hZ
  have hr : r = (rl0, E) := by rw [HRES.out, if_neg h0]
  refine bodyPost_ret (v := .tuple #[.agg (rlC r.1 mp0), .int .i64 r.2]) ?res2 rfl ⟨mp0, rfl, by rw [hr]; exact rl0_at _, (fun _ => rfl), HB3.out.trans (r2.mono (Nat.le_refl _))⟩
  case res2 =>
   rw [hr]
   obtain ⟨_, f0, f1, f2, f3, f4, f5, f6, f7⟩ := facts8 r1
   simp [results, Tryz.results13, go_sem, f0, f1, f2, f3, f4, f5, f6, f7]
   try rfl
set_option maxRecDepth 100000 in
set_option maxHeartbeats 8000000 in
theorem rtwin_cap (l : Rl) (p : Mp) (w : World) (h1 : RlAt l p w) (h2 : Caps p) :
  Calls Tryz.prog 14 #[.agg (rlC l p)] w (RcTwin l w) := by
 obtain ⟨iss, num, fr, tt, xs, n, cs, ps⟩ := l
 obtain ⟨SA, sc, CA, cc, PA, pc⟩ := p
 obtain ⟨h2s, h2c, h2p⟩ := h2
 have j1 := h1.ls
 have j2 := h1.lc
 have j3 := h1.lp
 have HS := Lib.hid h1.ser
 have HCt := Lib.hid (fun (V : World) (hb : Below w.heap.size w V) => twin_ref n CA PA cs ps cc pc h2c h2p ⟨j2, j3⟩ V (h1.cs.on hb) (h1.ps.on hb))
 have HNS := Lib.hid h2s
 have J1 := Lib.hid j1
 have J2 := Lib.hid j2
 have J3 := Lib.hid j3
 unfold rlC
 simp only at HS HCt HNS J1 J2 J3 ⊢
 clear h1 h2s h2c h2p j1 j2 j3
 go_enter Tryz.func14, Tryz.ntmps14
 go_upto_region 1 with (fail)
 generalize hV : World.alloc (World.alloc w _) _ = V
 have HB0 := Lib.hid (show Below w.heap.size w V by rw [← hV]; exact (below_new _ _).alloc (by simp) _)
 have HR0 := Lib.hid (show V.heap[w.heap.size]? = some (.cells #[.string iss, .int .u64 num, .int .i64 fr, .int .i64 tt, .slice SA xs.length sc, .int .i64 n, .slice CA cs.length cc, .slice PA ps.length pc] 32 (0, 0)) by rw [← hV]; exact heap_alloc2_old _ _ _)
 have HR1 := Lib.hid (show V.heap[w.heap.size + 1]? = some (.cells #[.string "".toUTF8, .int .u64 0, .int .i64 0, .int .i64 0, .slice none 0 0, .int .i64 0, .slice none 0 0, .slice none 0 0] 32 (0, 0)) by rw [← hV]; exact (heap_alloc2_new _ _ _).trans rfl)
 have HVS := Lib.hid (show V.heap.size = w.heap.size + 2 by rw [← hV]; simp)
 clear hV
 obtain ⟨v0, a0, a1, a2, a3, a4, a5, a6, a7⟩ := facts8 HR0.out
 go_upto_region 2 with (at_builtin; refine append_copy_u rfl (.tmp 3) (.tmp 5) rfl V.heap.size rfl (heap_alloc_new _ _) SA xs xs.length sc rfl rfl HNS.out ((HS.out.on HB0.out).on (below_new _ _)) J1.out ?_; intro A1 c1 w1 hsh1 hm1 hg1 hl1; have HSH1 := Lib.hid hsh1; have HMC := Lib.hid hm1; have HB1 := Lib.hid (below_grown (below_new V _) (Nat.le_refl _) hg1); have HL1 := Lib.hid hl1; clear v0 a0 a1 a2 a3 a4 a5 a6 a7 hsh1 hg1 hl1 hm1; have HR01 := Lib.hid (row_on HR0.out HB1.out); obtain ⟨v0, a0, a1, a2, a3, a4, a5, a6, a7⟩ := facts8 HR01.out; have hfz := frozen_of_row w1 _ 4 _ _ HR01.out)
 have HR11 := Lib.hid (row_on HR1.out HB1.out)
 have HL1' : RowKit.Hid (∀ g o, A1 = some ⟨g, o, none⟩ → w.heap.size + 1 < g) := Lib.hid (fun g o e => by
  have h := HL1.out g o e
  have h2 := HVS.out
  rw [World.size_alloc] at h
  omega)
 have HR2 := Lib.hid (heap_setCell_same _ _ 4 _ _ (.slice A1 xs.length c1) HR01.out)
 have HR12 := Lib.hid ((Below.heap_setCell w1 ⟨w.heap.size, 4, none⟩ (.slice A1 xs.length c1) (w.heap.size + 1) (by show w.heap.size + 1 ≠ w.heap.size; omega)).trans HR11.out)
 have HN2 := Lib.hid (nums_setCell HSH1.out (X := w.heap.size) (fun g o e => by have := HL1'.out g o e; omega) 4 (.slice A1 xs.length c1))
 have HB2 := Lib.hid (below_setCell (v := .slice A1 xs.length c1) (o := 4) (chain HB0.out HB1.out) (Nat.le_refl w.heap.size))
 clear v0 a0 a1 a2 a3 a4 a5 a6 a7 hfz
 generalize World.setCell w1 _ _ = W2 at HR2 HR12 HN2 HB2 ⊢
 have HR2' := Lib.hid (show W2.heap[w.heap.size]? = some (.cells #[.string iss, .int .u64 num, .int .i64 fr, .int .i64 tt, .slice A1 xs.length c1, .int .i64 n, .slice CA cs.length cc, .slice PA ps.length pc] 32 (0, 0)) from HR2.out)
 clear HR2 HR01 HR11 HSH1 HB1 HL1 HR0 HR1 HVS
 go_upto_region 3 with (first | (refine wpList_load_mid rfl 30 (.tmp 8) rfl w.heap.size 5 rfl [.int .i64 n, .slice CA cs.length cc, .slice PA ps.length pc] _ (range3 HR2'.out) Tryz.underlying30 rfl (sz3 n default default) ?_))
 refine (HCt.out W2 HB2.out).mono ?_
 rintro e w3 ⟨A2, A3, c2, c3, rfl, s2, s3, hb, -, -⟩
 have HR3 := Lib.hid (row_on HR2'.out hb)
 have HR13 := Lib.hid (row_on HR12.out hb)
 have HN3 := Lib.hid (HN2.out.on hb)
 have HB3 := Lib.hid (chain HB2.out hb)
 have HS2 := Lib.hid s2
 have HS3 := Lib.hid s3
 clear s2 s3 hb HR2' HR12 HN2 HB2
 have HO := Lib.hid (fun (b : Nat) (h : b ≠ w.heap.size) => heap_setCells_other [.int .i64 n, .slice A2 cs.length c2, .slice A3 ps.length c3] 5 w3 h)
 have HR4 := Lib.hid (heap_set3 (x := .int .i64 n) (y := .slice A2 cs.length c2) (z := .slice A3 ps.length c3) HR3.out)
 have HR14 := Lib.hid ((HO.out (w.heap.size + 1) (by omega)).trans HR13.out)
 have HN4 := Lib.hid (nums_keep HN3.out (fun g o e => by have := HL1'.out g o e; omega) HO.out)
 have HS24 := Lib.hid (shs_keep HS2.out HR3.out (show 8 < 16 by decide) HO.out)
 have HS34 := Lib.hid (shs_keep HS3.out HR3.out (show 8 < 16 by decide) HO.out)
 have HB4 := Lib.hid (below_setCells [.int .i64 n, .slice A2 cs.length c2, .slice A3 ps.length c3] 5 w3 HB3.out (Nat.le_refl w.heap.size))
 clear HO
 go_wp2_with (first | (refine wpList_store_mid rfl 30 (.tmp 11) (.tmp 10) rfl w.heap.size 5 #[.int .i64 n, .slice A2 cs.length c2, .slice A3 ps.length c3] rfl rfl (there3 HR3.out) (sz3 _ _ _) (by simp [Value.oneCell']) ?_; clear HR3 HR13 HN3 HS2 HS3 HB3; generalize World.setCells w3 _ _ _ = W4 at HR4 HR14 HN4 HS24 HS34 HB4 ⊢) | (refine wpList_load_row rfl 32 (.tmp 1) rfl w.heap.size rfl 32 #[.string iss, .int .u64 num, .int .i64 fr, .int .i64 tt, .slice A1 xs.length c1, .int .i64 n, .slice A2 cs.length c2, .slice A3 ps.length c3] (0, 0) _ HR4.out Tryz.underlying32 rfl (sz8 _ rfl) ?_) | (refine wpList_store_mid rfl 32 (.tmp 2) (.tmp 12) rfl (w.heap.size + 1) 0 #[.string iss, .int .u64 num, .int .i64 fr, .int .i64 tt, .slice A1 xs.length c1, .int .i64 n, .slice A2 cs.length c2, .slice A3 ps.length c3] rfl rfl (there_row HR14.out 8 (show 8 ≤ 8 by decide)) (sz8 _ rfl) (by simp [Value.oneCell']) ?_))
 have HR5 := Lib.hid (row_setCells HR14.out (cs := #[.string iss, .int .u64 num, .int .i64 fr, .int .i64 tt, .slice A1 xs.length c1, .int .i64 n, .slice A2 cs.length c2, .slice A3 ps.length c3]) rfl)
 have HO := Lib.hid (fun (b : Nat) (h : b ≠ w.heap.size + 1) => heap_setCells_other [.string iss, .int .u64 num, .int .i64 fr, .int .i64 tt, .slice A1 xs.length c1, .int .i64 n, .slice A2 cs.length c2, .slice A3 ps.length c3] 0 W4 h)
 have HN5 := Lib.hid (nums_keep HN4.out (fun g o e => by have := HL1'.out g o e; omega) HO.out)
 have HS25 := Lib.hid (shs_keep HS24.out HR14.out (show 8 < 16 by decide) HO.out)
 have HS35 := Lib.hid (shs_keep HS34.out HR14.out (show 8 < 16 by decide) HO.out)
 have HB5 := Lib.hid (below_setCells [.string iss, .int .u64 num, .int .i64 fr, .int .i64 tt, .slice A1 xs.length c1, .int .i64 n, .slice A2 cs.length c2, .slice A3 ps.length c3] 0 W4 HB4.out (show w.heap.size ≤ w.heap.size + 1 by omega))
 clear HO HR4 HR14 HN4 HS24 HS34 HB4
 generalize World.setCells W4 _ _ _ = W5 at HR5 HN5 HS25 HS35 HB5 ⊢
 refine bodyPost_ret (v := .agg #[.string iss, .int .u64 num, .int .i64 fr, .int .i64 tt, .slice A1 xs.length c1, .int .i64 n, .slice A2 cs.length c2, .slice A3 ps.length c3]) (results_cell_row rfl _ _ (w.heap.size + 1) 32 _ (0, 0) _ rfl HR5.out Tryz.underlying32 rfl (sz8 _ rfl)) rfl ⟨⟨A1, c1, A2, c2, A3, c3⟩, rfl, ⟨HN5.out, HS25.out, HS35.out, J1.out, J2.out, J3.out⟩, HMC.out, HB5.out⟩
end Sg
end Go.Proofs.YtcgffkkfeimifaaGreatDoor
