import Derived.Test.YtcgffkkfeimifaaGreatDoorRwAB
import Derived.Test.YtcgffkkfeimifaaGreatDoorSgJP
namespace Go.Proofs.YtcgffkkfeimifaaGreatDoor
open Go.RowKit Sha Ots
set_option linter.unusedVariables false
set_option linter.unusedSimpArgs false
theorem sgn35 (a m : List UInt8) : (sgn a m).length = 35 := by
 have h : sgn a m = (List.range 35).map fun i => chn a i ((dig m).getD i 0) := rfl
 rw [h, List.length_map, List.length_range]
namespace Sg
open Oc
theorem shs_from {A : Option Addr} {ls : List (List UInt8)} {w : World} (h : Shorts A ls w) : Shs A ls w := ⟨h.row, h.len⟩
theorem nums_lt {A : Option Addr} {xs : List Int} {w : World} (h : Nums A xs w) (hne : xs ≠ []) (g o : Nat) (e : A = some ⟨g, o, none⟩) : g < w.heap.size := by
 cases xs with
 | nil => exact absurd rfl hne
 | cons x r =>
  obtain ⟨g2, o2, e2, hc⟩ := h.row 0 x rfl
  rw [e] at e2
  injection e2 with e3
  injection e3 with e4 e5
  subst e4
  exact World.block_lt_of_cell? _ _ hc
theorem nums_keep9 {A : Option Addr} {xs : List Int} {w w' : World} {X : Nat} (h : Nums A xs w) (hne : ∀ g o, A = some ⟨g, o, none⟩ → xs ≠ [] → g ≠ X) (ho : ∀ b, b ≠ X → w'.heap[b]? = w.heap[b]?) : Nums A xs w' := by
 cases xs with
 | nil => exact ⟨fun i x hi => by simp at hi⟩
 | cons x r => exact nums_keep h (fun g o e => hne g o e (fun k => by cases k)) ho
def sgn0 (l : Rl) : Rl := { l with sg := ⟨0, [], []⟩ }
def sgR (l : Rl) (seed : List UInt8) (h n : Int) : Rl × Int :=
 if rvC (sgn0 l) = 0 then (if 0 ≤ h ∧ h ≤ 4 ∧ 0 ≤ n ∧ n < ((2 ^ h.toNat : Nat) : Int) then ({ l with sg := ⟨(n.toNat : Int), sgn (msd seed n.toNat) (enc (rbv (rbOf l))), pth seed 0 n.toNat h.toNat⟩ }, 0) else (rl0, 2)) else (rl0, rvC (sgn0 l))
set_option maxRecDepth 100000 in
set_option maxHeartbeats 16000000 in
theorem sign_rev (l : Rl) (p : Mp) (hz : l.iss.size ≤ maxLen) (hwf : Wf l) (hcp : p.SA = none → p.sc = 0) (seed : List UInt8) (hs : seed.length = 16) (h n : Int) (w : World) (hat : RlAt l p w) (env : DEnv w) :
  Calls Tryz.prog 13 #[.agg (rlC l p), .agg (bcells seed), .int .i64 h, .int .i64 n] w (RvdPost (sgR l seed h n) w) := by
 have hwf0 : Wf (sgn0 l) := ⟨hwf.num, hwf.ser, fun x hx => (by cases hx), fun x hx => (by cases hx)⟩
 have hat0 : ∀ V : World, Below w.heap.size w V → RlAt (sgn0 l) ⟨p.SA, p.sc, none, 0, none, 0⟩ V := fun V hb => ⟨(hat.on hb).ser, shs_nil rfl _ _, shs_nil rfl _ _, hat.ls, by show 0 ≤ _; omega, by show 0 ≤ _; omega⟩
 have hbd := fun (V : World) (hb : Below w.heap.size w V) => (body_any (sgn0 l) ⟨p.SA, p.sc, none, 0, none, 0⟩ hz hwf0 V (hat0 V hb)).mono fun e z k => vbpost_of k
 have hob : enc (rbv (rbOf (sgn0 l))) = enc (rbv (rbOf l)) := rfl
 rw [hob] at hbd
 have hln := fun (h0 : rvC (sgn0 l) = 0) => (show (enc (rbv (rbOf l))).length ≤ 100000 by have := (fit_ck (hwf0.fit h0)).2.2.1; rw [hob] at this; omega)
 have htw := fun (h0 : rvC (sgn0 l) = 0) (V : World) (hb : Below w.heap.size w V) => rtwin_any (sgn0 l) ⟨p.SA, p.sc, none, 0, none, 0⟩ V (hat0 V hb) ⟨hcp, fun _ => rfl, fun _ => rfl⟩
 have HSB := Lib.hid (fun (hg : ¬ (0 ≤ h ∧ h ≤ 4 ∧ 0 ≤ n ∧ n < ((2 ^ h.toNat : Nat) : Int))) (V : World) (M : Value) => sign7_bad seed h n M hg V)
 have hsg := fun (h0 : rvC (sgn0 l) = 0) (hg : 0 ≤ h ∧ h ≤ 4 ∧ 0 ≤ n ∧ n < ((2 ^ h.toNat : Nat) : Int)) (V : World) (hb : Below w.heap.size w V) (A : Option Addr) (c : Nat) (h1 : (enc (rbv (rbOf l))).length ≤ c) (h2 : c ≤ maxLen) (h3 : SrcAt A (enc (rbv (rbOf l))) V) => (by
  have k := sign7_any seed hs h.toNat n.toNat (by omega) (by omega) (enc (rbv (rbOf l))) A c (hln h0) h1 h2 V h3 (env.on hb)
  have e1 : (h.toNat : Int) = h := by omega
  have e2 : (n.toNat : Int) = n := by omega
  rw [e1] at k
  exact (show Calls Tryz.prog 40 #[.agg (bcells seed), .int .i64 h, .int .i64 n, .slice A (enc (rbv (rbOf l))).length c] V fun e w' => ∃ X PA pc, e = .returned (.tuple #[.agg #[.int .i64 (n.toNat : Int), .slice (some ⟨X, 0, none⟩) 35 35, .slice PA h.toNat pc], .int .i64 0]) ∧ (PA = none → pc = 0) ∧ Shorts (some ⟨X, 0, none⟩) (sgn (msd seed n.toNat) (enc (rbv (rbOf l)))) w' ∧ Shorts PA (pth seed 0 n.toNat h.toNat) w' ∧ Below V.heap.size V w' by
   rw [show (.int .i64 n : Value) = .int .i64 (n.toNat : Int) by rw [e2]]
   exact k))
 have hsz : (Tryz.prog.info? 41).map (·.size) = some (bcells seed).size := sz16 seed hs
 have hls := hat.ls
 obtain ⟨r, hr⟩ : ∃ r, sgR l seed h n = r := ⟨_, rfl⟩
 have hres := hr.symm
 unfold sgR at hres
 rw [hr]
 obtain ⟨D, hD⟩ : ∃ D, enc (rbv (rbOf l)) = D := ⟨_, rfl⟩
 obtain ⟨E, hE⟩ : ∃ E, rvC (sgn0 l) = E := ⟨_, rfl⟩
 rw [hD] at hbd hsg hres
 rw [hE] at hbd hsg htw hres
 obtain ⟨nI, hnI⟩ : ∃ q : Int, (n.toNat : Int) = q := ⟨_, rfl⟩
 rw [hnI] at hsg hres
 have HRES := Lib.hid hres
 obtain ⟨SD, hSD⟩ : ∃ SD, bcells seed = SD := ⟨_, rfl⟩
 rw [hSD] at hsg HSB hsz ⊢
 unfold VbPost rlC sgn0 at hbd
 unfold rlC sgn0 at htw
 dsimp only [List.length_nil] at hbd htw
 unfold RvdPost
 rw [show rlC l p = #[Value.string l.iss, .int .u64 l.num, .int .i64 l.fr, .int .i64 l.tt, .slice p.SA l.ser.length p.sc, .int .i64 l.sg.idx, .slice p.CA l.sg.cs.length p.cc, .slice p.PA l.sg.ps.length p.pc] from rfl]
 have HBD := Lib.hid hbd
 have HTW0 := Lib.hid htw
 have HSG := Lib.hid hsg
 have HSZ := Lib.hid hsz
 have HLS := Lib.hid hls
 obtain ⟨hw0, hra, hrb, hrc⟩ := three_rows3 w #[Value.string l.iss, .int .u64 l.num, .int .i64 l.fr, .int .i64 l.tt, .slice p.SA l.ser.length p.sc, .int .i64 l.sg.idx, .slice p.CA l.sg.cs.length p.cc, .slice p.PA l.sg.ps.length p.pc] SD #[Value.string ⟨#[]⟩, .int .u64 0, .int .i64 0, .int .i64 0, .slice none 0 0, .int .i64 0, .slice none 0 0, .slice none 0 0] 32 41 32
 have HRL0 := Lib.hid hra
 have HRS0 := Lib.hid hrb
 have HRR0 := Lib.hid hrc
 have HB0 := Lib.hid hw0
 clear hnI hr hres hbd htw hsg hsz hls hw0 hra hrb hrc hln hob hD hE hSD hwf0 hat0 hz hwf hcp hs hat env
 go_enter Tryz.func13, Tryz.ntmps13
 go_upto_region 1 with (fail)
 generalize World.alloc (World.alloc (World.alloc w _) _) _ = V0 at HRL0 HRS0 HRR0 HB0 ⊢
 obtain ⟨hl0, f0, f1, f2, f3, f4, f5, f6, f7⟩ := facts8 HRL0.out
 obtain ⟨z0, z1, z2, z3, z4, z5, z6, z7⟩ := free8 HRL0.out
 go_upto_region 2 with (fail)
 generalize hV1 : World.setCell _ _ _ = V1
 have hV1' : V0.setCells w.heap.size 5 [.int .i64 0, .slice none 0 0, .slice none 0 0] = V1 := hV1
 clear hV1 z0 z1 z2 z3 z4 z5 z6 z7
 clear hl0 f0 f1 f2 f3 f4 f5 f6 f7
 have ho : ∀ b, b ≠ w.heap.size → V1.heap[b]? = V0.heap[b]? := fun b hb => by rw [← hV1']; exact heap_setCells_other _ _ _ hb
 have HRL1 := Lib.hid (show V1.heap[w.heap.size]? = some (.cells #[Value.string l.iss, .int .u64 l.num, .int .i64 l.fr, .int .i64 l.tt, .slice p.SA l.ser.length p.sc, .int .i64 0, .slice none 0 0, .slice none 0 0] 32 (0, 0)) by rw [← hV1']; exact heap_set3 HRL0.out)
 have HRS1 := Lib.hid ((ho _ (by omega)).trans HRS0.out)
 have HRR1 := Lib.hid ((ho _ (by omega)).trans HRR0.out)
 have HB1 := Lib.hid (show Below w.heap.size w V1 by rw [← hV1']; exact below_setCells _ _ _ HB0.out (Nat.le_refl _))
 clear ho hV1' HRL0 HRS0 HRR0 HB0
 obtain ⟨hl0, f0, f1, f2, f3, f4, f5, f6, f7⟩ := facts8 HRL1.out
 go_wp2_with fail
 refine (HBD.out V1 HB1.out).mono ?_
 rintro e V3 ⟨A1, c1, n1, rfl, hy, hn, hb⟩
 have HY := Lib.hid hy
 clear hy hn HBD
 clear hl0 f0 f1 f2 f3 f4 f5 f6 f7
 have HRL3 := Lib.hid (row_on HRL1.out hb)
 have HRS3 := Lib.hid (row_on HRS1.out hb)
 have HRR3 := Lib.hid (row_on HRR1.out hb)
 have HB3 := Lib.hid (chain HB1.out hb)
 clear hb HRL1 HRS1 HRR1 HB1
 by_cases h0 : E = 0
 ·
  have HRES1 := Lib.hid (HRES.out.trans (if_pos h0))
  clear HRES
  subst h0
  obtain ⟨rfl, q1, q2, q3⟩ := HY.out rfl
  have HTW := Lib.hid (HTW0.out rfl)
  clear HY HTW0
  go_wp2_with (refine wpList_load_row rfl 41 (.tmp 5) rfl (w.heap.size + 1) rfl 41 SD (0, 0) _ HRS3.out Tryz.underlying41 rfl HSZ.out ?_)
  by_cases hg : 0 ≤ h ∧ h ≤ 4 ∧ 0 ≤ n ∧ n < ((2 ^ h.toNat : Nat) : Int)
  ·
   have HG := Lib.hid hg
   have HS7 := Lib.hid (HSG.out (by first | rfl | trivial) hg)
   refine (HS7.out V3 HB3.out A1 c1 q1 q2 q3).mono ?_
   rintro e V4 ⟨X, PA, pc, rfl, hpn, hX, hP, hb⟩
   have HX := Lib.hid hX
   have HP := Lib.hid hP
   clear hpn hX hP q1 q2 q3 HS7
   have HRL4 := Lib.hid (row_on HRL3.out hb)
   have HRS4 := Lib.hid (row_on HRS3.out hb)
   have HRR4 := Lib.hid (row_on HRR3.out hb)
   have HB4 := Lib.hid (chain HB3.out hb)
   clear hb HRL3 HRS3 HRR3 HB3
   go_upto_region 6 with (fail)
   obtain ⟨M2, hM2⟩ : ∃ M2, V4.heap.size = M2 := ⟨_, rfl⟩
   have hm2 := heap_alloc_new V4 (.cells #[Value.int .i64 nI, .slice (some ⟨X, 0, none⟩) 35 35, .slice PA h.toNat pc] 30)
   have hb := below_new V4 (.cells #[Value.int .i64 nI, .slice (some ⟨X, 0, none⟩) 35 35, .slice PA h.toNat pc] 30)
   rw [hM2] at hm2 ⊢
   generalize World.alloc V4 _ = V5 at hm2 hb ⊢
   have HM2 := Lib.hid hm2
   have HX5 := Lib.hid ((shs_from HX.out).on hb)
   have HP5 := Lib.hid ((shs_from HP.out).on hb)
   clear hm2 hM2 HX HP
   have HRL5 := Lib.hid (row_on HRL4.out hb)
   have HRS5 := Lib.hid (row_on HRS4.out hb)
   have HRR5 := Lib.hid (row_on HRR4.out hb)
   have HB5 := Lib.hid (chain HB4.out hb)
   clear hb HRL4 HRS4 HRR4 HB4
   obtain ⟨hl0, f0, f1, f2, f3, f4, f5, f6, f7⟩ := facts8 HRL5.out
   go_wp2_with fail
   have hm1 := HTW.out V5 HB5.out
   unfold PTwin rlC at hm1
   refine hm1.mono ?_
   clear hm1
   rintro e V6 ⟨m1, rfl, hl, hb, ho1, ho2, hap⟩
   have HNS2 := Lib.hid (fun (g o : Nat) (e : m1.SA = some ⟨g, o, none⟩) => show w.heap.size + 3 ≤ g from by
    have h1 := (ho1 g o e).1
    have h2 := (Array.getElem?_eq_some_iff.1 HRR5.out).1
    omega)
   have HTL := Lib.hid hl
   have HM26 := Lib.hid (row_on HM2.out hb)
   have HX6 := Lib.hid (HX5.out.on hb)
   have HP6 := Lib.hid (HP5.out.on hb)
   clear hl ho1 ho2 hap HM2 HX5 HP5 HTW
   clear hl0 f0 f1 f2 f3 f4 f5 f6 f7
   have HRL6 := Lib.hid (row_on HRL5.out hb)
   have HRS6 := Lib.hid (row_on HRS5.out hb)
   have HRR6 := Lib.hid (row_on HRR5.out hb)
   have HB6 := Lib.hid (chain HB5.out hb)
   clear hb HRL5 HRS5 HRR5 HB5
   go_upto_region 9 with (fail)
   have HM := Lib.hid (heap_alloc_new V6 (.cells #[Value.string l.iss, .int .u64 l.num, .int .i64 l.fr, .int .i64 l.tt, .slice m1.SA l.ser.length m1.sc, .int .i64 0, .slice m1.CA 0 m1.cc, .slice m1.PA 0 m1.pc] 32))
   obtain ⟨M, hM⟩ : ∃ M, V6.heap.size = M := ⟨_, rfl⟩
   rw [hM] at HM ⊢
   generalize hV7 : World.alloc V6 _ = V7 at HM ⊢
   have hb : Below V6.heap.size V6 V7 := by rw [← hV7]; exact below_new _ _
   have HLM := Lib.hid (show w.heap.size + 3 ≤ M ∧ M2 ≠ M by
    have h1 := (Array.getElem?_eq_some_iff.1 HRR6.out).1
    have h2 := (Array.getElem?_eq_some_iff.1 HM26.out).1
    omega)
   have HTL7 := Lib.hid (HTL.out.on hb)
   have HX7 := Lib.hid (HX6.out.on hb)
   have HP7 := Lib.hid (HP6.out.on hb)
   have HM27 := Lib.hid (row_on HM26.out hb)
   have HNS := Lib.hid (fun (g o : Nat) (e : m1.SA = some ⟨g, o, none⟩) => show l.ser ≠ [] → g ≠ M from fun hne e2 => by
    have h3 := nums_lt HTL.out.ser hne g o e
    omega)
   clear hV7 HTL HX6 HP6 HM26
   have HRL7 := Lib.hid (row_on HRL6.out hb)
   have HRS7 := Lib.hid (row_on HRS6.out hb)
   have HRR7 := Lib.hid (row_on HRR6.out hb)
   have HB7 := Lib.hid (chain HB6.out hb)
   clear hb HRL6 HRS6 HRR6 HB6
   obtain ⟨hl0, f0, f1, f2, f3, f4, f5, f6, f7⟩ := facts8 HM.out
   obtain ⟨z0, z1, z2, z3, z4, z5, z6, z7⟩ := free8 HM.out
   obtain ⟨_, b0, b1, b2⟩ := facts3 HM27.out
   have hrgs := range3s HM27.out
   go_upto_region 10 with (fail)
   generalize hV9 : World.setCell _ _ _ = V9
   have hV9' : V7.setCells M 5 [Value.int .i64 nI, .slice (some ⟨X, 0, none⟩) 35 35, .slice PA h.toNat pc] = V9 := hV9
   clear hV9 z0 z1 z2 z3 z4 z5 z6 z7 b0 b1 b2 hrgs
   clear hl0 f0 f1 f2 f3 f4 f5 f6 f7
   have HM9 := Lib.hid (show V9.heap[M]? = some (.cells #[Value.string l.iss, .int .u64 l.num, .int .i64 l.fr, .int .i64 l.tt, .slice m1.SA l.ser.length m1.sc, .int .i64 nI, .slice (some ⟨X, 0, none⟩) 35 35, .slice PA h.toNat pc] 32 (0, 0)) by rw [← hV9']; exact heap_set3 HM.out)
   have ho : ∀ b, b ≠ M → V9.heap[b]? = V7.heap[b]? := fun b hb => by rw [← hV9']; exact heap_setCells_other _ _ _ hb
   have HB9 := Lib.hid (show Below w.heap.size w V9 by rw [← hV9']; exact below_setCells _ _ _ HB7.out (by have := HLM.out.1; omega))
   have HRR9 := Lib.hid ((ho _ (by have := HLM.out.1; omega)).trans HRR7.out)
   have HN9 := Lib.hid (show Nums m1.SA l.ser V9 from nums_keep9 HTL7.out.ser HNS.out ho)
   have HX9 := Lib.hid (shs_keep HX7.out HM.out (show 8 < 16 by decide) ho)
   have HP9 := Lib.hid (shs_keep HP7.out HM.out (show 8 < 16 by decide) ho)
   clear ho hV9' HM HRL7 HRS7 HRR7 HB7 HTL7 HX7 HP7 HM27
   obtain ⟨hl1, p0, p1, p2, p3, p4, p5, p6, p7⟩ := facts8 HM9.out
   obtain ⟨hl0, f0, f1, f2, f3, f4, f5, f6, f7⟩ := facts8 HRR9.out
   obtain ⟨z0, z1, z2, z3, z4, z5, z6, z7⟩ := free8 HRR9.out
   go_wp2_with fail
   generalize hZ : World.setCell _ _ _ = Z
   obtain ⟨r1, r2, r3⟩ := put8 HRR9.out (show w.heap.size ≤ w.heap.size + 2 by omega) hZ
   clear hZ
   have hlc : (sgn (msd seed n.toNat) D).length = 35 := sgn35 _ _
   have hlp : (pth seed 0 n.toNat h.toNat).length = h.toNat := pth_length _ _ _ _
   have hr : r = ({ l with sg := ⟨nI, sgn (msd seed n.toNat) D, pth seed 0 n.toNat h.toNat⟩ }, 0) := by rw [HRES1.out, if_pos HG.out]
   refine bodyPost_ret (v := .tuple #[.agg (rlC r.1 ⟨m1.SA, m1.sc, some ⟨X, 0, none⟩, 35, PA, pc⟩), .int .i64 r.2]) ?resG rfl ⟨_, rfl, ?_, HB9.out.trans (r2.mono (Nat.le_refl _))⟩
   case resG =>
    obtain ⟨_, f0, f1, f2, f3, f4, f5, f6, f7⟩ := facts8 r1
    rw [hr]
    unfold rlC
    dsimp only
    rw [hlc, hlp]
    simp [results, Tryz.results13, go_sem, f0, f1, f2, f3, f4, f5, f6, f7]
    try rfl
   ·
    rw [hr]
    exact ⟨nums_keep9 HN9.out (fun g o e hne e2 => by
     have h1 := HNS2.out g o e
     omega) r3, shs_keep HX9.out HRR9.out (show 8 < 16 by decide) r3, shs_keep HP9.out HRR9.out (show 8 < 16 by decide) r3, HLS.out, by show (sgn (msd seed n.toNat) D).length ≤ _; rw [hlc]; decide, by show (pth seed 0 n.toNat h.toNat).length ≤ _; rw [hlp]; have := HG.out; omega⟩
  ·
   have hsb := HSB.out hg
   refine (hsb V3 _).mono ?_
   rintro e V4 ⟨rfl, hb⟩
   clear hsb q1 q2 q3 HTW
   have HRL4 := Lib.hid (row_on HRL3.out hb)
   have HRS4 := Lib.hid (row_on HRS3.out hb)
   have HRR4 := Lib.hid (row_on HRR3.out hb)
   have HB4 := Lib.hid (chain HB3.out hb)
   clear hb HRL3 HRS3 HRR3 HB3
   go_upto_region 6 with (fail)
   generalize hV5 : World.alloc V4 _ = V5
   have hb : Below V4.heap.size V4 V5 := by rw [← hV5]; exact below_new _ _
   clear hV5
   have HRL5 := Lib.hid (row_on HRL4.out hb)
   have HRS5 := Lib.hid (row_on HRS4.out hb)
   have HRR5 := Lib.hid (row_on HRR4.out hb)
   have HB5 := Lib.hid (chain HB4.out hb)
   clear hb HRL4 HRS4 HRR4 HB4
   obtain ⟨hl0, f0, f1, f2, f3, f4, f5, f6, f7⟩ := facts8 HRR5.out
   obtain ⟨z0, z1, z2, z3, z4, z5, z6, z7⟩ := free8 HRR5.out
   go_wp2_with fail
   generalize hZ : World.setCell _ _ _ = Z
   obtain ⟨r1, r2, r3⟩ := put8 HRR5.out (show w.heap.size ≤ w.heap.size + 2 by omega) hZ
   clear hZ
   have hr : r = (rl0, 2) := by rw [HRES1.out, if_neg hg]
   refine bodyPost_ret (v := .tuple #[.agg (rlC r.1 mp0), .int .i64 r.2]) ?res1 rfl ⟨mp0, rfl, by rw [hr]; exact rl0_at _, HB5.out.trans (r2.mono (Nat.le_refl _))⟩
   case res1 =>
    rw [hr]
    obtain ⟨_, f0, f1, f2, f3, f4, f5, f6, f7⟩ := facts8 r1
    simp [results, Tryz.results13, go_sem, f0, f1, f2, f3, f4, f5, f6, f7]
    try rfl
 ·
  clear HY HTW0 HSG HSB
  obtain ⟨hl0, f0, f1, f2, f3, f4, f5, f6, f7⟩ := facts8 HRR3.out
  obtain ⟨z0, z1, z2, z3, z4, z5, z6, z7⟩ := free8 HRR3.out
  go_wp2_with fail
  generalize hZ : World.setCell _ _ _ = Z
  obtain ⟨r1, r2, r3⟩ := put8 HRR3.out (show w.heap.size ≤ w.heap.size + 2 by omega) hZ
  clear hZ
  have hr : r = (rl0, E) := by rw [HRES.out, if_neg h0]
  refine bodyPost_ret (v := .tuple #[.agg (rlC r.1 mp0), .int .i64 r.2]) ?res2 rfl ⟨mp0, rfl, by rw [hr]; exact rl0_at _, HB3.out.trans (r2.mono (Nat.le_refl _))⟩
  case res2 =>
   rw [hr]
   obtain ⟨_, f0, f1, f2, f3, f4, f5, f6, f7⟩ := facts8 r1
   simp [results, Tryz.results13, go_sem, f0, f1, f2, f3, f4, f5, f6, f7]
   try rfl
end Sg
end Go.Proofs.YtcgffkkfeimifaaGreatDoor
namespace Go.Proofs.YtcgffkkfeimifaaGreatDoor
open Go.RowKit Sha Ots
set_option linter.unusedVariables false
set_option linter.unusedSimpArgs false
theorem sgn_16 (a m : List UInt8) : ∀ x ∈ sgn a m, x.length = 16 := fun x hx => by
 have h : sgn a m = (List.range 35).map fun i => chn a i ((dig m).getD i 0) := rfl
 rw [h] at hx
 obtain ⟨i, _, rfl⟩ := List.mem_map.1 hx
 exact chn_len _ _ _
theorem pth_16 (seed : List UInt8) : ∀ (m l n : Nat), ∀ x ∈ pth seed l n m, x.length = 16
 | 0, l, n, x, hx => by simp [pth] at hx
 | m + 1, l, n, x, hx => by
  unfold pth at hx
  rcases List.mem_cons.1 hx with rfl | hx
  ·
   exact node_len _ _ _
  ·
   exact pth_16 seed m _ _ x hx
theorem vf7_signed (D seed : List UInt8) (n : Nat) (hn : n < 2) : vf7 D (sgn (msd seed n) D) (pth seed 0 n 1) (node seed 1 0) 1 (n : Int) = true := by
 have h0 : chkV 1 (n : Int) (sgn (msd seed n) D).length (pth seed 0 n 1).length = 0 := by
  rw [sgn35, pth_length]
  unfold chkV
  rw [if_pos ⟨by decide, by decide⟩, if_pos ⟨⟨by omega, by
   have h2 : ((2 ^ (1 : Int).toNat : Nat) : Int) = 2 := rfl
   rw [h2]; omega⟩, rfl, rfl⟩]
 unfold vf7 rtV
 rw [if_pos h0, h0, Int.toNat_natCast, root_follows seed D 1 n (by omega)]
 simp
namespace Sg
open Oc
theorem rvC_other {l : Rl} (h : rvC l = 0) {n : Int} {cs ps : List (List UInt8)} (hw : wfV n cs.length ps.length = true) : rvC { l with sg := ⟨n, cs, ps⟩ } = 0 := by
 unfold rvC rcV at h ⊢
 dsimp only
 split at h
 ·
  omega
 ·
  rename_i h5
  rw [if_neg h5]
  split at h
  ·
   rename_i h6
   rw [if_pos ⟨h6.1, h6.2.1, h6.2.2.1, hw⟩]
  ·
   omega
def VePost (D : List UInt8) (w : World) (e : Ending) (w' : World) : Prop := ∃ A c, e = .returned (.tuple #[.slice A D.length c, .int .i64 0]) ∧ D.length ≤ c ∧ (A = none → c = 0) ∧ SrcAt A D w' ∧ Below w.heap.size w w'
theorem vepost_of {o : Oct} {w : World} {e : Ending} {w' : World} (h : EbPost o 0 w e w') : VePost (enc o) w e w' := by
 obtain ⟨hb, ⟨h0, v, rfl, hown⟩ | ⟨h0, rfl⟩⟩ := h
 ·
  obtain ⟨A, c, rfl, h1, h2, h3, h4⟩ := bytes_own hown
  exact ⟨A, c, rfl, h1, h2, h4, hb⟩
 ·
  exact absurd rfl h0
def ExK (lv : Value) (SD PK : Array Value) (bb : Bool) (t ix : Int) (w : World) : Prop :=
 (0 ≤ (1 : Int) ∧ (1 : Int) ≤ 4 ∧ 0 ≤ ix ∧ ix < ((2 ^ (1 : Int).toNat : Nat) : Int) → ∃ s : Rl,
  RowKit.Hid (∀ (V : World), Below w.heap.size w V → Calls Tryz.prog 13 #[lv, .agg SD, .int .i64 1, .int .i64 ix] V (RvdPost (s, 0) V)) ∧
  RowKit.Hid (∀ (m : Mp) (V : World), RlAt s m V → Calls Tryz.prog 9 #[.agg (rlC s m)] V (VePost (enc (rlV s)) V)) ∧
  RowKit.Hid (∀ (A : Option Addr) (c : Nat) (V : World), (enc (rlV s)).length ≤ c → (A = none → c = 0) → SrcAt A (enc (rlV s)) V → Calls Tryz.prog 15 #[.slice A (enc (rlV s)).length c] V (RvdPost (s, 0) V)) ∧
  RowKit.Hid (∀ (m : Mp) (V : World), RlAt s m V → Calls Tryz.prog 10 #[.agg (rlC s m), .int .u64 t] V fun e w' => e = .returned (.tuple #[.bool bb, .int .i64 0]) ∧ Below V.heap.size V w') ∧
  RowKit.Hid (∀ (m : Mp) (V : World), RlAt s m V → Below w.heap.size w V → Calls Tryz.prog 17 #[.agg (rlC s m), .agg PK] V fun e w' => e = .returned (.int .i64 0) ∧ Below V.heap.size V w') ∧
  RowKit.Hid (∀ (V : World), Below w.heap.size w V → Calls Tryz.prog 12 #[.agg SD, .int .i64 1] V fun e w' => e = .returned (.tuple #[.agg PK, .int .i64 0]) ∧ Below V.heap.size V w')) ∧
 (¬ (0 ≤ (1 : Int) ∧ (1 : Int) ≤ 4 ∧ 0 ≤ ix ∧ ix < ((2 ^ (1 : Int).toNat : Nat) : Int)) → ∀ (V : World), Below w.heap.size w V → Calls Tryz.prog 13 #[lv, .agg SD, .int .i64 1, .int .i64 ix] V (RvdPost (rl0, 2) V))
theorem exact_kit (l : Rl) (p : Mp) (hcp : Caps p) (hwf : Wf l) (t : Int) (seed : List UInt8) (hs : seed.length = 16) (ix : Int) (w : World) (env : DEnv w) (hz : l.iss.size ≤ maxLen) (h : RlAt l p w) (h0 : rvC l = 0) :
  ExK (.agg (rlC l p)) (bcells seed) (pkc (node seed 1 0) 1) (rvB l t) t ix w := by
 have hky := fun (V : World) (hb : Below w.heap.size w V) => key7_any seed hs 1 (by decide) V (env.on hb)
 have hN16 : (node seed 1 0).length = 16 := node_len seed 1 0
 unfold ExK
 have hsg := fun (V : World) (hb : Below w.heap.size w V) => sign_rev l p hz hwf hcp.s seed hs 1 ix V (h.on hb) (env.on hb)
 have h00 : rvC (sgn0 l) = 0 := rvC_other h0 (by decide)
 unfold sgR at hsg
 rw [if_pos h00] at hsg
 refine ⟨fun hg => ?_, fun hg => ?_⟩
 ·
  rw [if_pos hg] at hsg
  have h21 : ((2 ^ (1 : Int).toNat : Nat) : Int) = 2 := rfl
  have hg2 := hg.2.2
  rw [h21] at hg2
  have hs0 : rvC { l with sg := ⟨(ix.toNat : Int), sgn (msd seed ix.toNat) (enc (rbv (rbOf l))), pth seed 0 ix.toNat (1 : Int).toNat⟩ } = 0 := rvC_other h0 (by
   rw [sgn35, pth_length]
   have h3 : ix.toNat = 0 ∨ ix.toNat = 1 := by omega
   rcases h3 with h3 | h3 <;> rw [h3] <;> decide)
  have hw0 : Wf { l with sg := ⟨(ix.toNat : Int), sgn (msd seed ix.toNat) (enc (rbv (rbOf l))), pth seed 0 ix.toNat (1 : Int).toNat⟩ } := ⟨hwf.num, hwf.ser, sgn_16 _ _, pth_16 _ _ _ _⟩
  have hf := hw0.fit hs0
  have hvt := vf7_signed (enc (rbv (rbOf l))) seed ix.toNat (by omega)
  obtain ⟨s, hsd⟩ : ∃ s : Rl, { l with sg := ⟨(ix.toNat : Int), sgn (msd seed ix.toNat) (enc (rbv (rbOf l))), pth seed 0 ix.toNat (1 : Int).toNat⟩ } = s := ⟨_, rfl⟩
  have hi : s.iss = l.iss := by rw [← hsd]
  have hse : s.ser = l.ser := by rw [← hsd]
  have hvV : vfV s (node seed 1 0) 1 = 0 := by
   rw [← hsd]
   unfold vfV
   rw [if_pos hs0]
   exact if_pos hvt
  rw [hsd] at hsg hs0 hw0 hf
  refine ⟨s, Lib.hid hsg, Lib.hid (fun m V hm => ?_), Lib.hid (fun A c V hc hn hsr => ?_), Lib.hid (fun m V hm => ?_), Lib.hid (fun m V hm hb => ?_), Lib.hid hky⟩
  ·
   have k := encode_rev s m (by rw [hi]; exact hz) hw0 V hm
   rw [hs0] at k
   exact k.mono fun e z q => vepost_of q
  ·
   have k := rdecode_any (enc (rlV s)) (by have := (fit_ck hf).2.2.2; omega) A c hc hn V hsr
   rw [rvD_enc hf hs0 (fit_ck hf).2.1] at k
   exact k
  ·
   have k := revoked_any s m t (by rw [hi]; exact hz) V hm
   rw [hs0, show rvB s t = rvB l t by unfold rvB; rw [hs0, h0, hse]] at k
   exact k
  ·
   have k := verify_rev s m (by rw [hi]; exact hz) hw0 (node seed 1 0) hN16 1 V hm (env.on hb)
   rw [hvV] at k
   exact k
 ·
  rw [if_neg hg] at hsg
  exact hsg
set_option maxRecDepth 100000 in
set_option maxHeartbeats 16000000 in
theorem exact_any (l : Rl) (p : Mp) (hcp : Caps p) (hwf : Wf l) (t : Int) (seed : List UInt8) (hs : seed.length = 16) (ix : Int) (w : World) (a1 : Nums p.SA l.ser w) (a2 : Shs p.CA l.sg.cs w) (a3 : Shs p.PA l.sg.ps w) (env : DEnv w) :
  Calls Tryz.prog 5 #[.agg (rlC l p), .int .u64 t, .agg (bcells seed), .int .i64 ix] w fun e w' => e = .returned (.bool true) ∧ Below w.heap.size w w' := by
 have HAL := Lib.hid (fun (V : World) => alive11_any V)
 have hg1 := fun (V : World) => great_any l p V
 have HA : RowKit.Hid (grB l = false → RlAt l p w ∧ l.iss.size ≤ maxLen) := Lib.hid (fun h => by
  unfold grB at h
  rw [decide_eq_false_iff_not] at h
  exact ⟨⟨a1, a2, a3, by omega, by omega, by omega⟩, by unfold maxLen; omega⟩)
 have hrv := fun (hz : l.iss.size ≤ maxLen) (h : RlAt l p w) (V : World) (hb : Below w.heap.size w V) => revoked_any l p t hz V (h.on hb)
 have hck := fun (hz : l.iss.size ≤ maxLen) (h : RlAt l p w) (V : World) (hb : Below w.heap.size w V) => lchk_any l p V hz (h.on hb).ser
 have hN16 : (node seed 1 0).length = 16 := node_len seed 1 0
 have hvb : (rvC l = 0 → decide (t ∈ l.ser) = rvB l t) ∧ (rvC l ≠ 0 → rvB l t = false) := ⟨fun h => by unfold rvB; rw [decide_eq_true h]; rfl, fun h => by unfold rvB; rw [decide_eq_false h]; rfl⟩
 have hgb := fun (hz : l.iss.size ≤ maxLen) (h : RlAt l p w) (h0 : rvC l = 0) => exact_kit l p hcp hwf t seed hs ix w env hz h h0
 have hsz : (Tryz.prog.info? 41).map (·.size) = some (bcells seed).size := sz16 seed hs
 have hszk := sz17 (node seed 1 0) 1 hN16
 have hone := pkc_one (node seed 1 0) 1
 have hsok : (17 : Nat) = (pkc (node seed 1 0) 1).size := (pkc_size _ _ hN16).symm
 obtain ⟨PK, hPK⟩ : ∃ PK, pkc (node seed 1 0) 1 = PK := ⟨_, rfl⟩
 obtain ⟨SD, hSD⟩ : ∃ SD, bcells seed = SD := ⟨_, rfl⟩
 obtain ⟨bb, hbb⟩ : ∃ bb, rvB l t = bb := ⟨_, rfl⟩
 obtain ⟨E, hE⟩ : ∃ E, rvC l = E := ⟨_, rfl⟩
 obtain ⟨G1, hG1⟩ : ∃ G, grB l = G := ⟨_, rfl⟩
 have hnx : G1 = false → l.ser.length ≤ 520 := fun h => by
  rw [← hG1] at h
  unfold grB at h
  rw [decide_eq_false_iff_not] at h
  omega
 rw [hG1] at HA hg1
 rw [hE] at hrv hck hvb hgb
 rw [hbb] at hrv hvb hgb
 rw [hPK] at hgb hszk hone hsok
 rw [hSD] at hgb hsz ⊢
 have HS0 := Lib.hid (fun (h : RlAt l p w) => h.ser)
 obtain ⟨iss, num, fr, tt, xs, n, cs, ps⟩ := l
 obtain ⟨SA, sc, CA, cc, PA, pc⟩ := p
 unfold rlC at hg1 hrv hck hgb ⊢
 dsimp only at hg1 hrv hck hgb hvb HS0 hnx ⊢
 obtain ⟨nx, hn⟩ : ∃ nx, xs.length = nx := ⟨_, rfl⟩
 have HN := Lib.hid hn
 have HNX := Lib.hid (fun (h : G1 = false) => show nx ≤ 520 from by have := hnx h; omega)
 rw [hn] at hg1 hrv hck hgb ⊢
 obtain ⟨c5, g5⟩ : ∃ c : Value, .int .i64 n = c := ⟨_, rfl⟩
 obtain ⟨c6, g6⟩ : ∃ c : Value, .slice CA cs.length cc = c := ⟨_, rfl⟩
 obtain ⟨c7, g7⟩ : ∃ c : Value, .slice PA ps.length pc = c := ⟨_, rfl⟩
 rw [g5, g6, g7] at hg1 hrv hck hgb ⊢
 have HG1 := Lib.hid hg1
 have HRV0 := Lib.hid hrv
 have HCK0 := Lib.hid hck
 have HGB0 := Lib.hid hgb
 have HVB := Lib.hid hvb
 have HSZ := Lib.hid hsz
 have HSZK := Lib.hid hszk
 have HSZK2 := Lib.hid hszk
 have HONE := Lib.hid hone
 have HSOK := Lib.hid hsok
 obtain ⟨hw0, hra, hrb⟩ := two_rows w (.cells #[Value.string iss, .int .u64 num, .int .i64 fr, .int .i64 tt, .slice SA nx sc, c5, c6, c7] 32) (.cells SD 41)
 have HRL0 := Lib.hid hra
 have HRS0 := Lib.hid hrb
 have HB0 := Lib.hid hw0
 clear hg1 hrv hck hgb hvb hsz hszk hone hsok hw0 hra hrb hPK hSD hbb hE hG1 hn hnx g5 g6 g7 hcp hwf hs hN16 a1 a2 a3 env
 go_enter Tryz.func5, Tryz.ntmps5
 go_upto_region 1 with (fail)
 generalize World.alloc (World.alloc w _) _ = V0 at HRL0 HRS0 HB0 ⊢
 go_wp2_with fail
 refine (HAL.out V0).mono ?_
 rintro e V1 ⟨rfl, hb⟩
 clear HAL
 have HRL1 := Lib.hid (row_on HRL0.out hb)
 have HRS1 := Lib.hid (row_on HRS0.out hb)
 have HB1 := Lib.hid (chain HB0.out hb)
 clear hb HRL0 HRS0 HB0
 obtain ⟨hl0, f0, f1, f2, f3, f4, f5, f6, f7⟩ := facts8 HRL1.out
 go_wp2_with fail
 refine (HG1.out V1).mono ?_
 rintro e V2 ⟨rfl, hb⟩
 clear HG1
 clear hl0 f0 f1 f2 f3 f4 f5 f6 f7
 have HRL2 := Lib.hid (row_on HRL1.out hb)
 have HRS2 := Lib.hid (row_on HRS1.out hb)
 have HB2 := Lib.hid (chain HB1.out hb)
 clear hb HRL1 HRS1 HB1
 cases G1 with
 | true =>
  go_wp2_with fail
  refine bodyPost_ret (v := .bool true) (by simp [results, Tryz.results5, go_sem]) rfl ⟨rfl, HB2.out⟩
 | false =>
  obtain ⟨ha, hz⟩ := HA.out rfl
  have HRV := Lib.hid (HRV0.out hz ha)
  have HCK := Lib.hid (HCK0.out hz ha)
  have HGB := Lib.hid (HGB0.out hz ha)
  have HS := Lib.hid (HS0.out ha)
  have hn5 := HNX.out rfl
  clear ha hz HA HRV0 HCK0 HGB0 HS0
  obtain ⟨hl0, f0, f1, f2, f3, f4, f5, f6, f7⟩ := facts8 HRL2.out
  go_wp2_with fail
  refine (HRV.out V2 HB2.out).mono ?_
  rintro e V4 ⟨rfl, hb⟩
  clear HRV
  clear hl0 f0 f1 f2 f3 f4 f5 f6 f7
  have HRL4 := Lib.hid (row_on HRL2.out hb)
  have HRS4 := Lib.hid (row_on HRS2.out hb)
  have HB4 := Lib.hid (chain HB2.out hb)
  clear hb HRL2 HRS2 HB2
  by_cases h0 : E = 0
  ·
   have HBB := Lib.hid (HVB.out.1 h0)
   have hex := HGB.out h0
   unfold ExK at hex
   have HGOOD := Lib.hid hex.1
   have HBAD := Lib.hid hex.2
   clear hex
   subst h0
   clear HVB HGB HCK
   go_wp2_with fail
   go_loopw [12, 13] (fun bl i wr => ∃ k : Nat, k ≤ nx ∧ i = .int .i64 (k : Int) ∧ bl = .bool (decide (t ∈ xs.take k)) ∧ RowKit.Hid (wr = V4)) (fun _ i _ => nx - (intOf i).toNat)
   case atStart => exact ⟨0, Nat.zero_le _, rfl, by simp, Lib.hid rfl⟩
   case round =>
    obtain ⟨k, hk, rfl, rfl, HW⟩ := hrel
    by_cases hlt : k < nx
    ·
     obtain ⟨V, hV⟩ : ∃ V, V = wr := ⟨_, rfl⟩
     subst hV
     have HBV := Lib.hid (show Below w.heap.size w V by rw [HW.out]; exact HB4.out)
     have HRV := Lib.hid (show V.heap[w.heap.size]? = some (.cells #[Value.string iss, .int .u64 num, .int .i64 fr, .int .i64 tt, .slice SA nx sc, c5, c6, c7] 32 (0, 0)) by rw [HW.out]; exact HRL4.out)
     obtain ⟨v0, a0, a1, a2, a3, a4, a5, a6, a7⟩ := facts8 HRV.out
     obtain ⟨x, hx⟩ : ∃ x, xs[k]? = some x := ⟨_, List.getElem?_eq_getElem (by rw [HN.out]; exact hlt)⟩
     obtain ⟨g1, o1, rfl, r1⟩ := HS.out.row _ x hx
     obtain ⟨_, _, e1, ca⟩ := (Nums.on ⟨fun i x h => HS.out.row i x h⟩ HBV.out).row _ x hx
     obtain ⟨rfl, rfl, _⟩ := Addr.mk.inj (Option.some.inj e1)
     have hki : (k : Int) < (nx : Int) := by omega
     have HTK := Lib.hid (show xs.take (k + 1) = xs.take k ++ [x] by rw [List.take_add_one, hx]; rfl)
     clear r1 e1 hx
     obtain ⟨bk, hbk⟩ : ∃ bk, decide (t ∈ xs.take k) = bk := ⟨_, rfl⟩
     rw [hbk]
     have HBK := Lib.hid hbk
     clear hbk
     cases bk with
     | true =>
      go_wp2_with fail
      exact ⟨⟨k + 1, by omega, by go_num, by rw [HTK.out]; have h := of_decide_eq_true HBK.out; simp [h], HW⟩, by simp [intOf]; omega⟩
     | false =>
      by_cases hxt : x = t
      ·
       have i1 : (x == t) = true := by rw [beq_iff_eq]; exact hxt
       go_wp2_with fail
       exact ⟨⟨k + 1, by omega, by go_num, by rw [HTK.out, hxt]; simp, HW⟩, by simp [intOf]; omega⟩
      ·
       have i1 : (x == t) = false := by rw [beq_eq_false_iff_ne]; exact hxt
       have HXT := Lib.hid hxt
       clear hxt
       go_wp2_with fail
       exact ⟨⟨k + 1, by omega, by go_num, by rw [HTK.out]; have h := of_decide_eq_false HBK.out; simp [h, Ne.symm HXT.out], HW⟩, by simp [intOf]; omega⟩
    ·
     have hkk : k = nx := by omega
     subst hkk
     have hki : ¬ (k : Int) < (k : Int) := by omega
     have hww := HW.out
     subst hww
     have htk : decide (t ∈ xs.take k) = bb := by rw [List.take_of_length_le (by rw [HN.out]; exact Nat.le_refl _)]; exact HBB.out
     rw [htk]
     clear htk HW
     obtain ⟨v0, a0, a1, a2, a3, a4, a5, a6, a7⟩ := facts8 HRL4.out
     by_cases hg : 0 ≤ (1 : Int) ∧ (1 : Int) ≤ 4 ∧ 0 ≤ ix ∧ ix < ((2 ^ (1 : Int).toNat : Nat) : Int)
     ·
      obtain ⟨s, HSG, HEN, HDE, HRS2, HVF, HKY⟩ := HGOOD.out hg
      have HSG1 := Lib.hid (HSG.out wr HB4.out)
      clear HGOOD HBAD HSG
      go_wp2_with (refine wpList_load_row rfl 41 (.tmp 6) rfl (w.heap.size + 1) rfl 41 SD (0, 0) _ HRS4.out Tryz.underlying41 rfl HSZ.out ?_)
      refine HSG1.out.mono ?_
      clear v0 a0 a1 a2 a3 a4 a5 a6 a7
      rintro e V5 ⟨m, rfl, hat, hb⟩
      have HAT5 := Lib.hid hat
      clear hat HSG1
      have HRL5 := Lib.hid (row_on HRL4.out hb)
      have HRS5 := Lib.hid (row_on HRS4.out hb)
      have HB5 := Lib.hid (chain HB4.out hb)
      clear hb HRL4 HRS4 HB4
      unfold rlC
      dsimp only
      go_upto_region 13 with (fail)
      have HN := Lib.hid (heap_alloc_new V5 (.cells #[Value.string s.iss, .int .u64 s.num, .int .i64 s.fr, .int .i64 s.tt, .slice m.SA s.ser.length m.sc, .int .i64 s.sg.idx, .slice m.CA s.sg.cs.length m.cc, .slice m.PA s.sg.ps.length m.pc] 32))
      obtain ⟨M1, hM⟩ : ∃ q, V5.heap.size = q := ⟨_, rfl⟩
      rw [hM] at HN ⊢
      generalize hV : World.alloc V5 _ = V6 at HN ⊢
      have hb : Below V5.heap.size V5 V6 := by rw [← hV]; exact below_new _ _
      clear hV hM
      have HMA6 := HN
      clear HN
      have HRL6 := Lib.hid (row_on HRL5.out hb)
      have HRS6 := Lib.hid (row_on HRS5.out hb)
      have HAT6 := Lib.hid (HAT5.out.on hb)
      have HB6 := Lib.hid (chain HB5.out hb)
      clear hb HRL5 HRS5 HAT5 HB5
      obtain ⟨hl1, p0, p1, p2, p3, p4, p5, p6, p7⟩ := facts8 HMA6.out
      go_wp2_with fail
      have hen := HEN.out m V6 HAT6.out
      unfold rlC at hen
      refine hen.mono ?_
      clear hen
      rintro e V7 ⟨A1, d1, rfl, q1, q2, q3, hb⟩
      have HQ := Lib.hid (And.intro q1 q2)
      have HS7 := Lib.hid q3
      clear q1 q2 q3 HMA6 HEN HAT6
      clear hl1 p0 p1 p2 p3 p4 p5 p6 p7
      have HRL7 := Lib.hid (row_on HRL6.out hb)
      have HRS7 := Lib.hid (row_on HRS6.out hb)
      have HB7 := Lib.hid (chain HB6.out hb)
      clear hb HRL6 HRS6 HB6
      go_wp2_with fail
      refine (HDE.out A1 d1 V7 HQ.out.1 HQ.out.2 HS7.out).mono ?_
      rintro e V8 ⟨m2, rfl, hat, hb⟩
      have HAT8 := Lib.hid hat
      clear hat HDE HS7
      have HRL8 := Lib.hid (row_on HRL7.out hb)
      have HRS8 := Lib.hid (row_on HRS7.out hb)
      have HB8 := Lib.hid (chain HB7.out hb)
      clear hb HRL7 HRS7 HB7
      unfold rlC
      dsimp only
      go_upto_region 17 with (fail)
      have HN := Lib.hid (heap_alloc_new V8 (.cells #[Value.string s.iss, .int .u64 s.num, .int .i64 s.fr, .int .i64 s.tt, .slice m2.SA s.ser.length m2.sc, .int .i64 s.sg.idx, .slice m2.CA s.sg.cs.length m2.cc, .slice m2.PA s.sg.ps.length m2.pc] 32))
      obtain ⟨M2, hM⟩ : ∃ q, V8.heap.size = q := ⟨_, rfl⟩
      rw [hM] at HN ⊢
      generalize hV : World.alloc V8 _ = V9 at HN ⊢
      have hb : Below V8.heap.size V8 V9 := by rw [← hV]; exact below_new _ _
      clear hV hM
      have HMA9 := HN
      clear HN
      have HRL9 := Lib.hid (row_on HRL8.out hb)
      have HRS9 := Lib.hid (row_on HRS8.out hb)
      have HAT9 := Lib.hid (HAT8.out.on hb)
      have HB9 := Lib.hid (chain HB8.out hb)
      clear hb HRL8 HRS8 HAT8 HB8
      obtain ⟨hl1, p0, p1, p2, p3, p4, p5, p6, p7⟩ := facts8 HMA9.out
      go_wp2_with fail
      have hrs := HRS2.out m2 V9 HAT9.out
      unfold rlC at hrs
      refine hrs.mono ?_
      clear hrs
      rintro e V10 ⟨rfl, hb⟩
      clear HRS2
      clear hl1 p0 p1 p2 p3 p4 p5 p6 p7
      have HRL10 := Lib.hid (row_on HRL9.out hb)
      have HRS10 := Lib.hid (row_on HRS9.out hb)
      have HMA10 := Lib.hid (row_on HMA9.out hb)
      have HAT10 := Lib.hid (HAT9.out.on hb)
      have HB10 := Lib.hid (chain HB9.out hb)
      clear hb HRL9 HRS9 HMA9 HAT9 HB9
      go_wp2_with (refine wpList_load_row rfl 41 (.tmp 6) rfl (w.heap.size + 1) rfl 41 SD (0, 0) _ HRS10.out Tryz.underlying41 rfl HSZ.out ?_)
      refine (HKY.out V10 HB10.out).mono ?_
      rintro e V11 ⟨rfl, hb⟩
      clear HKY
      have HRL11 := Lib.hid (row_on HRL10.out hb)
      have HRS11 := Lib.hid (row_on HRS10.out hb)
      have HMA11 := Lib.hid (row_on HMA10.out hb)
      have HAT11 := Lib.hid (HAT10.out.on hb)
      have HB11 := Lib.hid (chain HB10.out hb)
      clear hb HRL10 HRS10 HMA10 HAT10 HB10
      go_upto_region 19 with (refine wpList_store_row rfl 43 (.tmp 22) (.tmp 119) rfl V11.heap.size PK rfl rfl 43 _ (heap_alloc_new _ _) HSZK.out HSOK.out HONE.out ?_)
      rw [World.setRow_alloc_new]
      generalize hV : World.alloc V11 _ = V12
      have hb : Below V11.heap.size V11 V12 := by rw [← hV]; exact below_new _ _
      have HK12 : RowKit.Hid (V12.heap[V11.heap.size]? = some (.cells PK 43 (0, 0))) := Lib.hid (by rw [← hV]; exact heap_alloc_new _ _)
      obtain ⟨KB, hKB⟩ : ∃ KB, V11.heap.size = KB := ⟨_, rfl⟩
      rw [hKB] at HK12
      try simp only [hKB]
      clear hV hKB
      have HRL12 := Lib.hid (row_on HRL11.out hb)
      have HRS12 := Lib.hid (row_on HRS11.out hb)
      have HMA12 := Lib.hid (row_on HMA11.out hb)
      have HAT12 := Lib.hid (HAT11.out.on hb)
      have HB12 := Lib.hid (chain HB11.out hb)
      clear hb HRL11 HRS11 HMA11 HAT11 HB11
      obtain ⟨hl1, p0, p1, p2, p3, p4, p5, p6, p7⟩ := facts8 HMA12.out
      have hvf := HVF.out m2 V12 HAT12.out HB12.out
      unfold rlC at hvf
      go_wp2_with (first | (refine wpList_load_wantedS (by rfl) 43 (.tmp 22) rfl KB rfl 43 PK (0, 0) HK12.out Tryz.underlying43 HSZK2.out ?_) | fail)
      refine hvf.mono ?_
      rintro e V13 ⟨rfl, hb⟩
      have HB13 := Lib.hid (chain HB12.out hb)
      clear hb
      go_wp2_with fail
      refine bodyPost_ret (v := .bool true) (by simp [results, Tryz.results5, go_sem]) rfl ⟨rfl, HB13.out⟩
     ·
      have HSB1 := Lib.hid (HBAD.out hg wr HB4.out)
      clear HGOOD HBAD
      go_wp2_with (refine wpList_load_row rfl 41 (.tmp 6) rfl (w.heap.size + 1) rfl 41 SD (0, 0) _ HRS4.out Tryz.underlying41 rfl HSZ.out ?_)
      refine HSB1.out.mono ?_
      clear v0 a0 a1 a2 a3 a4 a5 a6 a7
      rintro e V5 ⟨mb, rfl, hat, hb⟩
      clear hat HSB1
      have HRL5 := Lib.hid (row_on HRL4.out hb)
      have HRS5 := Lib.hid (row_on HRS4.out hb)
      have HB5 := Lib.hid (chain HB4.out hb)
      clear hb HRL4 HRS4 HB4
      unfold rlC
      dsimp only [List.length_nil]
      go_upto_region 13 with (fail)
      generalize hV : World.alloc V5 _ = V6
      have hb : Below V5.heap.size V5 V6 := by rw [← hV]; exact below_new _ _
      clear hV
      have HRL6 := Lib.hid (row_on HRL5.out hb)
      have HRS6 := Lib.hid (row_on HRS5.out hb)
      have HB6 := Lib.hid (chain HB5.out hb)
      clear hb HRL5 HRS5 HB5
      by_cases hi : ix < 0
      ·
       go_wp2_with fail
       refine bodyPost_ret (v := .bool true) (by simp [results, Tryz.results5, go_sem]) rfl ⟨rfl, HB6.out⟩
      ·
       have hi2 : ix > 1 := by
        have := hg
        simp only [not_and, show ((1 : Int).toNat) = 1 from rfl] at this
        have h2 : ((2 ^ 1 : Nat) : Int) = 2 := rfl
        rw [h2] at this
        have h3 := this (by decide) (by decide) (by omega)
        omega
       go_wp2_with fail
       refine bodyPost_ret (v := .bool true) (by simp [results, Tryz.results5, go_sem]) rfl ⟨rfl, HB6.out⟩
  ·
   have hvb := HVB.out.2 h0
   rw [hvb]
   clear hvb HVB HGB
   obtain ⟨hl0, f0, f1, f2, f3, f4, f5, f6, f7⟩ := facts8 HRL4.out
   go_wp2_with fail
   refine (HCK.out V4 HB4.out).mono ?_
   rintro e V5 ⟨rfl, hb⟩
   clear hl0 f0 f1 f2 f3 f4 f5 f6 f7
   have HRL5 := Lib.hid (row_on HRL4.out hb)
   have HRS5 := Lib.hid (row_on HRS4.out hb)
   have HB5 := Lib.hid (chain HB4.out hb)
   clear hb HRL4 HRS4 HB4
   go_wp2_with fail
   refine bodyPost_ret (v := .bool true) (by simp [results, Tryz.results5, go_sem]) rfl ⟨rfl, HB5.out⟩
theorem exact_open (l : Rl) (p : Mp) (hcp : Caps p) (hwf : Wf l) (t : Int) (seed : List UInt8) (hs : seed.length = 16) (ix : Int) (w : World) (a1 : Nums p.SA l.ser w) (a2 : Shs p.CA l.sg.cs w) (a3 : Shs p.PA l.sg.ps w) (env : DEnv w) :
  Calls Tryz.prog 5 #[.agg (rlC l p), .int .u64 t, .agg (bcells seed), .int .i64 ix] w fun e w' => e = .returned (.bool true) ∧ Below w.heap.size w w' :=
 exact_any l p hcp hwf t seed hs ix w a1 a2 a3 env
end Sg
end Go.Proofs.YtcgffkkfeimifaaGreatDoor
