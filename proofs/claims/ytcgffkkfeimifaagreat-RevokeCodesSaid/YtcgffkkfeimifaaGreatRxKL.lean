import Derived.Test.YtcgffkkfeimifaaGreatRxFH
import Derived.Test.YtcgffkkfeimifaaGreatOcRK
import Derived.Deep.RegionHeld3
import Derived.Test.YtcgffkkfeimifaaGreatRvFK
namespace Go.Proofs.YtcgffkkfeimifaaGreat
namespace Sg
open Go.RowKit Sha Oc
set_option linter.unusedVariables false
set_option linter.unusedSimpArgs false
def LsPost (L : List UInt8) (E : Int) (w : World) (e : Ending) (w' : World) : Prop := ∃ A c, e = .returned (.tuple #[.slice A L.length c, .int .i64 E]) ∧ SrcAt A L w' ∧ Below w.heap.size w w'
def bdL (o : Oct) (E : Int) : List UInt8 := if E = 0 then enc o else []
theorem lspost_of {o : Oct} {E : Int} {w : World} {e : Ending} {w' : World} (h : EbPost o E w e w') : LsPost (bdL o E) E w e w' := by
 obtain ⟨hb, ⟨h0, v, rfl, hown⟩ | ⟨h0, rfl⟩⟩ := h
 ·
  obtain ⟨A, c, rfl, h1, h2, h3⟩ := bytes_own8 hown
  unfold bdL
  rw [if_pos h0, h0]
  exact ⟨A, c, rfl, h3, hb⟩
 ·
  unfold bdL
  rw [if_neg h0]
  exact ⟨none, 0, rfl, fun hne => absurd rfl hne, hb⟩
theorem srcAt_on8 {A : Option Addr} {L : List UInt8} {w V : World} (h : SrcAt A L w) (hb : Below w.heap.size w V) : SrcAt A L V := fun hne => by
 obtain ⟨g, o, e, k⟩ := h hne
 exact ⟨g, o, e, fun j x hx => by rw [hb.cell (p := ⟨g, o + j, none⟩) (World.block_lt_of_cell? _ _ (k j x hx))]; exact k j x hx⟩
theorem rvC_big (l : Rl) (o : Oct) (hE : rvC l = 0 → (enc o).length ≤ 7400) : (bdL o (rvC l)).length ≤ 1000000 := by
 unfold bdL
 by_cases h : rvC l = 0
 ·
  rw [if_pos h]
  have := hE h
  omega
 ·
  rw [if_neg h]
  exact Nat.zero_le _
set_option maxRecDepth 100000 in
set_option maxHeartbeats 8000000 in
theorem codes_any (hRD : ∀ (b : List UInt8), b.length ≤ 20000 → ∀ (A : Option Addr) (c : Nat), b.length ≤ c → c ≤ 140737488355328 → (A = none → c = 0) → ∀ (V : World), SrcAt A b V → Calls Tryz.prog 10 #[.slice A b.length c] V (RvdPost (rvD b) V))
  (l : Rl) (p : Mp) (hwf : Wf l) (b : List UInt8) (A : Option Addr) (c : Nat) (hc : b.length ≤ c) (hcm : c ≤ 140737488355328) (hA : A = none → c = 0) (w : World) (a1 : Nums p.SA l.ser w) (a2 : Shs p.CA l.sg.cs w) (a3 : Shs p.PA l.sg.ps w) (hs : SrcAt A b w) :
  Calls Tryz.prog 3 #[.agg (rlC l p), .slice A b.length c] w fun e w' => e = .returned (.bool true) ∧ Below w.heap.size w w' := by
 have hgr := fun (V : World) => great_any l p V
 have HA : RowKit.Hid (grB l = false → RlAt l p w ∧ l.iss.size ≤ maxLen) := Lib.hid (fun h => by
  unfold grB at h
  rw [decide_eq_false_iff_not] at h
  exact ⟨⟨a1, a2, a3, by omega, by omega, by omega⟩, by unfold maxLen; omega⟩)
 have he1 := fun (hz : l.iss.size ≤ maxLen) (V : World) (h : RlAt l p V) => (encode_rev l p hz hwf V h).mono fun e z k => lspost_of k
 have he2 := fun (hz : l.iss.size ≤ maxLen) (V : World) (h : RlAt l p V) => (rencode_ref l p hz hwf V h).mono fun e z k => lspost_of k
 have hb1 := fun (hz : l.iss.size ≤ maxLen) (V : World) (h : RlAt l p V) => (body_any l p hz hwf V h).mono fun e z k => lspost_of k
 have hb2 := fun (hz : l.iss.size ≤ maxLen) (V : World) (h : RlAt l p V) => (rbody_ref l p hz hwf V h).mono fun e z k => lspost_of k
 have hl1 := rvC_big l (rlV l) (fun h0 => (fit_ck (hwf.fit h0)).2.2.2)
 have hl2 := rvC_big l (rbv (rbOf l)) (fun h0 => by have := (fit_ck (hwf.fit h0)).2.2.1; omega)
 obtain ⟨E, hE⟩ : ∃ E, rvC l = E := ⟨_, rfl⟩
 rw [hE] at he1 he2 hb1 hb2 hl1 hl2
 obtain ⟨L1, hL1⟩ : ∃ L, bdL (rlV l) E = L := ⟨_, rfl⟩
 obtain ⟨L2, hL2⟩ : ∃ L, bdL (rbv (rbOf l)) E = L := ⟨_, rfl⟩
 rw [hL1] at he1 he2 hl1
 rw [hL2] at hb1 hb2 hl2
 unfold LsPost at he1 he2 hb1 hb2
 have hs1 := fun (V : World) (A A' : Option Addr) (c c' : Nat) (h : SrcAt A L1 V) (h' : SrcAt A' L1 V) => (show Calls Tryz.prog 11 #[.slice A L1.length c, .slice A' L1.length c'] V (fun e w' => e = .returned (.bool true) ∧ Below V.heap.size V w') from by
  have k := samebytes_any L1 L1 A A' c c' hl1 hl1 V h h'
  rw [decide_eq_true (rfl : L1 = L1)] at k
  exact k)
 have hs2 := fun (V : World) (A A' : Option Addr) (c c' : Nat) (h : SrcAt A L2 V) (h' : SrcAt A' L2 V) => (show Calls Tryz.prog 11 #[.slice A L2.length c, .slice A' L2.length c'] V (fun e w' => e = .returned (.bool true) ∧ Below V.heap.size V w') from by
  have k := samebytes_any L2 L2 A A' c c' hl2 hl2 V h h'
  rw [decide_eq_true (rfl : L2 = L2)] at k
  exact k)
 have hs3 := fun (hb : b.length ≤ 20000) (V : World) (A A' : Option Addr) (c c' : Nat) (h : SrcAt A b V) (h' : SrcAt A' b V) => (show Calls Tryz.prog 11 #[.slice A b.length c, .slice A' b.length c'] V (fun e w' => e = .returned (.bool true) ∧ Below V.heap.size V w') from by
  have k := samebytes_any b b A A' c c' (by omega) (by omega) V h h'
  rw [decide_eq_true (rfl : b = b)] at k
  exact k)
 have hd1 := fun (hb : b.length ≤ 20000) (V : World) (h : SrcAt A b V) => rdecode_any b (by omega) A c hc hA V h
 have hd2 := fun (hb : b.length ≤ 20000) (V : World) (h : SrcAt A b V) => hRD b hb A c hc hcm hA V h
 obtain ⟨r, hr⟩ : ∃ r, rvD b = r := ⟨_, rfl⟩
 obtain ⟨k, E3⟩ := r
 rw [hr] at hd1 hd2
 unfold RvdPost at hd1 hd2
 have hsm := fun (V : World) (m m' : Mp) (h : RlAt k m V) (h' : RlAt k m' V) => (show Calls Tryz.prog 12 #[.agg (rlC k m), .agg (rlC k m')] V (fun e w' => e = .returned (.bool true) ∧ Below V.heap.size V w') from by
  have q := revsame_ref k k m m' V h h'
  rw [decide_eq_true (rfl : k = k)] at q
  exact q)
 obtain ⟨n, hn⟩ : ∃ n, b.length = n := ⟨_, rfl⟩
 obtain ⟨n1, hn1⟩ : ∃ n, L1.length = n := ⟨_, rfl⟩
 obtain ⟨n2, hn2⟩ : ∃ n, L2.length = n := ⟨_, rfl⟩
 obtain ⟨G, hG⟩ : ∃ G, grB l = G := ⟨_, rfl⟩
 rw [hG] at HA hgr
 rw [hn] at hs3 hd1 hd2 ⊢
 rw [hn1] at he1 he2 hs1
 rw [hn2] at hb1 hb2 hs2
 dsimp only at hd1 hd2
 have HNB := Lib.hid hn
 have HGR := Lib.hid hgr
 have HE1 := Lib.hid he1
 have HE2 := Lib.hid he2
 have HBD1 := Lib.hid hb1
 have HBD2 := Lib.hid hb2
 have HS1 := Lib.hid hs1
 have HS2 := Lib.hid hs2
 have HS3 := Lib.hid hs3
 have HD1 := Lib.hid hd1
 have HD2 := Lib.hid hd2
 have HSM := Lib.hid hsm
 have HSRC := Lib.hid hs
 have HAN := Lib.hid hA
 have HR0 := Lib.hid (heap_alloc_new w (.cells #[Value.string l.iss, .int .u64 l.num, .int .i64 l.fr, .int .i64 l.tt, .slice p.SA l.ser.length p.sc, .int .i64 l.sg.idx, .slice p.CA l.sg.cs.length p.cc, .slice p.PA l.sg.ps.length p.pc] 30))
 have HB0 := Lib.hid (below_new w (.cells #[Value.string l.iss, .int .u64 l.num, .int .i64 l.fr, .int .i64 l.tt, .slice p.SA l.ser.length p.sc, .int .i64 l.sg.idx, .slice p.CA l.sg.cs.length p.cc, .slice p.PA l.sg.ps.length p.pc] 30))
 clear hgr he1 he2 hb1 hb2 hs1 hs2 hs3 hd1 hd2 hsm hs hA hn hn1 hn2 hG hr hL1 hL2 hE hl1 hl2 hwf hc hcm a1 a2 a3 hRD
 unfold rlC at HGR HE1 HE2 HBD1 HBD2 ⊢
 go_enter Tryz.func3, Tryz.ntmps3
 go_upto_region 1 with (fail)
 generalize hV0 : World.alloc w _ = V1 at HR0 HB0 ⊢
 clear hV0
 obtain ⟨hl0, f0, f1, f2, f3, f4, f5, f6, f7⟩ := facts8 HR0.out
 go_wp2_with fail
 refine (HGR.out V1).mono ?_
 rintro e V2 ⟨rfl, hb⟩
 have HR2 := Lib.hid (row_on HR0.out hb)
 have HB2 := Lib.hid (chain HB0.out hb)
 clear hb HR0 HB0 HGR hl0 f0 f1 f2 f3 f4 f5 f6 f7
 cases G with
 | true =>
  go_wp2_with fail
  refine bodyPost_ret (v := .bool true) (by simp [results, Tryz.results3, go_sem]) rfl ⟨rfl, HB2.out⟩
 | false =>
  by_cases hbig : 20000 < n
  ·
   have hbig' : (20000 : Int) < (n : Int) := by omega
   go_wp2_with fail
   refine bodyPost_ret (v := .bool true) (by simp [results, Tryz.results3, go_sem]) rfl ⟨rfl, HB2.out⟩
  ·
   have hbig' : ¬ (20000 : Int) < (n : Int) := by omega
   obtain ⟨ha, hz⟩ := HA.out rfl
   have HSB := Lib.hid (HS3.out (by omega))
   have HDD1 := Lib.hid (HD1.out (by omega))
   have HDD2 := Lib.hid (HD2.out (by omega))
   have HE11 := Lib.hid (HE1.out hz)
   have HE21 := Lib.hid (HE2.out hz)
   have HB11 := Lib.hid (HBD1.out hz)
   have HB21 := Lib.hid (HBD2.out hz)
   have HAT := Lib.hid ha
   have hn5 : n ≤ 20000 := by omega
   clear ha hz HS3 HD1 HD2 HE1 HE2 HBD1 HBD2 HA
   have hown0 : ∀ (g : Nat) (V : World), V.heap[g]? = some (.cells #[] 5 (0, 0)) → V.ownsRow g 5 1 (.slice (some ⟨g, 0, none⟩) 0 0) 0 [] := fun g V h => ⟨rfl, .inr ⟨g, 0, #[], rfl, Nat.le_refl _, h, Nat.le_refl _, Nat.zero_le _, rfl, rfl⟩⟩
   go_upto_region 3 with (fail)
   clear hbig hbig'
   go_upto_region 4 with (at_builtin; go_loud (refine append_src_at rfl (.tmp 25) (.tmp 26) rfl V2.heap.size (.slice (some ⟨V2.heap.size, 0, none⟩) 0 0) 0 [] rfl (hown0 _ _ (heap_alloc_new V2 _)) A b c n HNB.out rfl HAN.out (srcAt_on8 (srcAt_on8 HSRC.out HB2.out) (below_new V2 _)) (by omega) (by simp) ?_); intro v3 V3 hg3; have HG3 := Lib.hid hg3; clear hg3)
   have hbv : Below V2.heap.size V2 V3 := (below_new V2 _).trans (HG3.out.below (hown0 _ _ (heap_alloc_new V2 _)) (by simp))
   have hown3 : V3.ownsRow V2.heap.size 5 1 v3 b.length (bvals b) := by
    have h := HG3.out.own
    rw [Nat.zero_add, List.nil_append] at h
    rw [HNB.out]
    exact h
   obtain ⟨AK, cK, e3, _, _, hsK⟩ := bytes_own8 hown3
   rw [HNB.out] at e3
   subst e3
   have HK3 := Lib.hid hsK
   have HR3 := Lib.hid (row_on HR2.out hbv)
   have HB3 := Lib.hid (chain HB2.out hbv)
   clear hbv hown3 hsK HG3 hown0 HR2 HB2
   obtain ⟨hl0, f0, f1, f2, f3, f4, f5, f6, f7⟩ := facts8 HR3.out
   go_wp2_with fail
   refine (HE11.out V3 (HAT.out.on HB3.out)).mono ?_
   rintro e V4 ⟨Ax, cx, rfl, hs, hb⟩
   have HX4 := Lib.hid hs
   have HK4 := Lib.hid (srcAt_on8 HK3.out hb)
   have HR4 := Lib.hid (row_on HR3.out hb)
   have HB4 := Lib.hid (chain HB3.out hb)
   clear hs hb HE11 HR3 HB3 HK3 hl0 f0 f1 f2 f3 f4 f5 f6 f7
   obtain ⟨hl0, f0, f1, f2, f3, f4, f5, f6, f7⟩ := facts8 HR4.out
   go_wp2_with fail
   refine (HE21.out V4 (HAT.out.on HB4.out)).mono ?_
   rintro e V5 ⟨Ay, cy, rfl, hs, hb⟩
   have HY5 := Lib.hid hs
   have HK5 := Lib.hid (srcAt_on8 HK4.out hb)
   have HX5 := Lib.hid (srcAt_on8 HX4.out hb)
   have HR5 := Lib.hid (row_on HR4.out hb)
   have HB5 := Lib.hid (chain HB4.out hb)
   clear hs hb HE21 HR4 HB4 HK4 HX4 hl0 f0 f1 f2 f3 f4 f5 f6 f7
   obtain ⟨hl0, f0, f1, f2, f3, f4, f5, f6, f7⟩ := facts8 HR5.out
   go_wp2_with fail
   refine (HB11.out V5 (HAT.out.on HB5.out)).mono ?_
   rintro e V6 ⟨Au, cu, rfl, hs, hb⟩
   have HU6 := Lib.hid hs
   have HK6 := Lib.hid (srcAt_on8 HK5.out hb)
   have HX6 := Lib.hid (srcAt_on8 HX5.out hb)
   have HY6 := Lib.hid (srcAt_on8 HY5.out hb)
   have HR6 := Lib.hid (row_on HR5.out hb)
   have HB6 := Lib.hid (chain HB5.out hb)
   clear hs hb HB11 HR5 HB5 HK5 HX5 HY5 hl0 f0 f1 f2 f3 f4 f5 f6 f7
   obtain ⟨hl0, f0, f1, f2, f3, f4, f5, f6, f7⟩ := facts8 HR6.out
   go_wp2_with fail
   refine (HB21.out V6 (HAT.out.on HB6.out)).mono ?_
   rintro e V7 ⟨Av, cv, rfl, hs, hb⟩
   have HW7 := Lib.hid hs
   have HK7 := Lib.hid (srcAt_on8 HK6.out hb)
   have HX7 := Lib.hid (srcAt_on8 HX6.out hb)
   have HY7 := Lib.hid (srcAt_on8 HY6.out hb)
   have HU7 := Lib.hid (srcAt_on8 HU6.out hb)
   have HR7 := Lib.hid (row_on HR6.out hb)
   have HB7 := Lib.hid (chain HB6.out hb)
   clear hs hb HB21 HR6 HB6 HK6 HX6 HY6 HU6 hl0 f0 f1 f2 f3 f4 f5 f6 f7
   go_wp2_with fail
   refine (HDD1.out V7 (srcAt_on8 HSRC.out HB7.out)).mono ?_
   rintro e V8 ⟨m1, rfl, hl, hb⟩
   have HL8 := Lib.hid hl
   have HK8 := Lib.hid (srcAt_on8 HK7.out hb)
   have HX8 := Lib.hid (srcAt_on8 HX7.out hb)
   have HY8 := Lib.hid (srcAt_on8 HY7.out hb)
   have HU8 := Lib.hid (srcAt_on8 HU7.out hb)
   have HW8 := Lib.hid (srcAt_on8 HW7.out hb)
   have HB8 := Lib.hid (chain HB7.out hb)
   clear hl hb HDD1 HB7 HK7 HX7 HY7 HU7 HW7
   unfold rlC
   dsimp only
   go_upto_region 9 with (fail)
   have HP := Lib.hid (heap_alloc_new V8 (.cells #[Value.string k.iss, .int .u64 k.num, .int .i64 k.fr, .int .i64 k.tt, .slice m1.SA k.ser.length m1.sc, .int .i64 k.sg.idx, .slice m1.CA k.sg.cs.length m1.cc, .slice m1.PA k.sg.ps.length m1.pc] 30))
   obtain ⟨m1B, hm1B⟩ : ∃ M, V8.heap.size = M := ⟨_, rfl⟩
   rw [hm1B] at HP ⊢
   generalize hV6 : World.alloc V8 _ = V9 at HP ⊢
   have hb : Below V8.heap.size V8 V9 := by rw [← hV6]; exact below_new _ _
   have HP9 := HP
   have HL9 := Lib.hid (HL8.out.on hb)
   have HK9 := Lib.hid (srcAt_on8 HK8.out hb)
   have HX9 := Lib.hid (srcAt_on8 HX8.out hb)
   have HY9 := Lib.hid (srcAt_on8 HY8.out hb)
   have HU9 := Lib.hid (srcAt_on8 HU8.out hb)
   have HW9 := Lib.hid (srcAt_on8 HW8.out hb)
   have HB9 := Lib.hid (chain HB8.out hb)
   clear hb hV6 hm1B HP HB8 HL8 HK8 HX8 HY8 HU8 HW8
   go_wp2_with fail
   refine (HDD2.out V9 (srcAt_on8 HSRC.out HB9.out)).mono ?_
   rintro e V10 ⟨m2, rfl, hl, hb⟩
   have HM10 := Lib.hid hl
   have HK10 := Lib.hid (srcAt_on8 HK9.out hb)
   have HX10 := Lib.hid (srcAt_on8 HX9.out hb)
   have HY10 := Lib.hid (srcAt_on8 HY9.out hb)
   have HU10 := Lib.hid (srcAt_on8 HU9.out hb)
   have HW10 := Lib.hid (srcAt_on8 HW9.out hb)
   have HP10 := Lib.hid (row_on HP9.out hb)
   have HL10 := Lib.hid (HL9.out.on hb)
   have HB10 := Lib.hid (chain HB9.out hb)
   clear hl hb HDD2 HB9 HK9 HX9 HY9 HU9 HW9
   unfold rlC
   dsimp only
   go_upto_region 10 with (fail)
   have HQ := Lib.hid (heap_alloc_new V10 (.cells #[Value.string k.iss, .int .u64 k.num, .int .i64 k.fr, .int .i64 k.tt, .slice m2.SA k.ser.length m2.sc, .int .i64 k.sg.idx, .slice m2.CA k.sg.cs.length m2.cc, .slice m2.PA k.sg.ps.length m2.pc] 30))
   obtain ⟨m2B, hm2B⟩ : ∃ M, V10.heap.size = M := ⟨_, rfl⟩
   rw [hm2B] at HQ ⊢
   generalize hV6 : World.alloc V10 _ = V11 at HQ ⊢
   have hb : Below V10.heap.size V10 V11 := by rw [← hV6]; exact below_new _ _
   have HQ11 := HQ
   have HM11 := Lib.hid (HM10.out.on hb)
   have HK11 := Lib.hid (srcAt_on8 HK10.out hb)
   have HX11 := Lib.hid (srcAt_on8 HX10.out hb)
   have HY11 := Lib.hid (srcAt_on8 HY10.out hb)
   have HU11 := Lib.hid (srcAt_on8 HU10.out hb)
   have HW11 := Lib.hid (srcAt_on8 HW10.out hb)
   have HP11 := Lib.hid (row_on HP10.out hb)
   have HL11 := Lib.hid (HL10.out.on hb)
   have HB11 := Lib.hid (chain HB10.out hb)
   clear hb hV6 hm2B HQ HB10 HM10 HK10 HX10 HY10 HU10 HW10
   go_wp2_with fail
   refine (HS1.out V11 _ _ _ _ HX11.out HY11.out).mono ?_
   rintro e V12 ⟨rfl, hb⟩
   have HK12 := Lib.hid (srcAt_on8 HK11.out hb)
   have HX12 := Lib.hid (srcAt_on8 HX11.out hb)
   have HY12 := Lib.hid (srcAt_on8 HY11.out hb)
   have HU12 := Lib.hid (srcAt_on8 HU11.out hb)
   have HW12 := Lib.hid (srcAt_on8 HW11.out hb)
   have HP12 := Lib.hid (row_on HP11.out hb)
   have HQ12 := Lib.hid (row_on HQ11.out hb)
   have HL12 := Lib.hid (HL11.out.on hb)
   have HM12 := Lib.hid (HM11.out.on hb)
   have HB12 := Lib.hid (chain HB11.out hb)
   clear hb HK11 HX11 HY11 HU11 HW11 HP11 HQ11 HL11 HM11 HB11
   go_wp2_with fail
   refine (HS2.out V12 _ _ _ _ HU12.out HW12.out).mono ?_
   rintro e V13 ⟨rfl, hb⟩
   have HK13 := Lib.hid (srcAt_on8 HK12.out hb)
   have HX13 := Lib.hid (srcAt_on8 HX12.out hb)
   have HY13 := Lib.hid (srcAt_on8 HY12.out hb)
   have HU13 := Lib.hid (srcAt_on8 HU12.out hb)
   have HW13 := Lib.hid (srcAt_on8 HW12.out hb)
   have HP13 := Lib.hid (row_on HP12.out hb)
   have HQ13 := Lib.hid (row_on HQ12.out hb)
   have HL13 := Lib.hid (HL12.out.on hb)
   have HM13 := Lib.hid (HM12.out.on hb)
   have HB13 := Lib.hid (chain HB12.out hb)
   clear hb HK12 HX12 HY12 HU12 HW12 HP12 HQ12 HL12 HM12 HB12
   obtain ⟨hl9, q0, q1, q2, q3, q4, q5, q6, q7⟩ := facts8 HP13.out
   obtain ⟨hl0, f0, f1, f2, f3, f4, f5, f6, f7⟩ := facts8 HQ13.out
   go_wp2_with fail
   have h := HSM.out V13 m1 m2 HL13.out HM13.out
   unfold rlC at h
   refine h.mono ?_
   clear h
   rintro e V14 ⟨rfl, hb⟩
   have HK14 := Lib.hid (srcAt_on8 HK13.out hb)
   have HX14 := Lib.hid (srcAt_on8 HX13.out hb)
   have HY14 := Lib.hid (srcAt_on8 HY13.out hb)
   have HU14 := Lib.hid (srcAt_on8 HU13.out hb)
   have HW14 := Lib.hid (srcAt_on8 HW13.out hb)
   have HP14 := Lib.hid (row_on HP13.out hb)
   have HQ14 := Lib.hid (row_on HQ13.out hb)
   have HL14 := Lib.hid (HL13.out.on hb)
   have HM14 := Lib.hid (HM13.out.on hb)
   have HB14 := Lib.hid (chain HB13.out hb)
   clear hb HK13 HX13 HY13 HU13 HW13 HP13 HQ13 HL13 HM13 HB13
   clear hl9 q0 q1 q2 q3 q4 q5 q6 q7 hl0 f0 f1 f2 f3 f4 f5 f6 f7
   go_wp2_with fail
   refine (HSB.out V14 _ _ _ _ (srcAt_on8 HSRC.out HB14.out) HK14.out).mono ?_
   rintro e V15 ⟨rfl, hb⟩
   have HK15 := Lib.hid (srcAt_on8 HK14.out hb)
   have HX15 := Lib.hid (srcAt_on8 HX14.out hb)
   have HY15 := Lib.hid (srcAt_on8 HY14.out hb)
   have HU15 := Lib.hid (srcAt_on8 HU14.out hb)
   have HW15 := Lib.hid (srcAt_on8 HW14.out hb)
   have HP15 := Lib.hid (row_on HP14.out hb)
   have HQ15 := Lib.hid (row_on HQ14.out hb)
   have HL15 := Lib.hid (HL14.out.on hb)
   have HM15 := Lib.hid (HM14.out.on hb)
   have HB15 := Lib.hid (chain HB14.out hb)
   clear hb HK14 HX14 HY14 HU14 HW14 HP14 HQ14 HL14 HM14 HB14
   go_wp2_with fail
   refine bodyPost_ret (v := .bool true) (by simp [results, Tryz.results3, go_sem]) rfl ⟨rfl, HB15.out⟩
end Sg
end Go.Proofs.YtcgffkkfeimifaaGreat
namespace Go.Proofs.YtcgffkkfeimifaaGreat
namespace Sg
open Go.RowKit Sha Oc
set_option linter.unusedVariables false
set_option linter.unusedSimpArgs false
abbrev o13d : Oper := { dst := Option.none, op := Go.Op.store 30 (Go.Operand.tmp 7) (Go.Operand.tmp 33), type := 0, pos := "ref.go:79", after := #[{ on := 12, ground := Go.Ground.data }, { on := 11, ground := Go.Ground.data }, { on := 10, ground := Go.Ground.chain }, { on := 0, ground := Go.Ground.phase }, { on := 1, ground := Go.Ground.phase }, { on := 2, ground := Go.Ground.phase }, { on := 3, ground := Go.Ground.phase }, { on := 4, ground := Go.Ground.phase }, { on := 5, ground := Go.Ground.phase }, { on := 6, ground := Go.Ground.phase }, { on := 7, ground := Go.Ground.phase }, { on := 8, ground := Go.Ground.phase }, { on := 9, ground := Go.Ground.phase }, { on := 10, ground := Go.Ground.phase }, { on := 11, ground := Go.Ground.phase }, { on := 12, ground := Go.Ground.phase }], guard := Option.none }
theorem kid_le (v : Oct) (k : Nat) : cnt (kid v k) ≤ cnt v ∧ tot (kid v k) ≤ tot v := by
 cases h : (kids v)[k]? with
 | some o =>
  rw [kid_of h]
  exact kid_small h
 | none =>
  have e : kid v k = nilO := by
   unfold kid
   rw [List.getD_eq_getElem?_getD, h]
   rfl
  rw [e]
  exact ⟨by have := cnt_pos v; exact this, Nat.zero_le _⟩
theorem kids_le (v : Oct) : (kids v).length ≤ cnt v ∧ (bytO v).length ≤ tot v := by
 obtain ⟨t, b, l⟩ := v
 have := len_cnts l
 rw [cnt, tot]
 exact ⟨by show l.length ≤ _; omega, by show b.length ≤ _; omega⟩
end Sg
end Go.Proofs.YtcgffkkfeimifaaGreat
namespace Go.Proofs.YtcgffkkfeimifaaGreat
namespace Sg
open Go.RowKit Sha Oc
set_option linter.unusedVariables false
set_option linter.unusedSimpArgs false
set_option maxRecDepth 100000 in
set_option maxHeartbeats 2000000 in
theorem at10_from (v : Oct) (k : Nat) (hkl : (kids v).length ≤ 100000) (w0 : World) (x y : Value) (hat : At (fun _ => True) w0 v x y) (w : World) (hbw : Below w0.heap.size w0 w) :
  Calls Tryz.prog 26 #[y, .int .i64 (k : Int)] w (fun e w' => ∃ x y, e = .returned (.agg (cell3 (kid v k) x y)) ∧ At (fun _ => True) w0 (kid v k) x y ∧ Below w.heap.size w w') := by
 have mv : ∀ (g p : Nat) (u : Value), w0.cell? ⟨g, p, none⟩ = some u → w.cell? ⟨g, p, none⟩ = some u := fun g p u h => by rw [hbw.cell (p := ⟨g, p, none⟩) (World.block_lt_of_cell? _ _ h)]; exact h
 obtain ⟨t, b, l⟩ := v
 obtain ⟨A, c, B, d, g, off, vb, vl, rfl, rfl, _, _, _, _, _, hd, hdn, he⟩ := hat.elsR
 obtain ⟨n, hn⟩ : ∃ n, l.length = n := ⟨_, rfl⟩
 by_cases hlt : k < n
 ·
  obtain ⟨o, ho⟩ : ∃ o, l[k]? = some o := ⟨_, List.getElem?_eq_getElem (by omega)⟩
  have hko : kid (.mk t b l) k = o := kid_of ho
  rw [hko, hn]
  have hBB := (he.hB (fun e => by rw [e] at ho; simp at ho)).1
  subst hBB
  have c0 := mv _ _ _ (he.h0 k o ho)
  have c1 := mv _ _ _ (he.h1 k o ho)
  have c2 := mv _ _ _ (he.h2 k o ho)
  have hat2 := he.hr k o ho
  obtain ⟨A1, m1, k1, B1, n1, q1, e1, e2⟩ := hat2.slices
  rw [e1] at c1 hat2
  rw [e2] at c2 hat2
  have HAT := Lib.hid hat2
  have hki : (k : Int) < (n : Int) := by omega
  have HC := Lib.hid (And.intro c0 (And.intro c1 c2))
  have HR0 := Lib.hid (heap_alloc_new w (.cells #[.int .u8 0, .slice none 0 0, .slice none 0 0] 50))
  have HB0 := Lib.hid (below_new w (.cells #[.int .u8 0, .slice none 0 0, .slice none 0 0] 50))
  obtain ⟨tz, htz⟩ : ∃ tz : Int, ((tagO o).toNat : Int) = tz := ⟨_, rfl⟩
  have HTZ := Lib.hid htz
  rw [htz] at HC
  clear mv hko he hat hat2 e1 e2 c0 c1 c2 ho htz
  go_enter Tryz.func26, Tryz.ntmps26
  go_upto_region 1 with (fail)
  generalize hV : World.alloc w _ = V at HR0 HB0 ⊢
  clear hV
  have hc : ∀ (p : Nat) (u : Value), w.cell? ⟨g, p, none⟩ = some u → V.cell? ⟨g, p, none⟩ = some u := fun p u h => by rw [HB0.out.cell (p := ⟨g, p, none⟩) (World.block_lt_of_cell? _ _ h)]; exact h
  have d0 := hc _ _ HC.out.1
  have d1 := hc _ _ HC.out.2.1
  have d2 := hc _ _ HC.out.2.2
  clear hc
  obtain ⟨hl0, f0, f1, f2⟩ := facts3 HR0.out
  have z0 : V.frozen? ⟨w.heap.size, 0, none⟩ = false := frozen_of_row _ _ _ _ _ HR0.out
  have z1 : V.frozen? ⟨w.heap.size, 1, none⟩ = false := frozen_of_row _ _ _ _ _ HR0.out
  have z2 : V.frozen? ⟨w.heap.size, 2, none⟩ = false := frozen_of_row _ _ _ _ _ HR0.out
  go_wp2_with fail
  generalize hW : World.setCell _ _ _ = W
  have hW' : V.setCells w.heap.size 0 [Value.int .u8 tz, .slice A1 m1 k1, .slice B1 n1 q1] = W := hW
  have hrow : W.heap[w.heap.size]? = some (.cells #[Value.int .u8 tz, .slice A1 m1 k1, .slice B1 n1 q1] 50 (0, 0)) := by rw [← hW']; exact row_setCells8 HR0.out rfl
  have hb : Below w.heap.size w W := by rw [← hW']; exact below_setCells8 _ _ _ HB0.out (Nat.le_refl _)
  clear hW hW'
  obtain ⟨_, y0, y1, y2⟩ := facts3 hrow
  refine bodyPost_ret (v := .agg #[.int .u8 tz, .slice A1 m1 k1, .slice B1 n1 q1]) (by simp [results, Tryz.results26, go_sem, y0, y1, y2]) rfl ⟨_, _, by rw [← HTZ.out], HAT.out, hb⟩
 ·
  have hko : kid (.mk t b l) k = nilO := by
   unfold kid
   have : (kids (.mk t b l))[k]? = none := List.getElem?_eq_none (by show l.length ≤ k; omega)
   rw [List.getD_eq_getElem?_getD, this]
   rfl
  rw [hko, hn]
  have hki : ¬ (k : Int) < (n : Int) := by omega
  have hki2 : (n : Int) ≤ (k : Int) := by omega
  have hki3 : ¬ (k : Int) < 0 := by omega
  have HR0 := Lib.hid (heap_alloc_new w (.cells #[.int .u8 0, .slice none 0 0, .slice none 0 0] 50))
  have HB0 := Lib.hid (below_new w (.cells #[.int .u8 0, .slice none 0 0, .slice none 0 0] 50))
  clear hko he hat
  go_enter Tryz.func26, Tryz.ntmps26
  go_upto_region 1 with (fail)
  generalize hV : World.alloc w _ = V at HR0 HB0 ⊢
  clear hV
  obtain ⟨hl0, f0, f1, f2⟩ := facts3 HR0.out
  have z0 : V.frozen? ⟨w.heap.size, 0, none⟩ = false := frozen_of_row _ _ _ _ _ HR0.out
  have z1 : V.frozen? ⟨w.heap.size, 1, none⟩ = false := frozen_of_row _ _ _ _ _ HR0.out
  have z2 : V.frozen? ⟨w.heap.size, 2, none⟩ = false := frozen_of_row _ _ _ _ _ HR0.out
  go_wp2_with fail
  generalize hW : World.setCell _ _ _ = W
  have hW' : V.setCells w.heap.size 0 [Value.int .u8 0, .slice none 0 0, .slice none 0 0] = W := hW
  have hrow : W.heap[w.heap.size]? = some (.cells #[Value.int .u8 0, .slice none 0 0, .slice none 0 0] 50 (0, 0)) := by rw [← hW']; exact row_setCells8 HR0.out rfl
  have hb : Below w.heap.size w W := by rw [← hW']; exact below_setCells8 _ _ _ HB0.out (Nat.le_refl _)
  clear hW hW'
  obtain ⟨_, y0, y1, y2⟩ := facts3 hrow
  refine bodyPost_ret (v := .agg #[.int .u8 0, .slice none 0 0, .slice none 0 0]) (by simp [results, Tryz.results26, go_sem, y0, y1, y2]) rfl ⟨_, _, rfl, at_nil w0, hb⟩
theorem at_els {R : Nat → Prop} {w : World} {o : Oct} {x y : Value} (h : At R w o x y) : ∃ A m c B d g off vb vl, x = .slice A m c ∧ y = .slice B (kids o).length d ∧ ElsR R w B (kids o) g off vb vl := by
 obtain ⟨t, b, l⟩ := o
 obtain ⟨A, c, B, d, g, off, vb, vl, rfl, rfl, _, _, _, _, _, _, _, he⟩ := h.elsR
 exact ⟨A, _, c, B, d, g, off, vb, vl, rfl, rfl, he⟩
theorem bu_cell {M : Nat} {U Z z : World} (hb : Below U.heap.size U Z) (hm : U.heap.size ≤ M) (k : Bu M M Z z) {g p : Nat} {u : Value} (h : U.cell? ⟨g, p, none⟩ = some u) : z.cell? ⟨g, p, none⟩ = some u := by
 have hg : g < U.heap.size := World.block_lt_of_cell? _ _ h
 exact cell_same ((k.oth g (Nat.lt_of_lt_of_le hg hb.size) (by omega) (by omega)).trans (hb.block g hg)) h
theorem bu_at {M : Nat} {U Z z : World} {o : Oct} {x y : Value} (h : At (fun _ => True) U o x y) (hb : Below U.heap.size U Z) (hm : U.heap.size ≤ M) (k : Bu M M Z z) : At (fun _ => True) z o x y :=
 h.to fun g p u hu _ => ⟨bu_cell hb hm k hu, trivial⟩
theorem shs_bu1 {M : Nat} {W0 z : World} {A : Option Addr} {ls : List (List UInt8)} {c : Array Value} {T : TypeId} {fr : Nat × Nat} (h : Shs A ls W0) (hr : W0.heap[M]? = some (.cells c T fr)) (hc : c.size < 16) (k : Bu M M W0 z) : Shs A ls z :=
 ⟨fun i l hi => by
  obtain ⟨g, o, e, hl⟩ := h.row i l hi
  have hl16 := h.len l (List.mem_of_getElem? hi)
  refine ⟨g, o, e, ?_⟩
  have hne : g ≠ M := fun e2 => by
   subst e2
   have h1 := hl 15 (.int .u8 ((l[15]'(by omega)).toNat : Int)) (by unfold bvals; rw [List.getElem?_map, List.getElem?_eq_getElem (by omega)]; rfl)
   rw [cell_of_row _ _ _ _ _ _ hr, Array.getElem?_eq_none (by omega)] at h1
   cases h1
  intro j v hj
  have h1 := hl j v hj
  exact cell_same (k.oth g (World.block_lt_of_cell? _ _ h1) hne hne) h1, h.len⟩
theorem fin8 {U z : World} {M : Nat} {C1 C2 : Option Addr} {l1 l2 : List (List UInt8)} {c0 : Array Value} {R : List Value} {T : TypeId} (hm : z.heap[M]? = some (.cells c0 T (0, 0))) (hc : c0.size < 16) (hr : (z.setCells M 0 R).heap[M]? = some (.cells R.toArray T (0, 0))) (h1 : Shs C1 l1 z) (h2 : Shs C2 l2 z) (hb : Below U.heap.size U z) (hu : U.heap.size ≤ M) : U.heap.size ≤ M ∧ (z.setCells M 0 R).heap[M]? = some (.cells R.toArray T (0, 0)) ∧ Shs C1 l1 (z.setCells M 0 R) ∧ Shs C2 l2 (z.setCells M 0 R) ∧ Below U.heap.size U (z.setCells M 0 R) :=
 have ho := fun (b : Nat) (h : b ≠ M) => heap_setCells_other R 0 z h
 ⟨hu, hr, shs_keep h1 hm hc ho, shs_keep h2 hm hc ho, below_setCells R 0 z hb hu⟩
theorem chO_len (b : List UInt8) : (chO b).length = b.length / 16 := by
 unfold chO
 rw [chs_len]
end Sg
end Go.Proofs.YtcgffkkfeimifaaGreat
