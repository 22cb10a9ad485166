import Derived.Test.YtcgffkkfeimifaaGreatDoorRvSU
import Derived.Test.YtcgffkkfeimifaaGreatDoorMkOP
import Derived.Test.YtcgffkkfeimifaaGreatDoorSgJP
namespace Go.Proofs.YtcgffkkfeimifaaGreatDoor
open Go.RowKit Sha Ots
set_option linter.unusedVariables false
set_option linter.unusedSimpArgs false
def vf7 (D : List UInt8) (cs ps : List (List UInt8)) (R : List UInt8) (x n : Int) : Bool := decide (chkV x n cs.length ps.length = 0) && (rtV D cs ps x n == R)
namespace Sg
open Oc
theorem shorts_of {A : Option Addr} {ls : List (List UInt8)} {w : World} (h : Shs A ls w) : Shorts A ls w := ⟨h.row, h.len⟩
theorem verify_vf (R : List UInt8) (hR : R.length = 16) (x : Int) (D : List UInt8) (A : Option Addr) (c : Nat) (hl : D.length ≤ 100000) (hc : D.length ≤ c) (hcm : c ≤ maxLen) (n : Int) (CA PA : Option Addr) (cs ps : List (List UInt8)) (cc pc : Nat) (w : World) (hsrc : SrcAt A D w) (hsc : Shs CA cs w) (hsp : Shs PA ps w) (env : DEnv w) :
  Calls Tryz.prog 27 #[.agg (pkc R x), .slice A D.length c, .agg #[.int .i64 n, .slice CA cs.length cc, .slice PA ps.length pc]] w fun e w' => e = .returned (.bool (vf7 D cs ps R x n)) ∧ Below w.heap.size w w' :=
 verify_all R hR x D A c hl hc hcm n CA PA cs ps cc pc w hsrc (shorts_of hsc) (shorts_of hsp) env
def vfV (l : Rl) (R : List UInt8) (x : Int) : Int := if rvC l = 0 then (if vf7 (enc (rbv (rbOf l))) l.sg.cs l.sg.ps R x l.sg.idx = true then 0 else 22) else rvC l
def VbPost (D : List UInt8) (E : Int) (w : World) (e : Ending) (w' : World) : Prop := ∃ A c n, e = .returned (.tuple #[.slice A n c, .int .i64 E]) ∧ (E = 0 → n = D.length ∧ n ≤ c ∧ c ≤ maxLen ∧ SrcAt A D w') ∧ (E ≠ 0 → n = 0) ∧ Below w.heap.size w w'
theorem vbpost_of {o : Oct} {E : Int} {w : World} {e : Ending} {w' : World} (h : EbPost o E w e w') : VbPost (enc o) E w e w' := by
 obtain ⟨hb, ⟨h0, v, rfl, hown⟩ | ⟨h0, rfl⟩⟩ := h
 ·
  obtain ⟨A, c, rfl, h1, h2, h3, h4⟩ := bytes_own hown
  exact ⟨A, c, _, by rw [h0], fun _ => ⟨rfl, h1, h3, h4⟩, fun h => absurd h0 h, hb⟩
 ·
  exact ⟨none, 0, 0, rfl, fun h => absurd h h0, fun _ => rfl, hb⟩
set_option maxRecDepth 100000 in
set_option maxHeartbeats 8000000 in
theorem verify_rev (l : Rl) (p : Mp) (hz : l.iss.size ≤ maxLen) (hwf : Wf l) (R : List UInt8) (hR : R.length = 16) (x : Int) (w : World) (h : RlAt l p w) (env : DEnv w) :
  Calls Tryz.prog 17 #[.agg (rlC l p), .agg (pkc R x)] w fun e w' => e = .returned (.int .i64 (vfV l R x)) ∧ Below w.heap.size w w' := by
 have hbd := fun (V : World) (hb : Below w.heap.size w V) => (body_any l p hz hwf V (h.on hb)).mono fun e z k => vbpost_of k
 have hln := fun (h0 : rvC l = 0) => (show (enc (rbv (rbOf l))).length ≤ 100000 by have := (fit_ck (hwf.fit h0)).2.2.1; omega)
 have hvf := fun (h0 : rvC l = 0) (V : World) (hb : Below w.heap.size w V) (A : Option Addr) (c : Nat) (h1 : (enc (rbv (rbOf l))).length ≤ c) (h2 : c ≤ maxLen) (h3 : SrcAt A (enc (rbv (rbOf l))) V) => verify_vf R hR x (enc (rbv (rbOf l))) A c (hln h0) h1 h2 l.sg.idx p.CA p.PA l.sg.cs l.sg.ps p.cc p.pc V h3 (h.on hb).cs (h.on hb).ps (env.on hb)
 have hsz := sz17 R x hR
 unfold vfV
 obtain ⟨v7, hv7⟩ : ∃ v7, vf7 (enc (rbv (rbOf l))) l.sg.cs l.sg.ps R x l.sg.idx = v7 := ⟨_, rfl⟩
 obtain ⟨D, hD⟩ : ∃ D, enc (rbv (rbOf l)) = D := ⟨_, rfl⟩
 obtain ⟨E, hE⟩ : ∃ E, rvC l = E := ⟨_, rfl⟩
 rw [hv7] at hvf ⊢
 rw [hD] at hbd hvf
 rw [hE] at hbd hvf ⊢
 obtain ⟨PK, hPK⟩ : ∃ PK, pkc R x = PK := ⟨_, rfl⟩
 rw [hPK] at hvf hsz ⊢
 unfold VbPost at hbd
 unfold rlC at hbd ⊢
 obtain ⟨c5, g5⟩ : ∃ c : Value, .int .i64 l.sg.idx = c := ⟨_, rfl⟩
 obtain ⟨c6, g6⟩ : ∃ c : Value, .slice p.CA l.sg.cs.length p.cc = c := ⟨_, rfl⟩
 obtain ⟨c7, g7⟩ : ∃ c : Value, .slice p.PA l.sg.ps.length p.pc = c := ⟨_, rfl⟩
 rw [g5, g6, g7] at hbd hvf ⊢
 have HBD := Lib.hid hbd
 have HVF := Lib.hid hvf
 have HSZ := Lib.hid hsz
 obtain ⟨hw0, hra, hrb⟩ := two_rows w (.cells #[.string l.iss, .int .u64 l.num, .int .i64 l.fr, .int .i64 l.tt, .slice p.SA l.ser.length p.sc, c5, c6, c7] 32) (.cells PK 43)
 have HRL := Lib.hid hra
 have HRK := Lib.hid hrb
 have HB0 := Lib.hid hw0
 clear hbd hvf hsz hw0 hra hrb hln hv7 hD hE hPK g5 g6 g7 h hz hwf hR env
 go_enter Tryz.func17, Tryz.ntmps17
 go_upto_region 1 with (fail)
 generalize World.alloc (World.alloc w _) _ = V0 at HRL HRK HB0 ⊢
 obtain ⟨hl0, f0, f1, f2, f3, f4, f5, f6, f7⟩ := facts8 HRL.out
 go_wp2_with fail
 refine (HBD.out V0 HB0.out).mono ?_
 rintro e V1 ⟨A1, c1, n1, rfl, hy, hn, hb⟩
 have HY := Lib.hid hy
 have HRL1 := Lib.hid (row_on HRL.out hb)
 have HRK1 := Lib.hid (row_on HRK.out hb)
 have HB1 := Lib.hid (chain HB0.out hb)
 clear hy hn hb hl0 f0 f1 f2 f3 f4 f5 f6 f7 HRL HRK HB0 HBD
 by_cases h0 : E = 0
 ·
  obtain ⟨rfl, q1, q2, q3⟩ := HY.out h0
  have HC := Lib.hid (HVF.out h0 V1 HB1.out A1 c1 q1 q2 q3)
  subst h0
  clear q1 q2 q3 HVF HY
  obtain ⟨hl0, f0, f1, f2, f3, f4, f5, f6, f7⟩ := facts8 HRL1.out
  have hrg := range3 HRL1.out
  go_wp2_with (refine wpList_load_row rfl 43 (.tmp 3) rfl (w.heap.size + 1) rfl 43 PK (0, 0) _ HRK1.out Tryz.underlying43 rfl HSZ.out ?_)
  refine HC.out.mono ?_
  rintro e V2 ⟨rfl, hb⟩
  have HB2 := Lib.hid (chain HB1.out hb)
  clear hb hl0 f0 f1 f2 f3 f4 f5 f6 f7 hrg
  cases v7 with
  | true =>
   go_wp2_with fail
   refine bodyPost_ret (v := .int .i64 0) (by simp [results, Tryz.results17, go_sem]) rfl ⟨by simp, HB2.out⟩
  | false =>
   go_wp2_with fail
   refine bodyPost_ret (v := .int .i64 22) (by simp [results, Tryz.results17, go_sem]) rfl ⟨by simp, HB2.out⟩
 ·
  clear HVF HY
  go_wp2_with fail
  refine bodyPost_ret (v := .int .i64 E) (by simp [results, Tryz.results17, go_sem]) rfl ⟨by first | rfl | rw [if_neg h0], HB1.out⟩
end Sg
end Go.Proofs.YtcgffkkfeimifaaGreatDoor
namespace Go.Proofs.YtcgffkkfeimifaaGreatDoor
open Go.RowKit Sha Ots
set_option linter.unusedVariables false
set_option linter.unusedSimpArgs false
namespace Sg
open Oc
theorem wpList_load_wantedS {ops : Array Oper} {rest : List Oper} {o : Oper} {a : Act} {w : World} {Q : Exit → Act → World → Prop} (hw : Region.wanted o (yielded ops a.tmps) = true) (ty : TypeId) (x : Operand) (ho : o.op = .load ty x)
  (g : Nat) (hx : a.eval x = .pointer (some ⟨g, 0, none⟩)) (t : TypeId) (cs : Array Value) (fr : Nat × Nat) {fs} (hg : w.heap[g]? = some (.cells cs t fr)) (hu : Tryz.prog.underlying ty = some (.struct fs)) (hi : (Tryz.prog.info? ty).map (·.size) = some cs.size)
  (h : wpList Tryz.prog ops Q rest (a.put o.dst (.agg cs)) w) : wpList Tryz.prog ops Q (o :: rest) a w :=
 wpList_step fun K hK => by
  simp only [hw, if_true]
  exact wp_load_row ty x ho g hx t cs fr _ hg hu rfl hi (hK _ _ h)
theorem range3s {z : World} {g : Nat} {a b c : Value} {T : TypeId} {fr : Nat × Nat} (h : z.heap[g]? = some (.cells #[a, b, c] T fr)) : z.rangeAt g 0 [a, b, c] := fun j v hv => by
 rw [Nat.zero_add, cell_of_row _ _ _ _ _ _ h, List.getElem?_toArray]
 exact hv
theorem three_rows3 (w : World) (a1 a2 a3 : Array Value) (T1 T2 T3 : TypeId) : Below w.heap.size w (((w.alloc (.cells a1 T1)).alloc (.cells a2 T2)).alloc (.cells a3 T3)) ∧ (((w.alloc (.cells a1 T1)).alloc (.cells a2 T2)).alloc (.cells a3 T3)).heap[w.heap.size]? = some (.cells a1 T1) ∧ (((w.alloc (.cells a1 T1)).alloc (.cells a2 T2)).alloc (.cells a3 T3)).heap[w.heap.size + 1]? = some (.cells a2 T2) ∧ (((w.alloc (.cells a1 T1)).alloc (.cells a2 T2)).alloc (.cells a3 T3)).heap[w.heap.size + 2]? = some (.cells a3 T3) := by
 obtain ⟨h1, h2, h3⟩ := two_rows w (.cells a1 T1) (.cells a2 T2)
 obtain ⟨h4, h5, h6⟩ := two_rows (w.alloc (.cells a1 T1)) (.cells a2 T2) (.cells a3 T3)
 have b := below_new ((w.alloc (.cells a1 T1)).alloc (.cells a2 T2)) (.cells a3 T3)
 have h7 : (w.alloc (.cells a1 T1)).heap.size = w.heap.size + 1 := by
  have q1 := (Array.getElem?_eq_some_iff.1 (heap_alloc_new w (.cells a1 T1))).1
  show (w.heap.push _).size = _
  exact Array.size_push _
 rw [h7] at h6
 exact ⟨chain h1 b, row_on h2 b, row_on h3 b, h6⟩
theorem src_keep {A : Option Addr} {D : List UInt8} {w w' : World} {X : Nat} {a b c d e f g h : Value} {T : TypeId} {fr : Nat × Nat} (hs : SrcAt A D w) (hr : w.heap[X]? = some (.cells #[a, b, c, d, e, f, g, h] T fr)) (ho : ∀ b, b ≠ X → w'.heap[b]? = w.heap[b]?) (hn : ∀ v ∈ [a, b, c, d, e, f, g, h], ∀ n : Int, v ≠ .int .u8 n := by simp) : SrcAt A D w' := fun hne => by
 obtain ⟨G, o, e1, hk⟩ := hs hne
 refine ⟨G, o, e1, fun j x hj => ?_⟩
 have h1 := hk j x hj
 have hg : G ≠ X := fun e2 => by
  subst e2
  rw [cell_of_row _ _ _ _ _ _ hr, ← Array.getElem?_toList] at h1
  exact hn _ (List.mem_of_getElem? h1) _ rfl
 simp only [World.cell?] at h1 ⊢
 rw [ho G hg]
 exact h1
set_option maxRecDepth 100000 in
set_option maxHeartbeats 16000000 in
theorem verifies_any (l : Rl) (p : Mp) (hcp : Caps p) (hwf : Wf l) (n : Int) (cs ps : List (List UInt8)) (CA PA : Option Addr) (cc pc : Nat) (hcn : CA = none → cc = 0) (hpn : PA = none → pc = 0) (R : List UInt8) (hR : R.length = 16) (x : Int) (w : World) (a1 : Nums p.SA l.ser w) (a2 : Shs p.CA l.sg.cs w) (a3 : Shs p.PA l.sg.ps w) (b2 : Shs CA cs w) (b3 : Shs PA ps w) (env : DEnv w) :
  Calls Tryz.prog 6 #[.agg (rlC l p), .agg #[.int .i64 n, .slice CA cs.length cc, .slice PA ps.length pc], .agg (pkc R x)] w fun e w' => e = .returned (.bool true) ∧ Below w.heap.size w w' := by
 have HAL := Lib.hid (fun (V : World) => alive11_any V)
 have hg1 := fun (V : World) => great_any l p V
 have hg2 := fun (V : World) => greatsig_any n CA PA cs.length cc ps.length pc V
 have HA : RowKit.Hid (grB l = false → RlAt l p w ∧ l.iss.size ≤ maxLen) := Lib.hid (fun h => by
  unfold grB at h
  rw [decide_eq_false_iff_not] at h
  exact ⟨⟨a1, a2, a3, by omega, by omega, by omega⟩, by unfold maxLen; omega⟩)
 have HLK0 : RowKit.Hid (decide (60 < cs.length ∨ 60 < ps.length) = false → cs.length ≤ 100000 ∧ ps.length ≤ 100000) := Lib.hid (fun h => by
  rw [decide_eq_false_iff_not] at h
  omega)
 have hbl := fun (hz : l.iss.size ≤ maxLen) (h : RlAt l p w) (V : World) (hb : Below w.heap.size w V) => (body_any l p hz hwf V (h.on hb)).mono fun e z k => vbpost_of k
 have hvr := fun (hz : l.iss.size ≤ maxLen) (h : RlAt l p w) (V : World) (hb : Below w.heap.size w V) => verify_rev l p hz hwf R hR x V (h.on hb) (env.on hb)
 have hln := fun (h0 : rvC l = 0) => (show (enc (rbv (rbOf l))).length ≤ 100000 by have := (fit_ck (hwf.fit h0)).2.2.1; omega)
 have hvf := fun (h0 : rvC l = 0) (h : RlAt l p w) (V : World) (hb : Below w.heap.size w V) (A : Option Addr) (c : Nat) (h1 : (enc (rbv (rbOf l))).length ≤ c) (h2 : c ≤ maxLen) (h3 : SrcAt A (enc (rbv (rbOf l))) V) => verify_vf R hR x (enc (rbv (rbOf l))) A c (hln h0) h1 h2 l.sg.idx p.CA p.PA l.sg.cs l.sg.ps p.cc p.pc V h3 (h.on hb).cs (h.on hb).ps (env.on hb)
 have hbo := fun (hz : l.iss.size ≤ maxLen) (V : World) (m : Mp) (h : RlAt { l with sg := ⟨n, cs, ps⟩ } m V) => (body_any { l with sg := ⟨n, cs, ps⟩ } m hz ⟨hwf.num, hwf.ser, b2.len, b3.len⟩ V h).mono fun e z k => vbpost_of k
 have hob : enc (rbv (rbOf { l with sg := ⟨n, cs, ps⟩ })) = enc (rbv (rbOf l)) := rfl
 rw [hob] at hbo
 have hsb := fun (h0 : rvC l = 0) (V : World) (A A' : Option Addr) (c c' : Nat) (h : SrcAt A (enc (rbv (rbOf l))) V) (h' : SrcAt A' (enc (rbv (rbOf l))) V) => (show Calls Tryz.prog 26 #[.slice A (enc (rbv (rbOf l))).length c, .slice A' (enc (rbv (rbOf l))).length c'] V (fun e w' => e = .returned (.bool true) ∧ Below V.heap.size V w') from by
  have k := samebytes_any _ _ A A' c c' (show (enc (rbv (rbOf l))).length ≤ 1000000 by have := hln h0; omega) (show (enc (rbv (rbOf l))).length ≤ 1000000 by have := hln h0; omega) V h h'
  rw [decide_eq_true (rfl : enc (rbv (rbOf l)) = enc (rbv (rbOf l)))] at k
  exact k)
 have hsz := sz17 R x hR
 obtain ⟨VV, hVV⟩ : ∃ VV, vfV l R x = VV := ⟨_, rfl⟩
 have hvv := hVV.symm
 unfold vfV at hvv
 obtain ⟨v7, hv7⟩ : ∃ v7, vf7 (enc (rbv (rbOf l))) l.sg.cs l.sg.ps R x l.sg.idx = v7 := ⟨_, rfl⟩
 obtain ⟨E2, hE2⟩ : ∃ E, rvC { l with sg := ⟨n, cs, ps⟩ } = E := ⟨_, rfl⟩
 obtain ⟨D, hD⟩ : ∃ D, enc (rbv (rbOf l)) = D := ⟨_, rfl⟩
 obtain ⟨E, hE⟩ : ∃ E, rvC l = E := ⟨_, rfl⟩
 obtain ⟨G1, hG1⟩ : ∃ G, grB l = G := ⟨_, rfl⟩
 obtain ⟨G2, hG2⟩ : ∃ G, decide (60 < cs.length ∨ 60 < ps.length) = G := ⟨_, rfl⟩
 obtain ⟨PK, hPK⟩ : ∃ PK, pkc R x = PK := ⟨_, rfl⟩
 rw [hG1] at HA hg1
 rw [hG2] at hg2 HLK0
 rw [hVV] at hvr
 rw [hv7] at hvv hvf
 rw [hE2] at hbo
 rw [hD] at hbl hvf hbo hsb
 rw [hE] at hbl hvf hsb hvv
 rw [hPK] at hvr hvf hsz ⊢
 unfold VbPost at hbl hbo
 have HTW0 := Lib.hid (fun (h : RlAt l p w) (V : World) (hB : Below w.heap.size w V) => rtwin_ref l p V (h.on hB) hcp)
 have HTS0 := Lib.hid (fun (h : G2 = false) (V : World) (hB : Below w.heap.size w V) => twin_ref n CA PA cs ps cc pc hcn hpn (HLK0.out h) V (b2.on hB) (b3.on hB))
 unfold rlC at hg1 hbl hvr HTW0 ⊢
 obtain ⟨c5, g5⟩ : ∃ c : Value, .int .i64 l.sg.idx = c := ⟨_, rfl⟩
 obtain ⟨c6, g6⟩ : ∃ c : Value, .slice p.CA l.sg.cs.length p.cc = c := ⟨_, rfl⟩
 obtain ⟨c7, g7⟩ : ∃ c : Value, .slice p.PA l.sg.ps.length p.pc = c := ⟨_, rfl⟩
 rw [g5, g6, g7] at hg1 hbl hvr HTW0 hvf ⊢
 have HG1 := Lib.hid hg1
 have HG2 := Lib.hid hg2
 have HBL := Lib.hid hbl
 have HVR := Lib.hid hvr
 have HVF0 := Lib.hid hvf
 have HBO0 := Lib.hid hbo
 have HSB0 := Lib.hid hsb
 have HVV := Lib.hid hvv
 have HSZ := Lib.hid hsz
 obtain ⟨hw0, hra, hrb, hrc⟩ := three_rows3 w #[Value.string l.iss, .int .u64 l.num, .int .i64 l.fr, .int .i64 l.tt, .slice p.SA l.ser.length p.sc, c5, c6, c7] #[.int .i64 n, .slice CA cs.length cc, .slice PA ps.length pc] PK 32 30 43
 have HRL0 := Lib.hid hra
 have HRG0 := Lib.hid hrb
 have HRK0 := Lib.hid hrc
 have HB0 := Lib.hid hw0
 clear hg1 hg2 hbl hvr hvf hbo hsb hvv hsz hw0 hra hrb hrc hln hob hVV hv7 hE2 hD hE hG1 hG2 hPK g5 g6 g7 hcp hwf hcn hpn hR a1 a2 a3 b2 b3 env
 go_enter Tryz.func6, Tryz.ntmps6
 go_upto_region 1 with (fail)
 generalize World.alloc (World.alloc (World.alloc w _) _) _ = V0 at HRL0 HRG0 HRK0 HB0 ⊢
 go_wp2_with fail
 refine (HAL.out V0).mono ?_
 rintro e V1 ⟨rfl, hb⟩
 clear HAL
 have HRL1 := Lib.hid (row_on HRL0.out hb)
 have HRG1 := Lib.hid (row_on HRG0.out hb)
 have HRK1 := Lib.hid (row_on HRK0.out hb)
 have HB1 := Lib.hid (chain HB0.out hb)
 clear hb HRL0 HRG0 HRK0 HB0
 obtain ⟨hl0, f0, f1, f2, f3, f4, f5, f6, f7⟩ := facts8 HRL1.out
 go_wp2_with fail
 refine (HG1.out V1).mono ?_
 rintro e V2 ⟨rfl, hb⟩
 clear HG1
 clear hl0 f0 f1 f2 f3 f4 f5 f6 f7
 have HRL2 := Lib.hid (row_on HRL1.out hb)
 have HRG2 := Lib.hid (row_on HRG1.out hb)
 have HRK2 := Lib.hid (row_on HRK1.out hb)
 have HB2 := Lib.hid (chain HB1.out hb)
 clear hb HRL1 HRG1 HRK1 HB1
 cases G1 with
 | true =>
  go_wp2_with fail
  refine bodyPost_ret (v := .bool true) (by simp [results, Tryz.results6, go_sem]) rfl ⟨rfl, HB2.out⟩
 | false =>
  obtain ⟨ha, hz⟩ := HA.out rfl
  have HAT := Lib.hid ha
  have HTW := Lib.hid (HTW0.out ha)
  have HBL1 := Lib.hid (HBL.out hz ha)
  have HVR1 := Lib.hid (HVR.out hz ha)
  have HVF1 := Lib.hid (fun h0 => HVF0.out h0 ha)
  have HBO := Lib.hid (HBO0.out hz)
  clear ha hz HA HBL HVR HVF0 HTW0 HBO0
  have hrgs := range3s HRG2.out
  obtain ⟨_, s0, s1, s2⟩ := facts3 HRG2.out
  go_wp2_with fail
  refine (HG2.out V2).mono ?_
  rintro e V3 ⟨rfl, hb⟩
  clear HG2 hrgs s0 s1 s2
  have HRL3 := Lib.hid (row_on HRL2.out hb)
  have HRG3 := Lib.hid (row_on HRG2.out hb)
  have HRK3 := Lib.hid (row_on HRK2.out hb)
  have HB3 := Lib.hid (chain HB2.out hb)
  clear hb HRL2 HRG2 HRK2 HB2
  cases G2 with
  | true =>
   go_wp2_with fail
   refine bodyPost_ret (v := .bool true) (by simp [results, Tryz.results6, go_sem]) rfl ⟨rfl, HB3.out⟩
  | false =>
   have HTS := Lib.hid (HTS0.out rfl)
   have HLK := Lib.hid (HLK0.out rfl)
   clear HTS0 HLK0
   obtain ⟨hl0, f0, f1, f2, f3, f4, f5, f6, f7⟩ := facts8 HRL3.out
   go_wp2_with fail
   refine (HBL1.out V3 HB3.out).mono ?_
   rintro e V4 ⟨A1, d1, n1, rfl, hy, hn, hb⟩
   have HY0 := Lib.hid (fun h => (hy h).1)
   have HY1 := Lib.hid (fun h => (show n1 ≤ d1 ∧ d1 ≤ maxLen ∧ SrcAt A1 D V4 from (hy h).2))
   have HN := Lib.hid hn
   clear hy hn HBL1
   clear hl0 f0 f1 f2 f3 f4 f5 f6 f7
   have HRL4 := Lib.hid (row_on HRL3.out hb)
   have HRG4 := Lib.hid (row_on HRG3.out hb)
   have HRK4 := Lib.hid (row_on HRK3.out hb)
   have HB4 := Lib.hid (chain HB3.out hb)
   clear hb HRL3 HRG3 HRK3 HB3
   obtain ⟨hl0, f0, f1, f2, f3, f4, f5, f6, f7⟩ := facts8 HRL4.out
   go_wp2_with (refine wpList_load_row rfl 43 (.tmp 5) rfl (w.heap.size + 2) rfl 43 PK (0, 0) _ HRK4.out Tryz.underlying43 rfl HSZ.out ?_)
   refine (HVR1.out V4 HB4.out).mono ?_
   rintro e V5 ⟨rfl, hb⟩
   have HY5 := Lib.hid (fun h => (show n1 ≤ d1 ∧ d1 ≤ maxLen ∧ SrcAt A1 D V5 from ⟨(HY1.out h).1, (HY1.out h).2.1, srcAt_on (HY1.out h).2.2 hb⟩))
   clear HVR1 HY1
   clear hl0 f0 f1 f2 f3 f4 f5 f6 f7
   have HRL5 := Lib.hid (row_on HRL4.out hb)
   have HRG5 := Lib.hid (row_on HRG4.out hb)
   have HRK5 := Lib.hid (row_on HRK4.out hb)
   have HB5 := Lib.hid (chain HB4.out hb)
   clear hb HRL4 HRG4 HRK4 HB4
   by_cases h0 : E = 0
   ·
    have hn1 := HY0.out h0
    obtain ⟨q1, q2, q3⟩ := HY5.out h0
    have HVF := Lib.hid (HVF1.out h0)
    have HSB := Lib.hid (HSB0.out h0)
    have hvv : VV = if v7 = true then 0 else 22 := by rw [HVV.out, if_pos h0]
    subst h0
    subst hn1
    have HS15 := Lib.hid q3
    have HCA := Lib.hid (And.intro q1 q2)
    clear q1 q2 q3 HY0 HY5 HN HVF1 HSB0 HVV
    cases v7 with
    | true =>
     have hv0 : VV = 0 := hvv
     rw [hv0]
     clear hvv hv0
     obtain ⟨hl0, f0, f1, f2, f3, f4, f5, f6, f7⟩ := facts8 HRL5.out
     go_wp2_with fail
     have hm1 := HTW.out V5 HB5.out
     unfold RTwin rlC at hm1
     refine hm1.mono ?_
     clear hm1
     rintro e V6 ⟨m1, rfl, hl, hb⟩
     have HTL := Lib.hid hl
     clear hl
     clear hl0 f0 f1 f2 f3 f4 f5 f6 f7
     have HRL6 := Lib.hid (row_on HRL5.out hb)
     have HRG6 := Lib.hid (row_on HRG5.out hb)
     have HRK6 := Lib.hid (row_on HRK5.out hb)
     have HB6 := Lib.hid (chain HB5.out hb)
     have HS16 := Lib.hid (srcAt_on HS15.out hb)
     clear hb HRL5 HRG5 HRK5 HB5 HS15
     go_upto_region 9 with (fail)
     have HM := Lib.hid (heap_alloc_new V6 (.cells #[Value.string l.iss, .int .u64 l.num, .int .i64 l.fr, .int .i64 l.tt, .slice m1.SA l.ser.length m1.sc, .int .i64 l.sg.idx, .slice m1.CA l.sg.cs.length m1.cc, .slice m1.PA l.sg.ps.length m1.pc] 32))
     obtain ⟨M, hM⟩ : ∃ M, V6.heap.size = M := ⟨_, rfl⟩
     rw [hM] at HM ⊢
     generalize hV7 : World.alloc V6 _ = V7 at HM ⊢
     have hb : Below V6.heap.size V6 V7 := by rw [← hV7]; exact below_new _ _
     have HLM := Lib.hid (show V6.heap.size ≤ M by omega)
     have HWM := Lib.hid (show w.heap.size + 3 ≤ M by have := (Array.getElem?_eq_some_iff.1 HRK6.out).1; omega)
     have HV67 := Lib.hid hb
     clear hV7
     have HRL7 := Lib.hid (row_on HRL6.out hb)
     have HRG7 := Lib.hid (row_on HRG6.out hb)
     have HRK7 := Lib.hid (row_on HRK6.out hb)
     have HB7 := Lib.hid (chain HB6.out hb)
     have HS17 := Lib.hid (srcAt_on HS16.out hb)
     clear hb HRL6 HRG6 HRK6 HB6 HS16
     have hrgs := range3s HRG7.out
     obtain ⟨_, s0, s1, s2⟩ := facts3 HRG7.out
     go_wp2_with fail
     have h := HTS.out V7 HB7.out
     unfold TwinPost at h
     refine h.mono ?_
     clear h
     rintro e V8 ⟨A5, A6, c5x, c6x, rfl, hs5, hs6, hb, _, _⟩
     have HM8 := Lib.hid (row_on HM.out hb)
     have HV68 := Lib.hid (HV67.out.trans (hb.mono HV67.out.size))
     have HS5 := Lib.hid hs5
     have HS6 := Lib.hid hs6
     clear hs5 hs6 hrgs s0 s1 s2 HM HV67
     have HRL8 := Lib.hid (row_on HRL7.out hb)
     have HRG8 := Lib.hid (row_on HRG7.out hb)
     have HRK8 := Lib.hid (row_on HRK7.out hb)
     have HB8 := Lib.hid (chain HB7.out hb)
     have HS18 := Lib.hid (srcAt_on HS17.out hb)
     clear hb HRL7 HRG7 HRK7 HB7 HS17
     obtain ⟨hl0, f0, f1, f2, f3, f4, f5, f6, f7⟩ := facts8 HM8.out
     obtain ⟨z0, z1, z2, z3, z4, z5, z6, z7⟩ := free8 HM8.out
     go_upto_region 10 with (fail)
     generalize hV9 : World.setCell _ _ _ = V9
     have hV9' : V8.setCells M 5 [.int .i64 n, .slice A5 cs.length c5x, .slice A6 ps.length c6x] = V9 := hV9
     clear hV9 z0 z1 z2 z3 z4 z5 z6 z7
     clear hl0 f0 f1 f2 f3 f4 f5 f6 f7
     have HM9 := Lib.hid (show V9.heap[M]? = some (.cells #[Value.string l.iss, .int .u64 l.num, .int .i64 l.fr, .int .i64 l.tt, .slice m1.SA l.ser.length m1.sc, .int .i64 n, .slice A5 cs.length c5x, .slice A6 ps.length c6x] 32 (0, 0)) by rw [← hV9']; exact heap_set3 HM8.out)
     have ho : ∀ b, b ≠ M → V9.heap[b]? = V8.heap[b]? := fun b hb => by rw [← hV9']; exact heap_setCells_other _ _ _ hb
     have HB9 := Lib.hid (show Below w.heap.size w V9 by rw [← hV9']; exact below_setCells _ _ _ HB8.out (by have := HWM.out; omega))
     have HRL9 := Lib.hid ((ho _ (by have := HWM.out; omega)).trans HRL8.out)
     have HRG9 := Lib.hid ((ho _ (by have := HWM.out; omega)).trans HRG8.out)
     have HRK9 := Lib.hid ((ho _ (by have := HWM.out; omega)).trans HRK8.out)
     have hb9 : Below M V8 V9 := by rw [← hV9']; exact below_setCells _ _ _ (Below.refl _ _) (Nat.le_refl _)
     have hb69 : Below V6.heap.size V6 V9 := by rw [← hV9']; exact below_setCells _ _ _ HV68.out HLM.out
     have hN : Nums m1.SA l.ser V9 := HTL.out.ser.on hb69
     have HAO9 := Lib.hid (show RlAt { l with sg := ⟨n, cs, ps⟩ } ⟨m1.SA, m1.sc, A5, c5x, A6, c6x⟩ V9 from ⟨hN, shs_keep HS5.out HM8.out (show 8 < 16 by decide) ho, shs_keep HS6.out HM8.out (show 8 < 16 by decide) ho, HTL.out.ls, HLK.out.1, HLK.out.2⟩)
     have HS19 := Lib.hid (src_keep HS18.out HM8.out ho)
     clear hN hb9 hb69 ho hV9' HM8 HRL8 HRG8 HRK8 HB8 HS18 HS5 HS6
     obtain ⟨hl0, f0, f1, f2, f3, f4, f5, f6, f7⟩ := facts8 HM9.out
     go_wp2_with fail
     have h := HBO.out V9 ⟨m1.SA, m1.sc, A5, c5x, A6, c6x⟩ HAO9.out
     unfold rlC at h
     refine h.mono ?_
     clear h
     rintro e V10 ⟨A2, d2, n2, rfl, hy, hn, hb⟩
     have HY2 := Lib.hid hy
     clear hy hn HM9 HAO9
     clear hl0 f0 f1 f2 f3 f4 f5 f6 f7
     have HRL10 := Lib.hid (row_on HRL9.out hb)
     have HRG10 := Lib.hid (row_on HRG9.out hb)
     have HRK10 := Lib.hid (row_on HRK9.out hb)
     have HB10 := Lib.hid (chain HB9.out hb)
     have HS110 := Lib.hid (srcAt_on HS19.out hb)
     clear hb HRL9 HRG9 HRK9 HB9 HS19
     by_cases h2 : E2 = 0
     ·
      subst h2
      obtain ⟨g2, _, _, hs2⟩ := HY2.out rfl
      rw [g2]
      go_wp2_with fail
      refine (HSB.out V10 A1 A2 d1 d2 HS110.out hs2).mono ?_
      rintro e V11 ⟨rfl, hb⟩
      clear hs2 g2 HY2
      have HRL11 := Lib.hid (row_on HRL10.out hb)
      have HRG11 := Lib.hid (row_on HRG10.out hb)
      have HRK11 := Lib.hid (row_on HRK10.out hb)
      have HB11 := Lib.hid (chain HB10.out hb)
      have HS111 := Lib.hid (srcAt_on HS110.out hb)
      clear hb HRL10 HRG10 HRK10 HB10 HS110
      have hve := HVF.out V11 HB11.out A1 d1 HCA.out.1 HCA.out.2 HS111.out
      obtain ⟨hl0, f0, f1, f2, f3, f4, f5, f6, f7⟩ := facts8 HRL11.out
      have hrg := range3 HRL11.out
      go_wp2_with (first | (refine wpList_load_wantedS (by rfl) 43 (.tmp 5) rfl (w.heap.size + 2) rfl 43 PK (0, 0) HRK11.out Tryz.underlying43 HSZ.out ?_) | fail)
      refine hve.mono ?_
      rintro e V12 ⟨rfl, hb⟩
      have HB12 := Lib.hid (chain HB11.out hb)
      clear hb
      go_wp2_with fail
      refine bodyPost_ret (v := .bool true) (by simp [results, Tryz.results6, go_sem]) rfl ⟨rfl, HB12.out⟩
     ·
      clear HY2
      have hve := HVF.out V10 HB10.out A1 d1 HCA.out.1 HCA.out.2 HS110.out
      obtain ⟨hl0, f0, f1, f2, f3, f4, f5, f6, f7⟩ := facts8 HRL10.out
      have hrg := range3 HRL10.out
      go_wp2_with (first | (refine wpList_load_wantedS (by rfl) 43 (.tmp 5) rfl (w.heap.size + 2) rfl 43 PK (0, 0) HRK10.out Tryz.underlying43 HSZ.out ?_) | fail)
      refine hve.mono ?_
      rintro e V12 ⟨rfl, hb⟩
      have HB12 := Lib.hid (chain HB10.out hb)
      clear hb
      go_wp2_with fail
      refine bodyPost_ret (v := .bool true) (by simp [results, Tryz.results6, go_sem]) rfl ⟨rfl, HB12.out⟩
    | false =>
     have hv0 : VV = 22 := hvv
     rw [hv0]
     clear hvv hv0
     obtain ⟨hl0, f0, f1, f2, f3, f4, f5, f6, f7⟩ := facts8 HRL5.out
     go_wp2_with fail
     have hm1 := HTW.out V5 HB5.out
     unfold RTwin rlC at hm1
     refine hm1.mono ?_
     clear hm1
     rintro e V6 ⟨m1, rfl, hl, hb⟩
     have HTL := Lib.hid hl
     clear hl
     clear hl0 f0 f1 f2 f3 f4 f5 f6 f7
     have HRL6 := Lib.hid (row_on HRL5.out hb)
     have HRG6 := Lib.hid (row_on HRG5.out hb)
     have HRK6 := Lib.hid (row_on HRK5.out hb)
     have HB6 := Lib.hid (chain HB5.out hb)
     have HS16 := Lib.hid (srcAt_on HS15.out hb)
     clear hb HRL5 HRG5 HRK5 HB5 HS15
     go_upto_region 9 with (fail)
     have HM := Lib.hid (heap_alloc_new V6 (.cells #[Value.string l.iss, .int .u64 l.num, .int .i64 l.fr, .int .i64 l.tt, .slice m1.SA l.ser.length m1.sc, .int .i64 l.sg.idx, .slice m1.CA l.sg.cs.length m1.cc, .slice m1.PA l.sg.ps.length m1.pc] 32))
     obtain ⟨M, hM⟩ : ∃ M, V6.heap.size = M := ⟨_, rfl⟩
     rw [hM] at HM ⊢
     generalize hV7 : World.alloc V6 _ = V7 at HM ⊢
     have hb : Below V6.heap.size V6 V7 := by rw [← hV7]; exact below_new _ _
     have HLM := Lib.hid (show V6.heap.size ≤ M by omega)
     have HWM := Lib.hid (show w.heap.size + 3 ≤ M by have := (Array.getElem?_eq_some_iff.1 HRK6.out).1; omega)
     have HV67 := Lib.hid hb
     clear hV7
     have HRL7 := Lib.hid (row_on HRL6.out hb)
     have HRG7 := Lib.hid (row_on HRG6.out hb)
     have HRK7 := Lib.hid (row_on HRK6.out hb)
     have HB7 := Lib.hid (chain HB6.out hb)
     have HS17 := Lib.hid (srcAt_on HS16.out hb)
     clear hb HRL6 HRG6 HRK6 HB6 HS16
     have hrgs := range3s HRG7.out
     obtain ⟨_, s0, s1, s2⟩ := facts3 HRG7.out
     go_wp2_with fail
     have h := HTS.out V7 HB7.out
     unfold TwinPost at h
     refine h.mono ?_
     clear h
     rintro e V8 ⟨A5, A6, c5x, c6x, rfl, hs5, hs6, hb, _, _⟩
     have HM8 := Lib.hid (row_on HM.out hb)
     have HV68 := Lib.hid (HV67.out.trans (hb.mono HV67.out.size))
     have HS5 := Lib.hid hs5
     have HS6 := Lib.hid hs6
     clear hs5 hs6 hrgs s0 s1 s2 HM HV67
     have HRL8 := Lib.hid (row_on HRL7.out hb)
     have HRG8 := Lib.hid (row_on HRG7.out hb)
     have HRK8 := Lib.hid (row_on HRK7.out hb)
     have HB8 := Lib.hid (chain HB7.out hb)
     have HS18 := Lib.hid (srcAt_on HS17.out hb)
     clear hb HRL7 HRG7 HRK7 HB7 HS17
     obtain ⟨hl0, f0, f1, f2, f3, f4, f5, f6, f7⟩ := facts8 HM8.out
     obtain ⟨z0, z1, z2, z3, z4, z5, z6, z7⟩ := free8 HM8.out
     go_upto_region 10 with (fail)
     generalize hV9 : World.setCell _ _ _ = V9
     have hV9' : V8.setCells M 5 [.int .i64 n, .slice A5 cs.length c5x, .slice A6 ps.length c6x] = V9 := hV9
     clear hV9 z0 z1 z2 z3 z4 z5 z6 z7
     clear hl0 f0 f1 f2 f3 f4 f5 f6 f7
     have HM9 := Lib.hid (show V9.heap[M]? = some (.cells #[Value.string l.iss, .int .u64 l.num, .int .i64 l.fr, .int .i64 l.tt, .slice m1.SA l.ser.length m1.sc, .int .i64 n, .slice A5 cs.length c5x, .slice A6 ps.length c6x] 32 (0, 0)) by rw [← hV9']; exact heap_set3 HM8.out)
     have ho : ∀ b, b ≠ M → V9.heap[b]? = V8.heap[b]? := fun b hb => by rw [← hV9']; exact heap_setCells_other _ _ _ hb
     have HB9 := Lib.hid (show Below w.heap.size w V9 by rw [← hV9']; exact below_setCells _ _ _ HB8.out (by have := HWM.out; omega))
     have HRL9 := Lib.hid ((ho _ (by have := HWM.out; omega)).trans HRL8.out)
     have HRG9 := Lib.hid ((ho _ (by have := HWM.out; omega)).trans HRG8.out)
     have HRK9 := Lib.hid ((ho _ (by have := HWM.out; omega)).trans HRK8.out)
     have hb9 : Below M V8 V9 := by rw [← hV9']; exact below_setCells _ _ _ (Below.refl _ _) (Nat.le_refl _)
     have hb69 : Below V6.heap.size V6 V9 := by rw [← hV9']; exact below_setCells _ _ _ HV68.out HLM.out
     have hN : Nums m1.SA l.ser V9 := HTL.out.ser.on hb69
     have HAO9 := Lib.hid (show RlAt { l with sg := ⟨n, cs, ps⟩ } ⟨m1.SA, m1.sc, A5, c5x, A6, c6x⟩ V9 from ⟨hN, shs_keep HS5.out HM8.out (show 8 < 16 by decide) ho, shs_keep HS6.out HM8.out (show 8 < 16 by decide) ho, HTL.out.ls, HLK.out.1, HLK.out.2⟩)
     have HS19 := Lib.hid (src_keep HS18.out HM8.out ho)
     clear hN hb9 hb69 ho hV9' HM8 HRL8 HRG8 HRK8 HB8 HS18 HS5 HS6
     obtain ⟨hl0, f0, f1, f2, f3, f4, f5, f6, f7⟩ := facts8 HM9.out
     go_wp2_with fail
     have h := HBO.out V9 ⟨m1.SA, m1.sc, A5, c5x, A6, c6x⟩ HAO9.out
     unfold rlC at h
     refine h.mono ?_
     clear h
     rintro e V10 ⟨A2, d2, n2, rfl, hy, hn, hb⟩
     have HY2 := Lib.hid hy
     clear hy hn HM9 HAO9
     clear hl0 f0 f1 f2 f3 f4 f5 f6 f7
     have HRL10 := Lib.hid (row_on HRL9.out hb)
     have HRG10 := Lib.hid (row_on HRG9.out hb)
     have HRK10 := Lib.hid (row_on HRK9.out hb)
     have HB10 := Lib.hid (chain HB9.out hb)
     have HS110 := Lib.hid (srcAt_on HS19.out hb)
     clear hb HRL9 HRG9 HRK9 HB9 HS19
     by_cases h2 : E2 = 0
     ·
      subst h2
      obtain ⟨g2, _, _, hs2⟩ := HY2.out rfl
      rw [g2]
      go_wp2_with fail
      refine (HSB.out V10 A1 A2 d1 d2 HS110.out hs2).mono ?_
      rintro e V11 ⟨rfl, hb⟩
      clear hs2 g2 HY2
      have HRL11 := Lib.hid (row_on HRL10.out hb)
      have HRG11 := Lib.hid (row_on HRG10.out hb)
      have HRK11 := Lib.hid (row_on HRK10.out hb)
      have HB11 := Lib.hid (chain HB10.out hb)
      have HS111 := Lib.hid (srcAt_on HS110.out hb)
      clear hb HRL10 HRG10 HRK10 HB10 HS110
      have hve := HVF.out V11 HB11.out A1 d1 HCA.out.1 HCA.out.2 HS111.out
      obtain ⟨hl0, f0, f1, f2, f3, f4, f5, f6, f7⟩ := facts8 HRL11.out
      have hrg := range3 HRL11.out
      go_wp2_with (first | (refine wpList_load_wantedS (by rfl) 43 (.tmp 5) rfl (w.heap.size + 2) rfl 43 PK (0, 0) HRK11.out Tryz.underlying43 HSZ.out ?_) | fail)
      refine hve.mono ?_
      rintro e V12 ⟨rfl, hb⟩
      have HB12 := Lib.hid (chain HB11.out hb)
      clear hb
      go_wp2_with fail
      refine bodyPost_ret (v := .bool true) (by simp [results, Tryz.results6, go_sem]) rfl ⟨rfl, HB12.out⟩
     ·
      clear HY2
      have hve := HVF.out V10 HB10.out A1 d1 HCA.out.1 HCA.out.2 HS110.out
      obtain ⟨hl0, f0, f1, f2, f3, f4, f5, f6, f7⟩ := facts8 HRL10.out
      have hrg := range3 HRL10.out
      go_wp2_with (first | (refine wpList_load_wantedS (by rfl) 43 (.tmp 5) rfl (w.heap.size + 2) rfl 43 PK (0, 0) HRK10.out Tryz.underlying43 HSZ.out ?_) | fail)
      refine hve.mono ?_
      rintro e V12 ⟨rfl, hb⟩
      have HB12 := Lib.hid (chain HB10.out hb)
      clear hb
      go_wp2_with fail
      refine bodyPost_ret (v := .bool true) (by simp [results, Tryz.results6, go_sem]) rfl ⟨rfl, HB12.out⟩
   ·
    have hn1 := HN.out h0
    have hvv : VV = E := by rw [HVV.out, if_neg h0]
    subst hn1
    rw [hvv]
    clear hvv HY0 HY5 HN HVF1 HSB0 HVV HTW HTS HBO HLK
    go_wp2_with fail
    refine bodyPost_ret (v := .bool true) (by simp [results, Tryz.results6, go_sem]) rfl ⟨rfl, HB5.out⟩
theorem verifies_open (l : Rl) (p : Mp) (hcp : Caps p) (hwf : Wf l) (n : Int) (CA PA : Option Addr) (cs ps : List (List UInt8)) (cc pc : Nat) (_ : cs.length ≤ cc) (_ : cc ≤ maxLen) (hcn : CA = none → cc = 0) (_ : ps.length ≤ pc) (_ : pc ≤ maxLen) (hpn : PA = none → pc = 0) (R : List UInt8) (hR : R.length = 16) (x : Int) (w : World) (a1 : Nums p.SA l.ser w) (a2 : Shs p.CA l.sg.cs w) (a3 : Shs p.PA l.sg.ps w) (b2 : Shorts CA cs w) (b3 : Shorts PA ps w) (env : DEnv w) :
  Calls Tryz.prog 6 #[.agg (rlC l p), .agg #[.int .i64 n, .slice CA cs.length cc, .slice PA ps.length pc], .agg (pkc R x)] w fun e w' => e = .returned (.bool true) ∧ Below w.heap.size w w' :=
 verifies_any l p hcp hwf n cs ps CA PA cc pc hcn hpn R hR x w a1 a2 a3 ⟨b2.row, b2.len⟩ ⟨b3.row, b3.len⟩ env
end Sg
end Go.Proofs.YtcgffkkfeimifaaGreatDoor
