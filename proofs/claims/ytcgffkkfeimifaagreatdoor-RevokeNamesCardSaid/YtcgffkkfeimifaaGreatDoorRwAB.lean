import Derived.Test.YtcgffkkfeimifaaGreatDoorRvSU
import Derived.Test.YtcgffkkfeimifaaGreatDoorMkOP
import Derived.Test.YtcgffkkfeimifaaGreatDoorSgJP
namespace Go.Proofs.YtcgffkkfeimifaaGreatDoor
open Go.RowKit Sha Ots
set_option linter.unusedVariables false
set_option linter.unusedSimpArgs false
def vf7 (D : List UInt8) (cs ps : List (List UInt8)) (R : List UInt8) (x n : Int) : Bool := decide (chkV x n cs.length ps.length = 0) && (rtV D cs ps x n == R)
namespace Sg
open Oc
theorem shorts_of {A : Option Addr} {ls : List (List UInt8)} {w : World} (h : Shs A ls w) : Shorts A ls w := ⟨h.row, h.len⟩
theorem verify_vf (R : List UInt8) (hR : R.length = 16) (x : Int) (D : List UInt8) (A : Option Addr) (c : Nat) (hl : D.length ≤ 100000) (hc : D.length ≤ c) (hcm : c ≤ maxLen) (n : Int) (CA PA : Option Addr) (cs ps : List (List UInt8)) (cc pc : Nat) (w : World) (hsrc : SrcAt A D w) (hsc : Shs CA cs w) (hsp : Shs PA ps w) (env : DEnv w) :
  Calls Tryz.prog 27 #[.agg (pkc R x), .slice A D.length c, .agg #[.int .i64 n, .slice CA cs.length cc, .slice PA ps.length pc]] w fun e w' => e = .returned (.bool (vf7 D cs ps R x n)) ∧ Below w.heap.size w w' :=
 verify_all R hR x D A c hl hc hcm n CA PA cs ps cc pc w hsrc (shorts_of hsc) (shorts_of hsp) env
def vfV (l : Rl) (R : List UInt8) (x : Int) : Int := if rvC l = 0 then (if vf7 (enc (rbv (rbOf l))) l.sg.cs l.sg.ps R x l.sg.idx = true then 0 else 22) else rvC l
def VbPost (D : List UInt8) (E : Int) (w : World) (e : Ending) (w' : World) : Prop := ∃ A c n, e = .returned (.tuple #[.slice A n c, .int .i64 E]) ∧ (E = 0 → n = D.length ∧ n ≤ c ∧ c ≤ maxLen ∧ SrcAt A D w') ∧ (E ≠ 0 → n = 0) ∧ Below w.heap.size w w'
theorem vbpost_of {o : Oct} {E : Int} {w : World} {e : Ending} {w' : World} (h : EbPost o E w e w') : VbPost (enc o) E w e w' := by
 obtain ⟨hb, ⟨h0, v, rfl, hown⟩ | ⟨h0, rfl⟩⟩ := h
 ·
  obtain ⟨A, c, rfl, h1, h2, h3, h4⟩ := bytes_own hown
  exact ⟨A, c, _, by rw [h0], fun _ => ⟨rfl, h1, h3, h4⟩, fun h => absurd h0 h, hb⟩
 ·
  exact ⟨none, 0, 0, rfl, fun h => absurd h h0, fun _ => rfl, hb⟩
set_option maxRecDepth 100000 in
set_option maxHeartbeats 8000000 in
theorem verify_rev (l : Rl) (p : Mp) (hz : l.iss.size ≤ maxLen) (hwf : Wf l) (R : List UInt8) (hR : R.length = 16) (x : Int) (w : World) (h : RlAt l p w) (env : DEnv w) :
  Calls Tryz.prog 17 #[.agg (rlC l p), .agg (pkc R x)] w fun e w' => e = .returned (.int .i64 (vfV l R x)) ∧ Below w.heap.size w w' := by
 have hbd := fun (V : World) (hb : Below w.heap.size w V) => (body_any l p hz hwf V (h.on hb)).mono fun e z k => vbpost_of k
 have hln := fun (h0 : rvC l = 0) => (show (enc (rbv (rbOf l))).length ≤ 100000 by have := (fit_ck (hwf.fit h0)).2.2.1; omega)
 have hvf := fun (h0 : rvC l = 0) (V : World) (hb : Below w.heap.size w V) (A : Option Addr) (c : Nat) (h1 : (enc (rbv (rbOf l))).length ≤ c) (h2 : c ≤ maxLen) (h3 : SrcAt A (enc (rbv (rbOf l))) V) => verify_vf R hR x (enc (rbv (rbOf l))) A c (hln h0) h1 h2 l.sg.idx p.CA p.PA l.sg.cs l.sg.ps p.cc p.pc V h3 (h.on hb).cs (h.on hb).ps (env.on hb)
 have hsz := sz17 R x hR
 unfold vfV
 obtain ⟨v7, hv7⟩ : ∃ v7, vf7 (enc (rbv (rbOf l))) l.sg.cs l.sg.ps R x l.sg.idx = v7 := ⟨_, rfl⟩
 obtain ⟨D, hD⟩ : ∃ D, enc (rbv (rbOf l)) = D := ⟨_, rfl⟩
 obtain ⟨E, hE⟩ : ∃ E, rvC l = E := ⟨_, rfl⟩
 rw [hv7] at hvf ⊢
 rw [hD] at hbd hvf
 rw [hE] at hbd hvf ⊢
 obtain ⟨PK, hPK⟩ : ∃ PK, pkc R x = PK := ⟨_, rfl⟩
 rw [hPK] at hvf hsz ⊢
 unfold VbPost at hbd
 unfold rlC at hbd ⊢
 obtain ⟨c5, g5⟩ : ∃ c : Value, .int .i64 l.sg.idx = c := ⟨_, rfl⟩
 obtain ⟨c6, g6⟩ : ∃ c : Value, .slice p.CA l.sg.cs.length p.cc = c := ⟨_, rfl⟩
 obtain ⟨c7, g7⟩ : ∃ c : Value, .slice p.PA l.sg.ps.length p.pc = c := ⟨_, rfl⟩
 rw [g5, g6, g7] at hbd hvf ⊢
 have HBD := Lib.hid hbd
 have HVF := Lib.hid hvf
 have HSZ := Lib.hid hsz
 obtain ⟨hw0, hra, hrb⟩ := two_rows w (.cells #[.string l.iss, .int .u64 l.num, .int .i64 l.fr, .int .i64 l.tt, .slice p.SA l.ser.length p.sc, c5, c6, c7] 32) (.cells PK 43)
 have HRL := Lib.hid hra
 have HRK := Lib.hid hrb
 have HB0 := Lib.hid hw0
 clear hbd hvf hsz hw0 hra hrb hln hv7 hD hE hPK g5 g6 g7 h hz hwf hR env
 go_enter Tryz.func17, Tryz.ntmps17
 go_upto_region 1 with (fail)
 generalize World.alloc (World.alloc w _) _ = V0 at HRL HRK HB0 ⊢
 obtain ⟨hl0, f0, f1, f2, f3, f4, f5, f6, f7⟩ := facts8 HRL.out
 go_wp2_with fail
 refine (HBD.out V0 HB0.out).mono ?_
 rintro e V1 ⟨A1, c1, n1, rfl, hy, hn, hb⟩
 have HY := Lib.hid hy
 have HRL1 := Lib.hid (row_on HRL.out hb)
 have HRK1 := Lib.hid (row_on HRK.out hb)
 have HB1 := Lib.hid (chain HB0.out hb)
 clear hy hn hb hl0 f0 f1 f2 f3 f4 f5 f6 f7 HRL HRK HB0 HBD
 by_cases h0 : E = 0
 ·
  obtain ⟨rfl, q1, q2, q3⟩ := HY.out h0
  have HC := Lib.hid (HVF.out h0 V1 HB1.out A1 c1 q1 q2 q3)
  subst h0
  clear q1 q2 q3 HVF HY
  obtain ⟨hl0, f0, f1, f2, f3, f4, f5, f6, f7⟩ := facts8 HRL1.out
  have hrg := range3 HRL1.out
  go_wp2_with (refine wpList_load_row rfl 43 (.tmp 3) rfl (w.heap.size + 1) rfl 43 PK (0, 0) _ HRK1.out Tryz.underlying43 rfl HSZ.out ?_)
  refine HC.out.mono ?_
  rintro e V2 ⟨rfl, hb⟩
  have HB2 := Lib.hid (chain HB1.out hb)
  clear hb hl0 f0 f1 f2 f3 f4 f5 f6 f7 hrg
  cases v7 with
  | true =>
   go_wp2_with fail
   refine bodyPost_ret (v := .int .i64 0) (by simp [results, Tryz.results17, go_sem]) rfl ⟨by simp, HB2.out⟩
  | false =>
   go_wp2_with fail
   refine bodyPost_ret (v := .int .i64 22) (by simp [results, Tryz.results17, go_sem]) rfl ⟨by simp, HB2.out⟩
 ·
  clear HVF HY
  go_wp2_with fail
  refine bodyPost_ret (v := .int .i64 E) (by simp [results, Tryz.results17, go_sem]) rfl ⟨by first | rfl | rw [if_neg h0], HB1.out⟩
end Sg
end Go.Proofs.YtcgffkkfeimifaaGreatDoor
namespace Go.Proofs.YtcgffkkfeimifaaGreatDoor
open Go.RowKit Sha Ots
set_option linter.unusedVariables false
set_option linter.unusedSimpArgs false
namespace Sg
open Oc
theorem range3s {z : World} {g : Nat} {a b c : Value} {T : TypeId} {fr : Nat × Nat} (h : z.heap[g]? = some (.cells #[a, b, c] T fr)) : z.rangeAt g 0 [a, b, c] := fun j v hv => by
 rw [Nat.zero_add, cell_of_row _ _ _ _ _ _ h, List.getElem?_toArray]
 exact hv
theorem three_rows3 (w : World) (a1 a2 a3 : Array Value) (T1 T2 T3 : TypeId) : Below w.heap.size w (((w.alloc (.cells a1 T1)).alloc (.cells a2 T2)).alloc (.cells a3 T3)) ∧ (((w.alloc (.cells a1 T1)).alloc (.cells a2 T2)).alloc (.cells a3 T3)).heap[w.heap.size]? = some (.cells a1 T1) ∧ (((w.alloc (.cells a1 T1)).alloc (.cells a2 T2)).alloc (.cells a3 T3)).heap[w.heap.size + 1]? = some (.cells a2 T2) ∧ (((w.alloc (.cells a1 T1)).alloc (.cells a2 T2)).alloc (.cells a3 T3)).heap[w.heap.size + 2]? = some (.cells a3 T3) := by
 obtain ⟨h1, h2, h3⟩ := two_rows w (.cells a1 T1) (.cells a2 T2)
 obtain ⟨h4, h5, h6⟩ := two_rows (w.alloc (.cells a1 T1)) (.cells a2 T2) (.cells a3 T3)
 have b := below_new ((w.alloc (.cells a1 T1)).alloc (.cells a2 T2)) (.cells a3 T3)
 have h7 : (w.alloc (.cells a1 T1)).heap.size = w.heap.size + 1 := by
  have q1 := (Array.getElem?_eq_some_iff.1 (heap_alloc_new w (.cells a1 T1))).1
  show (w.heap.push _).size = _
  exact Array.size_push _
 rw [h7] at h6
 exact ⟨chain h1 b, row_on h2 b, row_on h3 b, h6⟩
end Sg
end Go.Proofs.YtcgffkkfeimifaaGreatDoor
