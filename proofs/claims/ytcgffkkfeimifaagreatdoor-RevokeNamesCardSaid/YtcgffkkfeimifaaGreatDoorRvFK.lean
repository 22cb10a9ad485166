import Derived.Test.YtcgffkkfeimifaaGreatDoorRvM
import Derived.Test.YtcgffkkfeimifaaGreatDoorRvB
import Derived.Test.YtcgffkkfeimifaaGreatDoorSgJP
import Derived.Test.YtcgffkkfeimifaaGreatDoorOcCI
import Derived.Deep.RegionHeld3
namespace Go.Proofs.YtcgffkkfeimifaaGreatDoor
namespace Sg
open Go.RowKit Sha Oc
set_option linter.unusedVariables false
set_option linter.unusedSimpArgs false
structure Bu (a b : Nat) (w w' : World) : Prop where
 os : w'.os = w.os
 tape : w'.tape = w.tape
 output : w'.output = w.output
 size : w.heap.size ≤ w'.heap.size
 oth : ∀ k, k < w.heap.size → k ≠ a → k ≠ b → w'.heap[k]? = w.heap[k]?
theorem Bu.refl (a b : Nat) (w : World) : Bu a b w w := ⟨rfl, rfl, rfl, Nat.le_refl _, fun _ _ _ _ => rfl⟩
theorem Bu.trans {a b : Nat} {u v w : World} (h : Bu a b u v) (k : Bu a b v w) : Bu a b u w :=
 ⟨k.os.trans h.os, k.tape.trans h.tape, k.output.trans h.output, Nat.le_trans h.size k.size, fun i hi h1 h2 => (k.oth i (Nat.lt_of_lt_of_le hi h.size) h1 h2).trans (h.oth i hi h1 h2)⟩
theorem Bu.grown {a b : Nat} {w w' : World} (h : w.grownBy w' (some b)) : Bu a b w w' := ⟨h.os, h.tape, h.output, h.size, fun k hk _ h2 => h.block k hk (fun e => h2 (Option.some.inj e))⟩
theorem Bu.below {a b : Nat} {w w' : World} (h : Below w.heap.size w w') : Bu a b w w' := ⟨h.os, h.tape, h.output, h.size, fun k hk _ _ => h.block k hk⟩
theorem Bu.set {a b : Nat} (w : World) (o : Nat) (v : Value) : Bu a b w (w.setCell ⟨a, o, none⟩ v) := ⟨rfl, rfl, rfl, (KeepsOthers.setCell _ _ _).size, fun k _ h1 _ => Below.heap_setCell _ _ _ _ h1⟩
theorem Bu.under {a b n : Nat} {w0 w w' : World} (h : Bu a b w w') (hb : Below n w0 w) (hn : n ≤ w.heap.size) (ha : n ≤ a) (hb' : n ≤ b) : Below n w0 w' :=
 hb.trans ⟨h.os, h.tape, h.output, h.size, fun k hk => h.oth k (by omega) (by omega) (by omega)⟩
theorem Bu.at {a b : Nat} {w w' : World} {o : Oct} {x y : Value} (h : At (fun g => g ≠ a ∧ g ≠ b) w o x y) (k : Bu a b w w') : At (fun g => g ≠ a ∧ g ≠ b) w' o x y :=
 h.to fun g p u hu hR => ⟨cell_same (k.oth g (World.block_lt_of_cell? _ _ hu) hR.1 hR.2) hu, hR⟩
def kp (e0 e : Int) : Int := if e0 = 0 then e else e0
theorem kp_zero (e0 e : Int) : kp e0 e = 0 ↔ e0 = 0 ∧ e = 0 := by
 unfold kp
 by_cases h : e0 = 0
 ·
  rw [if_pos h]; exact ⟨fun h2 => ⟨h, h2⟩, fun h2 => h2.2⟩
 ·
  rw [if_neg h]; exact ⟨fun h2 => absurd h2 h, fun h2 => h2.1⟩
abbrev kpf (F : Nat) : Value := .func (.func 76) #[] #[.pointer (some ⟨F, 0, none⟩)]
abbrev rdC (l : Rl) (m : Mp) (F : Nat) : Array Value := #[.string l.iss, .int .u64 l.num, .int .i64 l.fr, .int .i64 l.tt, .slice m.SA l.ser.length m.sc, .int .i64 l.sg.idx, .slice m.CA l.sg.cs.length m.cc, .slice m.PA l.sg.ps.length m.pc, kpf F]
structure Rs (R F lo : Nat) (l : Rl) (m : Mp) (e : Int) (W : World) : Prop where
 row : W.heap[R]? = some (.cells (rdC l m F) 122 (0, 0))
 err : W.heap[F]? = some (.cells #[.int .i64 e] 24 (0, 0))
 ser : W.ownsRow lo 23 1 (.slice m.SA l.ser.length m.sc) l.ser.length (uvals l.ser)
 cs : Shs m.CA l.sg.cs W ∧ ∀ g o, m.CA = some ⟨g, o, none⟩ → lo ≤ g
 ps : Shs m.PA l.sg.ps W ∧ ∀ g o, m.PA = some ⟨g, o, none⟩ → lo ≤ g
 lo : R < lo ∧ F < lo ∧ R ≠ F ∧ lo ≤ W.heap.size
 len : l.ser.length ≤ 5000 ∧ l.sg.cs.length ≤ 5000 ∧ l.sg.ps.length ≤ 5000
theorem own_block {w : World} {base n k : Nat} {v : Value} {xs : List Value} {E : TypeId} (h : w.ownsRow base E k v n xs) {g : Nat} (e : v.ownBlock = some g) : base ≤ g ∧ g < w.heap.size := by
 rcases h.2 with ⟨rfl, _⟩ | ⟨g', cap, cur, rfl, h3, h4, _⟩
 ·
  cases e
 ·
  obtain rfl := Option.some.inj e
  exact ⟨h3, (Array.getElem?_eq_some_iff.1 h4).1⟩
theorem own_bu {a b lo n k : Nat} {w w' : World} {v : Value} {xs : List Value} {E : TypeId} (h : w.ownsRow lo E k v n xs) (hb : Bu a b w w') (ha : a < lo) (hb2 : b < lo) : w'.ownsRow lo E k v n xs := by
 refine ⟨h.1, ?_⟩
 rcases h.2 with hn | ⟨g, cap, cur, hv, h3, h4, rest⟩
 ·
  exact .inl hn
 ·
  exact .inr ⟨g, cap, cur, hv, h3, (hb.oth g (Array.getElem?_eq_some_iff.1 h4).1 (by omega) (by omega)).trans h4, rest⟩
theorem shs_bu {a b lo : Nat} {w w' : World} {A : Option Addr} {ls : List (List UInt8)} (h : Shs A ls w ∧ ∀ g o, A = some ⟨g, o, none⟩ → lo ≤ g) (hb : Bu a b w w') (ha : a < lo) (hb2 : b < lo) : Shs A ls w' ∧ ∀ g o, A = some ⟨g, o, none⟩ → lo ≤ g :=
 ⟨⟨fun i l hi => by
  obtain ⟨g, o, e, hr⟩ := h.1.row i l hi
  refine ⟨g, o, e, fun j v hv => ?_⟩
  have h1 := hr j v hv
  have h2 := h.2 g o e
  exact cell_same (hb.oth g (World.block_lt_of_cell? _ _ h1) (by omega) (by omega)) h1, h.1.len⟩, h.2⟩
theorem Rs.to {R F lo : Nat} {l : Rl} {m : Mp} {e : Int} {W W' : World} (h : Rs R F lo l m e W) (hb : Bu R F W W') {l' : Rl} {m' : Mp} {e' : Int} (hrow : W'.heap[R]? = some (.cells (rdC l' m' F) 122 (0, 0))) (herr : W'.heap[F]? = some (.cells #[.int .i64 e'] 24 (0, 0)))
  (h1 : l'.ser = l.ser ∧ m'.SA = m.SA ∧ m'.sc = m.sc) (h2 : l'.sg.cs = l.sg.cs ∧ m'.CA = m.CA) (h3 : l'.sg.ps = l.sg.ps ∧ m'.PA = m.PA) : Rs R F lo l' m' e' W' := by
 obtain ⟨a1, a2, a3⟩ := h1
 obtain ⟨b1, b2⟩ := h2
 obtain ⟨c1, c2⟩ := h3
 refine ⟨hrow, herr, ?_, ?_, ?_, ⟨h.lo.1, h.lo.2.1, h.lo.2.2.1, Nat.le_trans h.lo.2.2.2 hb.size⟩, ?_⟩
 ·
  rw [a1, a2, a3]; exact own_bu h.ser hb h.lo.1 h.lo.2.1
 ·
  rw [b1, b2]; exact shs_bu h.cs hb h.lo.1 h.lo.2.1
 ·
  rw [c1, c2]; exact shs_bu h.ps hb h.lo.1 h.lo.2.1
 ·
  rw [a1, b1, c1]; exact h.len
theorem Rs.on {R F lo : Nat} {l : Rl} {m : Mp} {e : Int} {W W' : World} (h : Rs R F lo l m e W) (hb : Below W.heap.size W W') : Rs R F lo l m e W' :=
 h.to (Bu.below hb) (row_on h.row hb) (row_on h.err hb) ⟨rfl, rfl, rfl⟩ ⟨rfl, rfl⟩ ⟨rfl, rfl⟩
theorem Rs.keep {R F lo : Nat} {l : Rl} {m : Mp} {e e' : Int} {W W' : World} (h : Rs R F lo l m e W) (hg : W.grownBy W' (some F)) (he : W'.heap[F]? = some (.cells #[.int .i64 e'] 24 (0, 0))) : Rs R F lo l m e' W' :=
 h.to (Bu.grown hg) ((hg.block R (Array.getElem?_eq_some_iff.1 h.row).1 (fun e => h.lo.2.2.1 (Option.some.inj e))).trans h.row) he ⟨rfl, rfl, rfl⟩ ⟨rfl, rfl⟩ ⟨rfl, rfl⟩
theorem Rs.facts {R F lo : Nat} {l : Rl} {m : Mp} {e : Int} {W : World} (h : Rs R F lo l m e W) : R < W.heap.size ∧ (∀ p, W.frozen? ⟨R, p, none⟩ = false) ∧ W.cell? ⟨R, 0, none⟩ = some (.string l.iss) ∧ W.cell? ⟨R, 1, none⟩ = some (.int .u64 l.num) ∧ W.cell? ⟨R, 2, none⟩ = some (.int .i64 l.fr) ∧ W.cell? ⟨R, 3, none⟩ = some (.int .i64 l.tt) ∧ W.cell? ⟨R, 4, none⟩ = some (.slice m.SA l.ser.length m.sc) ∧ W.cell? ⟨R, 5, none⟩ = some (.int .i64 l.sg.idx) ∧ W.cell? ⟨R, 6, none⟩ = some (.slice m.CA l.sg.cs.length m.cc) ∧ W.cell? ⟨R, 7, none⟩ = some (.slice m.PA l.sg.ps.length m.pc) ∧ W.cell? ⟨R, 8, none⟩ = some (kpf F) := by
 have H := h.row
 exact ⟨(Array.getElem?_eq_some_iff.1 H).1, fun p => frozen_of_row _ _ _ _ _ H, cell_of_row _ _ _ _ _ _ H, cell_of_row _ _ _ _ _ _ H, cell_of_row _ _ _ _ _ _ H, cell_of_row _ _ _ _ _ _ H, cell_of_row _ _ _ _ _ _ H, cell_of_row _ _ _ _ _ _ H, cell_of_row _ _ _ _ _ _ H, cell_of_row _ _ _ _ _ _ H, cell_of_row _ _ _ _ _ _ H⟩
set_option maxHeartbeats 1000000 in
theorem keep_any (F : Nat) (e0 e : Int) (w : World) (hF : w.heap[F]? = some (.cells #[.int .i64 e0] 24 (0, 0))) :
  Calls Tryz.prog 76 #[.int .i64 e, .pointer (some ⟨F, 0, none⟩)] w fun r w' => r = .returned (.tuple #[]) ∧ w'.heap[F]? = some (.cells #[.int .i64 (kp e0 e)] 24 (0, 0)) ∧ w.grownBy w' (some F) := by
 have HF := Lib.hid hF
 have hc := cell_of_one hF
 have hf := free_of_one hF
 have hl := (Array.getElem?_eq_some_iff.1 hF).1
 clear hF
 by_cases h0 : e0 = 0
 ·
  have hk : kp e0 e = e := by unfold kp; rw [if_pos h0]
  rw [hk]
  clear hk
  subst h0
  go_enter Tryz.func76, Tryz.ntmps76
  go_wp2_with fail
  go_end0
  exact ⟨rfl, one_setCell HF.out, grownBy_setCell' _ _ _⟩
 ·
  have hk : kp e0 e = e0 := by unfold kp; rw [if_neg h0]
  rw [hk]
  have h0i : (e0 == 0) = false := by simp [h0]
  clear hk h0
  go_enter Tryz.func76, Tryz.ntmps76
  go_wp2_with fail
  go_end0
  exact ⟨rfl, HF.out, ⟨rfl, rfl, rfl, Nat.le_refl _, fun _ _ _ => rfl⟩⟩
end Sg
end Go.Proofs.YtcgffkkfeimifaaGreatDoor
namespace Go.Proofs.YtcgffkkfeimifaaGreatDoor
namespace Sg
open Go.RowKit Sha Oc
set_option linter.unusedVariables false
set_option linter.unusedSimpArgs false
abbrev rN (v : Oct) (tg : UInt8) (M : Int) : Int × Int := rdN (tagO v) tg (bytO v) (kids v).length M
abbrev rS (v : Oct) (tg : UInt8) (M : Int) : List UInt8 × Int := rdS (tagO v) tg (bytO v) (kids v).length M
set_option maxRecDepth 100000 in
set_option maxHeartbeats 2000000 in
theorem num_rd {R F lo : Nat} {l : Rl} {m : Mp} {e0 : Int} {W : World} (hS : Rs R F lo l m e0 W) (v : Oct) (tg : UInt8) (M : Int) (x y : Value) (hat : At (fun g => g ≠ R ∧ g ≠ F) W v x y) :
  Calls Tryz.prog 149 #[.pointer (some ⟨R, 0, none⟩), .agg (cell3 v x y), .int .u8 (tg.toNat : Int), .int .u64 M] W fun e W' => e = .returned (.int .u64 (rN v tg M).1) ∧ Rs R F lo l m (kp e0 (rN v tg M).2) W' ∧ Bu R F W W' := by
 have HS0 := Lib.hid hS
 have hrn : ∀ V : World, Below W.heap.size W V → Calls Tryz.prog 158 #[.agg (cell3 v x y), .int .u8 (tg.toNat : Int), .int .u64 M] V fun e V' => e = .returned (.tuple #[.int .u64 (rN v tg M).1, .int .i64 (rN v tg M).2]) ∧ Below V.heap.size V V' := fun V hb => by
  obtain ⟨t, b, ls⟩ := v
  exact readnum_any t b ls tg M V x y (hat.any.on hb)
 obtain ⟨A1, m1, c1, B1, n1, d1, rfl, rfl⟩ := hat.slices
 obtain ⟨X, hX⟩ : ∃ X, (rN v tg M).1 = X := ⟨_, rfl⟩
 obtain ⟨E, hE⟩ : ∃ E, (rN v tg M).2 = E := ⟨_, rfl⟩
 obtain ⟨tz, htz⟩ : ∃ tz : Int, ((tagO v).toNat : Int) = tz := ⟨_, rfl⟩
 obtain ⟨gz, hgz⟩ : ∃ gz : Int, (tg.toNat : Int) = gz := ⟨_, rfl⟩
 unfold cell3 at hrn ⊢
 rw [hX, hE, htz, hgz] at hrn
 rw [hX, hE, htz, hgz]
 have HRN := Lib.hid hrn
 have HROW := Lib.hid (heap_alloc_new W (.cells #[.int .u8 tz, .slice A1 m1 c1, .slice B1 n1 d1] 68))
 have HB0 := Lib.hid (below_new W (.cells #[.int .u8 tz, .slice A1 m1 c1, .slice B1 n1 d1] 68))
 clear hrn hX hE htz hgz hat hS
 go_enter Tryz.func149, Tryz.ntmps149
 go_upto_region 1 with (fail)
 generalize hV : World.alloc W _ = V at HROW HB0 ⊢
 clear hV
 have hlt := (Array.getElem?_eq_some_iff.1 HROW.out).1
 obtain ⟨_, hc0, hc1, hc2⟩ := facts3 HROW.out
 have hrg := range3o hc0 hc1 hc2
 go_wp2_with fail
 refine (HRN.out V HB0.out).mono ?_
 rintro e w1 ⟨rfl, hb1⟩
 have HB1 := Lib.hid (chain HB0.out hb1)
 have HS1 := Lib.hid (HS0.out.on HB1.out)
 clear hlt hc0 hc1 hc2 hrg hb1 HROW HB0 HRN
 obtain ⟨k0, k1, _, _, _, _, _, _, _, _, k8⟩ := HS1.out.facts
 go_wp2_with fail
 refine (keep_any F e0 E w1 HS1.out.err).mono ?_
 rintro e w2 ⟨rfl, herr, hg⟩
 have HS2 := Lib.hid (HS1.out.keep hg herr)
 have HU2 := Lib.hid ((Bu.below (a := R) (b := F) HB1.out).trans (Bu.grown hg))
 clear k0 k1 k8 herr hg
 go_wp2_with fail
 go_ret
 exact ⟨rfl, HS2.out, HU2.out⟩
set_option maxRecDepth 100000 in
set_option maxHeartbeats 2000000 in
theorem str_rd {R F lo : Nat} {l : Rl} {m : Mp} {e0 : Int} {W : World} (hS : Rs R F lo l m e0 W) (v : Oct) (tg : UInt8) (M : Int) (x y : Value) (hat : At (fun g => g ≠ R ∧ g ≠ F) W v x y) :
  Calls Tryz.prog 148 #[.pointer (some ⟨R, 0, none⟩), .agg (cell3 v x y), .int .u8 (tg.toNat : Int), .int .i64 M] W fun e W' => e = .returned (.string ⟨(rS v tg M).1.toArray⟩) ∧ Rs R F lo l m (kp e0 (rS v tg M).2) W' ∧ Bu R F W W' := by
 have HS0 := Lib.hid hS
 have hrn : ∀ V : World, Below W.heap.size W V → Calls Tryz.prog 157 #[.agg (cell3 v x y), .int .u8 (tg.toNat : Int), .int .i64 M] V fun e V' => e = .returned (.tuple #[.string ⟨(rS v tg M).1.toArray⟩, .int .i64 (rS v tg M).2]) ∧ Below V.heap.size V V' := fun V hb => by
  obtain ⟨t, b, ls⟩ := v
  exact readstr_any t b ls tg M V x y (hat.any.on hb)
 obtain ⟨A1, m1, c1, B1, n1, d1, rfl, rfl⟩ := hat.slices
 obtain ⟨X, hX⟩ : ∃ X, (rS v tg M).1 = X := ⟨_, rfl⟩
 obtain ⟨E, hE⟩ : ∃ E, (rS v tg M).2 = E := ⟨_, rfl⟩
 obtain ⟨tz, htz⟩ : ∃ tz : Int, ((tagO v).toNat : Int) = tz := ⟨_, rfl⟩
 obtain ⟨gz, hgz⟩ : ∃ gz : Int, (tg.toNat : Int) = gz := ⟨_, rfl⟩
 unfold cell3 at hrn ⊢
 rw [hX, hE, htz, hgz] at hrn
 rw [hX, hE, htz, hgz]
 have HRN := Lib.hid hrn
 have HROW := Lib.hid (heap_alloc_new W (.cells #[.int .u8 tz, .slice A1 m1 c1, .slice B1 n1 d1] 68))
 have HB0 := Lib.hid (below_new W (.cells #[.int .u8 tz, .slice A1 m1 c1, .slice B1 n1 d1] 68))
 clear hrn hX hE htz hgz hat hS
 go_enter Tryz.func148, Tryz.ntmps148
 go_upto_region 1 with (fail)
 generalize hV : World.alloc W _ = V at HROW HB0 ⊢
 clear hV
 have hlt := (Array.getElem?_eq_some_iff.1 HROW.out).1
 obtain ⟨_, hc0, hc1, hc2⟩ := facts3 HROW.out
 have hrg := range3o hc0 hc1 hc2
 go_wp2_with fail
 refine (HRN.out V HB0.out).mono ?_
 rintro e w1 ⟨rfl, hb1⟩
 have HB1 := Lib.hid (chain HB0.out hb1)
 have HS1 := Lib.hid (HS0.out.on HB1.out)
 clear hlt hc0 hc1 hc2 hrg hb1 HROW HB0 HRN
 obtain ⟨k0, k1, _, _, _, _, _, _, _, _, k8⟩ := HS1.out.facts
 go_wp2_with fail
 refine (keep_any F e0 E w1 HS1.out.err).mono ?_
 rintro e w2 ⟨rfl, herr, hg⟩
 have HS2 := Lib.hid (HS1.out.keep hg herr)
 have HU2 := Lib.hid ((Bu.below (a := R) (b := F) HB1.out).trans (Bu.grown hg))
 clear k0 k1 k8 herr hg
 go_wp2_with fail
 go_ret
 exact ⟨rfl, HS2.out, HU2.out⟩
def MSame (R F lo : Nat) (l' : Rl) (m : Mp) (e' : Int) (W : World) (e : Ending) (W' : World) : Prop := e = .returned (.tuple #[]) ∧ Rs R F lo l' m e' W' ∧ Bu R F W W'
def MPost (R F lo : Nat) (l' : Rl) (e' : Int) (W : World) (e : Ending) (W' : World) : Prop := e = .returned (.tuple #[]) ∧ (∃ m', Rs R F lo l' m' e' W') ∧ Bu R F W W'
theorem rN_range (v : Oct) (tg : UInt8) (M : Int) (hM : 0 ≤ M) : 0 ≤ (rN v tg M).1 ∧ (rN v tg M).1 ≤ M := by
 unfold rN rdN
 by_cases h : tagO v = tg ∧ (kids v).length = 0 ∧ okN (bytO v) = true ∧ (numN (bytO v) : Int) ≤ M
 ·
  rw [if_pos h]
  exact ⟨Int.natCast_nonneg _, h.2.2.2⟩
 ·
  rw [if_neg h]
  exact ⟨Int.le_refl _, hM⟩
set_option maxRecDepth 100000 in
set_option maxHeartbeats 2000000 in
theorem issuer_rd {R F lo : Nat} {l : Rl} {m : Mp} {e0 : Int} {W : World} (hS : Rs R F lo l m e0 W) (v : Oct) (x y : Value) (hat : At (fun g => g ≠ R ∧ g ≠ F) W v x y) :
  Calls Tryz.prog 136 #[.pointer (some ⟨R, 0, none⟩), .agg (cell3 v x y)] W (MSame R F lo { l with iss := ⟨(rS v 1 40).1.toArray⟩ } m (kp e0 (rS v 1 40).2) W) := by
 have HS0 := Lib.hid hS
 have hcl : ∀ V : World, Below W.heap.size W V → Calls Tryz.prog 148 #[.pointer (some ⟨R, 0, none⟩), .agg (cell3 v x y), .int .u8 1, .int .i64 40] V fun e V' => e = .returned (.string ⟨(rS v 1 40).1.toArray⟩) ∧ Rs R F lo l m (kp e0 (rS v 1 40).2) V' ∧ Bu R F V V' := fun V hb => str_rd (hS.on hb) v 1 40 x y (Bu.at hat (Bu.below hb))
 obtain ⟨A1, m1, c1, B1, n1, d1, rfl, rfl⟩ := hat.slices
 obtain ⟨X, hX⟩ : ∃ X, (rS v 1 40).1 = X := ⟨_, rfl⟩
 obtain ⟨E, hE⟩ : ∃ E, (rS v 1 40).2 = E := ⟨_, rfl⟩
 obtain ⟨tz, htz⟩ : ∃ tz : Int, ((tagO v).toNat : Int) = tz := ⟨_, rfl⟩
 unfold cell3 at hcl ⊢
 rw [hX, hE, htz] at hcl
 rw [hX, hE, htz]
 have HCL := Lib.hid hcl
 have HROW := Lib.hid (heap_alloc_new W (.cells #[.int .u8 tz, .slice A1 m1 c1, .slice B1 n1 d1] 68))
 have HB0 := Lib.hid (below_new W (.cells #[.int .u8 tz, .slice A1 m1 c1, .slice B1 n1 d1] 68))
 clear hcl hX hE htz hat hS
 go_enter Tryz.func136, Tryz.ntmps136
 go_upto_region 1 with (fail)
 generalize hV : World.alloc W _ = V at HROW HB0 ⊢
 clear hV
 have hlt := (Array.getElem?_eq_some_iff.1 HROW.out).1
 obtain ⟨_, hc0, hc1, hc2⟩ := facts3 HROW.out
 have hrg := range3o hc0 hc1 hc2
 go_wp2_with fail
 refine (HCL.out V HB0.out).mono ?_
 rintro e w1 ⟨rfl, hs1, hu1⟩
 have HS1 := Lib.hid hs1
 have HU1 := Lib.hid ((Bu.below (a := R) (b := F) HB0.out).trans hu1)
 clear hlt hc0 hc1 hc2 hrg hs1 hu1 HROW HB0 HCL
 obtain ⟨k0, kf, q0, q1, q2, q3, q4, q5, q6, q7, q8⟩ := HS1.out.facts
 have kf0 := kf 0
 clear kf
 go_wp2_with fail
 go_end0
 exact ⟨rfl, HS1.out.to (Bu.set _ _ _) ((heap_setCell_same _ _ _ _ _ _ HS1.out.row).trans rfl) ((Below.heap_setCell _ _ _ _ (Ne.symm HS1.out.lo.2.2.1)).trans HS1.out.err) ⟨rfl, rfl, rfl⟩ ⟨rfl, rfl⟩ ⟨rfl, rfl⟩, HU1.out.trans (Bu.set _ _ _)⟩
set_option maxRecDepth 100000 in
set_option maxHeartbeats 2000000 in
theorem number_rd {R F lo : Nat} {l : Rl} {m : Mp} {e0 : Int} {W : World} (hS : Rs R F lo l m e0 W) (v : Oct) (x y : Value) (hat : At (fun g => g ≠ R ∧ g ≠ F) W v x y) :
  Calls Tryz.prog 137 #[.pointer (some ⟨R, 0, none⟩), .agg (cell3 v x y)] W (MSame R F lo { l with num := (rN v 2 18446744073709551615).1 } m (kp e0 (rN v 2 18446744073709551615).2) W) := by
 have HS0 := Lib.hid hS
 have hcl : ∀ V : World, Below W.heap.size W V → Calls Tryz.prog 149 #[.pointer (some ⟨R, 0, none⟩), .agg (cell3 v x y), .int .u8 2, .int .u64 18446744073709551615] V fun e V' => e = .returned (.int .u64 (rN v 2 18446744073709551615).1) ∧ Rs R F lo l m (kp e0 (rN v 2 18446744073709551615).2) V' ∧ Bu R F V V' := fun V hb => num_rd (hS.on hb) v 2 18446744073709551615 x y (Bu.at hat (Bu.below hb))
 obtain ⟨A1, m1, c1, B1, n1, d1, rfl, rfl⟩ := hat.slices
 obtain ⟨X, hX⟩ : ∃ X, (rN v 2 18446744073709551615).1 = X := ⟨_, rfl⟩
 obtain ⟨E, hE⟩ : ∃ E, (rN v 2 18446744073709551615).2 = E := ⟨_, rfl⟩
 obtain ⟨tz, htz⟩ : ∃ tz : Int, ((tagO v).toNat : Int) = tz := ⟨_, rfl⟩
 unfold cell3 at hcl ⊢
 rw [hX, hE, htz] at hcl
 rw [hX, hE, htz]
 have HCL := Lib.hid hcl
 have HROW := Lib.hid (heap_alloc_new W (.cells #[.int .u8 tz, .slice A1 m1 c1, .slice B1 n1 d1] 68))
 have HB0 := Lib.hid (below_new W (.cells #[.int .u8 tz, .slice A1 m1 c1, .slice B1 n1 d1] 68))
 clear hcl hX hE htz hat hS
 go_enter Tryz.func137, Tryz.ntmps137
 go_upto_region 1 with (fail)
 generalize hV : World.alloc W _ = V at HROW HB0 ⊢
 clear hV
 have hlt := (Array.getElem?_eq_some_iff.1 HROW.out).1
 obtain ⟨_, hc0, hc1, hc2⟩ := facts3 HROW.out
 have hrg := range3o hc0 hc1 hc2
 go_wp2_with fail
 refine (HCL.out V HB0.out).mono ?_
 rintro e w1 ⟨rfl, hs1, hu1⟩
 have HS1 := Lib.hid hs1
 have HU1 := Lib.hid ((Bu.below (a := R) (b := F) HB0.out).trans hu1)
 clear hlt hc0 hc1 hc2 hrg hs1 hu1 HROW HB0 HCL
 obtain ⟨k0, kf, q0, q1, q2, q3, q4, q5, q6, q7, q8⟩ := HS1.out.facts
 have kf0 := kf 1
 clear kf
 go_wp2_with fail
 go_end0
 exact ⟨rfl, HS1.out.to (Bu.set _ _ _) ((heap_setCell_same _ _ _ _ _ _ HS1.out.row).trans rfl) ((Below.heap_setCell _ _ _ _ (Ne.symm HS1.out.lo.2.2.1)).trans HS1.out.err) ⟨rfl, rfl, rfl⟩ ⟨rfl, rfl⟩ ⟨rfl, rfl⟩, HU1.out.trans (Bu.set _ _ _)⟩
set_option maxRecDepth 100000 in
set_option maxHeartbeats 2000000 in
theorem from_rd {R F lo : Nat} {l : Rl} {m : Mp} {e0 : Int} {W : World} (hS : Rs R F lo l m e0 W) (v : Oct) (x y : Value) (hat : At (fun g => g ≠ R ∧ g ≠ F) W v x y) :
  Calls Tryz.prog 138 #[.pointer (some ⟨R, 0, none⟩), .agg (cell3 v x y)] W (MSame R F lo { l with fr := (rN v 3 1099511627776).1 } m (kp e0 (rN v 3 1099511627776).2) W) := by
 have HS0 := Lib.hid hS
 have hcl : ∀ V : World, Below W.heap.size W V → Calls Tryz.prog 149 #[.pointer (some ⟨R, 0, none⟩), .agg (cell3 v x y), .int .u8 3, .int .u64 1099511627776] V fun e V' => e = .returned (.int .u64 (rN v 3 1099511627776).1) ∧ Rs R F lo l m (kp e0 (rN v 3 1099511627776).2) V' ∧ Bu R F V V' := fun V hb => num_rd (hS.on hb) v 3 1099511627776 x y (Bu.at hat (Bu.below hb))
 have hx := rN_range v 3 1099511627776 (by decide)
 obtain ⟨A1, m1, c1, B1, n1, d1, rfl, rfl⟩ := hat.slices
 obtain ⟨X, hX⟩ : ∃ X, (rN v 3 1099511627776).1 = X := ⟨_, rfl⟩
 obtain ⟨E, hE⟩ : ∃ E, (rN v 3 1099511627776).2 = E := ⟨_, rfl⟩
 obtain ⟨tz, htz⟩ : ∃ tz : Int, ((tagO v).toNat : Int) = tz := ⟨_, rfl⟩
 unfold cell3 at hcl ⊢
 rw [hX, hE, htz] at hcl
 rw [hX, hE, htz]
 rw [hX] at hx
 obtain ⟨hx0, hx1⟩ := hx
 have hwi : IntKind.i64.wrap X = X := by
  simp [IntKind.wrap, IntKind.bits, IntKind.signed]
  omega
 have HCL := Lib.hid hcl
 have HROW := Lib.hid (heap_alloc_new W (.cells #[.int .u8 tz, .slice A1 m1 c1, .slice B1 n1 d1] 68))
 have HB0 := Lib.hid (below_new W (.cells #[.int .u8 tz, .slice A1 m1 c1, .slice B1 n1 d1] 68))
 clear hcl hX hE htz hat hS
 go_enter Tryz.func138, Tryz.ntmps138
 go_upto_region 1 with (fail)
 generalize hV : World.alloc W _ = V at HROW HB0 ⊢
 clear hV
 have hlt := (Array.getElem?_eq_some_iff.1 HROW.out).1
 obtain ⟨_, hc0, hc1, hc2⟩ := facts3 HROW.out
 have hrg := range3o hc0 hc1 hc2
 go_wp2_with fail
 refine (HCL.out V HB0.out).mono ?_
 rintro e w1 ⟨rfl, hs1, hu1⟩
 have HS1 := Lib.hid hs1
 have HU1 := Lib.hid ((Bu.below (a := R) (b := F) HB0.out).trans hu1)
 clear hlt hc0 hc1 hc2 hrg hs1 hu1 HROW HB0 HCL
 obtain ⟨k0, kf, q0, q1, q2, q3, q4, q5, q6, q7, q8⟩ := HS1.out.facts
 have kf0 := kf 2
 clear kf
 go_wp2_with fail
 go_end0
 exact ⟨rfl, HS1.out.to (Bu.set _ _ _) ((heap_setCell_same _ _ _ _ _ _ HS1.out.row).trans rfl) ((Below.heap_setCell _ _ _ _ (Ne.symm HS1.out.lo.2.2.1)).trans HS1.out.err) ⟨rfl, rfl, rfl⟩ ⟨rfl, rfl⟩ ⟨rfl, rfl⟩, HU1.out.trans (Bu.set _ _ _)⟩
set_option maxRecDepth 100000 in
set_option maxHeartbeats 2000000 in
theorem to_rd {R F lo : Nat} {l : Rl} {m : Mp} {e0 : Int} {W : World} (hS : Rs R F lo l m e0 W) (v : Oct) (x y : Value) (hat : At (fun g => g ≠ R ∧ g ≠ F) W v x y) :
  Calls Tryz.prog 139 #[.pointer (some ⟨R, 0, none⟩), .agg (cell3 v x y)] W (MSame R F lo { l with tt := (rN v 4 1099511627776).1 } m (kp e0 (rN v 4 1099511627776).2) W) := by
 have HS0 := Lib.hid hS
 have hcl : ∀ V : World, Below W.heap.size W V → Calls Tryz.prog 149 #[.pointer (some ⟨R, 0, none⟩), .agg (cell3 v x y), .int .u8 4, .int .u64 1099511627776] V fun e V' => e = .returned (.int .u64 (rN v 4 1099511627776).1) ∧ Rs R F lo l m (kp e0 (rN v 4 1099511627776).2) V' ∧ Bu R F V V' := fun V hb => num_rd (hS.on hb) v 4 1099511627776 x y (Bu.at hat (Bu.below hb))
 have hx := rN_range v 4 1099511627776 (by decide)
 obtain ⟨A1, m1, c1, B1, n1, d1, rfl, rfl⟩ := hat.slices
 obtain ⟨X, hX⟩ : ∃ X, (rN v 4 1099511627776).1 = X := ⟨_, rfl⟩
 obtain ⟨E, hE⟩ : ∃ E, (rN v 4 1099511627776).2 = E := ⟨_, rfl⟩
 obtain ⟨tz, htz⟩ : ∃ tz : Int, ((tagO v).toNat : Int) = tz := ⟨_, rfl⟩
 unfold cell3 at hcl ⊢
 rw [hX, hE, htz] at hcl
 rw [hX, hE, htz]
 rw [hX] at hx
 obtain ⟨hx0, hx1⟩ := hx
 have hwi : IntKind.i64.wrap X = X := by
  simp [IntKind.wrap, IntKind.bits, IntKind.signed]
  omega
 have HCL := Lib.hid hcl
 have HROW := Lib.hid (heap_alloc_new W (.cells #[.int .u8 tz, .slice A1 m1 c1, .slice B1 n1 d1] 68))
 have HB0 := Lib.hid (below_new W (.cells #[.int .u8 tz, .slice A1 m1 c1, .slice B1 n1 d1] 68))
 clear hcl hX hE htz hat hS
 go_enter Tryz.func139, Tryz.ntmps139
 go_upto_region 1 with (fail)
 generalize hV : World.alloc W _ = V at HROW HB0 ⊢
 clear hV
 have hlt := (Array.getElem?_eq_some_iff.1 HROW.out).1
 obtain ⟨_, hc0, hc1, hc2⟩ := facts3 HROW.out
 have hrg := range3o hc0 hc1 hc2
 go_wp2_with fail
 refine (HCL.out V HB0.out).mono ?_
 rintro e w1 ⟨rfl, hs1, hu1⟩
 have HS1 := Lib.hid hs1
 have HU1 := Lib.hid ((Bu.below (a := R) (b := F) HB0.out).trans hu1)
 clear hlt hc0 hc1 hc2 hrg hs1 hu1 HROW HB0 HCL
 obtain ⟨k0, kf, q0, q1, q2, q3, q4, q5, q6, q7, q8⟩ := HS1.out.facts
 have kf0 := kf 3
 clear kf
 go_wp2_with fail
 go_end0
 exact ⟨rfl, HS1.out.to (Bu.set _ _ _) ((heap_setCell_same _ _ _ _ _ _ HS1.out.row).trans rfl) ((Below.heap_setCell _ _ _ _ (Ne.symm HS1.out.lo.2.2.1)).trans HS1.out.err) ⟨rfl, rfl, rfl⟩ ⟨rfl, rfl⟩ ⟨rfl, rfl⟩, HU1.out.trans (Bu.set _ _ _)⟩
set_option maxRecDepth 100000 in
set_option maxHeartbeats 2000000 in
theorem index_rd {R F lo : Nat} {l : Rl} {m : Mp} {e0 : Int} {W : World} (hS : Rs R F lo l m e0 W) (v : Oct) (x y : Value) (hat : At (fun g => g ≠ R ∧ g ≠ F) W v x y) :
  Calls Tryz.prog 141 #[.pointer (some ⟨R, 0, none⟩), .agg (cell3 v x y)] W (MSame R F lo { l with sg := { l.sg with idx := (rN v 1 15).1 } } m (kp e0 (rN v 1 15).2) W) := by
 have HS0 := Lib.hid hS
 have hcl : ∀ V : World, Below W.heap.size W V → Calls Tryz.prog 149 #[.pointer (some ⟨R, 0, none⟩), .agg (cell3 v x y), .int .u8 1, .int .u64 15] V fun e V' => e = .returned (.int .u64 (rN v 1 15).1) ∧ Rs R F lo l m (kp e0 (rN v 1 15).2) V' ∧ Bu R F V V' := fun V hb => num_rd (hS.on hb) v 1 15 x y (Bu.at hat (Bu.below hb))
 have hx := rN_range v 1 15 (by decide)
 obtain ⟨A1, m1, c1, B1, n1, d1, rfl, rfl⟩ := hat.slices
 obtain ⟨X, hX⟩ : ∃ X, (rN v 1 15).1 = X := ⟨_, rfl⟩
 obtain ⟨E, hE⟩ : ∃ E, (rN v 1 15).2 = E := ⟨_, rfl⟩
 obtain ⟨tz, htz⟩ : ∃ tz : Int, ((tagO v).toNat : Int) = tz := ⟨_, rfl⟩
 unfold cell3 at hcl ⊢
 rw [hX, hE, htz] at hcl
 rw [hX, hE, htz]
 rw [hX] at hx
 obtain ⟨hx0, hx1⟩ := hx
 have hwi : IntKind.i64.wrap X = X := by
  simp [IntKind.wrap, IntKind.bits, IntKind.signed]
  omega
 have HCL := Lib.hid hcl
 have HROW := Lib.hid (heap_alloc_new W (.cells #[.int .u8 tz, .slice A1 m1 c1, .slice B1 n1 d1] 68))
 have HB0 := Lib.hid (below_new W (.cells #[.int .u8 tz, .slice A1 m1 c1, .slice B1 n1 d1] 68))
 clear hcl hX hE htz hat hS
 go_enter Tryz.func141, Tryz.ntmps141
 go_upto_region 1 with (fail)
 generalize hV : World.alloc W _ = V at HROW HB0 ⊢
 clear hV
 have hlt := (Array.getElem?_eq_some_iff.1 HROW.out).1
 obtain ⟨_, hc0, hc1, hc2⟩ := facts3 HROW.out
 have hrg := range3o hc0 hc1 hc2
 go_wp2_with fail
 refine (HCL.out V HB0.out).mono ?_
 rintro e w1 ⟨rfl, hs1, hu1⟩
 have HS1 := Lib.hid hs1
 have HU1 := Lib.hid ((Bu.below (a := R) (b := F) HB0.out).trans hu1)
 clear hlt hc0 hc1 hc2 hrg hs1 hu1 HROW HB0 HCL
 obtain ⟨k0, kf, q0, q1, q2, q3, q4, q5, q6, q7, q8⟩ := HS1.out.facts
 have kf0 := kf 5
 clear kf
 go_wp2_with fail
 go_end0
 exact ⟨rfl, HS1.out.to (Bu.set _ _ _) ((heap_setCell_same _ _ _ _ _ _ HS1.out.row).trans rfl) ((Below.heap_setCell _ _ _ _ (Ne.symm HS1.out.lo.2.2.1)).trans HS1.out.err) ⟨rfl, rfl, rfl⟩ ⟨rfl, rfl⟩ ⟨rfl, rfl⟩, HU1.out.trans (Bu.set _ _ _)⟩
end Sg
end Go.Proofs.YtcgffkkfeimifaaGreatDoor
namespace Go.Proofs.YtcgffkkfeimifaaGreatDoor
namespace Sg
open Go.RowKit Sha Oc
set_option linter.unusedVariables false
set_option linter.unusedSimpArgs false
theorem Bu.own {a b : Nat} {w z z' : World} {row : Option Nat} (h : Bu a b w z) (hg : z.grownBy z' row) (hr : ∀ k, row = some k → w.heap.size ≤ k) : Bu a b w z' :=
 ⟨hg.os.trans h.os, hg.tape.trans h.tape, hg.output.trans h.output, Nat.le_trans h.size hg.size, fun k hk h1 h2 => (hg.block k (Nat.lt_of_lt_of_le hk h.size) (fun e => by have := hr k e.symm; omega)).trans (h.oth k hk h1 h2)⟩
theorem own_typed {w : World} {base n k : Nat} {v : Value} {xs : List Value} {E : TypeId} (h : w.ownsRow base E k v n xs) {g : Nat} (e : v.ownBlock = some g) : ∃ cur, w.heap[g]? = some (Obj.cells cur E (0, 0)) := by
 rcases h.2 with ⟨rfl, _⟩ | ⟨g', cap, cur, rfl, h3, h4, _⟩
 ·
  cases e
 ·
  obtain rfl := Option.some.inj e
  exact ⟨cur, h4⟩
theorem uvals_snoc (xs : List Int) (x : Int) : uvals (xs ++ [x]) = uvals xs ++ [.int .u64 x] := by
 unfold uvals
 rw [List.map_append]
 rfl
theorem shs_nil {ls : List (List UInt8)} (h : ls = []) (A : Option Addr) (w : World) : Shs A ls w := by
 subst h
 exact ⟨fun i l hi => by simp at hi, fun l hl => by simp at hl⟩
theorem wp_append_u {w : World} {o : Oper} {a : Act} {K : Act → World → Prop} {Q : Exit → Act → World → Prop} (s x : Operand)
  (ho : o.op = .call { callee := .builtin .append, args := #[s, x], argTypes := #[22, 22] }) (base : Nat) (v : Value) (n : Nat) (xs : List Value) (hs : a.eval s = v) (hown : w.ownsRow base 23 1 v n xs)
  (Y : Nat) (X : Int) (hx : a.eval x = .slice (some ⟨Y, 0, none⟩) 1 1) (hc : w.cell? ⟨Y, 0, none⟩ = some (.int .u64 X)) (h63 : n < 5000) (hbase : base ≤ w.heap.size)
  (h : ∀ v' w', w'.ownsRow base 23 1 v' (n + 1) (xs ++ [.int .u64 X]) → w.grownBy w' v.ownBlock → K (a.put o.dst v') w') : o.wp Tryz.prog a w K Q := by
 obtain ⟨i0, hi, hz0, hz1, hz2⟩ := info_parts Tryz.info_u64
 exact wp_append_own _ s x 22 ho base 23 i0 (.int .u64 0) 1 8 Tryz.underlying22 hi hz0 hz1 hz2 rfl (by decide) v n xs hs hown ⟨Y, 0, none⟩ 1 1 [.int .u64 X] hx rfl (fun j u hj => by
  match j, hj with
  | 0, hj => obtain rfl := Option.some.inj hj; exact hc) (fun u hu => by
  simp at hu
  subst hu
  rfl) (by unfold maxLen; omega) (by omega) hbase (fun v' w' h1 h2 _ => h v' w' h1 h2)
theorem elsR_bu {a b : Nat} {w w' : World} {B : Option Addr} {l : List Oct} {g off : Nat} {vb vl : Nat → Value} (h : ElsR (fun g => g ≠ a ∧ g ≠ b) w B l g off vb vl) (k : Bu a b w w') : ElsR (fun g => g ≠ a ∧ g ≠ b) w' B l g off vb vl := by
 have hg : ∀ (i : Nat) (o : Oct), l[i]? = some o → g ≠ a ∧ g ≠ b := fun i o hi => (h.hB (fun e => by rw [e] at hi; simp at hi)).2
 have mv : ∀ {p : Nat} {u : Value}, g ≠ a ∧ g ≠ b → w.cell? ⟨g, p, none⟩ = some u → w'.cell? ⟨g, p, none⟩ = some u := fun h9 hu => cell_same (k.oth g (World.block_lt_of_cell? _ _ hu) h9.1 h9.2) hu
 exact ⟨h.hB, fun i o hi => mv (hg i o hi) (h.h0 i o hi), fun i o hi => mv (hg i o hi) (h.h1 i o hi), fun i o hi => mv (hg i o hi) (h.h2 i o hi), fun i o hi => Bu.at (h.hr i o hi) k⟩
theorem rdC_ser (l : Rl) (m : Mp) (F : Nat) (sk : List Int) (X : Int) (A : Option Addr) (c : Nat) : rdC { l with ser := sk ++ [X] } { m with SA := A, sc := c } F = (rdC { l with ser := sk } m F).setIfInBounds 4 (.slice A (sk.length + 1) c) := by
 simp [rdC]
theorem grown_setO (w : World) (b o : Nat) (v : Value) : w.grownBy (w.setCell ⟨b, o, none⟩ v) (some b) := ⟨rfl, rfl, rfl, (KeepsOthers.setCell _ _ _).size, fun k _ hk => Below.heap_setCell _ _ _ _ (fun e => hk (by rw [e]))⟩
def serF (a : List Int × Int) (ks : List Oct) : List Int × Int := ks.foldl (fun a o => (a.1 ++ [(rN o 5 18446744073709551615).1], kp a.2 (rN o 5 18446744073709551615).2)) a
theorem serF_snoc (a : List Int × Int) (ks : List Oct) (o : Oct) : serF a (ks ++ [o]) = ((serF a ks).1 ++ [(rN o 5 18446744073709551615).1], kp (serF a ks).2 (rN o 5 18446744073709551615).2) := by
 unfold serF
 rw [List.foldl_append]
 rfl
theorem serF_len (ks : List Oct) : ∀ a, (serF a ks).1.length = a.1.length + ks.length := by
 induction ks with
 | nil => intro a; rfl
 | cons o r ih =>
  intro a
  show (serF _ r).1.length = _
  rw [ih, List.length_append, List.length_cons]
  simp
  omega
def serR (v : Oct) (e0 : Int) : List Int × Int := if rdQ (tagO v) 129 (bytO v).length (kids v).length 0 500 = true then serF ([], e0) (kids v) else ([], kp e0 12)
structure Fresh (l : Rl) (m : Mp) : Prop where
 ser : l.ser = []
 cs : l.sg.cs = []
 ps : l.sg.ps = []
 SA : m.SA = none ∧ m.sc = 0
 CA : m.CA = none
 PA : m.PA = none
theorem Rs.high {R F lo : Nat} {l : Rl} {m : Mp} {e : Int} {W : World} (h : Rs R F lo l m e W) (hf : Fresh l m) : Rs R F W.heap.size l m e W :=
 ⟨h.row, h.err, by rw [hf.SA.1, hf.SA.2, hf.ser]; exact ⟨rfl, .inl ⟨rfl, rfl⟩⟩, ⟨h.cs.1, fun g o e => by rw [hf.CA] at e; cases e⟩, ⟨h.ps.1, fun g o e => by rw [hf.PA] at e; cases e⟩, ⟨Nat.lt_of_lt_of_le h.lo.1 h.lo.2.2.2, Nat.lt_of_lt_of_le h.lo.2.1 h.lo.2.2.2, h.lo.2.2.1, Nat.le_refl _⟩, h.len⟩
theorem Rs.lower {R F lo lo' : Nat} {l : Rl} {m : Mp} {e : Int} {W : World} (h : Rs R F lo l m e W) (h1 : lo' ≤ lo) (h2 : R < lo' ∧ F < lo') : Rs R F lo' l m e W :=
 ⟨h.row, h.err, own_base h.ser h1, ⟨h.cs.1, fun g o e => Nat.le_trans h1 (h.cs.2 g o e)⟩, ⟨h.ps.1, fun g o e => Nat.le_trans h1 (h.ps.2 g o e)⟩, ⟨h2.1, h2.2, h.lo.2.2.1, Nat.le_trans h1 h.lo.2.2.2⟩, h.len⟩
set_option maxRecDepth 100000 in
set_option maxHeartbeats 8000000 in
theorem serials_rd {R F lo : Nat} {l : Rl} {m : Mp} {e0 : Int} {W : World} (hS : Rs R F lo l m e0 W) (hfr : Fresh l m) (v : Oct) (hcn : cnt v ≤ 5000) (htt : tot v ≤ 100000) (x y : Value) (hat : At (fun g => g ≠ R ∧ g ≠ F) W v x y) :
  Calls Tryz.prog 140 #[.pointer (some ⟨R, 0, none⟩), .agg (cell3 v x y)] W (MPost R F lo { l with ser := (serR v e0).1 } (serR v e0).2 W) := by
 have HS0 := Lib.hid hS
 have HFR := Lib.hid hfr
 have hrq : ∀ V : World, Below W.heap.size W V → Calls Tryz.prog 135 #[.agg (cell3 v x y), .int .u8 129, .int .i64 0, .int .i64 500] V (RsPost (rdQ (tagO v) 129 (bytO v).length (kids v).length 0 500) (kids v) V) := fun V hb => by
  obtain ⟨t, b, ls⟩ := v
  exact readseq_any t b ls 129 0 500 hcn htt V x y (hat.any.on hb)
 have hqs : rdQ (tagO v) 129 (bytO v).length (kids v).length 0 500 = true → (kids v).length ≤ 500 := fun h => by
  have := (seq_of (v := v) (tg := 129) (lo := 0) (hi := 500) h).2.2
  omega
 obtain ⟨sr, hsr⟩ : ∃ sr, serR v e0 = sr := ⟨_, rfl⟩
 have hsr2 := hsr
 unfold serR at hsr2
 obtain ⟨A1, m1, c1, B1, n1, d1, rfl, rfl⟩ := hat.slices
 obtain ⟨yes, hyes⟩ : ∃ b, rdQ (tagO v) 129 (bytO v).length (kids v).length 0 500 = b := ⟨_, rfl⟩
 obtain ⟨kl, hkl⟩ : ∃ kl, kids v = kl := ⟨_, rfl⟩
 obtain ⟨tz0, htz0⟩ : ∃ tz : Int, ((tagO v).toNat : Int) = tz := ⟨_, rfl⟩
 unfold cell3 at hrq ⊢
 rw [hyes] at hrq hqs hsr2
 rw [hkl] at hrq hqs hsr2
 rw [htz0] at hrq
 rw [hsr, htz0]
 have HRQ := Lib.hid hrq
 have HQS := Lib.hid hqs
 have HSR := Lib.hid hsr2
 have HROW := Lib.hid (heap_alloc_new W (.cells #[.int .u8 tz0, .slice A1 m1 c1, .slice B1 n1 d1] 68))
 have HB0 := Lib.hid (below_new W (.cells #[.int .u8 tz0, .slice A1 m1 c1, .slice B1 n1 d1] 68))
 clear hrq hqs hsr hsr2 hyes hkl htz0 hat hS hfr hcn htt
 go_enter Tryz.func140, Tryz.ntmps140
 go_upto_region 1 with (fail)
 generalize hV : World.alloc W _ = V at HROW HB0 ⊢
 clear hV
 have hlt := (Array.getElem?_eq_some_iff.1 HROW.out).1
 obtain ⟨_, hc0, hc1, hc2⟩ := facts3 HROW.out
 have hrg := range3o hc0 hc1 hc2
 go_wp2_with fail
 refine (HRQ.out V HB0.out).mono ?_
 rintro e w1 ⟨vl, rfl, hatl, hb1⟩
 have HB1 := Lib.hid (chain HB0.out hb1)
 have HS1 := Lib.hid (HS0.out.on HB1.out)
 obtain ⟨kk, hkk⟩ : ∃ kk, (if yes = true then kl else []) = kk := ⟨_, rfl⟩
 obtain ⟨E1, hE1⟩ : ∃ E1 : Int, (if yes = true then (0 : Int) else 12) = E1 := ⟨_, rfl⟩
 rw [hkk] at hatl
 rw [hE1]
 have hat1 : At (fun g => g ≠ R ∧ g ≠ F) w1 (.mk 0 [] kk) (.slice none 0 0) vl := hatl.to fun g p u hu hR => ⟨hu, by
  have h1 := hR.1
  have h2 := HB0.out.size
  have h3 := HS0.out.lo
  omega⟩
 clear hlt hc0 hc1 hc2 hrg hb1 HROW HB0 HRQ hatl
 have HAT1 := Lib.hid hat1
 have HKK := Lib.hid hkk
 have HE1 := Lib.hid hE1
 obtain ⟨_, _, Bl, dl, gl, ol, vb, vc, _, rfl, _, _, _, _, _, hdl, hdn, _⟩ := hat1.elsR
 clear hat1 hkk hE1 hdl hdn
 obtain ⟨k0, k1, _, _, _, _, _, _, _, _, k8⟩ := HS1.out.facts
 go_wp2_with fail
 refine (keep_any F e0 E1 w1 HS1.out.err).mono ?_
 rintro e w2 ⟨rfl, herr, hg⟩
 have hs2 := HS1.out.keep hg herr
 have HS2 := Lib.hid (show Rs R F w2.heap.size l m (kp e0 E1) w2 from hs2.high HFR.out)
 have HU2 := Lib.hid ((Bu.below (a := R) (b := F) HB1.out).trans (Bu.grown hg))
 have HEL := Lib.hid (Bu.at HAT1.out (Bu.grown hg)).elsR
 clear k0 k1 k8 herr hg hs2 HAT1 HS1
 go_wp2_with fail
 obtain ⟨LW, hLW⟩ : ∃ LW, w2.heap.size = LW := ⟨_, rfl⟩
 rw [hLW] at HS2
 have HLW := Lib.hid hLW
 clear hLW
 obtain ⟨q, hq⟩ : ∃ q, kk.length = q := ⟨_, rfl⟩
 have hq5 : q ≤ 500 := by
  rw [← hq, ← HKK.out]
  cases yes with
  | true => rw [if_pos rfl]; exact HQS.out rfl
  | false => exact Nat.zero_le _
 rw [hq]
 have HQ := Lib.hid hq
 clear hq
 obtain ⟨_, _, B', d', g, off, vb, vc, _, e2, _, _, _, _, _, _, _, hels⟩ := HEL.out
 injection e2 with e3 e4 e5
 subst e3 e5
 have HELS := Lib.hid hels
 obtain ⟨E2, hE2⟩ : ∃ E2, kp e0 E1 = E2 := ⟨_, rfl⟩
 rw [hE2] at HS2
 have HE2 := Lib.hid hE2
 have HST : RowKit.Hid (∃ mk, Rs R F LW { l with ser := (serF ([], E2) (kk.take 0)).1 } mk (serF ([], E2) (kk.take 0)).2 w2) := Lib.hid ⟨m, by
  have h := HS2.out
  have h2 : ({ l with ser := (serF ([], E2) (kk.take 0)).1 } : Rl) = l := by
   have h3 := HFR.out.ser
   cases l
   dsimp only at h3
   rw [h3]
   rfl
  rw [h2]
  exact h⟩
 have HBU0 := Lib.hid (Bu.refl R F w2)
 have HFL := Lib.hid (show (l.sg.cs = [] ∧ l.sg.ps = []) from ⟨HFR.out.cs, HFR.out.ps⟩)
 have HRL := Lib.hid (show R < LW ∧ F < LW ∧ R ≠ F from ⟨HS2.out.lo.1, HS2.out.lo.2.1, HS2.out.lo.2.2.1⟩)
 clear hels HEL e4 hE2 HS2
 go_loopw [7, 21] (fun _ ix wr => ∃ k : Nat, k ≤ q ∧ ix = .int .i64 (k : Int) ∧ RowKit.Hid (∃ mk, Rs R F LW { l with ser := (serF ([], E2) (kk.take k)).1 } mk (serF ([], E2) (kk.take k)).2 wr) ∧ RowKit.Hid (Bu R F w2 wr)) (fun _ ix _ => q - (intOf ix).toNat)
 case atStart => exact ⟨0, Nat.zero_le _, rfl, HST, HBU0⟩
 case round =>
  clear HST HBU0
  obtain ⟨k, hk, rfl, HRW, BU_w⟩ := hrel
  obtain ⟨mk, hRS⟩ := HRW.out
  clear HRW
  by_cases hlt : k < q
  ·
   have hki : (k : Int) < (q : Int) := by omega
   obtain ⟨o, ho⟩ : ∃ o, kk[k]? = some o := ⟨_, List.getElem?_eq_getElem (by rw [HQ.out]; exact hlt)⟩
   have hsn := serF_snoc ([], E2) (kk.take k) o
   rw [← show kk.take (k + 1) = kk.take k ++ [o] by rw [List.take_add_one, ho]; rfl] at hsn
   have hsl := serF_len (kk.take k) ([], E2)
   have hkl : (kk.take k).length = k := by rw [List.length_take, HQ.out]; omega
   obtain ⟨sk, hsk⟩ : ∃ sk, (serF ([], E2) (kk.take k)).1 = sk := ⟨_, rfl⟩
   obtain ⟨ek, hek⟩ : ∃ ek, (serF ([], E2) (kk.take k)).2 = ek := ⟨_, rfl⟩
   obtain ⟨X, hX⟩ : ∃ X, (rN o 5 18446744073709551615).1 = X := ⟨_, rfl⟩
   obtain ⟨E, hE⟩ : ∃ E, (rN o 5 18446744073709551615).2 = E := ⟨_, rfl⟩
   rw [hsk, hek] at hRS hsn
   rw [hX, hE] at hsn
   rw [hsk, hkl] at hsl
   have HSN := Lib.hid hsn
   have HLEN : RowKit.Hid (sk.length < 5000) := Lib.hid (by have h0 : ([] : List Int).length = 0 := rfl; have h1 : sk.length = ([] : List Int).length + k := hsl; omega)
   have hew := elsR_bu HELS.out BU_w.out
   have hBB := (hew.hB (fun e => by rw [e] at ho; simp at ho)).1
   subst hBB
   have hc0 := hew.h0 k o ho
   have hc1 := hew.h1 k o ho
   have hc2 := hew.h2 k o ho
   have hat := HELS.out.hr k o ho
   obtain ⟨A2, m2, c2, B2, n2, d2, e1, e2⟩ := hat.slices
   rw [e1] at hc1 hat
   rw [e2] at hc2 hat
   obtain ⟨tz, htz⟩ : ∃ tz : Int, ((tagO o).toNat : Int) = tz := ⟨_, rfl⟩
   have hnum := fun (z : World) (hs : Rs R F LW { l with ser := sk } mk ek z) (ha : At (fun g => g ≠ R ∧ g ≠ F) z o (.slice A2 m2 c2) (.slice B2 n2 d2)) => num_rd hs o 5 18446744073709551615 _ _ ha
   unfold cell3 at hnum
   rw [hX, hE, htz] at hnum
   rw [htz] at hc0
   have NUM : RowKit.Hid (∀ (z : World) (hs : Rs R F LW { l with ser := sk } mk ek z) (ha : At (fun g => g ≠ R ∧ g ≠ F) z o (.slice A2 m2 c2) (.slice B2 n2 d2)), Calls Tryz.prog 149 #[.pointer (some ⟨R, 0, none⟩), .agg #[.int .u8 tz, .slice A2 m2 c2, .slice B2 n2 d2], .int .u8 5, .int .u64 18446744073709551615] z fun e W' => e = .returned (.int .u64 X) ∧ Rs R F LW { l with ser := sk } mk (kp ek E) W' ∧ Bu R F z W') := Lib.hid hnum
   have hAO := Lib.hid (fun (z : World) (h : Bu R F w2 z) => Bu.at hat h)
   have RS_w := Lib.hid hRS
   have HCS := Lib.hid (show l.sg.cs = [] ∧ l.sg.ps = [] ∧ (∀ g o, mk.CA = some ⟨g, o, none⟩ → LW ≤ g) ∧ (∀ g o, mk.PA = some ⟨g, o, none⟩ → LW ≤ g) from ⟨HFL.out.1, HFL.out.2, hRS.cs.2, hRS.ps.2⟩)
   have HCS3 := Lib.hid hRS.len.2
   have HQW := Lib.hid hRS.lo.2.2.2
   clear hsn hsl hkl hsk hek hX hE hew ho e1 e2 htz hnum hat hRS
   go_upto_region 6 with (fail)
   obtain ⟨BX, hBX⟩ : ∃ BX, wr.heap.size = BX := ⟨_, rfl⟩
   have hrX := heap_alloc_new wr (.cells #[.int .u8 tz, .slice A2 m2 c2, .slice B2 n2 d2] 68)
   have hbX := below_new wr (.cells #[.int .u8 tz, .slice A2 m2 c2, .slice B2 n2 d2] 68)
   generalize hV : World.alloc wr _ = V at hrX hbX ⊢
   clear hV
   rw [hBX] at hrX ⊢
   have HXR : RowKit.Hid (BX ≠ R ∧ BX ≠ F) := Lib.hid (by have h1 := HRL.out; have h2 := HQW.out; omega)
   clear hc0 hc1 hc2 hBX
   refine wp_region_held_drew (S := fun z => z.rangeAt BX 0 [Value.int .u8 tz, .slice A2 m2 c2, .slice B2 n2 d2]) (by kernel_rfl) (row_range (cs := [Value.int .u8 tz, .slice A2 m2 c2, .slice B2 n2 d2]) hrX) (fun hHeld => ?_)
   generalize hU : World.drew V = U at hHeld ⊢
   have hbU : Below V.heap.size V U := by rw [← hU]; exact (Below.refl _ _).drew
   clear hU
   have mkS : ∀ z : World, z.heap[BX]? = some (.cells #[Value.int .u8 tz, .slice A2 m2 c2, .slice B2 n2 d2] 68 (0, 0)) → z.rangeAt BX 0 [Value.int .u8 tz, .slice A2 m2 c2, .slice B2 n2 d2] := fun z hz => row_range (cs := [Value.int .u8 tz, .slice A2 m2 c2, .slice B2 n2 d2]) hz
   have hbWU := chain hbX hbU
   have RS_U := Lib.hid (RS_w.out.on hbWU)
   have BU_U := Lib.hid (BU_w.out.trans (Bu.below hbWU))
   have RX_U := Lib.hid (row_on hrX hbU)
   clear hrX hbX hbU hbWU RS_w BU_w
   refine wpAnyH_take (i := 0) (oi := { dst := some 25, op := .move (.tmp 0), type := 149, pos := "read.go:65", after := #[], guard := none }) (v := ?_) rfl (by kernel_rfl) (by kernel_rfl) (by kernel_rfl) (fun _ _ _ h => h) (Or.inl ⟨by rfl, ?_⟩) hHeld ?_
   rotate_left
   ·
    intro w hSw
    clear hSw
    go_simp
    try with_reducible rfl
   try simp only [Act.put, List.setIfInBounds_toArray, List.set_cons_zero, List.set_cons_succ]
   refine wpAnyH_take (i := 1) (oi := { dst := some 26, op := .move (.tmp 0), type := 149, pos := "read.go:65", after := #[], guard := none }) (v := ?_) rfl (by kernel_rfl) (by kernel_rfl) (by kernel_rfl) (fun _ _ _ h => h) (Or.inl ⟨by rfl, ?_⟩) hHeld ?_
   rotate_left
   ·
    intro w hSw
    clear hSw
    go_simp
    try with_reducible rfl
   try simp only [Act.put, List.setIfInBounds_toArray, List.set_cons_zero, List.set_cons_succ]
   refine wpAnyH_take (i := 2) (oi := { dst := some 27, op := .nilCheck (.tmp 26), type := 0, pos := "read.go:65", after := #[{ on := 1, ground := .data }], guard := none }) (v := ?_) rfl (by kernel_rfl) (by kernel_rfl) (by kernel_rfl) (fun _ _ _ h => h) (Or.inl ⟨by rfl, ?_⟩) hHeld ?_
   rotate_left
   ·
    intro w hSw
    clear hSw
    go_simp
    try with_reducible rfl
   try simp only [Act.put, List.setIfInBounds_toArray, List.set_cons_zero, List.set_cons_succ]
   refine wpAnyH_take (i := 3) (oi := { dst := some 28, op := .fieldAddr 122 (.tmp 27) 0, type := 0, pos := "read.go:65", after := #[{ on := 2, ground := .data }], guard := none }) (v := ?_) rfl (by kernel_rfl) (by kernel_rfl) (by kernel_rfl) (fun _ _ _ h => h) (Or.inl ⟨by rfl, ?_⟩) hHeld ?_
   rotate_left
   ·
    intro w hSw
    clear hSw
    go_simp
    try with_reducible rfl
   try simp only [Act.put, List.setIfInBounds_toArray, List.set_cons_zero, List.set_cons_succ]
   refine wpAnyH_take (i := 4) (oi := { dst := some 29, op := .fieldAddr 32 (.tmp 28) 3, type := 0, pos := "read.go:65", after := #[{ on := 3, ground := .data }], guard := none }) (v := ?_) rfl (by kernel_rfl) (by kernel_rfl) (by kernel_rfl) (fun _ _ _ h => h) (Or.inl ⟨by rfl, ?_⟩) hHeld ?_
   rotate_left
   ·
    intro w hSw
    clear hSw
    go_simp
    try with_reducible rfl
   try simp only [Act.put, List.setIfInBounds_toArray, List.set_cons_zero, List.set_cons_succ]
   refine wpAnyH_take (i := 6) (oi := { dst := some 31, op := .move (.tmp 0), type := 149, pos := "read.go:65", after := #[], guard := none }) (v := ?_) rfl (by kernel_rfl) (by kernel_rfl) (by kernel_rfl) (fun _ _ _ h => h) (Or.inl ⟨by rfl, ?_⟩) hHeld ?_
   rotate_left
   ·
    intro w hSw
    clear hSw
    go_simp
    try with_reducible rfl
   try simp only [Act.put, List.setIfInBounds_toArray, List.set_cons_zero, List.set_cons_succ]
   refine wpAnyH_take (i := 7) (oi := { dst := some 32, op := .load 68 (.tmp 7), type := 68, pos := "read.go:65", after := #[], guard := none }) (v := .agg ([Value.int .u8 tz, .slice A2 m2 c2, .slice B2 n2 d2]).toArray) rfl (by kernel_rfl) (by kernel_rfl) (by kernel_rfl) (fun _ _ _ h => h) (yieldsIf_load_mid (by rfl) _ _ rfl _ _ rfl [Value.int .u8 tz, .slice A2 m2 c2, .slice B2 n2 d2] _ (fun w hSw => hSw) Tryz.underlying68 rfl (sz3o _ _ _)) hHeld ?_
   try simp only [Act.put, List.setIfInBounds_toArray, List.set_cons_zero, List.set_cons_succ]
   refine wpAnyH_ready (rs := [5, 8]) (by kernel_rfl) (by simp) (AllReadyH.cons (o := { dst := some 30, op := .load 22 (.tmp 29), type := 22, pos := "read.go:65", after := #[{ on := 4, ground := .data }], guard := none }) rfl (fun K hK => ?_) (AllReadyH.cons (o := { dst := some 33, op := .call { callee := .value (.func 149), args := #[.tmp 31, .tmp 32, .const (.int .u8 5), .const (.int .u64 18446744073709551615)], argTypes := #[149, 68, 5, 23] }, type := 23, pos := "read.go:65", after := #[{ on := 6, ground := .data }, { on := 7, ground := .data }], guard := none }) rfl (fun K hK => ?_) AllReadyH.nil))
   ·
    skip
    have hc5 : U.cell? ⟨R, 4, none⟩ = some (.slice mk.SA sk.length mk.sc) := RS_U.out.facts.2.2.2.2.2.2.1
    go_simp
    clear hc5
    refine hK.out _ _ (mkS _ RX_U.out) (fun hHeld2 => ?_)
    clear hK K hHeld
    have hHeld := hHeld2
    clear hHeld2
    try simp only [Act.put, List.setIfInBounds_toArray, List.set_cons_zero, List.set_cons_succ]
    refine wpAnyH_ready (rs := [8]) (by kernel_rfl) (by simp) (AllReadyH.cons (o := { dst := some 33, op := .call { callee := .value (.func 149), args := #[.tmp 31, .tmp 32, .const (.int .u8 5), .const (.int .u64 18446744073709551615)], argTypes := #[149, 68, 5, 23] }, type := 23, pos := "read.go:65", after := #[{ on := 6, ground := .data }, { on := 7, ground := .data }], guard := none }) rfl (fun K hK => ?_) AllReadyH.nil)
    ·
     skip
     go_simp
     refine (NUM.out U RS_U.out (hAO.out U BU_U.out)).mono ?_
     rintro e z8_1 ⟨rfl, hs, hb⟩
     have RS_z8_1 := Lib.hid hs
     have BU_z8_1 := Lib.hid (BU_U.out.trans hb)
     have RX_z8_1 := Lib.hid ((hb.oth BX (Array.getElem?_eq_some_iff.1 RX_U.out).1 HXR.out.1 HXR.out.2).trans RX_U.out)
     clear hs hb
     go_simp
     refine hK.out _ _ (mkS _ RX_z8_1.out) (fun hHeld2 => ?_)
     clear hK K hHeld
     have hHeld := hHeld2
     clear hHeld2
     try simp only [Act.put, List.setIfInBounds_toArray, List.set_cons_zero, List.set_cons_succ]
     refine wpAnyH_ready (rs := [9]) (by kernel_rfl) (by simp) (AllReadyH.cons (o := { dst := some 34, op := .buildSlice 22 1 #[(0, .tmp 33)], type := 22, pos := "read.go:65", after := #[{ on := 8, ground := .data }], guard := none }) rfl (fun K hK => ?_) AllReadyH.nil)
     ·
      skip
      go_simp
      generalize hV : World.alloc z8_1 _ = z9_2
      have hb : Below z8_1.heap.size z8_1 z9_2 := by rw [← hV]; exact below_new _ _
      have R9 := Lib.hid (show z9_2.heap[z8_1.heap.size]? = some (.cells #[.int .u64 X] 23 (0, 0)) by rw [← hV]; exact heap_alloc_new _ _)
      have RS_z9_2 := Lib.hid (RS_z8_1.out.on hb)
      have BU_z9_2 := Lib.hid (BU_z8_1.out.trans (Bu.below hb))
      have RX_z9_2 := Lib.hid (row_on RX_z8_1.out hb)
      clear hV hb
      refine hK.out _ _ (mkS _ RX_z9_2.out) (fun hHeld2 => ?_)
      clear hK K hHeld
      have hHeld := hHeld2
      clear hHeld2
      try simp only [Act.put, List.setIfInBounds_toArray, List.set_cons_zero, List.set_cons_succ]
      refine wpAnyH_ready (rs := [10]) (by kernel_rfl) (by simp) (AllReadyH.cons (o := { dst := some 35, op := .call { callee := .builtin .append, args := #[.tmp 30, .tmp 34], argTypes := #[22, 22] }, type := 22, pos := "read.go:65", after := #[{ on := 5, ground := .data }, { on := 9, ground := .data }, { on := 8, ground := .chain }], guard := none }) rfl (fun K hK => ?_) AllReadyH.nil)
      ·
       skip
       rw [if_pos (by rfl)]
       refine wp_append_u (.tmp 30) (.tmp 34) rfl LW _ _ _ rfl RS_z9_2.out.ser _ X rfl (cell_of_one R9.out) HLEN.out RS_z9_2.out.lo.2.2.2 ?_
       intro v' z10_3 hown hgr
       obtain ⟨A3, c3, rfl⟩ := own_open hown
       have OW := Lib.hid hown
       have hl := RS_z9_2.out.lo
       have hbk : ∀ k, (Value.slice mk.SA sk.length mk.sc).ownBlock = some k → LW ≤ k := fun k e => (own_block RS_z9_2.out.ser e).1
       have R10 := Lib.hid ((hgr.block R (Array.getElem?_eq_some_iff.1 RS_z9_2.out.row).1 (fun e => by have := hbk R e.symm; omega)).trans RS_z9_2.out.row)
       have F10 := Lib.hid ((hgr.block F (Array.getElem?_eq_some_iff.1 RS_z9_2.out.err).1 (fun e => by have := hbk F e.symm; omega)).trans RS_z9_2.out.err)
       have RX_z10_3 := Lib.hid ((hgr.block BX (Array.getElem?_eq_some_iff.1 RX_z9_2.out).1 (fun e => by
        obtain ⟨cur, h⟩ := own_typed RS_z9_2.out.ser e.symm
        exact typed_ne RX_z9_2.out h (by decide) rfl)).trans RX_z9_2.out)
       have BU_z10_3 := Lib.hid (BU_z9_2.out.own hgr (fun k e => by rw [HLW.out]; exact hbk k e))
       have hc10 : z10_3.frozen? ⟨R, 4, none⟩ = false := frozen_of_row _ _ _ _ _ R10.out
       have hd10 : z10_3.cell? ⟨R, 4, none⟩ = some (.slice mk.SA sk.length mk.sc) := cell_of_row _ _ 4 _ _ _ R10.out
       have hz10 := (Array.getElem?_eq_some_iff.1 R10.out).1
       clear hown hgr hl hbk
       refine hK.out _ _ (mkS _ RX_z10_3.out) (fun hHeld2 => ?_)
       clear hK K hHeld
       have hHeld := hHeld2
       clear hHeld2
       try simp only [Act.put, List.setIfInBounds_toArray, List.set_cons_zero, List.set_cons_succ]
       refine wpAnyH_take (i := 11) (oi := { dst := some 36, op := .nilCheck (.tmp 25), type := 0, pos := "read.go:65", after := #[{ on := 0, ground := .data }, { on := 0, ground := .phase }, { on := 1, ground := .phase }, { on := 2, ground := .phase }, { on := 3, ground := .phase }, { on := 4, ground := .phase }, { on := 5, ground := .phase }, { on := 6, ground := .phase }, { on := 7, ground := .phase }, { on := 8, ground := .phase }, { on := 9, ground := .phase }, { on := 10, ground := .phase }], guard := none }) (v := ?_) rfl (by kernel_rfl) (by kernel_rfl) (by kernel_rfl) (fun _ _ _ h => h) (Or.inl ⟨by rfl, ?_⟩) hHeld ?_
       rotate_left
       ·
        intro w hSw
        clear hSw
        go_simp
        try with_reducible rfl
       try simp only [Act.put, List.setIfInBounds_toArray, List.set_cons_zero, List.set_cons_succ]
       refine wpAnyH_take (i := 12) (oi := { dst := some 37, op := .fieldAddr 122 (.tmp 36) 0, type := 0, pos := "read.go:65", after := #[{ on := 11, ground := .data }, { on := 0, ground := .phase }, { on := 1, ground := .phase }, { on := 2, ground := .phase }, { on := 3, ground := .phase }, { on := 4, ground := .phase }, { on := 5, ground := .phase }, { on := 6, ground := .phase }, { on := 7, ground := .phase }, { on := 8, ground := .phase }, { on := 9, ground := .phase }, { on := 10, ground := .phase }], guard := none }) (v := ?_) rfl (by kernel_rfl) (by kernel_rfl) (by kernel_rfl) (fun _ _ _ h => h) (Or.inl ⟨by rfl, ?_⟩) hHeld ?_
       rotate_left
       ·
        intro w hSw
        clear hSw
        go_simp
        try with_reducible rfl
       try simp only [Act.put, List.setIfInBounds_toArray, List.set_cons_zero, List.set_cons_succ]
       refine wpAnyH_take (i := 13) (oi := { dst := some 38, op := .fieldAddr 32 (.tmp 37) 3, type := 0, pos := "read.go:65", after := #[{ on := 12, ground := .data }, { on := 0, ground := .phase }, { on := 1, ground := .phase }, { on := 2, ground := .phase }, { on := 3, ground := .phase }, { on := 4, ground := .phase }, { on := 5, ground := .phase }, { on := 6, ground := .phase }, { on := 7, ground := .phase }, { on := 8, ground := .phase }, { on := 9, ground := .phase }, { on := 10, ground := .phase }], guard := none }) (v := ?_) rfl (by kernel_rfl) (by kernel_rfl) (by kernel_rfl) (fun _ _ _ h => h) (Or.inl ⟨by rfl, ?_⟩) hHeld ?_
       rotate_left
       ·
        intro w hSw
        clear hSw
        go_simp
        try with_reducible rfl
       try simp only [Act.put, List.setIfInBounds_toArray, List.set_cons_zero, List.set_cons_succ]
       refine wpAnyH_ready (rs := [14]) (by kernel_rfl) (by simp) (AllReadyH.cons (o := { dst := none, op := .store 22 (.tmp 38) (.tmp 35), type := 0, pos := "read.go:65", after := #[{ on := 13, ground := .data }, { on := 10, ground := .data }, { on := 10, ground := .chain }, { on := 0, ground := .phase }, { on := 1, ground := .phase }, { on := 2, ground := .phase }, { on := 3, ground := .phase }, { on := 4, ground := .phase }, { on := 5, ground := .phase }, { on := 6, ground := .phase }, { on := 7, ground := .phase }, { on := 8, ground := .phase }, { on := 9, ground := .phase }, { on := 10, ground := .phase }], guard := none }) rfl (fun K hK => ?_) AllReadyH.nil)
       ·
        skip
        go_simp
        generalize hV : World.setCell z10_3 _ _ = z14_4
        have hnb : BX ≠ R := HXR.out.1
        have RX_z14_4 := Lib.hid (show z14_4.heap[BX]? = some (.cells #[Value.int .u8 tz, .slice A2 m2 c2, .slice B2 n2 d2] 68 (0, 0)) by rw [← hV]; exact (Below.heap_setCell _ _ _ _ hnb).trans RX_z10_3.out)
        have hl := HRL.out
        have RS_z14_4 := Lib.hid (show Rs R F LW { l with ser := sk ++ [X] } { mk with SA := A3, sc := c3 } (kp ek E) z14_4 from ⟨by rw [← hV, rdC_ser]; exact heap_setCell_same _ _ _ _ _ _ R10.out, by rw [← hV]; exact (Below.heap_setCell _ _ _ _ (Ne.symm hl.2.2)).trans F10.out, by
         rw [← hV, uvals_snoc, List.length_append]
         exact OW.out.kept (grown_setO _ _ _ _) (.inr (fun e => by have := (own_block OW.out e).1; omega)), ⟨shs_nil HCS.out.1 _ _, HCS.out.2.2.1⟩, ⟨shs_nil HCS.out.2.1 _ _, HCS.out.2.2.2⟩, ⟨hl.1, hl.2.1, hl.2.2, by rw [← hV]; have h1 := (KeepsOthers.setCell z10_3 ⟨R, 4, none⟩ (.slice A3 (sk.length + 1) c3)).size; have h2 := BU_z10_3.out.size; have h3 := HLW.out; omega⟩, by
         have h4 := HLEN.out
         exact ⟨by rw [List.length_append]; show sk.length + 1 ≤ 5000; omega, HCS3.out⟩⟩)
        have BU_z14_4 := Lib.hid (show Bu R F w2 z14_4 by rw [← hV]; exact BU_z10_3.out.trans (Bu.set _ _ _))
        clear hV hl hnb hc10 hd10 hz10
        refine hK.out _ _ (mkS _ RX_z14_4.out) (fun hHeld2 => ?_)
        clear hK K hHeld
        have hHeld := hHeld2
        clear hHeld2
        try simp only [Act.put, List.setIfInBounds_toArray, List.set_cons_zero, List.set_cons_succ]
        refine wpAnyH_done (by kernel_rfl) ?_ _
        clear mkS hHeld
        go_wp2_with fail
        exact ⟨⟨k + 1, by omega, by go_num, Lib.hid ⟨_, by rw [HSN.out]; exact RS_z14_4.out⟩, BU_z14_4⟩, by simp [intOf]; omega⟩
   ·
    skip
    go_simp
    refine (NUM.out U RS_U.out (hAO.out U BU_U.out)).mono ?_
    rintro e z8_0 ⟨rfl, hs, hb⟩
    have RS_z8_0 := Lib.hid hs
    have BU_z8_0 := Lib.hid (BU_U.out.trans hb)
    have RX_z8_0 := Lib.hid ((hb.oth BX (Array.getElem?_eq_some_iff.1 RX_U.out).1 HXR.out.1 HXR.out.2).trans RX_U.out)
    clear hs hb
    go_simp
    refine hK.out _ _ (mkS _ RX_z8_0.out) (fun hHeld2 => ?_)
    clear hK K hHeld
    have hHeld := hHeld2
    clear hHeld2
    try simp only [Act.put, List.setIfInBounds_toArray, List.set_cons_zero, List.set_cons_succ]
    refine wpAnyH_ready (rs := [5, 9]) (by kernel_rfl) (by simp) (AllReadyH.cons (o := { dst := some 30, op := .load 22 (.tmp 29), type := 22, pos := "read.go:65", after := #[{ on := 4, ground := .data }], guard := none }) rfl (fun K hK => ?_) (AllReadyH.cons (o := { dst := some 34, op := .buildSlice 22 1 #[(0, .tmp 33)], type := 22, pos := "read.go:65", after := #[{ on := 8, ground := .data }], guard := none }) rfl (fun K hK => ?_) AllReadyH.nil))
    ·
     skip
     have hc5 : z8_0.cell? ⟨R, 4, none⟩ = some (.slice mk.SA sk.length mk.sc) := RS_z8_0.out.facts.2.2.2.2.2.2.1
     go_simp
     clear hc5
     refine hK.out _ _ (mkS _ RX_z8_0.out) (fun hHeld2 => ?_)
     clear hK K hHeld
     have hHeld := hHeld2
     clear hHeld2
     try simp only [Act.put, List.setIfInBounds_toArray, List.set_cons_zero, List.set_cons_succ]
     refine wpAnyH_ready (rs := [9]) (by kernel_rfl) (by simp) (AllReadyH.cons (o := { dst := some 34, op := .buildSlice 22 1 #[(0, .tmp 33)], type := 22, pos := "read.go:65", after := #[{ on := 8, ground := .data }], guard := none }) rfl (fun K hK => ?_) AllReadyH.nil)
     ·
      skip
      go_simp
      generalize hV : World.alloc z8_0 _ = z9_2
      have hb : Below z8_0.heap.size z8_0 z9_2 := by rw [← hV]; exact below_new _ _
      have R9 := Lib.hid (show z9_2.heap[z8_0.heap.size]? = some (.cells #[.int .u64 X] 23 (0, 0)) by rw [← hV]; exact heap_alloc_new _ _)
      have RS_z9_2 := Lib.hid (RS_z8_0.out.on hb)
      have BU_z9_2 := Lib.hid (BU_z8_0.out.trans (Bu.below hb))
      have RX_z9_2 := Lib.hid (row_on RX_z8_0.out hb)
      clear hV hb
      refine hK.out _ _ (mkS _ RX_z9_2.out) (fun hHeld2 => ?_)
      clear hK K hHeld
      have hHeld := hHeld2
      clear hHeld2
      try simp only [Act.put, List.setIfInBounds_toArray, List.set_cons_zero, List.set_cons_succ]
      refine wpAnyH_ready (rs := [10]) (by kernel_rfl) (by simp) (AllReadyH.cons (o := { dst := some 35, op := .call { callee := .builtin .append, args := #[.tmp 30, .tmp 34], argTypes := #[22, 22] }, type := 22, pos := "read.go:65", after := #[{ on := 5, ground := .data }, { on := 9, ground := .data }, { on := 8, ground := .chain }], guard := none }) rfl (fun K hK => ?_) AllReadyH.nil)
      ·
       skip
       rw [if_pos (by rfl)]
       refine wp_append_u (.tmp 30) (.tmp 34) rfl LW _ _ _ rfl RS_z9_2.out.ser _ X rfl (cell_of_one R9.out) HLEN.out RS_z9_2.out.lo.2.2.2 ?_
       intro v' z10_3 hown hgr
       obtain ⟨A3, c3, rfl⟩ := own_open hown
       have OW := Lib.hid hown
       have hl := RS_z9_2.out.lo
       have hbk : ∀ k, (Value.slice mk.SA sk.length mk.sc).ownBlock = some k → LW ≤ k := fun k e => (own_block RS_z9_2.out.ser e).1
       have R10 := Lib.hid ((hgr.block R (Array.getElem?_eq_some_iff.1 RS_z9_2.out.row).1 (fun e => by have := hbk R e.symm; omega)).trans RS_z9_2.out.row)
       have F10 := Lib.hid ((hgr.block F (Array.getElem?_eq_some_iff.1 RS_z9_2.out.err).1 (fun e => by have := hbk F e.symm; omega)).trans RS_z9_2.out.err)
       have RX_z10_3 := Lib.hid ((hgr.block BX (Array.getElem?_eq_some_iff.1 RX_z9_2.out).1 (fun e => by
        obtain ⟨cur, h⟩ := own_typed RS_z9_2.out.ser e.symm
        exact typed_ne RX_z9_2.out h (by decide) rfl)).trans RX_z9_2.out)
       have BU_z10_3 := Lib.hid (BU_z9_2.out.own hgr (fun k e => by rw [HLW.out]; exact hbk k e))
       have hc10 : z10_3.frozen? ⟨R, 4, none⟩ = false := frozen_of_row _ _ _ _ _ R10.out
       have hd10 : z10_3.cell? ⟨R, 4, none⟩ = some (.slice mk.SA sk.length mk.sc) := cell_of_row _ _ 4 _ _ _ R10.out
       have hz10 := (Array.getElem?_eq_some_iff.1 R10.out).1
       clear hown hgr hl hbk
       refine hK.out _ _ (mkS _ RX_z10_3.out) (fun hHeld2 => ?_)
       clear hK K hHeld
       have hHeld := hHeld2
       clear hHeld2
       try simp only [Act.put, List.setIfInBounds_toArray, List.set_cons_zero, List.set_cons_succ]
       refine wpAnyH_take (i := 11) (oi := { dst := some 36, op := .nilCheck (.tmp 25), type := 0, pos := "read.go:65", after := #[{ on := 0, ground := .data }, { on := 0, ground := .phase }, { on := 1, ground := .phase }, { on := 2, ground := .phase }, { on := 3, ground := .phase }, { on := 4, ground := .phase }, { on := 5, ground := .phase }, { on := 6, ground := .phase }, { on := 7, ground := .phase }, { on := 8, ground := .phase }, { on := 9, ground := .phase }, { on := 10, ground := .phase }], guard := none }) (v := ?_) rfl (by kernel_rfl) (by kernel_rfl) (by kernel_rfl) (fun _ _ _ h => h) (Or.inl ⟨by rfl, ?_⟩) hHeld ?_
       rotate_left
       ·
        intro w hSw
        clear hSw
        go_simp
        try with_reducible rfl
       try simp only [Act.put, List.setIfInBounds_toArray, List.set_cons_zero, List.set_cons_succ]
       refine wpAnyH_take (i := 12) (oi := { dst := some 37, op := .fieldAddr 122 (.tmp 36) 0, type := 0, pos := "read.go:65", after := #[{ on := 11, ground := .data }, { on := 0, ground := .phase }, { on := 1, ground := .phase }, { on := 2, ground := .phase }, { on := 3, ground := .phase }, { on := 4, ground := .phase }, { on := 5, ground := .phase }, { on := 6, ground := .phase }, { on := 7, ground := .phase }, { on := 8, ground := .phase }, { on := 9, ground := .phase }, { on := 10, ground := .phase }], guard := none }) (v := ?_) rfl (by kernel_rfl) (by kernel_rfl) (by kernel_rfl) (fun _ _ _ h => h) (Or.inl ⟨by rfl, ?_⟩) hHeld ?_
       rotate_left
       ·
        intro w hSw
        clear hSw
        go_simp
        try with_reducible rfl
       try simp only [Act.put, List.setIfInBounds_toArray, List.set_cons_zero, List.set_cons_succ]
       refine wpAnyH_take (i := 13) (oi := { dst := some 38, op := .fieldAddr 32 (.tmp 37) 3, type := 0, pos := "read.go:65", after := #[{ on := 12, ground := .data }, { on := 0, ground := .phase }, { on := 1, ground := .phase }, { on := 2, ground := .phase }, { on := 3, ground := .phase }, { on := 4, ground := .phase }, { on := 5, ground := .phase }, { on := 6, ground := .phase }, { on := 7, ground := .phase }, { on := 8, ground := .phase }, { on := 9, ground := .phase }, { on := 10, ground := .phase }], guard := none }) (v := ?_) rfl (by kernel_rfl) (by kernel_rfl) (by kernel_rfl) (fun _ _ _ h => h) (Or.inl ⟨by rfl, ?_⟩) hHeld ?_
       rotate_left
       ·
        intro w hSw
        clear hSw
        go_simp
        try with_reducible rfl
       try simp only [Act.put, List.setIfInBounds_toArray, List.set_cons_zero, List.set_cons_succ]
       refine wpAnyH_ready (rs := [14]) (by kernel_rfl) (by simp) (AllReadyH.cons (o := { dst := none, op := .store 22 (.tmp 38) (.tmp 35), type := 0, pos := "read.go:65", after := #[{ on := 13, ground := .data }, { on := 10, ground := .data }, { on := 10, ground := .chain }, { on := 0, ground := .phase }, { on := 1, ground := .phase }, { on := 2, ground := .phase }, { on := 3, ground := .phase }, { on := 4, ground := .phase }, { on := 5, ground := .phase }, { on := 6, ground := .phase }, { on := 7, ground := .phase }, { on := 8, ground := .phase }, { on := 9, ground := .phase }, { on := 10, ground := .phase }], guard := none }) rfl (fun K hK => ?_) AllReadyH.nil)
       ·
        skip
        go_simp
        generalize hV : World.setCell z10_3 _ _ = z14_4
        have hnb : BX ≠ R := HXR.out.1
        have RX_z14_4 := Lib.hid (show z14_4.heap[BX]? = some (.cells #[Value.int .u8 tz, .slice A2 m2 c2, .slice B2 n2 d2] 68 (0, 0)) by rw [← hV]; exact (Below.heap_setCell _ _ _ _ hnb).trans RX_z10_3.out)
        have hl := HRL.out
        have RS_z14_4 := Lib.hid (show Rs R F LW { l with ser := sk ++ [X] } { mk with SA := A3, sc := c3 } (kp ek E) z14_4 from ⟨by rw [← hV, rdC_ser]; exact heap_setCell_same _ _ _ _ _ _ R10.out, by rw [← hV]; exact (Below.heap_setCell _ _ _ _ (Ne.symm hl.2.2)).trans F10.out, by
         rw [← hV, uvals_snoc, List.length_append]
         exact OW.out.kept (grown_setO _ _ _ _) (.inr (fun e => by have := (own_block OW.out e).1; omega)), ⟨shs_nil HCS.out.1 _ _, HCS.out.2.2.1⟩, ⟨shs_nil HCS.out.2.1 _ _, HCS.out.2.2.2⟩, ⟨hl.1, hl.2.1, hl.2.2, by rw [← hV]; have h1 := (KeepsOthers.setCell z10_3 ⟨R, 4, none⟩ (.slice A3 (sk.length + 1) c3)).size; have h2 := BU_z10_3.out.size; have h3 := HLW.out; omega⟩, by
         have h4 := HLEN.out
         exact ⟨by rw [List.length_append]; show sk.length + 1 ≤ 5000; omega, HCS3.out⟩⟩)
        have BU_z14_4 := Lib.hid (show Bu R F w2 z14_4 by rw [← hV]; exact BU_z10_3.out.trans (Bu.set _ _ _))
        clear hV hl hnb hc10 hd10 hz10
        refine hK.out _ _ (mkS _ RX_z14_4.out) (fun hHeld2 => ?_)
        clear hK K hHeld
        have hHeld := hHeld2
        clear hHeld2
        try simp only [Act.put, List.setIfInBounds_toArray, List.set_cons_zero, List.set_cons_succ]
        refine wpAnyH_done (by kernel_rfl) ?_ _
        clear mkS hHeld
        go_wp2_with fail
        exact ⟨⟨k + 1, by omega, by go_num, Lib.hid ⟨_, by rw [HSN.out]; exact RS_z14_4.out⟩, BU_z14_4⟩, by simp [intOf]; omega⟩
    ·
     skip
     go_simp
     generalize hV : World.alloc z8_0 _ = z9_1
     have hb : Below z8_0.heap.size z8_0 z9_1 := by rw [← hV]; exact below_new _ _
     have R9 := Lib.hid (show z9_1.heap[z8_0.heap.size]? = some (.cells #[.int .u64 X] 23 (0, 0)) by rw [← hV]; exact heap_alloc_new _ _)
     have RS_z9_1 := Lib.hid (RS_z8_0.out.on hb)
     have BU_z9_1 := Lib.hid (BU_z8_0.out.trans (Bu.below hb))
     have RX_z9_1 := Lib.hid (row_on RX_z8_0.out hb)
     clear hV hb
     refine hK.out _ _ (mkS _ RX_z9_1.out) (fun hHeld2 => ?_)
     clear hK K hHeld
     have hHeld := hHeld2
     clear hHeld2
     try simp only [Act.put, List.setIfInBounds_toArray, List.set_cons_zero, List.set_cons_succ]
     refine wpAnyH_ready (rs := [5]) (by kernel_rfl) (by simp) (AllReadyH.cons (o := { dst := some 30, op := .load 22 (.tmp 29), type := 22, pos := "read.go:65", after := #[{ on := 4, ground := .data }], guard := none }) rfl (fun K hK => ?_) AllReadyH.nil)
     ·
      skip
      have hc5 : z9_1.cell? ⟨R, 4, none⟩ = some (.slice mk.SA sk.length mk.sc) := RS_z9_1.out.facts.2.2.2.2.2.2.1
      go_simp
      clear hc5
      refine hK.out _ _ (mkS _ RX_z9_1.out) (fun hHeld2 => ?_)
      clear hK K hHeld
      have hHeld := hHeld2
      clear hHeld2
      try simp only [Act.put, List.setIfInBounds_toArray, List.set_cons_zero, List.set_cons_succ]
      refine wpAnyH_ready (rs := [10]) (by kernel_rfl) (by simp) (AllReadyH.cons (o := { dst := some 35, op := .call { callee := .builtin .append, args := #[.tmp 30, .tmp 34], argTypes := #[22, 22] }, type := 22, pos := "read.go:65", after := #[{ on := 5, ground := .data }, { on := 9, ground := .data }, { on := 8, ground := .chain }], guard := none }) rfl (fun K hK => ?_) AllReadyH.nil)
      ·
       skip
       rw [if_pos (by rfl)]
       refine wp_append_u (.tmp 30) (.tmp 34) rfl LW _ _ _ rfl RS_z9_1.out.ser _ X rfl (cell_of_one R9.out) HLEN.out RS_z9_1.out.lo.2.2.2 ?_
       intro v' z10_3 hown hgr
       obtain ⟨A3, c3, rfl⟩ := own_open hown
       have OW := Lib.hid hown
       have hl := RS_z9_1.out.lo
       have hbk : ∀ k, (Value.slice mk.SA sk.length mk.sc).ownBlock = some k → LW ≤ k := fun k e => (own_block RS_z9_1.out.ser e).1
       have R10 := Lib.hid ((hgr.block R (Array.getElem?_eq_some_iff.1 RS_z9_1.out.row).1 (fun e => by have := hbk R e.symm; omega)).trans RS_z9_1.out.row)
       have F10 := Lib.hid ((hgr.block F (Array.getElem?_eq_some_iff.1 RS_z9_1.out.err).1 (fun e => by have := hbk F e.symm; omega)).trans RS_z9_1.out.err)
       have RX_z10_3 := Lib.hid ((hgr.block BX (Array.getElem?_eq_some_iff.1 RX_z9_1.out).1 (fun e => by
        obtain ⟨cur, h⟩ := own_typed RS_z9_1.out.ser e.symm
        exact typed_ne RX_z9_1.out h (by decide) rfl)).trans RX_z9_1.out)
       have BU_z10_3 := Lib.hid (BU_z9_1.out.own hgr (fun k e => by rw [HLW.out]; exact hbk k e))
       have hc10 : z10_3.frozen? ⟨R, 4, none⟩ = false := frozen_of_row _ _ _ _ _ R10.out
       have hd10 : z10_3.cell? ⟨R, 4, none⟩ = some (.slice mk.SA sk.length mk.sc) := cell_of_row _ _ 4 _ _ _ R10.out
       have hz10 := (Array.getElem?_eq_some_iff.1 R10.out).1
       clear hown hgr hl hbk
       refine hK.out _ _ (mkS _ RX_z10_3.out) (fun hHeld2 => ?_)
       clear hK K hHeld
       have hHeld := hHeld2
       clear hHeld2
       try simp only [Act.put, List.setIfInBounds_toArray, List.set_cons_zero, List.set_cons_succ]
       refine wpAnyH_take (i := 11) (oi := { dst := some 36, op := .nilCheck (.tmp 25), type := 0, pos := "read.go:65", after := #[{ on := 0, ground := .data }, { on := 0, ground := .phase }, { on := 1, ground := .phase }, { on := 2, ground := .phase }, { on := 3, ground := .phase }, { on := 4, ground := .phase }, { on := 5, ground := .phase }, { on := 6, ground := .phase }, { on := 7, ground := .phase }, { on := 8, ground := .phase }, { on := 9, ground := .phase }, { on := 10, ground := .phase }], guard := none }) (v := ?_) rfl (by kernel_rfl) (by kernel_rfl) (by kernel_rfl) (fun _ _ _ h => h) (Or.inl ⟨by rfl, ?_⟩) hHeld ?_
       rotate_left
       ·
        intro w hSw
        clear hSw
        go_simp
        try with_reducible rfl
       try simp only [Act.put, List.setIfInBounds_toArray, List.set_cons_zero, List.set_cons_succ]
       refine wpAnyH_take (i := 12) (oi := { dst := some 37, op := .fieldAddr 122 (.tmp 36) 0, type := 0, pos := "read.go:65", after := #[{ on := 11, ground := .data }, { on := 0, ground := .phase }, { on := 1, ground := .phase }, { on := 2, ground := .phase }, { on := 3, ground := .phase }, { on := 4, ground := .phase }, { on := 5, ground := .phase }, { on := 6, ground := .phase }, { on := 7, ground := .phase }, { on := 8, ground := .phase }, { on := 9, ground := .phase }, { on := 10, ground := .phase }], guard := none }) (v := ?_) rfl (by kernel_rfl) (by kernel_rfl) (by kernel_rfl) (fun _ _ _ h => h) (Or.inl ⟨by rfl, ?_⟩) hHeld ?_
       rotate_left
       ·
        intro w hSw
        clear hSw
        go_simp
        try with_reducible rfl
       try simp only [Act.put, List.setIfInBounds_toArray, List.set_cons_zero, List.set_cons_succ]
       refine wpAnyH_take (i := 13) (oi := { dst := some 38, op := .fieldAddr 32 (.tmp 37) 3, type := 0, pos := "read.go:65", after := #[{ on := 12, ground := .data }, { on := 0, ground := .phase }, { on := 1, ground := .phase }, { on := 2, ground := .phase }, { on := 3, ground := .phase }, { on := 4, ground := .phase }, { on := 5, ground := .phase }, { on := 6, ground := .phase }, { on := 7, ground := .phase }, { on := 8, ground := .phase }, { on := 9, ground := .phase }, { on := 10, ground := .phase }], guard := none }) (v := ?_) rfl (by kernel_rfl) (by kernel_rfl) (by kernel_rfl) (fun _ _ _ h => h) (Or.inl ⟨by rfl, ?_⟩) hHeld ?_
       rotate_left
       ·
        intro w hSw
        clear hSw
        go_simp
        try with_reducible rfl
       try simp only [Act.put, List.setIfInBounds_toArray, List.set_cons_zero, List.set_cons_succ]
       refine wpAnyH_ready (rs := [14]) (by kernel_rfl) (by simp) (AllReadyH.cons (o := { dst := none, op := .store 22 (.tmp 38) (.tmp 35), type := 0, pos := "read.go:65", after := #[{ on := 13, ground := .data }, { on := 10, ground := .data }, { on := 10, ground := .chain }, { on := 0, ground := .phase }, { on := 1, ground := .phase }, { on := 2, ground := .phase }, { on := 3, ground := .phase }, { on := 4, ground := .phase }, { on := 5, ground := .phase }, { on := 6, ground := .phase }, { on := 7, ground := .phase }, { on := 8, ground := .phase }, { on := 9, ground := .phase }, { on := 10, ground := .phase }], guard := none }) rfl (fun K hK => ?_) AllReadyH.nil)
       ·
        skip
        go_simp
        generalize hV : World.setCell z10_3 _ _ = z14_4
        have hnb : BX ≠ R := HXR.out.1
        have RX_z14_4 := Lib.hid (show z14_4.heap[BX]? = some (.cells #[Value.int .u8 tz, .slice A2 m2 c2, .slice B2 n2 d2] 68 (0, 0)) by rw [← hV]; exact (Below.heap_setCell _ _ _ _ hnb).trans RX_z10_3.out)
        have hl := HRL.out
        have RS_z14_4 := Lib.hid (show Rs R F LW { l with ser := sk ++ [X] } { mk with SA := A3, sc := c3 } (kp ek E) z14_4 from ⟨by rw [← hV, rdC_ser]; exact heap_setCell_same _ _ _ _ _ _ R10.out, by rw [← hV]; exact (Below.heap_setCell _ _ _ _ (Ne.symm hl.2.2)).trans F10.out, by
         rw [← hV, uvals_snoc, List.length_append]
         exact OW.out.kept (grown_setO _ _ _ _) (.inr (fun e => by have := (own_block OW.out e).1; omega)), ⟨shs_nil HCS.out.1 _ _, HCS.out.2.2.1⟩, ⟨shs_nil HCS.out.2.1 _ _, HCS.out.2.2.2⟩, ⟨hl.1, hl.2.1, hl.2.2, by rw [← hV]; have h1 := (KeepsOthers.setCell z10_3 ⟨R, 4, none⟩ (.slice A3 (sk.length + 1) c3)).size; have h2 := BU_z10_3.out.size; have h3 := HLW.out; omega⟩, by
         have h4 := HLEN.out
         exact ⟨by rw [List.length_append]; show sk.length + 1 ≤ 5000; omega, HCS3.out⟩⟩)
        have BU_z14_4 := Lib.hid (show Bu R F w2 z14_4 by rw [← hV]; exact BU_z10_3.out.trans (Bu.set _ _ _))
        clear hV hl hnb hc10 hd10 hz10
        refine hK.out _ _ (mkS _ RX_z14_4.out) (fun hHeld2 => ?_)
        clear hK K hHeld
        have hHeld := hHeld2
        clear hHeld2
        try simp only [Act.put, List.setIfInBounds_toArray, List.set_cons_zero, List.set_cons_succ]
        refine wpAnyH_done (by kernel_rfl) ?_ _
        clear mkS hHeld
        go_wp2_with fail
        exact ⟨⟨k + 1, by omega, by go_num, Lib.hid ⟨_, by rw [HSN.out]; exact RS_z14_4.out⟩, BU_z14_4⟩, by simp [intOf]; omega⟩
  ·
   have hkk : k = q := by omega
   have HKQ := Lib.hid hkk
   have hge : ¬ (k : Int) < (q : Int) := by omega
   have HRS9 := Lib.hid hRS
   clear hkk hRS
   go_wp2_with fail
   go_end0
   have h1 := HRS9.out
   have h2 := HSR.out
   rw [HKQ.out, List.take_of_length_le (by rw [HQ.out]; exact Nat.le_refl _)] at h1
   have h3 : serF ([], E2) kk = sr := by
    rw [← h2, ← HKK.out, ← HE2.out, ← HE1.out]
    cases yes with
    | true => rw [if_pos rfl, if_pos rfl, if_pos rfl, show kp e0 0 = e0 by unfold kp; split <;> (try omega) <;> rfl]
    | false => rfl
   rw [h3] at h1
   have h4 := HS0.out.lo
   have h5 := HU2.out.size
   have h6 := HLW.out
   exact ⟨rfl, ⟨mk, h1.lower (by omega) ⟨h4.1, h4.2.1⟩⟩, HU2.out.trans BU_w.out⟩
end Sg
end Go.Proofs.YtcgffkkfeimifaaGreatDoor
