import Derived.Test.YthfgdgcdicacpaaEnM
import Derived.Test.YthfgdgcdicacpaaRoP
namespace Go.Proofs.Ythfgdgcdicacpaa
namespace Ro
open Go.RowKit Sha Oc En Adr
set_option linter.unusedVariables false
def apV (x : Ap) : Oct := Oc.seq 129 [Oc.num 1 x.f.toNat, Oc.num 2 x.h.toNat, Oc.num 3 x.l.toNat, Oc.num 4 x.n.toNat, Oc.num 5 x.m.toNat]
def raV (a : Ra) : Oct := Oc.seq 128 (Oc.num 1 a.sy.toNat :: a.ps.map apV)
def ApG (v : Oct) : Prop := SeqG 129 5 5 v ∧ NumG 1 255 (kid v 0) ∧ NumG 2 maxU (kid v 1) ∧ NumG 3 maxU (kid v 2) ∧ NumG 4 128 (kid v 3) ∧ NumG 5 128 (kid v 4)
def apO (v : Oct) : Ap := ⟨(numX (kid v 0) : Int), (numX (kid v 1) : Int), (numX (kid v 2) : Int), (numX (kid v 3) : Int), (numX (kid v 4) : Int)⟩
def RaG (v : Oct) : Prop := SeqG 128 1 101 v ∧ NumG 1 4294967295 (kid v 0) ∧ ∀ o ∈ (kids v).tail, ApG o
def raO (v : Oct) : Ra := ⟨(numX (kid v 0) : Int), (kids v).tail.map apO⟩
structure FitE (x : Ap) : Prop where
 f : 0 ≤ x.f ∧ x.f < 256
 h : U64 x.h
 l : U64 x.l
 n : 0 ≤ x.n ∧ x.n ≤ 128
 m : 0 ≤ x.m ∧ x.m ≤ 128
structure Fit (a : Ra) : Prop where
 sy : 0 ≤ a.sy ∧ a.sy < 4294967296
 len : 1 ≤ a.ps.length ∧ a.ps.length ≤ 100
 ps : ∀ x ∈ a.ps, FitE x
theorem ap_mk {x : Ap} (h : FitE x) : ApG (apV x) ∧ apO (apV x) = x := by
 obtain ⟨⟨f0, f1⟩, ⟨h0, h1⟩, ⟨l0, l1⟩, ⟨n0, n1⟩, ⟨m0, m1⟩⟩ := h
 obtain ⟨a1, b1⟩ := num_int 1 255 x.f f0 (by omega) (by omega)
 obtain ⟨a2, b2⟩ := num_int 2 maxU x.h h0 h1 (by show x.h ≤ 18446744073709551615; omega)
 obtain ⟨a3, b3⟩ := num_int 3 maxU x.l l0 l1 (by show x.l ≤ 18446744073709551615; omega)
 obtain ⟨a4, b4⟩ := num_int 4 128 x.n n0 (by omega) n1
 obtain ⟨a5, b5⟩ := num_int 5 128 x.m m0 (by omega) m1
 refine ⟨⟨seq_mk _ _ _ _ (by simp) (by simp), a1, a2, a3, a4, a5⟩, ?_⟩
 have e : apO (apV x) = ⟨(numX (Oc.num 1 x.f.toNat) : Int), (numX (Oc.num 2 x.h.toNat) : Int), (numX (Oc.num 3 x.l.toNat) : Int), (numX (Oc.num 4 x.n.toNat) : Int), (numX (Oc.num 5 x.m.toNat) : Int)⟩ := rfl
 rw [e, b1, b2, b3, b4, b5]
theorem aps_mk : ∀ l : List Ap, (∀ x ∈ l, FitE x) → (∀ o ∈ l.map apV, ApG o) ∧ (l.map apV).map apO = l
 | [], _ => ⟨fun o ho => (by cases ho), rfl⟩
 | x :: r, h => by
  obtain ⟨a, b⟩ := ap_mk (h x (List.mem_cons_self ..))
  obtain ⟨c, d⟩ := aps_mk r (fun y hy => h y (List.mem_cons_of_mem _ hy))
  rw [List.map_cons, List.map_cons, b, d]
  refine ⟨fun o ho => ?_, rfl⟩
  rcases List.mem_cons.1 ho with rfl | ho
  ·
   exact a
  ·
   exact c o ho
theorem ra_mk {a : Ra} (h : Fit a) : RaG (raV a) ∧ raO (raV a) = a := by
 obtain ⟨⟨a0, a1⟩, ⟨l0, l1⟩, hp⟩ := h
 obtain ⟨c, d⟩ := aps_mk a.ps hp
 obtain ⟨n1, n2⟩ := num_int 1 4294967295 a.sy a0 (by omega) (by omega)
 refine ⟨⟨seq_mk _ _ _ _ ?_ ?_, n1, c⟩, ?_⟩
 ·
  show (1 : Int) ≤ (((Oc.num 1 a.sy.toNat :: a.ps.map apV).length : Nat) : Int)
  rw [List.length_cons, List.length_map]; omega
 ·
  show (((Oc.num 1 a.sy.toNat :: a.ps.map apV).length : Nat) : Int) ≤ 101
  rw [List.length_cons, List.length_map]; omega
 ·
  have e : raO (raV a) = ⟨(numX (Oc.num 1 a.sy.toNat) : Int), (a.ps.map apV).map apO⟩ := rfl
  rw [e, n2, d]
theorem fit_of {a : Ra} (hw : Wf a) (h : raC a.ps = 0) : Fit a := by
 obtain ⟨h1, h2, h3⟩ := raC_zero h
 exact ⟨hw.sy, ⟨h1, h2⟩, fun x hx => by
  have hb := vE_bounds (srt_all _ _ h3 x hx)
  have hx' := hw.ps x hx
  exact ⟨hx'.f, hx'.h, hx'.l, hb.1, hb.2⟩⟩
theorem apV_ok (x : Ap) : shp (apV x) ∧ dep (apV x) ≤ 2 := by
 unfold apV
 refine ⟨shp_seq _ _ (by decide) ?_, dep_seq _ _ 1 ?_⟩
 ·
  intro v hv
  simp only [List.mem_cons, List.not_mem_nil, or_false] at hv
  rcases hv with rfl | rfl | rfl | rfl | rfl
  all_goals exact shp_num _ _ (by decide) (by decide)
 ·
  intro v hv
  simp only [List.mem_cons, List.not_mem_nil, or_false] at hv
  rcases hv with rfl | rfl | rfl | rfl | rfl
  all_goals (rw [dep_num]; exact Nat.le_refl _)
theorem raV_ok (a : Ra) : shp (raV a) ∧ dep (raV a) ≤ 3 := by
 unfold raV
 refine ⟨shp_seq _ _ (by decide) ?_, dep_seq _ _ 2 ?_⟩
 ·
  intro v hv
  rcases List.mem_cons.1 hv with rfl | hv
  ·
   exact shp_num _ _ (by decide) (by decide)
  ·
   obtain ⟨x, _, rfl⟩ := List.mem_map.1 hv
   exact (apV_ok x).1
 ·
  intro v hv
  rcases List.mem_cons.1 hv with rfl | hv
  ·
   rw [dep_num]; decide
  ·
   obtain ⟨x, _, rfl⟩ := List.mem_map.1 hv
   exact (apV_ok x).2
theorem u64_256 {x : Int} (h : U64 x) : x.toNat < 256 ^ 8 := by
 have hp : (256 : Nat) ^ 8 = 18446744073709551616 := by decide
 have := h.1; have := h.2; omega
theorem apV_len {x : Ap} (h : FitE x) : (enc (apV x)).length ≤ 70 := by
 have hp : (256 : Nat) ^ 8 = 18446744073709551616 := by decide
 have h1 := enc_num 1 x.f.toNat (by have := h.f; omega)
 have h2 := enc_num 2 x.h.toNat (u64_256 h.h)
 have h3 := enc_num 3 x.l.toNat (u64_256 h.l)
 have h4 := enc_num 4 x.n.toNat (by have := h.n; omega)
 have h5 := enc_num 5 x.m.toNat (by have := h.m; omega)
 have h6 := enc_seq 129 [Oc.num 1 x.f.toNat, Oc.num 2 x.h.toNat, Oc.num 3 x.l.toNat, Oc.num 4 x.n.toNat, Oc.num 5 x.m.toNat]
 rw [encs_cons, encs_cons, encs_cons, encs_cons, encs_cons, encs_nil] at h6
 unfold apV
 omega
theorem apsV_len : ∀ l : List Ap, (∀ x ∈ l, FitE x) → (encs (l.map apV)).length ≤ 70 * l.length
 | [], _ => by rw [List.map_nil, encs_nil]; omega
 | x :: r, h => by
  have h1 := apV_len (h x (List.mem_cons_self ..))
  have h2 := apsV_len r (fun y hy => h y (List.mem_cons_of_mem _ hy))
  rw [List.map_cons, encs_cons, List.length_cons]
  omega
theorem raV_len {a : Ra} (h : Fit a) : (enc (raV a)).length ≤ 7100 := by
 have hp : (256 : Nat) ^ 8 = 18446744073709551616 := by decide
 have h1 := enc_num 1 a.sy.toNat (by have := h.sy; omega)
 have h2 := apsV_len a.ps h.ps
 have h3 := enc_seq 128 (Oc.num 1 a.sy.toNat :: a.ps.map apV)
 have h4 := h.len
 rw [encs_cons] at h3
 unfold raV
 omega
theorem raV_ck {a : Ra} (h : Fit a) : ckV (raV a) = 0 := by
 have h1 := raV_len h
 have h2 := cnt_enc (raV a)
 have h3 := raV_ok a
 exact (ckV_good _).2 ⟨by omega, by omega, h3.1, by omega⟩
instance decApG (v : Oct) : Decidable (ApG v) := by
 unfold ApG NumG SeqG
 exact inferInstance
instance decRaG (v : Oct) : Decidable (RaG v) := by
 unfold RaG NumG SeqG
 exact inferInstance
def raD (b : List UInt8) : Ra × Int := if (decV b).2 = 0 ∧ RaG (decV b).1 ∧ raC (raO (decV b).1).ps = 0 then (raO (decV b).1, 0) else (ra0, 12)
theorem raD_no {b : List UInt8} (h : ¬ ((decV b).2 = 0 ∧ RaG (decV b).1 ∧ raC (raO (decV b).1).ps = 0)) : raD b = (ra0, 12) := by unfold raD; rw [if_neg h]
theorem raD_yes {b : List UInt8} (h : (decV b).2 = 0 ∧ RaG (decV b).1 ∧ raC (raO (decV b).1).ps = 0) : raD b = (raO (decV b).1, 0) := by unfold raD; rw [if_pos h]
theorem wf_raO {v : Oct} (h : RaG v) : Wf (raO v) := by
 obtain ⟨h0, h1, h2⟩ := h
 have hp : (256 : Nat) ^ 8 = 18446744073709551616 := by decide
 refine ⟨⟨Int.natCast_nonneg _, by have := (num_of h1).2.1; show (numX (kid v 0) : Int) < _; omega⟩, fun x hx => ?_⟩
 obtain ⟨o, ho, rfl⟩ := List.mem_map.1 hx
 obtain ⟨g0, g1, g2, g3, g4, g5⟩ := h2 o ho
 have b1 := (num_of g1).2.1
 have b2 := (num_of g2).2.2.1
 have b3 := (num_of g3).2.2.1
 exact ⟨⟨Int.natCast_nonneg _, by show (numX (kid o 0) : Int) < 256; omega⟩, ⟨Int.natCast_nonneg _, by show (numX (kid o 1) : Int) < 18446744073709551616; omega⟩, ⟨Int.natCast_nonneg _, by show (numX (kid o 2) : Int) < 18446744073709551616; omega⟩⟩
theorem raD_enc {a : Ra} (hw : Wf a) (h : raC a.ps = 0) : raD (enc (raV a)) = (a, 0) := by
 have hf := fit_of hw h
 obtain ⟨h1, h2⟩ := ra_mk hf
 have h3 := decV_enc (raV a) (raV_ck hf)
 rw [raD_yes ⟨by rw [h3], by rw [h3]; exact h1, by rw [h3]; show raC (raO (raV a)).ps = 0; rw [h2]; exact h⟩, h3]
 show (raO (raV a), 0) = (a, 0)
 rw [h2]
end Ro
end Go.Proofs.Ythfgdgcdicacpaa
