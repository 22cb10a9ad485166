import Derived.Test.YtcgffkkfeimifaaGreatDoorMathAll
import Derived.Test.YtcgffkkfeimifaaGreatDoorOcRX
import Derived.Test.YtcgffkkfeimifaaGreatDoorSgBI
namespace Go.Proofs.YtcgffkkfeimifaaGreatDoor
namespace Sg
open Go.RowKit Sha Oc
set_option linter.unusedVariables false
theorem flat_16 : ∀ (ls : List (List UInt8)), (∀ l ∈ ls, l.length = 16) → ls.flatten.length = 16 * ls.length
 | [], _ => rfl
 | l :: r, h => by
  rw [List.flatten_cons, List.length_append, h l (List.mem_cons_self ..), flat_16 r (fun x hx => h x (List.mem_cons_of_mem _ hx)), List.length_cons]
  omega
def rbOf (l : Rl) : Rb := ⟨l.iss.data.toList, l.num.toNat, l.fr.toNat, l.tt.toNat, l.ser.map Int.toNat⟩
def sgOf (s : Sgn) : Oc.Sg := ⟨s.idx.toNat, s.cs, s.ps⟩
def rlV (l : Rl) : Oct := rwv (rbOf l) (sgOf l.sg)
structure Fit (l : Rl) : Prop where
 iss : l.iss.size ≤ 40
 num : 0 ≤ l.num ∧ l.num < 18446744073709551616
 fr : 0 ≤ l.fr ∧ l.fr ≤ 1099511627776
 tt : 0 ≤ l.tt ∧ l.tt ≤ 1099511627776
 len : l.ser.length ≤ 500
 ser : ∀ x ∈ l.ser, 0 ≤ x ∧ x < 18446744073709551616
 idx : 0 ≤ l.sg.idx ∧ l.sg.idx ≤ 15
 cs : l.sg.cs.length ≤ 35 ∧ ∀ x ∈ l.sg.cs, x.length = 16
 ps : l.sg.ps.length ≤ 4 ∧ ∀ x ∈ l.sg.ps, x.length = 16
theorem chkW_le {a b : Int} (h : chkW a b = 0) : (0 ≤ a ∧ a ≤ 1099511627776) ∧ (0 ≤ b ∧ b ≤ 1099511627776) := by
 unfold chkW at h
 by_cases hw : wnB a b = true
 ·
  rw [wnB_true] at hw
  omega
 ·
  rw [if_neg hw] at h
  exact absurd h (by decide)
theorem fit_of {l : Rl} (h : rvC l = 0) (hn : 0 ≤ l.num ∧ l.num < 18446744073709551616) (hs : ∀ x ∈ l.ser, x < 18446744073709551616) (hc : ∀ x ∈ l.sg.cs, x.length = 16) (hp : ∀ x ∈ l.sg.ps, x.length = 16) : Fit l := by
 have hsr := rv_sr h
 unfold rvC rcV at h
 by_cases h1 : 500 < l.ser.length
 ·
  rw [if_pos h1] at h
  exact absurd h (by decide)
 ·
  rw [if_neg h1] at h
  by_cases h2 : nameB l.iss = true ∧ chkW l.fr l.tt = 0 ∧ srB 0 l.ser = true ∧ wfV l.sg.idx l.sg.cs.length l.sg.ps.length = true
  ·
   obtain ⟨a1, a2, a3, a4⟩ := h2
   unfold nameB at a1
   simp only [Bool.and_eq_true, decide_eq_true_eq] at a1
   have w := chkW_le a2
   have hq := (srB_pair l.ser 0 hsr).1
   have hw : (0 ≤ l.sg.idx ∧ l.sg.idx ≤ 15) ∧ l.sg.cs.length ≤ 35 ∧ l.sg.ps.length ≤ 4 := by
    by_cases hz : l.sg.cs.length = 0 ∧ l.sg.ps.length = 0
    ·
     rw [wf_zero hz] at a4
     have := of_decide_eq_true a4
     omega
    ·
     rw [wf_some hz] at a4
     have h5 := of_decide_eq_true a4
     unfold chkV at h5
     by_cases h6 : 0 ≤ (l.sg.ps.length : Int) ∧ (l.sg.ps.length : Int) ≤ 4
     ·
      rw [if_pos h6] at h5
      by_cases h7 : (0 ≤ l.sg.idx ∧ l.sg.idx < ((2 ^ (l.sg.ps.length : Int).toNat : Nat) : Int)) ∧ l.sg.cs.length = 35 ∧ (l.sg.ps.length : Int) = (l.sg.ps.length : Int)
      ·
       have h8 : (2 : Nat) ^ (l.sg.ps.length : Int).toNat ≤ 2 ^ 4 := Nat.pow_le_pow_right (by decide) (by omega)
       have h9 : (2 : Nat) ^ 4 = 16 := by decide
       obtain ⟨q1, q2, _⟩ := h7
       omega
      ·
       rw [if_neg h7] at h5
       exact absurd h5 (by decide)
     ·
      rw [if_neg h6] at h5
      exact absurd h5 (by decide)
   exact ⟨a1.1.2, hn, w.1, w.2, by omega, fun x hx => ⟨by have := hq x hx; omega, hs x hx⟩, hw.1, ⟨hw.2.1, hc⟩, ⟨hw.2.2, hp⟩⟩
  ·
   rw [if_neg h2] at h
   exact absurd h (by decide)
theorem enc_sgv (s : Oc.Sg) (hi : s.index < 256 ^ 8) : (enc (sgv s)).length ≤ 28 + s.chains.flatten.length + s.path.flatten.length := by
 have h1 := enc_num 1 s.index hi
 have h2 := enc_str 2 s.chains.flatten
 have h3 := enc_str 3 s.path.flatten
 have h4 := enc_seq 131 [Oc.num 1 s.index, Oc.str 2 s.chains.flatten, Oc.str 3 s.path.flatten]
 rw [encs_cons, encs_cons, encs_cons, encs_nil] at h4
 unfold sgv
 omega
theorem rbv_len2 (r : Rb) (h : r.fits) (hi : r.issuer.length ≤ 40) : (enc (rbv r)).length ≤ 6640 := by
 have h1 := enc_str 1 r.issuer
 have h2 := enc_num 2 r.number h.n
 have h3 := enc_num 3 r.since h.a
 have h4 := enc_num 4 r.till h.b
 have h5 := encs_n5 r.serials h.s
 have h6 := enc_seq 129 (r.serials.map n5)
 have h7 := enc_seq 134 [Oc.str 1 r.issuer, Oc.num 2 r.number, Oc.num 3 r.since, Oc.num 4 r.till, Oc.seq 129 (r.serials.map n5)]
 have hl := h.l
 rw [encs_cons, encs_cons, encs_cons, encs_cons, encs_cons, encs_nil] at h7
 unfold rbv
 omega
theorem fits_of {l : Rl} (h : Fit l) : (rbOf l).fits := by
 have hp : (256 : Nat) ^ 8 = 18446744073709551616 := by decide
 refine ⟨?_, ?_, ?_, ?_, ?_, ?_⟩
 ·
  have := h.iss
  show l.iss.data.toList.length ≤ 1000
  rw [Array.length_toList]
  have : l.iss.data.size = l.iss.size := rfl
  omega
 ·
  show l.num.toNat < _; have := h.num; omega
 ·
  show l.fr.toNat < _; have := h.fr; omega
 ·
  show l.tt.toNat < _; have := h.tt; omega
 ·
  show (l.ser.map Int.toNat).length ≤ 500
  rw [List.length_map]
  exact h.len
 ·
  intro x hx
  obtain ⟨y, hy, rfl⟩ := List.mem_map.1 hx
  have := h.ser y hy
  omega
theorem fit_ck {l : Rl} (h : Fit l) : ckV (rbv (rbOf l)) = 0 ∧ ckV (rlV l) = 0 ∧ (enc (rbv (rbOf l))).length ≤ 6640 ∧ (enc (rlV l)).length ≤ 7400 := by
 have hf := fits_of h
 have h1 := rbv_len2 (rbOf l) hf (by
  show l.iss.data.toList.length ≤ 40
  rw [Array.length_toList]
  exact h.iss)
 have h2 := enc_sgv (sgOf l.sg) (by
  have hp : (256 : Nat) ^ 8 = 18446744073709551616 := by decide
  show l.sg.idx.toNat < _
  have := h.idx
  omega)
 have c1 : (sgOf l.sg).chains.flatten.length = 16 * l.sg.cs.length := flat_16 l.sg.cs h.cs.2
 have c2 : (sgOf l.sg).path.flatten.length = 16 * l.sg.ps.length := flat_16 l.sg.ps h.ps.2
 have c3 := h.cs.1
 have c4 := h.ps.1
 have h3 := enc_seq 135 [rbv (rbOf l), sgv (sgOf l.sg)]
 rw [encs_cons, encs_cons, encs_nil] at h3
 have h3' : (enc (rlV l)).length ≤ (enc (rbv (rbOf l))).length + ((enc (sgv (sgOf l.sg))).length + 0) + 5 := h3
 have n1 := cnt_enc (rbv (rbOf l))
 have n2 := cnt_enc (rlV l)
 obtain ⟨o1, o2⟩ := rbv_ok (rbOf l)
 obtain ⟨o3, o4⟩ := rwv_ok (rbOf l) (sgOf l.sg)
 have o4' : dep (rlV l) ≤ 5 := o4
 exact ⟨(ckV_good _).2 ⟨by omega, by omega, o1, by omega⟩, (ckV_good _).2 ⟨by omega, by omega, o3, by omega⟩, by omega, by omega⟩
end Sg
end Go.Proofs.YtcgffkkfeimifaaGreatDoor
