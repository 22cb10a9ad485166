import Derived.Test.YtcgffkkfeimifaaGreatDoorMathAll
import Derived.Test.YtcgffkkfeimifaaGreatDoorOcRX
import Derived.Test.YtcgffkkfeimifaaGreatDoorSgBI
namespace Go.Proofs.YtcgffkkfeimifaaGreatDoor
namespace Sg
open Go.RowKit Sha Oc
set_option linter.unusedVariables false
def chs : Nat → List UInt8 → List (List UInt8)
 | 0, _ => []
 | n + 1, b => b.take 16 :: chs n (b.drop 16)
def chO (b : List UInt8) : List (List UInt8) := chs (b.length / 16) b
theorem chs_len : ∀ (n : Nat) (b : List UInt8), (chs n b).length = n
 | 0, _ => rfl
 | n + 1, b => by rw [chs, List.length_cons, chs_len n]
theorem chs_flat : ∀ (ls : List (List UInt8)), (∀ l ∈ ls, l.length = 16) → chs ls.length ls.flatten = ls
 | [], _ => rfl
 | l :: r, h => by
  have hl := h l (List.mem_cons_self ..)
  rw [List.length_cons, chs, List.flatten_cons, List.take_left' hl, List.drop_left' hl, chs_flat r (fun x hx => h x (List.mem_cons_of_mem _ hx))]
theorem flat_16 : ∀ (ls : List (List UInt8)), (∀ l ∈ ls, l.length = 16) → ls.flatten.length = 16 * ls.length
 | [], _ => rfl
 | l :: r, h => by
  rw [List.flatten_cons, List.length_append, h l (List.mem_cons_self ..), flat_16 r (fun x hx => h x (List.mem_cons_of_mem _ hx)), List.length_cons]
  omega
theorem chO_flat (ls : List (List UInt8)) (h : ∀ l ∈ ls, l.length = 16) : chO ls.flatten = ls := by
 unfold chO
 rw [flat_16 ls h, Nat.mul_div_cancel_left _ (by decide), chs_flat ls h]
def NumG (tg : UInt8) (M : Int) (v : Oct) : Prop := (rdN (tagO v) tg (bytO v) (kids v).length M).2 = 0
def numX (v : Oct) : Nat := numN (bytO v)
def StrG (tg : UInt8) (M : Int) (v : Oct) : Prop := (rdS (tagO v) tg (bytO v) (kids v).length M).2 = 0
def SeqG (tg : UInt8) (lo hi : Int) (v : Oct) : Prop := rdQ (tagO v) tg (bytO v).length (kids v).length lo hi = true
theorem num_of {tg : UInt8} {M : Int} {v : Oct} (h : NumG tg M v) : v = num tg (numX v) ∧ (numX v : Int) ≤ M ∧ numX v < 256 ^ 8 ∧ (rdN (tagO v) tg (bytO v) (kids v).length M).1 = (numX v : Int) := by
 obtain ⟨t, b, l⟩ := v
 unfold NumG at h
 unfold rdN at h ⊢
 by_cases hc : tagO (.mk t b l) = tg ∧ (kids (.mk t b l)).length = 0 ∧ okN (bytO (.mk t b l)) = true ∧ (numN (bytO (.mk t b l)) : Int) ≤ M
 ·
  rw [if_pos hc]
  obtain ⟨h1, h2, h3, h4⟩ := hc
  have h1' : t = tg := h1
  have h2' : l = [] := List.eq_nil_of_length_eq_zero h2
  subst h1' h2'
  obtain ⟨e1, e2⟩ := okN_vl b h3
  have hlt := numN_lt b
  refine ⟨?_, h4, ?_, rfl⟩
  ·
   show Oct.mk t b [] = Oct.mk t (nb (numN b)) []
   rw [e1, e2]
  ·
   show numN b < 256 ^ 8
   exact Nat.lt_of_lt_of_le hlt (by decide)
 ·
  rw [if_neg hc] at h
  exact absurd h (by decide)
theorem num_mk (tg : UInt8) (M : Int) (x : Nat) (hx : x < 256 ^ 8) (hM : (x : Int) ≤ M) : NumG tg M (num tg x) ∧ numX (num tg x) = x := by
 obtain ⟨e1, e2⟩ := okN_nb x hx
 have h2 : numX (num tg x) = x := e2
 refine ⟨?_, h2⟩
 unfold NumG rdN
 rw [if_pos ⟨rfl, rfl, e1, by show (numN (nb x) : Int) ≤ M; rw [e2]; exact hM⟩]
theorem str_of {tg : UInt8} {M : Int} {v : Oct} (h : StrG tg M v) : v = str tg (bytO v) ∧ ((bytO v).length : Int) ≤ M ∧ (rdS (tagO v) tg (bytO v) (kids v).length M).1 = bytO v := by
 obtain ⟨t, b, l⟩ := v
 unfold StrG at h
 unfold rdS at h ⊢
 by_cases hc : tagO (.mk t b l) = tg ∧ (kids (.mk t b l)).length = 0 ∧ ((bytO (.mk t b l)).length : Int) ≤ M
 ·
  rw [if_pos hc]
  obtain ⟨h1, h2, h3⟩ := hc
  have h1' : t = tg := h1
  have h2' : l = [] := List.eq_nil_of_length_eq_zero h2
  subst h1' h2'
  exact ⟨rfl, h3, rfl⟩
 ·
  rw [if_neg hc] at h
  exact absurd h (by decide)
theorem str_mk (tg : UInt8) (M : Int) (b : List UInt8) (h : (b.length : Int) ≤ M) : StrG tg M (str tg b) := by
 unfold StrG rdS
 rw [if_pos ⟨rfl, rfl, h⟩]
theorem seq_of {tg : UInt8} {lo hi : Int} {v : Oct} (h : SeqG tg lo hi v) : v = seq tg (kids v) ∧ lo ≤ ((kids v).length : Int) ∧ ((kids v).length : Int) ≤ hi := by
 obtain ⟨t, b, l⟩ := v
 unfold SeqG rdQ at h
 obtain ⟨h1, h2, h3, h4⟩ := of_decide_eq_true h
 have h1' : t = tg := h1
 have h2' : b = [] := List.eq_nil_of_length_eq_zero h2
 subst h1' h2'
 exact ⟨rfl, h3, h4⟩
theorem seq_mk (tg : UInt8) (lo hi : Int) (l : List Oct) (h1 : lo ≤ (l.length : Int)) (h2 : (l.length : Int) ≤ hi) : SeqG tg lo hi (seq tg l) := by
 unfold SeqG rdQ
 exact decide_eq_true ⟨rfl, rfl, h1, h2⟩
def kid (v : Oct) (k : Nat) : Oct := (kids v).getD k nilO
abbrev maxU : Int := 18446744073709551615
abbrev maxT : Int := 1099511627776
def ShG (tg : UInt8) (M : Int) (v : Oct) : Prop := StrG tg M v ∧ (bytO v).length % 16 = 0
def SerG (v : Oct) : Prop := SeqG 129 0 500 v ∧ ∀ o ∈ kids v, NumG 5 maxU o
def SigG (v : Oct) : Prop := SeqG 131 3 3 v ∧ NumG 1 15 (kid v 0) ∧ ShG 2 560 (kid v 1) ∧ ShG 3 64 (kid v 2)
def BodyG (v : Oct) : Prop := SeqG 134 5 5 v ∧ StrG 1 40 (kid v 0) ∧ NumG 2 maxU (kid v 1) ∧ NumG 3 maxT (kid v 2) ∧ NumG 4 maxT (kid v 3) ∧ SerG (kid v 4)
def WholeG (v : Oct) : Prop := SeqG 135 2 2 v ∧ BodyG (kid v 0) ∧ SigG (kid v 1)
def serO (v : Oct) : List Int := (kids v).map fun o => (numX o : Int)
def sgO (v : Oct) : Sgn := ⟨(numX (kid v 0) : Int), chO (bytO (kid v 1)), chO (bytO (kid v 2))⟩
def rlO (v : Oct) : Rl := ⟨⟨(bytO (kid (kid v 0) 0)).toArray⟩, (numX (kid (kid v 0) 1) : Int), (numX (kid (kid v 0) 2) : Int), (numX (kid (kid v 0) 3) : Int), serO (kid (kid v 0) 4), sgO (kid v 1)⟩
def rbOf (l : Rl) : Rb := ⟨l.iss.data.toList, l.num.toNat, l.fr.toNat, l.tt.toNat, l.ser.map Int.toNat⟩
def sgOf (s : Sgn) : Oc.Sg := ⟨s.idx.toNat, s.cs, s.ps⟩
def rlV (l : Rl) : Oct := rwv (rbOf l) (sgOf l.sg)
structure Fit (l : Rl) : Prop where
 iss : l.iss.size ≤ 40
 num : 0 ≤ l.num ∧ l.num < 18446744073709551616
 fr : 0 ≤ l.fr ∧ l.fr ≤ 1099511627776
 tt : 0 ≤ l.tt ∧ l.tt ≤ 1099511627776
 len : l.ser.length ≤ 500
 ser : ∀ x ∈ l.ser, 0 ≤ x ∧ x < 18446744073709551616
 idx : 0 ≤ l.sg.idx ∧ l.sg.idx ≤ 15
 cs : l.sg.cs.length ≤ 35 ∧ ∀ x ∈ l.sg.cs, x.length = 16
 ps : l.sg.ps.length ≤ 4 ∧ ∀ x ∈ l.sg.ps, x.length = 16
theorem num_int (tg : UInt8) (M x : Int) (h0 : 0 ≤ x) (h1 : x < 18446744073709551616) (hM : x ≤ M) : NumG tg M (Oc.num tg x.toNat) ∧ (numX (Oc.num tg x.toNat) : Int) = x := by
 have hp : (256 : Nat) ^ 8 = 18446744073709551616 := by decide
 obtain ⟨a, b⟩ := num_mk tg M x.toNat (by omega) (by omega)
 exact ⟨a, by rw [b]; omega⟩
theorem ser_back : ∀ (l : List Int), (∀ x ∈ l, 0 ≤ x ∧ x < 18446744073709551616) → (∀ o ∈ (l.map Int.toNat).map n5, NumG 5 maxU o) ∧ (((l.map Int.toNat).map n5).map fun o => (numX o : Int)) = l
 | [], _ => ⟨fun o ho => (by cases ho), rfl⟩
 | x :: r, h => by
  obtain ⟨h1, h2⟩ := ser_back r (fun y hy => h y (List.mem_cons_of_mem _ hy))
  have hx := h x (List.mem_cons_self ..)
  obtain ⟨a, b⟩ := num_int 5 maxU x hx.1 hx.2 (by have h3 := hx.2; show x ≤ 18446744073709551615; omega)
  rw [List.map_cons, List.map_cons, List.map_cons, h2]
  refine ⟨fun o ho => ?_, ?_⟩
  ·
   rcases List.mem_cons.1 ho with rfl | ho
   ·
    exact a
   ·
    exact h1 o ho
  ·
   have e : (numX (n5 x.toNat) : Int) = x := b
   rw [e]
theorem whole_mk {l : Rl} (h : Fit l) : WholeG (rlV l) ∧ rlO (rlV l) = l := by
 obtain ⟨s1, s2⟩ := ser_back l.ser h.ser
 obtain ⟨n1, n2⟩ := num_int 2 maxU l.num h.num.1 h.num.2 (by have h3 := h.num.2; show l.num ≤ 18446744073709551615; omega)
 obtain ⟨n3, n4⟩ := num_int 3 maxT l.fr h.fr.1 (by have := h.fr.2; omega) h.fr.2
 obtain ⟨n5', n6⟩ := num_int 4 maxT l.tt h.tt.1 (by have := h.tt.2; omega) h.tt.2
 obtain ⟨n7, n8⟩ := num_int 1 15 l.sg.idx h.idx.1 (by have := h.idx.2; omega) h.idx.2
 have c1 := flat_16 l.sg.cs h.cs.2
 have c2 := flat_16 l.sg.ps h.ps.2
 have c3 := h.cs.1
 have c4 := h.ps.1
 have hi := h.iss
 have hl := h.len
 have k0 : kid (rlV l) 0 = rbv (rbOf l) := rfl
 have k1 : kid (rlV l) 1 = sgv (sgOf l.sg) := rfl
 have e1 : chO l.sg.cs.flatten = l.sg.cs := chO_flat _ h.cs.2
 have e2 : chO l.sg.ps.flatten = l.sg.ps := chO_flat _ h.ps.2
 refine ⟨⟨seq_mk _ _ _ _ (by simp) (by simp), ?_, ?_⟩, ?_⟩
 ·
  rw [k0]
  refine ⟨seq_mk _ _ _ _ (by simp) (by simp), str_mk _ _ _ ?_, n1, n3, n5', seq_mk _ _ _ _ (by omega) ?_, s1⟩
  ·
   show ((l.iss.data.toList.length : Nat) : Int) ≤ 40
   rw [Array.length_toList]
   have : l.iss.data.size = l.iss.size := rfl
   omega
  ·
   show ((((l.ser.map Int.toNat).map n5).length : Nat) : Int) ≤ 500
   rw [List.length_map, List.length_map]
   omega
 ·
  rw [k1]
  refine ⟨seq_mk _ _ _ _ (by simp) (by simp), n7, ⟨str_mk _ _ _ ?_, ?_⟩, ⟨str_mk _ _ _ ?_, ?_⟩⟩
  ·
   show ((l.sg.cs.flatten.length : Nat) : Int) ≤ 560; omega
  ·
   show l.sg.cs.flatten.length % 16 = 0; omega
  ·
   show ((l.sg.ps.flatten.length : Nat) : Int) ≤ 64; omega
  ·
   show l.sg.ps.flatten.length % 16 = 0; omega
 ·
  have a0 : rlO (rlV l) = ⟨⟨(bytO (Oc.str 1 l.iss.data.toList)).toArray⟩, (numX (Oc.num 2 l.num.toNat) : Int), (numX (Oc.num 3 l.fr.toNat) : Int), (numX (Oc.num 4 l.tt.toNat) : Int), ((l.ser.map Int.toNat).map n5).map (fun o => (numX o : Int)), ⟨(numX (Oc.num 1 l.sg.idx.toNat) : Int), chO l.sg.cs.flatten, chO l.sg.ps.flatten⟩⟩ := rfl
  rw [a0, n2, n4, n6, n8, s2, e1, e2]
  rfl
theorem chkW_le {a b : Int} (h : chkW a b = 0) : (0 ≤ a ∧ a ≤ 1099511627776) ∧ (0 ≤ b ∧ b ≤ 1099511627776) := by
 unfold chkW at h
 by_cases hw : wnB a b = true
 ·
  rw [wnB_true] at hw
  omega
 ·
  rw [if_neg hw] at h
  exact absurd h (by decide)
theorem fit_of {l : Rl} (h : rvC l = 0) (hn : 0 ≤ l.num ∧ l.num < 18446744073709551616) (hs : ∀ x ∈ l.ser, x < 18446744073709551616) (hc : ∀ x ∈ l.sg.cs, x.length = 16) (hp : ∀ x ∈ l.sg.ps, x.length = 16) : Fit l := by
 have hsr := rv_sr h
 unfold rvC rcV at h
 by_cases h1 : 500 < l.ser.length
 ·
  rw [if_pos h1] at h
  exact absurd h (by decide)
 ·
  rw [if_neg h1] at h
  by_cases h2 : nameB l.iss = true ∧ chkW l.fr l.tt = 0 ∧ srB 0 l.ser = true ∧ wfV l.sg.idx l.sg.cs.length l.sg.ps.length = true
  ·
   obtain ⟨a1, a2, a3, a4⟩ := h2
   unfold nameB at a1
   simp only [Bool.and_eq_true, decide_eq_true_eq] at a1
   have w := chkW_le a2
   have hq := (srB_pair l.ser 0 hsr).1
   have hw : (0 ≤ l.sg.idx ∧ l.sg.idx ≤ 15) ∧ l.sg.cs.length ≤ 35 ∧ l.sg.ps.length ≤ 4 := by
    by_cases hz : l.sg.cs.length = 0 ∧ l.sg.ps.length = 0
    ·
     rw [wf_zero hz] at a4
     have := of_decide_eq_true a4
     omega
    ·
     rw [wf_some hz] at a4
     have h5 := of_decide_eq_true a4
     unfold chkV at h5
     by_cases h6 : 0 ≤ (l.sg.ps.length : Int) ∧ (l.sg.ps.length : Int) ≤ 4
     ·
      rw [if_pos h6] at h5
      by_cases h7 : (0 ≤ l.sg.idx ∧ l.sg.idx < ((2 ^ (l.sg.ps.length : Int).toNat : Nat) : Int)) ∧ l.sg.cs.length = 35 ∧ (l.sg.ps.length : Int) = (l.sg.ps.length : Int)
      ·
       have h8 : (2 : Nat) ^ (l.sg.ps.length : Int).toNat ≤ 2 ^ 4 := Nat.pow_le_pow_right (by decide) (by omega)
       have h9 : (2 : Nat) ^ 4 = 16 := by decide
       obtain ⟨q1, q2, _⟩ := h7
       omega
      ·
       rw [if_neg h7] at h5
       exact absurd h5 (by decide)
     ·
      rw [if_neg h6] at h5
      exact absurd h5 (by decide)
   exact ⟨a1.1.2, hn, w.1, w.2, by omega, fun x hx => ⟨by have := hq x hx; omega, hs x hx⟩, hw.1, ⟨hw.2.1, hc⟩, ⟨hw.2.2, hp⟩⟩
  ·
   rw [if_neg h2] at h
   exact absurd h (by decide)
theorem enc_sgv (s : Oc.Sg) (hi : s.index < 256 ^ 8) : (enc (sgv s)).length ≤ 28 + s.chains.flatten.length + s.path.flatten.length := by
 have h1 := enc_num 1 s.index hi
 have h2 := enc_str 2 s.chains.flatten
 have h3 := enc_str 3 s.path.flatten
 have h4 := enc_seq 131 [Oc.num 1 s.index, Oc.str 2 s.chains.flatten, Oc.str 3 s.path.flatten]
 rw [encs_cons, encs_cons, encs_cons, encs_nil] at h4
 unfold sgv
 omega
theorem rbv_len2 (r : Rb) (h : r.fits) (hi : r.issuer.length ≤ 40) : (enc (rbv r)).length ≤ 6640 := by
 have h1 := enc_str 1 r.issuer
 have h2 := enc_num 2 r.number h.n
 have h3 := enc_num 3 r.since h.a
 have h4 := enc_num 4 r.till h.b
 have h5 := encs_n5 r.serials h.s
 have h6 := enc_seq 129 (r.serials.map n5)
 have h7 := enc_seq 134 [Oc.str 1 r.issuer, Oc.num 2 r.number, Oc.num 3 r.since, Oc.num 4 r.till, Oc.seq 129 (r.serials.map n5)]
 have hl := h.l
 rw [encs_cons, encs_cons, encs_cons, encs_cons, encs_cons, encs_nil] at h7
 unfold rbv
 omega
theorem fits_of {l : Rl} (h : Fit l) : (rbOf l).fits := by
 have hp : (256 : Nat) ^ 8 = 18446744073709551616 := by decide
 refine ⟨?_, ?_, ?_, ?_, ?_, ?_⟩
 ·
  have := h.iss
  show l.iss.data.toList.length ≤ 1000
  rw [Array.length_toList]
  have : l.iss.data.size = l.iss.size := rfl
  omega
 ·
  show l.num.toNat < _; have := h.num; omega
 ·
  show l.fr.toNat < _; have := h.fr; omega
 ·
  show l.tt.toNat < _; have := h.tt; omega
 ·
  show (l.ser.map Int.toNat).length ≤ 500
  rw [List.length_map]
  exact h.len
 ·
  intro x hx
  obtain ⟨y, hy, rfl⟩ := List.mem_map.1 hx
  have := h.ser y hy
  omega
theorem fit_ck {l : Rl} (h : Fit l) : ckV (rbv (rbOf l)) = 0 ∧ ckV (rlV l) = 0 ∧ (enc (rbv (rbOf l))).length ≤ 6640 ∧ (enc (rlV l)).length ≤ 7400 := by
 have hf := fits_of h
 have h1 := rbv_len2 (rbOf l) hf (by
  show l.iss.data.toList.length ≤ 40
  rw [Array.length_toList]
  exact h.iss)
 have h2 := enc_sgv (sgOf l.sg) (by
  have hp : (256 : Nat) ^ 8 = 18446744073709551616 := by decide
  show l.sg.idx.toNat < _
  have := h.idx
  omega)
 have c1 : (sgOf l.sg).chains.flatten.length = 16 * l.sg.cs.length := flat_16 l.sg.cs h.cs.2
 have c2 : (sgOf l.sg).path.flatten.length = 16 * l.sg.ps.length := flat_16 l.sg.ps h.ps.2
 have c3 := h.cs.1
 have c4 := h.ps.1
 have h3 := enc_seq 135 [rbv (rbOf l), sgv (sgOf l.sg)]
 rw [encs_cons, encs_cons, encs_nil] at h3
 have h3' : (enc (rlV l)).length ≤ (enc (rbv (rbOf l))).length + ((enc (sgv (sgOf l.sg))).length + 0) + 5 := h3
 have n1 := cnt_enc (rbv (rbOf l))
 have n2 := cnt_enc (rlV l)
 obtain ⟨o1, o2⟩ := rbv_ok (rbOf l)
 obtain ⟨o3, o4⟩ := rwv_ok (rbOf l) (sgOf l.sg)
 have o4' : dep (rlV l) ≤ 5 := o4
 exact ⟨(ckV_good _).2 ⟨by omega, by omega, o1, by omega⟩, (ckV_good _).2 ⟨by omega, by omega, o3, by omega⟩, by omega, by omega⟩
end Sg
end Go.Proofs.YtcgffkkfeimifaaGreatDoor
