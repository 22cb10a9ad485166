/-
  PLAIN MATHEMATICS of layer 8: how the program reads, and that it reads just the encodings.
-/
import Derived.Test.YthagoafcphaadaaOcX
namespace Go.Proofs.Ythagoafcphaadaa
open Go.RowKit Sha Oc
set_option linter.unusedVariables false
set_option linter.unusedSimpArgs false
/-- a length is taken: what it is, and what is left -/
def prl : List UInt8 → Option (Nat × List UInt8)
  | [] => none
  | c :: r =>
    if c.toNat < 128 then some (c.toNat, r)
    else if r.length < c.toNat - 128 then none
    else if okN (r.take (c.toNat - 128)) = true ∧ 128 ≤ numN (r.take (c.toNat - 128)) then some (numN (r.take (c.toNat - 128)), r.drop (c.toNat - 128)) else none
/-- values are taken out of all bytes -/
def prs (f : List UInt8 → Option (Oct × List UInt8)) : Nat → List UInt8 → Option (List Oct)
  | _, [] => some []
  | 0, _ :: _ => none
  | k + 1, c :: b => match f (c :: b) with
    | none => none
    | some (x, r) => (prs f k r).map (x :: ·)
/-- a value is taken: which, and what is left -/
def prd : Nat → List UInt8 → Option (Oct × List UInt8)
  | 0, _ => none
  | _ + 1, [] => none
  | k + 1, t :: b => match prl b with
    | none => none
    | some (n, r) =>
      if r.length < n then none
      else if t.toNat < 128 then some (.mk t (r.take n) [], r.drop n)
      else (prs (prd k) k (r.take n)).map fun l => (.mk t [] l, r.drop n)
theorem prl_len : ∀ (L : List UInt8) (n : Nat) (r : List UInt8), prl L = some (n, r) → r.length < L.length
  | [], n, r, h => by cases h
  | c :: q, n, r, h => by
    rw [prl] at h
    by_cases h1 : c.toNat < 128
    · rw [if_pos h1] at h
      obtain ⟨rfl, rfl⟩ := Prod.mk.inj (Option.some.inj h)
      rw [List.length_cons]; omega
    · rw [if_neg h1] at h
      by_cases h2 : q.length < c.toNat - 128
      · rw [if_pos h2] at h; cases h
      · rw [if_neg h2] at h
        split at h
        · obtain ⟨rfl, rfl⟩ := Prod.mk.inj (Option.some.inj h)
          rw [List.length_cons, List.length_drop]; omega
        · cases h
theorem prd_len (k : Nat) (L : List UInt8) (v : Oct) (r : List UInt8) (h : prd k L = some (v, r)) : r.length + 2 ≤ L.length := by
  cases k with
  | zero => cases h
  | succ k =>
    cases L with
    | nil => cases h
    | cons t b =>
      rw [prd] at h
      cases e : prl b with
      | none => rw [e] at h; cases h
      | some p =>
        obtain ⟨n, q⟩ := p
        have hl := prl_len b n q e
        rw [e] at h
        replace h : (if q.length < n then none else if t.toNat < 128 then some (Oct.mk t (q.take n) [], q.drop n) else (prs (prd k) k (q.take n)).map fun l => (Oct.mk t [] l, q.drop n)) = some (v, r) := h
        by_cases h1 : q.length < n
        · rw [if_pos h1] at h; cases h
        · rw [if_neg h1] at h
          by_cases h2 : t.toNat < 128
          · rw [if_pos h2] at h
            obtain ⟨_, rfl⟩ := Prod.mk.inj (Option.some.inj h)
            rw [List.length_cons, List.length_drop]; omega
          · rw [if_neg h2] at h
            obtain ⟨l, _, h3⟩ := Option.map_eq_some_iff.1 h
            obtain ⟨_, rfl⟩ := Prod.mk.inj h3
            rw [List.length_cons, List.length_drop]; omega
theorem okN_nb (n : Nat) (h : n < 256 ^ 8) : okN (nb n) = true ∧ numN (nb n) = n := by
  have h1 : okN (nb n) = true := by
    unfold okN
    rw [Bool.and_eq_true, decide_eq_true_eq]
    refine ⟨Oc.nb_len 8 n h, ?_⟩
    cases hq : nb n with
    | nil => rfl
    | cons c r =>
      have := nb_head n c r hq
      simpa using this
  exact ⟨h1, by unfold numN; rw [h1, if_pos rfl, vl_nb]⟩
theorem okN_vl (b : List UInt8) (h : okN b = true) : numN b = vl b ∧ nb (vl b) = b := by
  have h0 := h
  unfold okN at h
  rw [Bool.and_eq_true] at h
  refine ⟨by unfold numN; rw [h0, if_pos rfl], nb_vl b.length b rfl fun c r e => ?_⟩
  rw [e] at h
  simpa using h.2
theorem prl_lenb (n : Nat) (h : n < 16777216) (r : List UInt8) : prl (lenb n ++ r) = some (n, r) := by
  by_cases h1 : n < 128
  · have e : lenb n = [UInt8.ofNat n] := by unfold lenb; rw [if_pos h1]
    rw [e, List.singleton_append, prl, u8n n (by omega), if_pos h1]
  · have hx : n < 256 ^ 8 := Nat.lt_trans h (by decide)
    have hl := Oc.nb_len 8 n hx
    obtain ⟨a1, a2⟩ := okN_nb n hx
    rw [lenb_nb n (by omega) h, List.cons_append, prl, u8n _ (by omega), if_neg (by omega), show 128 + (nb n).length - 128 = (nb n).length by omega, if_neg (by rw [List.length_append]; omega), List.take_left, List.drop_left, a1, a2, if_pos ⟨rfl, by omega⟩]
theorem prl_some : ∀ (L : List UInt8) (n : Nat) (r : List UInt8), prl L = some (n, r) → n < 16777216 → L = lenb n ++ r
  | [], n, r, h, _ => by cases h
  | c :: q, n, r, h, hn => by
    have hc := c.toNat_lt
    rw [prl] at h
    by_cases h1 : c.toNat < 128
    · rw [if_pos h1] at h
      obtain ⟨rfl, rfl⟩ := Prod.mk.inj (Option.some.inj h)
      unfold lenb
      rw [if_pos h1, u8_back c _ rfl]
      rfl
    · rw [if_neg h1] at h
      by_cases h2 : q.length < c.toNat - 128
      · rw [if_pos h2] at h; cases h
      · rw [if_neg h2] at h
        by_cases h3 : okN (q.take (c.toNat - 128)) = true ∧ 128 ≤ numN (q.take (c.toNat - 128))
        · rw [if_pos h3] at h
          obtain ⟨rfl, rfl⟩ := Prod.mk.inj (Option.some.inj h)
          obtain ⟨e1, e2⟩ := okN_vl _ h3.1
          have h4 := h3.2
          rw [e1] at h4 hn ⊢
          rw [lenb_nb _ h4 hn, e2]
          have hl : (q.take (c.toNat - 128)).length = c.toNat - 128 := by rw [List.length_take]; omega
          rw [hl, show 128 + (c.toNat - 128) = c.toNat by omega, u8_back c _ rfl, List.cons_append, List.take_append_drop]
        · rw [if_neg h3] at h; cases h
mutual
/-- what is read has this shape -/
def wsh : Oct → Prop
  | .mk t b l => (t.toNat < 128 → l = []) ∧ (128 ≤ t.toNat → b = []) ∧ wshs l
def wshs : List Oct → Prop
  | [] => True
  | v :: r => wsh v ∧ wshs r
end
mutual
theorem wsh_of : ∀ o : Oct, shp o → wsh o
  | .mk t b l, h => by
    rw [shp] at h
    rw [wsh]
    exact ⟨h.2.1, h.2.2.1, wshs_of l h.2.2.2⟩
theorem wshs_of : ∀ l : List Oct, shps l → wshs l
  | [], _ => by rw [wshs]; trivial
  | v :: r, h => by
    rw [shps] at h
    rw [wshs]
    exact ⟨wsh_of v h.1, wshs_of r h.2⟩
end
theorem wshs_mem : ∀ (l : List Oct), wshs l → ∀ v ∈ l, wsh v
  | [], _, _, h => by cases h
  | x :: r, hs, v, h => by
    rw [wshs] at hs
    rcases List.mem_cons.1 h with rfl | h
    · exact hs.1
    · exact wshs_mem r hs.2 v h
theorem prs_enc (f : List UInt8 → Option (Oct × List UInt8)) : ∀ (l : List Oct) (k : Nat), (encs l).length ≤ k → (∀ v ∈ l, ∀ r, f (enc v ++ r) = some (v, r)) → prs f k (encs l) = some l
  | [], k, _, _ => by rw [encs]; cases k <;> rfl
  | v :: r, k, hk, hf => by
    have hp := enc_pos v
    rw [encs, List.length_append] at hk
    rw [encs]
    obtain ⟨c, b, hcb⟩ : ∃ c b, enc v ++ encs r = c :: b := by
      cases hq : enc v ++ encs r with
      | nil => have h2 := congrArg List.length hq; rw [List.length_append, List.length_nil] at h2; omega
      | cons c b => exact ⟨c, b, rfl⟩
    obtain ⟨k, rfl⟩ : ∃ j, k = j + 1 := ⟨k - 1, by omega⟩
    have h1 := hf v (List.mem_cons_self ..) (encs r)
    rw [hcb] at h1 ⊢
    rw [prs, h1]
    show (prs f k (encs r)).map (v :: ·) = _
    rw [prs_enc f r k (by omega) (fun x hx => hf x (List.mem_cons_of_mem _ hx))]
    rfl
theorem prd_enc : ∀ (k : Nat) (v : Oct), wsh v → (enc v).length < 16777216 → (enc v).length ≤ k → ∀ r, prd k (enc v ++ r) = some (v, r)
  | 0, v, _, _, h, _ => by have := enc_pos v; omega
  | k + 1, .mk t b l, hs, hn, hk, r => by
    rw [wsh] at hs
    obtain ⟨h1, h2, hl⟩ := hs
    rw [enc, List.length_cons, List.length_append, List.length_append] at hn hk
    obtain ⟨n, hnn⟩ : ∃ n, b.length + (encs l).length = n := ⟨_, rfl⟩
    have hpos := lenb_pos n
    rw [hnn] at hn hk
    have hr := prl_lenb n (by omega) (b ++ encs l ++ r)
    rw [enc, hnn, List.cons_append, prd, List.append_assoc, hr]
    show (if (b ++ encs l ++ r).length < n then none else if t.toNat < 128 then some (Oct.mk t ((b ++ encs l ++ r).take n) [], (b ++ encs l ++ r).drop n) else (prs (prd k) k ((b ++ encs l ++ r).take n)).map fun q => (Oct.mk t [] q, (b ++ encs l ++ r).drop n)) = _
    have hcl : (b ++ encs l).length = n := by rw [List.length_append]; exact hnn
    rw [if_neg (by rw [List.length_append, hcl]; omega), ← hcl, List.take_left, List.drop_left]
    by_cases h128 : t.toNat < 128
    · have hl0 := h1 h128
      subst hl0
      rw [if_pos h128, encs, List.append_nil]
    · have hb0 := h2 (by omega)
      subst hb0
      rw [if_neg h128, List.nil_append, prs_enc (prd k) l k (by rw [List.length_nil] at hnn; omega) (fun v hv s => prd_enc k v (wshs_mem l hl v hv) (by have := encs_mem l v hv; rw [List.length_nil] at hnn; omega) (by have := encs_mem l v hv; rw [List.length_nil] at hnn; omega) s)]
      rfl
theorem prs_some (f : List UInt8 → Option (Oct × List UInt8)) (hf : ∀ b v r, b.length < 16777216 → f b = some (v, r) → wsh v ∧ enc v ++ r = b) :
    ∀ (k : Nat) (b : List UInt8) (l : List Oct), b.length < 16777216 → prs f k b = some l → wshs l ∧ encs l = b
  | k, [], l, _, h => by
    have : prs f k [] = some [] := by cases k <;> rfl
    rw [this] at h
    obtain rfl := Option.some.inj h
    exact ⟨by rw [wshs]; trivial, by rw [encs]⟩
  | 0, _ :: _, l, _, h => by cases h
  | k + 1, c :: b, l, hb, h => by
    rw [prs] at h
    cases e : f (c :: b) with
    | none => rw [e] at h; cases h
    | some p =>
      obtain ⟨x, r⟩ := p
      rw [e] at h
      replace h : (prs f k r).map (x :: ·) = some l := h
      obtain ⟨q, hq, rfl⟩ := Option.map_eq_some_iff.1 h
      obtain ⟨a1, a2⟩ := hf _ _ _ hb e
      have hl : r.length < 16777216 := by have := congrArg List.length a2; rw [List.length_append] at this; omega
      obtain ⟨b1, b2⟩ := prs_some f hf k r q hl hq
      exact ⟨by rw [wshs]; exact ⟨a1, b1⟩, by rw [encs, b2, a2]⟩
theorem prd_some : ∀ (k : Nat) (L : List UInt8) (v : Oct) (r : List UInt8), L.length < 16777216 → prd k L = some (v, r) → wsh v ∧ enc v ++ r = L
  | 0, L, v, r, _, h => by cases h
  | k + 1, [], v, r, _, h => by cases h
  | k + 1, t :: b, v, r, hb, h => by
    rw [List.length_cons] at hb
    rw [prd] at h
    cases e : prl b with
    | none => rw [e] at h; cases h
    | some p =>
      obtain ⟨n, q⟩ := p
      have hql := prl_len b n q e
      rw [e] at h
      replace h : (if q.length < n then none else if t.toNat < 128 then some (Oct.mk t (q.take n) [], q.drop n) else (prs (prd k) k (q.take n)).map fun l => (Oct.mk t [] l, q.drop n)) = some (v, r) := h
      by_cases h1 : q.length < n
      · rw [if_pos h1] at h; cases h
      · rw [if_neg h1] at h
        have hb2 := prl_some b n q e (by omega)
        have hcl : (q.take n).length = n := by rw [List.length_take]; omega
        by_cases h2 : t.toNat < 128
        · rw [if_pos h2] at h
          obtain ⟨rfl, rfl⟩ := Prod.mk.inj (Option.some.inj h)
          refine ⟨by rw [wsh, wshs]; exact ⟨fun _ => rfl, fun h => by omega, trivial⟩, ?_⟩
          rw [enc, encs, List.length_nil, hcl, List.append_nil, Nat.add_zero, List.cons_append, List.append_assoc, List.take_append_drop, ← hb2]
        · rw [if_neg h2] at h
          obtain ⟨l, hl, h3⟩ := Option.map_eq_some_iff.1 h
          obtain ⟨rfl, rfl⟩ := Prod.mk.inj h3
          obtain ⟨c1, c2⟩ := prs_some (prd k) (fun b v r hb h => prd_some k b v r hb h) k _ l (by omega) hl
          refine ⟨by rw [wsh]; exact ⟨fun h => by omega, fun _ => rfl, c1⟩, ?_⟩
          rw [enc, c2, hcl, List.length_nil, Nat.zero_add, List.nil_append, List.cons_append, List.append_assoc, List.take_append_drop, ← hb2]
mutual
theorem cnt_enc : ∀ o : Oct, 2 * cnt o ≤ (enc o).length
  | .mk t b l => by
    have h1 := cnts_enc l
    have h2 := lenb_pos (b.length + (encs l).length)
    rw [cnt, enc, List.length_cons, List.length_append, List.length_append]
    omega
theorem cnts_enc : ∀ l : List Oct, 2 * cnts l ≤ (encs l).length
  | [] => Nat.zero_le _
  | v :: r => by
    have h1 := cnt_enc v
    have h2 := cnts_enc r
    rw [cnts, encs, List.length_append]
    omega
end
mutual
theorem tot_enc : ∀ o : Oct, tot o ≤ (enc o).length
  | .mk t b l => by
    have h1 := tots_enc l
    rw [tot, enc, List.length_cons, List.length_append, List.length_append]
    omega
theorem tots_enc : ∀ l : List Oct, tots l ≤ (encs l).length
  | [] => Nat.zero_le _
  | v :: r => by
    have h1 := tot_enc v
    have h2 := tots_enc r
    rw [tots, encs, List.length_append]
    omega
end
theorem ckV_good (o : Oct) : ckV o = 0 ↔ good o := by
  unfold ckV good
  rw [← siz_eq]
  have hB := shpB_iff o
  by_cases h1 : 4000 < cnt o ∨ 12 < dep o
  · rw [if_pos h1]
    exact ⟨fun h => by omega, fun h => by omega⟩
  · rw [if_neg h1]
    cases hs : shpB o with
    | false =>
      rw [if_pos rfl]
      exact ⟨fun h => by omega, fun h => absurd (hB.2 h.2.2.1) (by rw [hs]; decide)⟩
    | true =>
      rw [if_neg (by decide)]
      by_cases h2 : 65536 < siz o
      · rw [if_pos h2]
        exact ⟨fun h => by omega, fun h => by omega⟩
      · rw [if_neg h2]
        exact ⟨fun _ => ⟨by omega, by omega, hB.1 hs, by omega⟩, fun _ => rfl⟩
/-- the value that stands for none -/
abbrev nilO : Oct := .mk 0 [] []
/-- what Decode answers -/
def decV (b : List UInt8) : Oct × Int :=
  if 65536 < b.length then (nilO, 4) else
  match prd (b.length + 1) b with
  | none => (nilO, 12)
  | some (v, r) => if r.length = 0 ∧ ckV v = 0 then (v, 0) else (nilO, 12)
theorem decV_enc (o : Oct) (h : ckV o = 0) : decV (enc o) = (o, 0) := by
  have hg := (ckV_good o).1 h
  have hl := hg.2.2.2
  unfold decV
  have h1 := prd_enc ((enc o).length + 1) o (wsh_of o hg.2.2.1) (by omega) (by omega) []
  rw [List.append_nil] at h1
  rw [if_neg (by omega), h1]
  show (if ([] : List UInt8).length = 0 ∧ ckV o = 0 then (o, (0 : Int)) else (nilO, 12)) = _
  rw [if_pos ⟨rfl, h⟩]
theorem decV_cases (b : List UInt8) : (∃ o, decV b = (o, 0) ∧ enc o = b ∧ ckV o = 0) ∨ (decV b = (nilO, 4) ∧ 65536 < b.length) ∨ (decV b = (nilO, 12) ∧ b.length ≤ 65536) := by
  by_cases h1 : 65536 < b.length
  · exact .inr (.inl ⟨by unfold decV; rw [if_pos h1], h1⟩)
  · cases e : prd (b.length + 1) b with
    | none => exact .inr (.inr ⟨by unfold decV; rw [if_neg h1, e], by omega⟩)
    | some p =>
      obtain ⟨v, r⟩ := p
      by_cases h2 : r.length = 0 ∧ ckV v = 0
      · have hr : r = [] := List.length_eq_zero_iff.1 h2.1
        subst hr
        obtain ⟨_, h3⟩ := prd_some _ b v [] (by omega) e
        rw [List.append_nil] at h3
        refine .inl ⟨v, ?_, h3, h2.2⟩
        unfold decV
        rw [if_neg h1, e]
        show (if ([] : List UInt8).length = 0 ∧ ckV v = 0 then (v, (0 : Int)) else (nilO, 12)) = _
        rw [if_pos h2]
      · refine .inr (.inr ⟨?_, by omega⟩)
        unfold decV
        rw [if_neg h1, e]
        show (if r.length = 0 ∧ ckV v = 0 then (v, (0 : Int)) else (nilO, 12)) = _
        rw [if_neg h2]
theorem decV_only (b : List UInt8) (o : Oct) (h : decV b = (o, 0)) : enc o = b ∧ ckV o = 0 := by
  rcases decV_cases b with ⟨o', h1, h2, h3⟩ | ⟨h1, _⟩ | ⟨h1, _⟩
  · rw [h1] at h
    obtain ⟨rfl, _⟩ := Prod.mk.inj h
    exact ⟨h2, h3⟩
  · rw [h1] at h; cases h
  · rw [h1] at h; cases h
/-- no encoding is a proper beginning of another one, nor a proper part -/
theorem decV_more (o : Oct) (h : ckV o = 0) (m : List UInt8) : (decV (enc o ++ m)).2 = 0 ↔ m = [] := by
  constructor
  · intro h2
    rcases decV_cases (enc o ++ m) with ⟨o', h1, h3, h4⟩ | ⟨h1, _⟩ | ⟨h1, _⟩
    · have h5 := cuts o o' ((ckV_good o).1 h) ((ckV_good o').1 h4) m [] (by rw [List.append_nil, h3])
      exact h5.2
    · rw [h1] at h2; cases h2
    · rw [h1] at h2; cases h2
  · intro h2
    rw [h2, List.append_nil, decV_enc o h]
theorem decV_less (o : Oct) (h : ckV o = 0) (n : Nat) (hn : n < (enc o).length) : decV ((enc o).take n) = (nilO, 12) := by
  have hg := (ckV_good o).1 h
  have hl := hg.2.2.2
  rcases decV_cases ((enc o).take n) with ⟨o', h1, h3, h4⟩ | ⟨h1, h2⟩ | ⟨h1, _⟩
  · have h5 := cuts o' o ((ckV_good o').1 h4) hg ((enc o).drop n) [] (by rw [h3, List.take_append_drop, List.append_nil])
    have h6 := congrArg List.length h5.2
    rw [List.length_drop, List.length_nil] at h6
    omega
  · rw [List.length_take] at h2
    omega
  · exact h1
end Go.Proofs.Ythagoafcphaadaa
