import Derived.Test.YthfgdgcdicacpaaLawKit
namespace Go.Proofs.Ythfgdgcdicacpaa
namespace Oc
set_option linter.unusedVariables false
def lenb (n : Nat) : List UInt8 :=
 if n < 128 then [UInt8.ofNat n]
 else if n < 256 then [129, UInt8.ofNat n]
 else if n < 65536 then [130, UInt8.ofNat (n / 256), UInt8.ofNat (n % 256)]
 else [131, UInt8.ofNat (n / 65536), UInt8.ofNat (n / 256 % 256), UInt8.ofNat (n % 256)]
def rdl : List UInt8 → Option (Nat × Nat)
 | [] => none
 | c :: r =>
  if c.toNat < 128 then some (1, c.toNat)
  else if c.toNat < 129 then none
  else if 131 < c.toNat then none
  else if r.length < c.toNat - 128 then none
  else
   let n := (r.take (c.toNat - 128)).foldl (fun a x => 256 * a + x.toNat) 0
   if (lenb n).length = 1 + (c.toNat - 128) then some (1 + (c.toNat - 128), n) else none
theorem lenb_pos (n : Nat) : 0 < (lenb n).length := by
 unfold lenb
 split
 ·
  simp
 ·
  split
  ·
   simp
  ·
   split <;> simp
theorem u8n (n : Nat) (h : n < 256) : (UInt8.ofNat n).toNat = n := by
 rw [UInt8.toNat_ofNat']
 omega
theorem rdl_lenb (n : Nat) (h : n < 16777216) (r : List UInt8) : rdl (lenb n ++ r) = some ((lenb n).length, n) := by
 have hl : lenb n = lenb n := rfl
 by_cases h1 : n < 128
 ·
  have e : lenb n = [UInt8.ofNat n] := by unfold lenb; rw [if_pos h1]
  rw [e, List.singleton_append, rdl, u8n n (by omega), if_pos h1]
  rfl
 ·
  by_cases h2 : n < 256
  ·
   have e : lenb n = [129, UInt8.ofNat n] := by unfold lenb; rw [if_neg h1, if_pos h2]
   have e2 : List.foldl (fun a (x : UInt8) => 256 * a + x.toNat) 0 [UInt8.ofNat n] = n := by
    simp [u8n n h2]
   rw [e]
   show rdl (129 :: UInt8.ofNat n :: r) = _
   rw [rdl]
   rw [show (129 : UInt8).toNat = 129 by rfl, if_neg (by decide), if_neg (by decide), if_neg (by decide), if_neg (by simp)]
   show (if (lenb (List.foldl (fun a (x : UInt8) => 256 * a + x.toNat) 0 [UInt8.ofNat n])).length = 1 + 1 then some (1 + 1, List.foldl (fun a (x : UInt8) => 256 * a + x.toNat) 0 [UInt8.ofNat n]) else none) = _
   rw [e2, e]
   rfl
  ·
   by_cases h3 : n < 65536
   ·
    have e : lenb n = [130, UInt8.ofNat (n / 256), UInt8.ofNat (n % 256)] := by unfold lenb; rw [if_neg h1, if_neg h2, if_pos h3]
    have e2 : List.foldl (fun a (x : UInt8) => 256 * a + x.toNat) 0 [UInt8.ofNat (n / 256), UInt8.ofNat (n % 256)] = n := by
     rw [List.foldl_cons, List.foldl_cons, List.foldl_nil, u8n (n / 256) (by omega), u8n (n % 256) (by omega)]
     omega
    rw [e]
    show rdl (130 :: UInt8.ofNat (n / 256) :: UInt8.ofNat (n % 256) :: r) = _
    rw [rdl]
    rw [show (130 : UInt8).toNat = 130 by rfl, if_neg (by decide), if_neg (by decide), if_neg (by decide), if_neg (by simp)]
    show (if (lenb (List.foldl (fun a (x : UInt8) => 256 * a + x.toNat) 0 [UInt8.ofNat (n / 256), UInt8.ofNat (n % 256)])).length = 1 + 2 then some (1 + 2, List.foldl (fun a (x : UInt8) => 256 * a + x.toNat) 0 [UInt8.ofNat (n / 256), UInt8.ofNat (n % 256)]) else none) = _
    rw [e2, e]
    rfl
   ·
    have e : lenb n = [131, UInt8.ofNat (n / 65536), UInt8.ofNat (n / 256 % 256), UInt8.ofNat (n % 256)] := by unfold lenb; rw [if_neg h1, if_neg h2, if_neg h3]
    have e2 : List.foldl (fun a (x : UInt8) => 256 * a + x.toNat) 0 [UInt8.ofNat (n / 65536), UInt8.ofNat (n / 256 % 256), UInt8.ofNat (n % 256)] = n := by
     rw [List.foldl_cons, List.foldl_cons, List.foldl_cons, List.foldl_nil, u8n (n / 65536) (by omega), u8n (n / 256 % 256) (by omega), u8n (n % 256) (by omega)]
     omega
    rw [e]
    show rdl (131 :: UInt8.ofNat (n / 65536) :: UInt8.ofNat (n / 256 % 256) :: UInt8.ofNat (n % 256) :: r) = _
    rw [rdl]
    rw [show (131 : UInt8).toNat = 131 by rfl, if_neg (by decide), if_neg (by decide), if_neg (by decide), if_neg (by simp)]
    show (if (lenb (List.foldl (fun a (x : UInt8) => 256 * a + x.toNat) 0 [UInt8.ofNat (n / 65536), UInt8.ofNat (n / 256 % 256), UInt8.ofNat (n % 256)])).length = 1 + 3 then some (1 + 3, List.foldl (fun a (x : UInt8) => 256 * a + x.toNat) 0 [UInt8.ofNat (n / 65536), UInt8.ofNat (n / 256 % 256), UInt8.ofNat (n % 256)]) else none) = _
    rw [e2, e]
    rfl
inductive Oct where
 | mk : UInt8 → List UInt8 → List Oct → Oct
mutual
def enc : Oct → List UInt8
 | .mk t b l => t :: (lenb (b.length + (encs l).length) ++ (b ++ encs l))
def encs : List Oct → List UInt8
 | [] => []
 | v :: r => enc v ++ encs r
end
mutual
def shp : Oct → Prop
 | .mk t b l => t ≠ 0 ∧ (t.toNat < 128 → l = []) ∧ (128 ≤ t.toNat → b = []) ∧ shps l
def shps : List Oct → Prop
 | [] => True
 | v :: r => shp v ∧ shps r
end
mutual
def dep : Oct → Nat
 | .mk _ _ l => deps l + 1
def deps : List Oct → Nat
 | [] => 0
 | v :: r => max (dep v) (deps r)
end
mutual
def cnt : Oct → Nat
 | .mk _ _ l => 1 + cnts l
def cnts : List Oct → Nat
 | [] => 0
 | v :: r => cnt v + cnts r
end
mutual
def siz : Oct → Nat
 | .mk _ b l => 1 + (lenb (b.length + sizs l)).length + (b.length + sizs l)
def sizs : List Oct → Nat
 | [] => 0
 | v :: r => siz v + sizs r
end
mutual
theorem siz_eq : ∀ v, siz v = (enc v).length
 | .mk t b l => by
  rw [siz, enc, sizs_eq l, List.length_cons, List.length_append, List.length_append]
  omega
theorem sizs_eq : ∀ l, sizs l = (encs l).length
 | [] => by rw [sizs, encs]; rfl
 | v :: r => by rw [sizs, encs, List.length_append, siz_eq v, sizs_eq r]
end
theorem enc_pos (v : Oct) : 2 ≤ (enc v).length := by
 cases v with
 | mk t b l =>
  have := lenb_pos (b.length + (encs l).length)
  rw [enc, List.length_cons, List.length_append]
  omega
def rds (f : List UInt8 → Option (Oct × Nat)) : Nat → List UInt8 → Option (List Oct)
 | _, [] => some []
 | 0, _ :: _ => none
 | k + 1, c :: b => match f (c :: b) with
  | none => none
  | some (x, m) => (rds f k ((c :: b).drop m)).map (x :: ·)
def rd : Nat → List UInt8 → Option (Oct × Nat)
 | 0, _ => none
 | _ + 1, [] => none
 | d + 1, t :: b =>
  if t = 0 then none else
  match rdl b with
  | none => none
  | some (k, n) =>
   if b.length < k + n then none
   else if t.toNat < 128 then some (.mk t ((b.drop k).take n) [], 1 + k + n)
   else (rds (rd d) n ((b.drop k).take n)).map fun l => (.mk t [] l, 1 + k + n)
theorem rds_of (f : List UInt8 → Option (Oct × Nat)) : ∀ (l : List Oct) (k : Nat), (encs l).length ≤ k → (∀ v ∈ l, ∀ r, f (enc v ++ r) = some (v, (enc v).length)) → rds f k (encs l) = some l
 | [], k, _, _ => by rw [encs]; cases k <;> rfl
 | v :: r, k, hk, hf => by
  have hp := enc_pos v
  rw [encs, List.length_append] at hk
  rw [encs]
  obtain ⟨c, b, hcb⟩ : ∃ c b, enc v ++ encs r = c :: b := by
   cases hq : enc v ++ encs r with
   | nil => have h2 := congrArg List.length hq; rw [List.length_append, List.length_nil] at h2; omega
   | cons c b => exact ⟨c, b, rfl⟩
  obtain ⟨k, rfl⟩ : ∃ j, k = j + 1 := ⟨k - 1, by omega⟩
  have h1 := hf v (List.mem_cons_self ..) (encs r)
  rw [hcb] at h1 ⊢
  rw [rds, h1]
  show (rds f k (List.drop (enc v).length (c :: b))).map (v :: ·) = _
  rw [← hcb, List.drop_left, rds_of f r k (by omega) (fun x hx => hf x (List.mem_cons_of_mem _ hx))]
  rfl
theorem deps_mem : ∀ (l : List Oct), ∀ v ∈ l, dep v ≤ deps l
 | [], _, h => by cases h
 | x :: r, v, h => by
  rw [deps]
  rcases List.mem_cons.1 h with rfl | h
  ·
   exact Nat.le_max_left _ _
  ·
   exact Nat.le_trans (deps_mem r v h) (Nat.le_max_right _ _)
theorem shps_mem : ∀ (l : List Oct), shps l → ∀ v ∈ l, shp v
 | [], _, _, h => by cases h
 | x :: r, hs, v, h => by
  rw [shps] at hs
  rcases List.mem_cons.1 h with rfl | h
  ·
   exact hs.1
  ·
   exact shps_mem r hs.2 v h
theorem encs_mem : ∀ (l : List Oct), ∀ v ∈ l, (enc v).length ≤ (encs l).length
 | [], _, h => by cases h
 | x :: r, v, h => by
  rw [encs, List.length_append]
  rcases List.mem_cons.1 h with rfl | h
  ·
   omega
  ·
   have := encs_mem r v h
   omega
theorem rd_enc : ∀ (d : Nat) (v : Oct), shp v → dep v ≤ d → (enc v).length < 16777216 → ∀ r, rd d (enc v ++ r) = some (v, (enc v).length)
 | 0, .mk t b l, _, h, _, _ => by rw [dep] at h; omega
 | d + 1, .mk t b l, hs, hd, hn, r => by
  rw [shp] at hs
  obtain ⟨ht, h1, h2, hl⟩ := hs
  rw [dep] at hd
  rw [enc, List.length_cons, List.length_append, List.length_append] at hn ⊢
  obtain ⟨n, hnn⟩ : ∃ n, b.length + (encs l).length = n := ⟨_, rfl⟩
  rw [hnn] at hn ⊢
  have hr := rdl_lenb n (by omega) (b ++ encs l ++ r)
  rw [List.cons_append, rd, if_neg ht, List.append_assoc, hr]
  show (if (lenb n ++ (b ++ encs l ++ r)).length < (lenb n).length + n then none else if t.toNat < 128 then some (Oct.mk t ((List.drop (lenb n).length (lenb n ++ (b ++ encs l ++ r))).take n) [], 1 + (lenb n).length + n) else (rds (rd d) n ((List.drop (lenb n).length (lenb n ++ (b ++ encs l ++ r))).take n)).map fun l => (Oct.mk t [] l, 1 + (lenb n).length + n)) = _
  have hcl : (b ++ encs l).length = n := by rw [List.length_append]; exact hnn
  rw [if_neg (by rw [List.length_append, List.length_append, hcl]; omega), List.drop_left, ← hcl, List.take_left, hcl]
  by_cases h128 : t.toNat < 128
  ·
   have hl0 := h1 h128
   subst hl0
   rw [if_pos h128, encs, List.append_nil]
   congr 2
   omega
  ·
   have hb0 := h2 (by omega)
   subst hb0
   rw [if_neg h128, List.nil_append, rds_of (rd d) l n (by rw [← hcl, List.nil_append]; exact Nat.le_refl _) (fun v hv s => rd_enc d v (shps_mem l hl v hv) (by have := deps_mem l v hv; omega) (by have := encs_mem l v hv; rw [List.nil_append] at hcl; omega) s)]
   show some (Oct.mk t [] l, 1 + (lenb n).length + n) = _
   congr 2
   omega
theorem lenb_len (n : Nat) : (lenb n).length = if n < 128 then 1 else if n < 256 then 2 else if n < 65536 then 3 else 4 := by
 unfold lenb
 split
 ·
  rfl
 ·
  split
  ·
   rfl
  ·
   split <;> rfl
theorem u8_back (c : UInt8) (n : Nat) (h : n = c.toNat) : UInt8.ofNat n = c := by
 subst h
 exact UInt8.ofNat_toNat
def good (v : Oct) : Prop := cnt v ≤ 4000 ∧ dep v ≤ 12 ∧ shp v ∧ (enc v).length ≤ 65536
theorem back (v : Oct) (h : good v) : rd 12 (enc v) = some (v, (enc v).length) := by
 have h1 := rd_enc 12 v h.2.2.1 h.2.1 (by have := h.2.2.2; omega) []
 rw [List.append_nil] at h1
 exact h1
def nb (x : Nat) : List UInt8 := if h : x = 0 then [] else nb (x / 256) ++ [UInt8.ofNat (x % 256)]
decreasing_by omega
def vl (l : List UInt8) : Nat := l.foldl (fun a x => 256 * a + x.toNat) 0
theorem vl_snoc (l : List UInt8) (c : UInt8) : vl (l ++ [c]) = 256 * vl l + c.toNat := by
 unfold vl
 rw [List.foldl_append]
 rfl
theorem nb_zero : nb 0 = [] := by rw [nb, dif_pos rfl]
theorem nb_pos (x : Nat) (h : x ≠ 0) : nb x = nb (x / 256) ++ [UInt8.ofNat (x % 256)] := by rw [nb, dif_neg h]
theorem vl_nb (x : Nat) : vl (nb x) = x := by
 induction x using Nat.strongRecOn with
 | _ x ih =>
  by_cases h : x = 0
  ·
   subst h
   rw [nb_zero]
   rfl
  ·
   rw [nb_pos x h, vl_snoc, ih (x / 256) (by omega), u8n _ (by omega)]
   omega
theorem nb_head (x : Nat) : ∀ c r, nb x = c :: r → c ≠ 0 := by
 induction x using Nat.strongRecOn with
 | _ x ih =>
  intro c r h
  by_cases h0 : x = 0
  ·
   subst h0
   rw [nb_zero] at h
   cases h
  ·
   rw [nb_pos x h0] at h
   by_cases h1 : x / 256 = 0
   ·
    rw [h1, nb_zero, List.nil_append] at h
    obtain ⟨rfl, _⟩ := List.cons.inj h
    intro e
    have := congrArg UInt8.toNat e
    rw [u8n _ (by omega)] at this
    have h3 : (0 : UInt8).toNat = 0 := rfl
    omega
   ·
    cases hq : nb (x / 256) with
    | nil =>
     have := vl_nb (x / 256)
     rw [hq] at this
     have h3 : vl [] = 0 := rfl
     omega
    | cons a q =>
     rw [hq, List.cons_append] at h
     obtain ⟨rfl, _⟩ := List.cons.inj h
     exact ih (x / 256) (by omega) _ _ hq
theorem vl_pos (c : UInt8) (hc : c ≠ 0) (r : List UInt8) : 256 ^ r.length ≤ vl (c :: r) := by
 have h : ∀ (n : Nat) (r : List UInt8), r.length = n → 256 ^ r.length ≤ vl (c :: r) := fun n => by
  induction n with
  | zero =>
   intro r hr
   obtain rfl := List.length_eq_zero_iff.1 hr
   have h1 : vl [c] = 256 * 0 + c.toNat := rfl
   have h2 : c.toNat ≠ 0 := fun e => hc (UInt8.toNat_inj.1 e)
   rw [List.length_nil, Nat.pow_zero, h1]
   omega
  | succ n ih =>
   intro r hr
   have hne : r ≠ [] := fun e => by rw [e] at hr; cases hr
   obtain ⟨q, z, rfl⟩ : ∃ q z, r = q ++ [z] := ⟨r.dropLast, r.getLast hne, (List.dropLast_concat_getLast hne).symm⟩
   rw [List.length_append] at hr ⊢
   have h1 := ih q (by simpa using hr)
   rw [← List.cons_append, vl_snoc, List.length_singleton, Nat.pow_succ]
   omega
 exact h _ r rfl
theorem nb_vl (n : Nat) : ∀ l : List UInt8, l.length = n → (∀ c r, l = c :: r → c ≠ 0) → nb (vl l) = l := by
 induction n with
 | zero =>
  intro l hl _
  obtain rfl := List.length_eq_zero_iff.1 hl
  exact nb_zero
 | succ n ih =>
  intro l hl hc
  have hne : l ≠ [] := fun e => by rw [e] at hl; cases hl
  obtain ⟨q, z, rfl⟩ : ∃ q z, l = q ++ [z] := ⟨l.dropLast, l.getLast hne, (List.dropLast_concat_getLast hne).symm⟩
  rw [List.length_append] at hl
  have hz := z.toNat_lt
  have h0 : vl (q ++ [z]) ≠ 0 := by
   cases hq : q ++ [z] with
   | nil => exact absurd hq hne
   | cons a r =>
    have h1 := vl_pos a (hc a r hq) r
    have h2 : 0 < 256 ^ r.length := Nat.pow_pos (by decide)
    omega
  rw [nb_pos _ h0, vl_snoc, show (256 * vl q + z.toNat) / 256 = vl q by omega, show (256 * vl q + z.toNat) % 256 = z.toNat by omega, u8_back z _ rfl]
  rw [ih q (by simpa using hl) (fun c r h => hc c (r ++ [z]) (by rw [h]; rfl))]
theorem vl_lt : ∀ (n : Nat) (l : List UInt8), l.length = n → vl l < 256 ^ n := fun n => by
 induction n with
 | zero =>
  intro l hl
  obtain rfl := List.length_eq_zero_iff.1 hl
  decide
 | succ n ih =>
  intro l hl
  have hne : l ≠ [] := fun e => by rw [e] at hl; cases hl
  obtain ⟨q, z, rfl⟩ : ∃ q z, l = q ++ [z] := ⟨l.dropLast, l.getLast hne, (List.dropLast_concat_getLast hne).symm⟩
  rw [List.length_append] at hl
  have h1 := ih q (by simpa using hl)
  have hz := z.toNat_lt
  rw [vl_snoc, Nat.pow_succ]
  omega
theorem nb_len (n x : Nat) (h : x < 256 ^ n) : (nb x).length ≤ n := by
 by_cases hk : (nb x).length ≤ n
 ·
  exact hk
 ·
  exfalso
  cases hq : nb x with
  | nil => rw [hq] at hk; simp at hk
  | cons c r =>
   have h1 := vl_pos c (nb_head x c r hq) r
   rw [← hq, vl_nb] at h1
   rw [hq, List.length_cons] at hk
   have h2 : 256 ^ n ≤ 256 ^ r.length := Nat.pow_le_pow_right (by decide) (by omega)
   omega
end Oc
end Go.Proofs.Ythfgdgcdicacpaa
