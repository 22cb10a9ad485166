/-
  PLAIN MATHEMATICS of layer 9: the string of a locator says which one it is; containing is an order.
-/
import Derived.Test.YthagoafcphaadaaDoorLawKit
namespace Go.Proofs.YthagoafcphaadaaDoor
namespace Lo
set_option linter.unusedVariables false
/-- two strings that are cut at the first byte of a kind -/
theorem cut_eq (p : UInt8 → Prop) : ∀ (a b r s : List UInt8), (∀ x ∈ a, ¬ p x) → (∀ x ∈ b, ¬ p x) → (∀ c q, r = c :: q → p c) → (∀ c q, s = c :: q → p c) → a ++ r = b ++ s → a = b ∧ r = s
  | [], [], r, s, _, _, _, _, h => ⟨rfl, h⟩
  | [], y :: b, r, s, _, hb, hr, _, h => absurd (hr y (b ++ s) h) (hb y (List.mem_cons_self ..))
  | x :: a, [], r, s, ha, _, _, hs, h => absurd (hs x (a ++ r) h.symm) (ha x (List.mem_cons_self ..))
  | x :: a, y :: b, r, s, ha, hb, hr, hs, h => by
    injection h with h1 h2
    obtain ⟨h3, h4⟩ := cut_eq p a b r s (fun z hz => ha z (List.mem_cons_of_mem _ hz)) (fun z hz => hb z (List.mem_cons_of_mem _ hz)) hr hs h2
    exact ⟨by rw [h1, h3], h4⟩
/-- a number in decimal -/
def dcm (n : Nat) : List UInt8 := if h : n < 10 then [UInt8.ofNat (48 + n)] else dcm (n / 10) ++ [UInt8.ofNat (48 + n % 10)]
decreasing_by omega
def dvl (l : List UInt8) : Nat := l.foldl (fun a x => 10 * a + (x.toNat - 48)) 0
theorem u8n (n : Nat) (h : n < 256) : (UInt8.ofNat n).toNat = n := by
  rw [UInt8.toNat_ofNat']
  omega
theorem dvl_dcm (n : Nat) : dvl (dcm n) = n := by
  induction n using Nat.strongRecOn with
  | _ n ih =>
    by_cases h : n < 10
    · rw [dcm, dif_pos h]
      show 10 * 0 + ((UInt8.ofNat (48 + n)).toNat - 48) = n
      rw [u8n _ (by omega)]
      omega
    · rw [dcm, dif_neg h]
      unfold dvl
      rw [List.foldl_append]
      show 10 * dvl (dcm (n / 10)) + ((UInt8.ofNat (48 + n % 10)).toNat - 48) = n
      rw [ih (n / 10) (by omega), u8n _ (by omega)]
      omega
theorem dcm_digit (n : Nat) : ∀ x ∈ dcm n, 48 ≤ x.toNat ∧ x.toNat ≤ 57 := by
  induction n using Nat.strongRecOn with
  | _ n ih =>
    intro x hx
    by_cases h : n < 10
    · rw [dcm, dif_pos h] at hx
      obtain rfl := List.mem_singleton.1 hx
      rw [u8n _ (by omega)]
      omega
    · rw [dcm, dif_neg h] at hx
      rcases List.mem_append.1 hx with hx | hx
      · exact ih (n / 10) (by omega) x hx
      · obtain rfl := List.mem_singleton.1 hx
        rw [u8n _ (by omega)]
        omega
theorem dcm_inj (a b : Nat) (h : dcm a = dcm b) : a = b := by rw [← dvl_dcm a, h, dvl_dcm]
/-- the parts of a string -/
def tl : List (List UInt8) → Bool → List UInt8
  | [], d => if d then [47] else []
  | p :: r, d => 47 :: (p ++ tl r d)
theorem tl_head (P : List (List UInt8)) (d : Bool) : ∀ c q, tl P d = c :: q → c = 47 := fun c q h => by
  cases P with
  | nil =>
    cases d with
    | false => cases h
    | true => exact (List.cons.inj h).1.symm
  | cons p r => exact (List.cons.inj h).1.symm
theorem tl_inj : ∀ (P Q : List (List UInt8)) (d e : Bool), (∀ p ∈ P, p ≠ [] ∧ ∀ x ∈ p, x ≠ 47) → (∀ p ∈ Q, p ≠ [] ∧ ∀ x ∈ p, x ≠ 47) → tl P d = tl Q e → P = Q ∧ d = e
  | [], [], d, e, _, _, h => by
    cases d <;> cases e
    · exact ⟨rfl, rfl⟩
    · cases h
    · cases h
    · exact ⟨rfl, rfl⟩
  | [], q :: Q, d, e, _, hq, h => by
    exfalso
    have h1 := (hq q (List.mem_cons_self ..)).1
    cases d with
    | false => cases h
    | true =>
      have h2 := (List.cons.inj h).2
      exact h1 (List.append_eq_nil_iff.1 h2.symm).1
  | p :: P, [], d, e, hp, _, h => by
    exfalso
    have h1 := (hp p (List.mem_cons_self ..)).1
    cases e with
    | false => cases h
    | true =>
      have h2 := (List.cons.inj h).2
      exact h1 (List.append_eq_nil_iff.1 h2).1
  | p :: P, q :: Q, d, e, hp, hq, h => by
    have h2 : p ++ tl P d = q ++ tl Q e := (List.cons.inj h).2
    obtain ⟨h3, h4⟩ := cut_eq (· = 47) p q (tl P d) (tl Q e) (hp p (List.mem_cons_self ..)).2 (hq q (List.mem_cons_self ..)).2 (tl_head P d) (tl_head Q e) h2
    obtain ⟨h5, h6⟩ := tl_inj P Q d e (fun x hx => hp x (List.mem_cons_of_mem _ hx)) (fun x hx => hq x (List.mem_cons_of_mem _ hx)) h4
    exact ⟨by rw [h3, h5], h6⟩
/-- a locator, its string -/
structure Loc where
  scheme : Nat
  host : List UInt8
  port : Nat
  parts : List (List UInt8)
  dir : Bool
def pre (s : Nat) : List UInt8 := if s = 1 then [114, 115, 121, 110, 99, 58, 47, 47] else [104, 116, 116, 112, 115, 58, 47, 47]
def pt (n : Nat) : List UInt8 := if n = 0 then [] else 58 :: dcm n
def wr (l : Loc) : List UInt8 := pre l.scheme ++ (l.host ++ (pt l.port ++ (tl l.parts (l.dir || l.parts.isEmpty))))
/-- what the string needs of a locator to be read -/
def fit (l : Loc) : Prop := (l.scheme = 1 ∨ l.scheme = 2) ∧ (∀ x ∈ l.host, x ≠ 58 ∧ x ≠ 47) ∧ (∀ p ∈ l.parts, p ≠ [] ∧ ∀ x ∈ p, x ≠ 47) ∧ (l.parts = [] → l.dir = true)
theorem pt_inj (a b : Nat) (P Q : List (List UInt8)) (d e : Bool) (h : pt a ++ tl P d = pt b ++ tl Q e) : a = b ∧ tl P d = tl Q e := by
  unfold pt at h
  by_cases ha : a = 0
  · by_cases hb : b = 0
    · rw [if_pos ha, if_pos hb] at h
      exact ⟨by rw [ha, hb], h⟩
    · rw [if_pos ha, if_neg hb] at h
      have h1 := tl_head P d 58 (dcm b ++ tl Q e) h
      exact absurd h1 (by decide)
  · by_cases hb : b = 0
    · rw [if_neg ha, if_pos hb] at h
      have h1 := tl_head Q e 58 (dcm a ++ tl P d) h.symm
      exact absurd h1 (by decide)
    · rw [if_neg ha, if_neg hb] at h
      have h2 : dcm a ++ tl P d = dcm b ++ tl Q e := (List.cons.inj h).2
      have hd : ∀ n, ∀ x ∈ dcm n, ¬ x = 47 := fun n x hx e => by
        have h3 := (dcm_digit n x hx).1
        have h4 : (47 : UInt8).toNat = 47 := rfl
        rw [e, h4] at h3
        omega
      obtain ⟨h3, h4⟩ := cut_eq (· = 47) _ _ _ _ (hd a) (hd b) (tl_head P d) (tl_head Q e) h2
      exact ⟨dcm_inj a b h3, h4⟩
theorem rest_head (n : Nat) (P : List (List UInt8)) (d : Bool) : ∀ c q, pt n ++ tl P d = c :: q → c = 58 ∨ c = 47 := fun c q h => by
  unfold pt at h
  by_cases hn : n = 0
  · rw [if_pos hn] at h
    exact .inr (tl_head P d c q h)
  · rw [if_neg hn] at h
    exact .inl (List.cons.inj h).1.symm
/-- THE STAGE'S THEOREM -/
theorem wr_inj (l m : Loc) (hl : fit l) (hm : fit m) (h : wr l = wr m) : l = m := by
  obtain ⟨s1, a1, p1, d1⟩ := hl
  obtain ⟨s2, a2, p2, d2⟩ := hm
  unfold wr at h
  have hs : l.scheme = m.scheme := by
    rcases s1 with s1 | s1 <;> rcases s2 with s2 | s2
    · rw [s1, s2]
    · rw [s1, s2] at h
      exact absurd (List.cons.inj h).1 (by decide)
    · rw [s1, s2] at h
      exact absurd (List.cons.inj h).1 (by decide)
    · rw [s1, s2]
  rw [hs] at h
  have h1 := List.append_cancel_left h
  obtain ⟨h2, h3⟩ := cut_eq (fun c => c = 58 ∨ c = 47) _ _ _ _ (fun x hx e => by rcases e with e | e; exact (a1 x hx).1 e; exact (a1 x hx).2 e) (fun x hx e => by rcases e with e | e; exact (a2 x hx).1 e; exact (a2 x hx).2 e) (rest_head _ _ _) (rest_head _ _ _) h1
  obtain ⟨h4, h5⟩ := pt_inj _ _ _ _ _ _ h3
  obtain ⟨h6, h7⟩ := tl_inj _ _ _ _ p1 p2 h5
  have hdd : ∀ k : Loc, (k.parts = [] → k.dir = true) → (k.dir || k.parts.isEmpty) = k.dir := fun k hk => by
    cases hq : k.parts with
    | nil => rw [hk hq]; rfl
    | cons a b => cases k.dir <;> rfl
  rw [hdd l d1, hdd m d2] at h7
  cases l
  cases m
  simp only at hs h2 h4 h6 h7
  subst hs h2 h4 h6 h7
  rfl
/-- containing -/
def holds (d l : Loc) : Prop := d.scheme = l.scheme ∧ d.host = l.host ∧ d.port = l.port ∧ d.parts <+: l.parts ∧ (l.dir = false → d.parts.length < l.parts.length)
theorem holds_self (d : Loc) (h : d.dir = true) : holds d d := ⟨rfl, rfl, rfl, List.prefix_refl _, fun e => by rw [h] at e; cases e⟩
theorem holds_both (a b : Loc) (ha : a.dir = true) (hb : b.dir = true) (h1 : holds a b) (h2 : holds b a) : a = b := by
  have h3 : a.parts = b.parts := h1.2.2.2.1.eq_of_length (Nat.le_antisymm h1.2.2.2.1.length_le h2.2.2.2.1.length_le)
  cases a
  cases b
  obtain ⟨e1, e2, e3, _, _⟩ := h1
  simp only at ha hb e1 e2 e3 h3
  subst e1 e2 e3 h3 ha hb
  rfl
theorem holds_trans (a b c : Loc) (h1 : holds a b) (h2 : holds b c) : holds a c :=
  ⟨h1.1.trans h2.1, h1.2.1.trans h2.2.1, h1.2.2.1.trans h2.2.2.1, h1.2.2.2.1.trans h2.2.2.2.1, fun e => Nat.lt_of_le_of_lt h1.2.2.2.1.length_le (h2.2.2.2.2 e)⟩
end Lo
end Go.Proofs.YthagoafcphaadaaDoor
