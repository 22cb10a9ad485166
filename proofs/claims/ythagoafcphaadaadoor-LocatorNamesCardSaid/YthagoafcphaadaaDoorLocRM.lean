/-
  PLAIN MATHEMATICS of layer 9's reference: a host byte by byte; a string part by part.
-/
import Derived.Test.YthagoafcphaadaaDoorLocC
namespace Go.Proofs.YthagoafcphaadaaDoor
namespace Lo
set_option linter.unusedVariables false
set_option linter.unusedSimpArgs false
def letB (n : Nat) : Bool := (decide (97 ≤ n) && decide (n ≤ 122)) || (decide (48 ≤ n) && decide (n ≤ 57))
theorem inL_let (c : UInt8) : inL c = (letB c.toNat || decide (c = 45)) := by
  have h : ∀ n : Fin 256, inL (UInt8.ofNat n.1) = (letB (UInt8.ofNat n.1).toNat || decide (UInt8.ofNat n.1 = 45)) := by decide +kernel
  have h2 := h ⟨c.toNat, UInt8.toNat_lt c⟩
  simpa using h2
theorem inP_let (c : UInt8) : inP c = (letB c.toNat || (decide (65 ≤ c.toNat) && decide (c.toNat ≤ 90)) || decide (c.toNat = 45) || decide (c.toNat = 95) || decide (c.toNat = 46)) := by
  have h : ∀ n : Fin 256, inP (UInt8.ofNat n.1) = (letB (UInt8.ofNat n.1).toNat || (decide (65 ≤ (UInt8.ofNat n.1).toNat) && decide ((UInt8.ofNat n.1).toNat ≤ 90)) || decide ((UInt8.ofNat n.1).toNat = 45) || decide ((UInt8.ofNat n.1).toNat = 95) || decide ((UInt8.ofNat n.1).toNat = 46)) := by decide +kernel
  have h2 := h ⟨c.toNat, UInt8.toNat_lt c⟩
  simpa using h2
/-- the next byte is none, or a point -/
def nxt : List UInt8 → Bool
  | [] => true
  | c :: _ => decide (c = 46)
def okAt (first : Bool) (c : UInt8) (r : List UInt8) : Bool := (letB c.toNat || decide (c = 45) || decide (c = 46)) && !(decide (c = 46) && (first || nxt r)) && !(decide (c = 45) && (first || nxt r))
def hr (first : Bool) : List UInt8 → Bool
  | [] => true
  | c :: r => okAt first c r && hr (decide (c = 46)) r
def tailB (h : List UInt8) : Bool := h.all inL && !Go.Lib.hasSuffix h [45]
theorem suf_cons (c : UInt8) (h : List UInt8) : Go.Lib.hasSuffix (c :: h) [45] = (if h = [] then decide (c = 45) else Go.Lib.hasSuffix h [45]) := by
  unfold Go.Lib.hasSuffix
  by_cases e : h = []
  · rw [if_pos e, e, Bool.eq_iff_iff, List.isSuffixOf_iff_suffix, decide_eq_true_eq]
    constructor
    · rintro ⟨t, ht⟩
      cases t with
      | nil => simpa using ht.symm
      | cons x y => simp at ht
    · rintro rfl; exact List.suffix_refl _
  · rw [if_neg e, Bool.eq_iff_iff, List.isSuffixOf_iff_suffix, List.isSuffixOf_iff_suffix]
    constructor
    · rintro ⟨t, ht⟩
      cases t with
      | nil =>
        have := (List.cons.inj ht).2
        exact absurd this.symm e
      | cons x y => exact ⟨y, (List.cons.inj ht).2⟩
    · intro hs; exact hs.trans (List.suffix_cons _ _)
theorem pre_cons (c : UInt8) (h : List UInt8) : Go.Lib.hasPrefix (c :: h) [45] = decide (c = 45) := by
  unfold Go.Lib.hasPrefix
  simp only [List.isPrefixOf, Bool.and_true]
  rw [Bool.eq_iff_iff, beq_iff_eq, decide_eq_true_eq]
  exact eq_comm
theorem suf_nil : Go.Lib.hasSuffix [] [45] = false := rfl
theorem split_nxt (l : List UInt8) : ∃ h t, splitL 46 l = h :: t ∧ (h = [] ↔ nxt l = true) := by
  cases l with
  | nil => exact ⟨[], [], rfl, by simp [nxt]⟩
  | cons c r =>
    unfold splitL
    by_cases e : c = 46
    · rw [if_pos e]
      exact ⟨[], splitL 46 r, rfl, by simp [nxt, e]⟩
    · rw [if_neg e]
      cases hs : splitL 46 r with
      | nil => exact absurd hs (splitL_ne 46 r)
      | cons h t => exact ⟨c :: h, t, rfl, by simp [nxt, e]⟩
theorem hr_tail : ∀ l : List UInt8, (∀ h t, splitL 46 l = h :: t → hr false l = (tailB h && t.all labelB)) ∧ (l ≠ [] → hr true l = (splitL 46 l).all labelB)
  | [] => ⟨fun h t e => by
      have e2 : [([] : List UInt8)] = h :: t := e
      obtain ⟨rfl, rfl⟩ := List.cons.inj e2
      rfl, fun e => absurd rfl e⟩
  | c :: r => by
    obtain ⟨ih1, ih2⟩ := hr_tail r
    obtain ⟨h, t, hs, hn⟩ := split_nxt r
    have ih := ih1 h t hs
    by_cases e : c = 46
    · subst e
      have hsp : splitL 46 (46 :: r) = [] :: splitL 46 r := by rw [splitL, if_pos rfl]
      have hq : hr false (46 :: r) = (splitL 46 r).all labelB := by
        show (okAt false 46 r && hr true r) = _
        have ho : okAt false 46 r = !nxt r := by
          unfold okAt
          have : letB (46 : UInt8).toNat = false := by decide
          rw [this]
          simp
        rw [ho]
        by_cases hr0 : r = []
        · subst hr0
          rfl
        · rw [ih2 hr0]
          cases hx : nxt r with
          | false => simp
          | true =>
            have h0 := hn.2 hx
            rw [hs, h0]
            simp [labelB]
      constructor
      · intro h2 t2 e2
        rw [hsp] at e2
        obtain ⟨rfl, rfl⟩ := List.cons.inj e2
        rw [hq]
        simp [tailB, suf_nil]
      · intro _
        show (okAt true 46 r && hr true r) = _
        have ho : okAt true 46 r = false := by
          unfold okAt
          simp
        rw [ho, hsp]
        simp [labelB]
    · have hsp : splitL 46 (c :: r) = (c :: h) :: t := by
        rw [splitL, if_neg e, hs]
      have e46 : decide (c = 46) = false := decide_eq_false e
      have hsu := suf_cons c h
      have hnx : nxt r = decide (h = []) := by
        rw [Bool.eq_iff_iff, decide_eq_true_eq]
        exact hn.symm
      constructor
      · intro h2 t2 e2
        rw [hsp] at e2
        obtain ⟨rfl, rfl⟩ := List.cons.inj e2
        show (okAt false c r && hr (decide (c = 46)) r) = _
        rw [e46, ih]
        unfold tailB okAt
        rw [hsu, e46, List.all_cons, inL_let, hnx]
        by_cases h0 : h = []
        · subst h0
          simp [suf_nil]
        · simp only [h0, decide_false, if_false, Bool.false_or, Bool.or_false, Bool.and_false, Bool.false_and, Bool.not_false, Bool.and_true]
          cases letB c.toNat <;> cases decide (c = 45) <;> cases h.all inL <;> cases Go.Lib.hasSuffix h [45] <;> cases t.all labelB <;> rfl
      · intro _
        show (okAt true c r && hr (decide (c = 46)) r) = _
        rw [e46, ih, hsp, List.all_cons]
        unfold tailB okAt labelB
        rw [hsu, e46, List.all_cons, inL_let, pre_cons]
        have hne : decide (c :: h = []) = false := decide_eq_false (by simp)
        rw [hne]
        by_cases h0 : h = []
        · subst h0
          cases letB c.toNat <;> cases decide (c = 45) <;> simp [suf_nil]
        · simp only [h0, if_false]
          cases letB c.toNat <;> cases decide (c = 45) <;> cases h.all inL <;> cases Go.Lib.hasSuffix h [45] <;> cases t.all labelB <;> rfl
theorem host_hr (s : List UInt8) : hostB s = (decide (1 ≤ s.length) && decide (s.length ≤ 60) && hr true s) := by
  unfold hostB
  cases s with
  | nil => rfl
  | cons c r =>
    rw [(hr_tail (c :: r)).2 (by simp)]
    have : decide (1 ≤ (c :: r).length) = true := decide_eq_true (by simp)
    rw [this, Bool.true_and]
/-- the bytes of a host, by index -/
theorem hr_at : ∀ (l : List UInt8) (first : Bool), hr first l = true ↔ ∀ i c, l[i]? = some c → okAt (if i = 0 then first else decide (l[i - 1]? = some 46)) c (l.drop (i + 1)) = true
  | [], first => by simp [hr]
  | c :: r, first => by
    show (okAt first c r && hr (decide (c = 46)) r) = true ↔ _
    rw [Bool.and_eq_true, hr_at r (decide (c = 46))]
    constructor
    · rintro ⟨h1, h2⟩ i x hx
      cases i with
      | zero =>
        have : c = x := Option.some.inj hx
        subst this
        simpa using h1
      | succ i =>
        have h3 := h2 i x (by simpa using hx)
        rw [if_neg (by omega)]
        cases i with
        | zero => simpa using h3
        | succ j => simpa using h3
    · intro h
      refine ⟨by simpa using h 0 c rfl, fun i x hx => ?_⟩
      have h3 := h (i + 1) x (by simpa using hx)
      rw [if_neg (by omega)] at h3
      cases i with
      | zero => simpa using h3
      | succ j => simpa using h3
end Lo
end Go.Proofs.YthagoafcphaadaaDoor
