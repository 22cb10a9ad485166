/-
  PLAIN MATHEMATICS of layer 9: joining, splitting and containing.
-/
import Derived.Test.YthagoafcphaadaaDoorLocB
namespace Go.Proofs.YthagoafcphaadaaDoor
namespace Lo
set_option linter.unusedVariables false
set_option linter.unusedSimpArgs false
theorem wrL_tl (l : Lc) (h : Good l) : wrL l = pre l.sch ++ (l.host ++ (pt l.port.toNat ++ tl l.parts l.dir)) := by
  rw [wrL_wr l h.sch h.p0]
  unfold wr toLoc
  have hd : (l.dir || l.parts.isEmpty) = l.dir := by
    cases hq : l.parts with
    | nil => rw [h.some hq]; rfl
    | cons a b => cases l.dir <;> rfl
  simp only [hd]
theorem tl_snoc : ∀ (P : List (List UInt8)) (n : List UInt8), tl (P ++ [n]) false = tl P true ++ n
  | [], n => by simp [tl]
  | p :: r, n => by
    show 47 :: (p ++ tl (r ++ [n]) false) = 47 :: (p ++ tl r true) ++ n
    rw [tl_snoc r n]
    simp
/-- a file of a directory -/
def Lc.file (l : Lc) (n : List UInt8) : Lc := { l with parts := l.parts ++ [n], dir := false }
/-- the directory of a file -/
def Lc.up (l : Lc) : Lc := { l with parts := l.parts.dropLast, dir := true }
theorem file_good {l : Lc} {n : List UInt8} (h : Good l) (hn : nameB n = true) : Good (l.file n) :=
  ⟨h.sch, h.host, h.p0, h.p1, h.pu, fun p hp => by
    rcases List.mem_append.1 hp with hp | hp
    · exact h.names p hp
    · rw [List.mem_singleton.1 hp]; exact hn, fun e => by simp [Lc.file] at e⟩
theorem file_wr {l : Lc} {n : List UInt8} (h : Good l) (hn : nameB n = true) (hd : l.dir = true) : wrL (l.file n) = wrL l ++ n := by
  rw [wrL_tl _ (file_good h hn), wrL_tl _ h]
  show pre l.sch ++ (l.host ++ (pt l.port.toNat ++ tl (l.parts ++ [n]) false)) = _
  rw [tl_snoc, hd]
  simp
theorem file_up (l : Lc) (n : List UInt8) (hd : l.dir = true) : (l.file n).up = l := by
  cases l
  simp only at hd
  subst hd
  simp [Lc.file, Lc.up]
theorem up_file (l : Lc) (h : Good l) (hd : l.dir = false) : ∃ n, l.parts = l.parts.dropLast ++ [n] ∧ nameB n = true ∧ l.parts.getLast? = some n ∧ l.up.file n = l := by
  have hne : l.parts ≠ [] := fun e => by have := h.some e; rw [hd] at this; cases this
  refine ⟨l.parts.getLast hne, (List.dropLast_concat_getLast hne).symm, h.names _ (List.getLast_mem hne), List.getLast?_eq_some_getLast hne, ?_⟩
  cases l
  simp only at hd hne
  subst hd
  simp [Lc.file, Lc.up, List.dropLast_concat_getLast hne]
theorem up_good {l : Lc} (h : Good l) : Good l.up :=
  ⟨h.sch, h.host, h.p0, h.p1, h.pu, fun p hp => h.names p ((List.dropLast_subset l.parts) hp), fun _ => rfl⟩
theorem chk_of {l : Lc} (h : Good l) (h1 : l.parts.length ≤ 10) (h2 : (wrL l).length ≤ 200) : chk l = 0 := by
  unfold chk
  rw [if_neg (by omega), (good_iff l).2 h, if_neg (by simp), if_neg (by omega)]
theorem up_chk {l : Lc} (h : chk l = 0) (hd : l.dir = false) : chk l.up = 0 := by
  obtain ⟨g, h1, h2⟩ := chk_zero h
  obtain ⟨n, e, hn, _, e2⟩ := up_file l g hd
  refine chk_of (up_good g) (by show l.parts.dropLast.length ≤ 10; rw [List.length_dropLast]; omega) ?_
  rw [← e2, file_wr (up_good g) hn rfl, List.length_append] at h2
  omega
/-! what the functions answer -/
def textL (l : Lc) : List UInt8 × Int := if chk l = 0 then (wrL l, 0) else ([], chk l)
def joinL (d n : List UInt8) : List UInt8 × Int := match parseL d with
  | none => ([], 12)
  | some l => if l.dir = true ∧ nameB n = true then textL (l.file n) else ([], 2)
def splitS (s : List UInt8) : List UInt8 × List UInt8 × Int := match parseL s with
  | none => ([], [], 12)
  | some l => if l.dir = true then ([], [], 2) else (wrL l.up, l.parts.getLast?.getD [], 0)
def withinL (d s : List UInt8) : Bool × Int := match parseL d, parseL s with
  | some a, some _ => if a.dir = true then (Go.Lib.hasPrefix s d, 0) else (false, 2)
  | _, _ => (false, 12)
theorem parse_wr {l : Lc} (h : chk l = 0) : parseL (wrL l) = some l := (parse_iff _ l).2 ⟨h, rfl⟩
theorem text_zero {l : Lc} {s : List UInt8} (h : textL l = (s, 0)) : chk l = 0 ∧ s = wrL l := by
  unfold textL at h
  split at h
  · rename_i h1
    injection h with h2 h3
    exact ⟨h1, h2.symm⟩
  · rename_i h1
    injection h with h2 h3
    exact absurd h3 h1
/-- joining, then splitting; the directory contains the file -/
theorem join_split (d n s : List UInt8) (h : joinL d n = (s, 0)) : splitS s = (d, n, 0) ∧ withinL d s = (true, 0) ∧ nameB n = true := by
  unfold joinL at h
  cases hp : parseL d with
  | none => rw [hp] at h; injection h with h1 h2; cases h2
  | some l =>
    rw [hp] at h
    simp only at h
    split at h
    · rename_i hc
      obtain ⟨h0, rfl⟩ := text_zero h
      obtain ⟨k0, rfl⟩ := (parse_iff d l).1 hp
      obtain ⟨g, _, _⟩ := chk_zero k0
      refine ⟨?_, ?_, hc.2⟩
      · unfold splitS
        rw [parse_wr h0]
        show (if (false : Bool) = true then _ else _) = _
        rw [if_neg (by simp), file_up l n hc.1]
        simp [Lc.file]
      · unfold withinL
        rw [hp, parse_wr h0]
        simp only
        rw [if_pos hc.1, file_wr g hc.2 hc.1]
        unfold Go.Lib.hasPrefix
        rw [List.isPrefixOf_iff_prefix.2 ⟨n, rfl⟩]
    · injection h with h1 h2; cases h2
/-- splitting, then joining -/
theorem split_join (s d n : List UInt8) (h : splitS s = (d, n, 0)) : joinL d n = (s, 0) := by
  unfold splitS at h
  cases hp : parseL s with
  | none => rw [hp] at h; injection h with h1 h2; injection h2 with h2 h3; cases h3
  | some l =>
    rw [hp] at h
    simp only at h
    obtain ⟨k0, rfl⟩ := (parse_iff s l).1 hp
    obtain ⟨g, _, _⟩ := chk_zero k0
    cases hd : l.dir with
    | true => rw [hd, if_pos rfl] at h; injection h with h1 h2; injection h2 with h2 h3; cases h3
    | false =>
      rw [hd, if_neg (by simp)] at h
      injection h with h1 h2
      injection h2 with h2 h3
      obtain ⟨m, e, hm, e2, e3⟩ := up_file l g hd
      rw [e2] at h2
      simp only [Option.getD_some] at h2
      subst h1 h2
      unfold joinL
      rw [parse_wr (up_chk k0 hd)]
      simp only
      rw [if_pos ⟨rfl, hm⟩, e3]
      unfold textL
      rw [if_pos k0]
theorem split_bad (s d n : List UInt8) (e : Int) (h : splitS s = (d, n, e)) (he : e ≠ 0) : d = [] ∧ n = [] := by
  unfold splitS at h
  split at h
  · injection h with h1 h2
    injection h2 with h2 h3
    exact ⟨h1.symm, h2.symm⟩
  · split at h
    · injection h with h1 h2
      injection h2 with h2 h3
      exact ⟨h1.symm, h2.symm⟩
    · injection h with h1 h2
      injection h2 with h2 h3
      exact absurd h3.symm he
theorem pre_iff (a b : List UInt8) : Go.Lib.hasPrefix a b = true ↔ b <+: a := List.isPrefixOf_iff_prefix
theorem within_ok {d s : List UInt8} {b : Bool} (h : withinL d s = (b, 0)) : b = Go.Lib.hasPrefix s d := by
  unfold withinL at h
  split at h
  · split at h
    · injection h with h1 h2; exact h1.symm
    · injection h with h1 h2; cases h2
  · injection h with h1 h2; cases h2
theorem within_bad {d s : List UInt8} {b : Bool} {e : Int} (h : withinL d s = (b, e)) (he : e ≠ 0) : b = false := by
  unfold withinL at h
  split at h
  · split at h
    · injection h with h1 h2; exact absurd h2.symm he
    · injection h with h1 h2; exact h1.symm
  · injection h with h1 h2; exact h1.symm
/-! containing by parts -/
theorem tl_prefix : ∀ (P Q : List (List UInt8)) (e : Bool) (X : List UInt8), (∀ p ∈ P, p ≠ [] ∧ ∀ x ∈ p, x ≠ 47) → (∀ p ∈ Q, p ≠ [] ∧ ∀ x ∈ p, x ≠ 47) → tl Q e = tl P true ++ X → P <+: Q ∧ (e = false → P.length < Q.length)
  | [], Q, e, X, _, _, h => by
    refine ⟨List.nil_prefix, fun he => ?_⟩
    cases Q with
    | nil => subst he; simp [tl] at h
    | cons q r => simp
  | p :: P, [], e, X, hp, _, h => by
    exfalso
    have h1 := (hp p (List.mem_cons_self ..)).1
    cases e with
    | false => cases h
    | true =>
      have h2 : [] = p ++ tl P true ++ X := (List.cons.inj h).2
      have h3 := List.append_eq_nil_iff.1 h2.symm
      exact h1 (List.append_eq_nil_iff.1 h3.1).1
  | p :: P, q :: Q, e, X, hp, hq, h => by
    have h2 : q ++ tl Q e = p ++ (tl P true ++ X) := by
      have := (List.cons.inj h).2
      rw [← List.append_assoc]
      exact this
    have hX : ∀ c t, tl P true ++ X = c :: t → c = 47 := fun c t ht => by
      cases P with
      | nil => exact (List.cons.inj ht).1.symm
      | cons a b => exact (List.cons.inj ht).1.symm
    obtain ⟨h3, h4⟩ := cut_eq (· = 47) q p (tl Q e) (tl P true ++ X) (hq q (List.mem_cons_self ..)).2 (hp p (List.mem_cons_self ..)).2 (tl_head Q e) hX h2
    obtain ⟨h5, h6⟩ := tl_prefix P Q e X (fun x hx => hp x (List.mem_cons_of_mem _ hx)) (fun x hx => hq x (List.mem_cons_of_mem _ hx)) h4
    subst h3
    exact ⟨List.cons_prefix_cons.2 ⟨rfl, h5⟩, fun he => by have := h6 he; simp; omega⟩
theorem tl_of_prefix : ∀ (P R : List (List UInt8)) (e : Bool), (e = false → R ≠ []) → ∃ X, tl (P ++ R) e = tl P true ++ X
  | [], R, e, h => by
    cases R with
    | nil =>
      cases e with
      | true => exact ⟨[], rfl⟩
      | false => exact absurd rfl (h rfl)
    | cons a b => exact ⟨a ++ tl b e, rfl⟩
  | p :: P, R, e, h => by
    obtain ⟨X, hX⟩ := tl_of_prefix P R e h
    refine ⟨X, ?_⟩
    show 47 :: (p ++ tl (P ++ R) e) = 47 :: (p ++ tl P true) ++ X
    rw [hX]
    simp
def holdsL (d l : Lc) : Bool := decide (d.sch = l.sch) && decide (d.host = l.host) && decide (d.port = l.port) && decide (d.parts <+: l.parts) && (decide (d.parts.length < l.parts.length) || l.dir)
theorem holds_pre (d l : Lc) (hd : Good d) (hl : Good l) (hdir : d.dir = true) : holdsL d l = Go.Lib.hasPrefix (wrL l) (wrL d) := by
  rw [Bool.eq_iff_iff, pre_iff, wrL_tl d hd, wrL_tl l hl, hdir]
  unfold holdsL
  simp only [Bool.and_eq_true, Bool.or_eq_true, decide_eq_true_eq]
  constructor
  · rintro ⟨⟨⟨⟨h1, h2⟩, h3⟩, ⟨R, h4⟩⟩, h5⟩
    obtain ⟨X, hX⟩ := tl_of_prefix d.parts R l.dir (fun e hR => by
      rcases h5 with h5 | h5
      · rw [← h4, hR] at h5; simp at h5
      · rw [e] at h5; cases h5)
    refine ⟨X, ?_⟩
    rw [← h1, ← h2, ← h3, ← h4, hX]
    simp
  · rintro ⟨X, hX⟩
    have hs : l.sch = d.sch := by
      rcases hl.sch with s1 | s1 <;> rcases hd.sch with s2 | s2
      · rw [s1, s2]
      · rw [s1, s2] at hX
        exact absurd (List.cons.inj hX).1 (by decide)
      · rw [s1, s2] at hX
        exact absurd (List.cons.inj hX).1 (by decide)
      · rw [s1, s2]
    rw [hs] at hX
    have h1 : d.host ++ (pt d.port.toNat ++ (tl d.parts true ++ X)) = l.host ++ (pt l.port.toNat ++ tl l.parts l.dir) := by
      refine List.append_cancel_left (show pre d.sch ++ (d.host ++ (pt d.port.toNat ++ (tl d.parts true ++ X))) = pre d.sch ++ (l.host ++ (pt l.port.toNat ++ tl l.parts l.dir)) from ?_)
      rw [← hX]
      simp
    have hT : ∀ c t, tl d.parts true ++ X = c :: t → c = 47 := fun c t ht => by
      cases hP : d.parts with
      | nil => rw [hP] at ht; exact (List.cons.inj ht).1.symm
      | cons a b => rw [hP] at ht; exact (List.cons.inj ht).1.symm
    have hR : ∀ c t, pt d.port.toNat ++ (tl d.parts true ++ X) = c :: t → c = 58 ∨ c = 47 := fun c t ht => by
      unfold pt at ht
      split at ht
      · exact .inr (hT c t ht)
      · exact .inl (List.cons.inj ht).1.symm
    have a1 := host_fit hd.host
    have a2 := host_fit hl.host
    obtain ⟨h2, h3⟩ := cut_eq (fun c => c = 58 ∨ c = 47) _ _ _ _ (fun x hx e => by rcases e with e | e; exact (a1 x hx).1 e; exact (a1 x hx).2 e) (fun x hx e => by rcases e with e | e; exact (a2 x hx).1 e; exact (a2 x hx).2 e) hR (rest_head _ _ _) h1
    have h4 : d.port.toNat = l.port.toNat ∧ tl d.parts true ++ X = tl l.parts l.dir := by
      unfold pt at h3
      by_cases ha : d.port.toNat = 0
      · by_cases hb : l.port.toNat = 0
        · rw [if_pos ha, if_pos hb] at h3
          exact ⟨by rw [ha, hb], h3⟩
        · rw [if_pos ha, if_neg hb] at h3
          exact absurd (hT 58 (dcm l.port.toNat ++ tl l.parts l.dir) h3) (by decide)
      · by_cases hb : l.port.toNat = 0
        · rw [if_neg ha, if_pos hb] at h3
          exact absurd (tl_head l.parts l.dir 58 (dcm d.port.toNat ++ (tl d.parts true ++ X)) h3.symm) (by decide)
        · rw [if_neg ha, if_neg hb] at h3
          have h5 : dcm d.port.toNat ++ (tl d.parts true ++ X) = dcm l.port.toNat ++ tl l.parts l.dir := (List.cons.inj h3).2
          have hdg : ∀ n, ∀ x ∈ dcm n, ¬ x = 47 := fun n x hx e => by
            have h6 := (dcm_digit n x hx).1
            have h7 : (47 : UInt8).toNat = 47 := rfl
            rw [e, h7] at h6
            omega
          obtain ⟨h8, h9⟩ := cut_eq (· = 47) _ _ _ _ (hdg _) (hdg _) hT (tl_head _ _) h5
          exact ⟨dcm_inj _ _ h8, h9⟩
    obtain ⟨h7, h8⟩ := tl_prefix d.parts l.parts l.dir X hd.fit.2.2.1 hl.fit.2.2.1 h4.2.symm
    have p0 := hd.p0
    have p1 := hl.p0
    refine ⟨⟨⟨⟨hs.symm, h2⟩, by omega⟩, h7⟩, ?_⟩
    cases hq : l.dir with
    | true => exact .inr rfl
    | false => exact .inl (h8 hq)
end Lo
end Go.Proofs.YthagoafcphaadaaDoor
