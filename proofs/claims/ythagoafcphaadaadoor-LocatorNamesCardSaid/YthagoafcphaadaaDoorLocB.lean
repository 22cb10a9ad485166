/-
  PLAIN MATHEMATICS of layer 9: which locators are valid, what is read of a string, and that what was written is read.
-/
import Derived.Test.YthagoafcphaadaaDoorLocMath
import Derived.Lib.SplitLaws
import Derived.Lib.IndexMore
import Derived.Lib.AtoiAll
import Derived.Lib.AtoiAllCases
import Derived.Lib.ItoaNum
import Derived.Lib.Join
import Derived.Lib.Strings
namespace Go.Proofs.YthagoafcphaadaaDoor
namespace Lo
set_option linter.unusedVariables false
set_option linter.unusedSimpArgs false
def str (l : List UInt8) : ByteArray := ⟨l.toArray⟩
theorem str_dat (l : List UInt8) : (str l).data.toList = l := by simp [str]
theorem str_of (s : ByteArray) : str s.data.toList = s := by cases s; simp [str]
theorem str_size (l : List UInt8) : (str l).size = l.length := by simp [str, ByteArray.size]
theorem str_inj {a b : List UInt8} (h : str a = str b) : a = b := by rw [← str_dat a, h, str_dat]
/-- a list cut at each c -/
def splitL (c : UInt8) : List UInt8 → List (List UInt8)
  | [] => [[]]
  | b :: l => if b = c then [] :: splitL c l else match splitL c l with
    | h :: t => (b :: h) :: t
    | [] => [[b]]
theorem splitL_ne (c : UInt8) : ∀ l, splitL c l ≠ []
  | [] => by simp [splitL]
  | b :: l => by
    unfold splitL
    split
    · simp
    · split <;> simp
theorem splitL_app (c : UInt8) (r : List UInt8) : ∀ h : List UInt8, c ∉ h → splitL c (h ++ c :: r) = h :: splitL c r
  | [], _ => by simp [splitL]
  | b :: h, hn => by
    have hb : b ≠ c := fun e => hn (by simp [e])
    have ih := splitL_app c r h (fun e => hn (by simp [e]))
    rw [List.cons_append, splitL, if_neg hb, ih]
theorem splitL_all (c : UInt8) : ∀ h : List UInt8, c ∉ h → splitL c h = [h]
  | [], _ => rfl
  | b :: h, hn => by
    have hb : b ≠ c := fun e => hn (by simp [e])
    have ih := splitL_all c h (fun e => hn (by simp [e]))
    rw [splitL, if_neg hb, ih]
theorem index_one (c : UInt8) : ∀ h : List UInt8, c ∉ h → ∀ r, Go.Lib.index (h ++ c :: r) [c] = h.length
  | [], _, r => by simp [Go.Lib.index, List.isPrefixOf]
  | b :: h, hn, r => by
    have hb : b ≠ c := fun e => hn (by simp [e])
    have ih := index_one c h (fun e => hn (by simp [e])) r
    rw [List.cons_append, Go.Lib.index, ih]
    have h0 : ([c] : List UInt8).isPrefixOf (b :: (h ++ c :: r)) = false := by simp [List.isPrefixOf, Ne.symm hb]
    rw [h0]
    have : (((h.length : Nat) : Int) == -1) = false := by rw [beq_eq_false_iff_ne]; omega
    simp [this]
theorem index_none (c : UInt8) : ∀ h : List UInt8, c ∉ h → Go.Lib.index h [c] = -1
  | [], _ => by simp [Go.Lib.index]
  | b :: h, hn => by
    have hb : b ≠ c := fun e => hn (by simp [e])
    have ih := index_none c h (fun e => hn (by simp [e]))
    have h0 : ([c] : List UInt8).isPrefixOf (b :: h) = false := by simp [List.isPrefixOf, Ne.symm hb]
    rw [Go.Lib.index, ih, h0]
    simp
theorem head_c (c : UInt8) : ∀ l : List UInt8, (c ∉ l) ∨ ∃ h r, l = h ++ c :: r ∧ c ∉ h
  | [] => Or.inl (by simp)
  | b :: l => by
    by_cases hb : b = c
    · exact Or.inr ⟨[], l, by simp [hb], by simp⟩
    · rcases head_c c l with h | ⟨h, r, e, hn⟩
      · exact Or.inl (by simp [h, Ne.symm hb])
      · exact Or.inr ⟨b :: h, r, by simp [e], by simp [hn, Ne.symm hb]⟩
theorem splitK_eq (c : UInt8) : ∀ (k : Nat) (l : List UInt8), l.count c = k → Go.Lib.splitK [c] 0 k l = splitL c l
  | 0, l, hk => by
    have hn : c ∉ l := List.count_eq_zero.1 hk
    rw [splitL_all c l hn]
    rfl
  | k + 1, l, hk => by
    rcases head_c c l with h | ⟨h, r, rfl, hn⟩
    · rw [List.count_eq_zero.2 h] at hk; omega
    · have hi := index_one c h hn r
      have hr : r.count c = k := by
        rw [List.count_append, List.count_eq_zero.2 hn, List.count_cons_self] at hk
        omega
      unfold Go.Lib.splitK
      rw [hi, splitL_app c r h hn]
      have h1 : (((h.length : Nat) : Int) == -1) = false := by rw [beq_eq_false_iff_ne]; omega
      rw [if_neg (by simp [h1])]
      have e1 : (((h.length : Nat) : Int)).toNat = h.length := by omega
      rw [e1]
      have e2 : List.drop (h.length + [c].length) (h ++ c :: r) = r := by
        rw [show h ++ c :: r = (h ++ [c]) ++ r by simp, show h.length + [c].length = (h ++ [c]).length by simp]
        exact List.drop_left
      rw [e2, splitK_eq c k r hr]
      simp
/-- the pieces of a string at a byte, as strings -/
theorem split_str (c : UInt8) (s : ByteArray) : Go.Lib.splitB ⟨#[c]⟩ 0 (Go.Lib.countB s ⟨#[c]⟩) s = (splitL c s.data.toList).map str := by
  have h : (Go.Lib.splitB ⟨#[c]⟩ 0 (Go.Lib.countB s ⟨#[c]⟩) s).map (·.data.toList) = splitL c s.data.toList := by
    rw [Go.Lib.splitB_data]
    exact splitK_eq c _ _ (Go.Lib.count_one c s.data.toList).symm
  rw [← h, List.map_map]
  have e : (str ∘ fun x : ByteArray => x.data.toList) = id := by funext x; exact str_of x
  rw [e, List.map_id]
theorem cut_at (c : UInt8) (A B : List UInt8) (h : c ∉ A) : Go.Lib.cut (A ++ c :: B) [c] = (A, B, true) := by
  unfold Go.Lib.cut
  rw [index_one c A h B, if_pos (by omega)]
  have e1 : ((A.length : Nat) : Int).toNat = A.length := by omega
  rw [e1, List.take_left]
  rw [show A ++ c :: B = (A ++ [c]) ++ B by simp, show A.length + ([c] : List UInt8).length = (A ++ [c]).length by simp, List.drop_left]
theorem cut_none (c : UInt8) (A : List UInt8) (h : c ∉ A) : Go.Lib.cut A [c] = (A, [], false) := by
  unfold Go.Lib.cut
  rw [index_none c A h, if_neg (by omega)]
/-! bytes, names, hosts -/
/-- the uses of a byte: 1 in a label, 2 in a part -/
def cls (n : Nat) : Nat := if 97 ≤ n ∧ n ≤ 122 then 3 else if 65 ≤ n ∧ n ≤ 90 then 2 else if 48 ≤ n ∧ n ≤ 57 then 3 else if n = 45 then 3 else if n = 95 then 2 else if n = 46 then 2 else 0
def inL (c : UInt8) : Bool := decide (cls c.toNat % 2 = 1)
def inP (c : UInt8) : Bool := decide (cls c.toNat ≠ 0)
def nameB (p : List UInt8) : Bool := decide (1 ≤ p.length) && decide (p.length ≤ 40) && !decide (p = [46]) && !decide (p = [46, 46]) && p.all inP
def labelB (p : List UInt8) : Bool := !decide (p = []) && p.all inL && !Go.Lib.hasPrefix p [45] && !Go.Lib.hasSuffix p [45]
def hostB (h : List UInt8) : Bool := decide (h.length ≤ 60) && (splitL 46 h).all labelB
/-- a locator, valid or not -/
structure Lc where
  sch : Nat
  host : List UInt8
  port : Int
  parts : List (List UInt8)
  dir : Bool
  deriving DecidableEq
def Lc.no : Lc := ⟨0, [], 0, [], false⟩
def word (n : Nat) : List UInt8 := if n = 1 then [114, 115, 121, 110, 99] else if n = 2 then [104, 116, 116, 112, 115] else []
def usual (n : Nat) : Int := if n = 1 then 873 else 443
def portB (n : Nat) (p : Int) : Bool := decide (0 ≤ p) && decide (p ≤ 65535) && !decide (p = usual n)
def pathB (P : List (List UInt8)) (d : Bool) : Bool := P.all nameB && (d || decide (0 < P.length))
def ptI (p : Int) : List UInt8 := if p = 0 then [] else 58 :: Go.Lib.itoa p
def endD (P : List (List UInt8)) (d : Bool) : List UInt8 := if d = true ∧ 0 < P.length then [47] else []
/-- the string of a locator -/
def wrL (l : Lc) : List UInt8 := word l.sch ++ ([58, 47, 47] ++ (l.host ++ (ptI l.port ++ (47 :: (Go.Lib.join l.parts [47] ++ endD l.parts l.dir)))))
def goodB (l : Lc) : Bool := (decide (l.sch = 1) || decide (l.sch = 2)) && hostB l.host && portB l.sch l.port && pathB l.parts l.dir
/-- what Check answers -/
def chk (l : Lc) : Int := if 10 < l.parts.length then 4 else if goodB l = false then 8 else if 200 < (wrL l).length then 4 else 0
/-- what Atoi leaves, whatever the error -/
def atN (s : List UInt8) : Int := match Go.Lib.atoiAll s with
  | .ok v => v
  | .range => Go.Lib.atoiSat s
  | _ => 0
def schOf (w : List UInt8) : Nat := if w = [] then 0 else if w = word 1 then 1 else if w = word 2 then 2 else 0
theorem cut_less (l : List UInt8) (h : l ≠ []) : (Go.Lib.cut l [47]).2.1.length < l.length := by
  have hl : 0 < l.length := List.length_pos_iff.2 h
  unfold Go.Lib.cut
  split
  · rw [List.length_drop]
    simp
    omega
  · simpa using hl
/-- the parts that are cut off -/
def pcs (l : List UInt8) : List (List UInt8) := if h : l = [] then [] else (Go.Lib.cut l [47]).1 :: pcs (Go.Lib.cut l [47]).2.1
termination_by l.length
decreasing_by exact cut_less l h
theorem pcs_nil : pcs [] = [] := by rw [pcs, dif_pos rfl]
theorem pcs_cons (l : List UInt8) (h : l ≠ []) : pcs l = (Go.Lib.cut l [47]).1 :: pcs (Go.Lib.cut l [47]).2.1 := by rw [pcs, dif_neg h]
/-- what is read of a string -/
def rdL (s : List UInt8) : Lc :=
  let r := (Go.Lib.cut s [58, 47, 47]).2.1
  let b := Go.Lib.cut r [47]
  let hp := Go.Lib.cut b.1 [58]
  ⟨schOf (Go.Lib.cut s [58, 47, 47]).1, hp.1, atN hp.2.1, pcs b.2.1, Go.Lib.hasSuffix s [47]⟩
/-- what Parse answers -/
def parseL (s : List UInt8) : Option Lc := if s.length ≤ 200 ∧ chk (rdL s) = 0 ∧ wrL (rdL s) = s then some (rdL s) else none
/-! what was written is read -/
theorem dcm_dec (n : Nat) : Go.Lib.decDigits n = dcm n := by
  induction n using Nat.strongRecOn with
  | _ n ih =>
    by_cases h : n < 10
    · rw [Go.Lib.decDigits, dif_pos h, dcm, dif_pos h]
    · rw [Go.Lib.decDigits, dif_neg h, dcm, dif_neg h, ih (n / 10) (by omega)]
theorem dvl_app (a b : List UInt8) (x : Nat) : List.foldl (fun (a : Nat) (x : UInt8) => 10 * a + (x.toNat - 48)) x (a ++ b) = List.foldl (fun (a : Nat) (x : UInt8) => 10 * a + (x.toNat - 48)) (List.foldl (fun (a : Nat) (x : UInt8) => 10 * a + (x.toNat - 48)) x a) b := List.foldl_append ..
theorem fold_ge (l : List UInt8) : ∀ x : Nat, x ≤ List.foldl (fun (a : Nat) (x : UInt8) => 10 * a + (x.toNat - 48)) x l := by
  induction l with
  | nil => intro x; exact Nat.le_refl _
  | cons c r ih =>
    intro x
    refine Nat.le_trans ?_ (ih _)
    show x ≤ 10 * x + (c.toNat - 48)
    omega
theorem pu_fold : ∀ (l : List UInt8) (acc : Nat), (∀ x ∈ l, 48 ≤ x.toNat ∧ x.toNat ≤ 57) → List.foldl (fun (a : Nat) (x : UInt8) => 10 * a + (x.toNat - 48)) acc l ≤ 65535 → Go.Lib.parseUint10 acc l = .ok (List.foldl (fun (a : Nat) (x : UInt8) => 10 * a + (x.toNat - 48)) acc l)
  | [], acc, _, _ => rfl
  | c :: r, acc, hd, hl => by
    have h1 := hd c (List.mem_cons_self ..)
    have h2 : 10 * acc + (c.toNat - 48) ≤ 65535 := Nat.le_trans (fold_ge r _) hl
    unfold Go.Lib.parseUint10
    rw [if_pos h1, if_neg (by omega), if_neg (by omega), show acc * 10 + (c.toNat - 48) = 10 * acc + (c.toNat - 48) by omega]
    exact pu_fold r _ (fun x hx => hd x (List.mem_cons_of_mem _ hx)) hl
theorem dcm_ne (n : Nat) : dcm n ≠ [] := by
  rw [dcm]
  split
  · simp
  · simp
theorem atN_dcm (n : Nat) (h : n ≤ 65535) : atN (dcm n) = n := by
  have hv : Go.Lib.parseMag (dcm n) = .ok n := by
    unfold Go.Lib.parseMag
    rw [if_neg (dcm_ne n), pu_fold (dcm n) 0 (dcm_digit n) (by have := dvl_dcm n; unfold dvl at this; omega)]
    exact congrArg _ (dvl_dcm n)
  have hm : Go.Lib.atoiAll (dcm n) = .ok (n : Int) := by
    have hdg := dcm_digit n
    generalize hq : dcm n = q at *
    cases q with
    | nil => exact absurd hq (dcm_ne n)
    | cons c r =>
      have h2 := hdg c (List.mem_cons_self ..)
      rw [Go.Lib.atoiAll_plain c r (by omega) (by omega), hv]
      show (if 9223372036854775808 ≤ n then Go.Lib.NumEnd.range else .ok (n : Int)) = _
      rw [if_neg (by omega)]
  unfold atN
  rw [hm]
theorem atN_nil : atN [] = 0 := rfl
/-- a byte of a part is no slash, of a label neither a slash nor a colon -/
theorem inP_not (c : UInt8) (h : inP c = true) : c ≠ 47 ∧ c ≠ 58 := by
  constructor <;> (rintro rfl; revert h; decide)
theorem inL_not (c : UInt8) (h : inL c = true) : c ≠ 47 ∧ c ≠ 58 := by
  constructor <;> (rintro rfl; revert h; decide)
theorem name_fit {p : List UInt8} (h : nameB p = true) : p ≠ [] ∧ ∀ x ∈ p, x ≠ 47 := by
  unfold nameB at h
  simp only [Bool.and_eq_true, decide_eq_true_eq, List.all_eq_true] at h
  obtain ⟨⟨⟨⟨h1, _⟩, _⟩, _⟩, h2⟩ := h
  exact ⟨List.ne_nil_of_length_pos h1, fun x hx => (inP_not x (h2 x hx)).1⟩
theorem mem_split (c x : UInt8) : ∀ l : List UInt8, x ∈ l → x = c ∨ ∃ p ∈ splitL c l, x ∈ p
  | [], h => by cases h
  | b :: l, h => by
    rcases List.mem_cons.1 h with rfl | h
    · by_cases hb : x = c
      · exact .inl hb
      · refine .inr ?_
        unfold splitL
        rw [if_neg hb]
        cases hs : splitL c l with
        | nil => exact ⟨[x], by simp, by simp⟩
        | cons p t => exact ⟨x :: p, by simp, by simp⟩
    · rcases mem_split c x l h with e | ⟨p, hp, hx⟩
      · exact .inl e
      · refine .inr ?_
        unfold splitL
        by_cases hb : b = c
        · rw [if_pos hb]
          exact ⟨p, List.mem_cons_of_mem _ hp, hx⟩
        · rw [if_neg hb]
          cases hs : splitL c l with
          | nil => rw [hs] at hp; cases hp
          | cons q t =>
            rw [hs] at hp
            rcases List.mem_cons.1 hp with rfl | hp
            · exact ⟨b :: p, by simp, List.mem_cons_of_mem _ hx⟩
            · exact ⟨p, List.mem_cons_of_mem _ hp, hx⟩
theorem host_fit {h : List UInt8} (hh : hostB h = true) : ∀ x ∈ h, x ≠ 58 ∧ x ≠ 47 := by
  intro x hx
  unfold hostB at hh
  simp only [Bool.and_eq_true, decide_eq_true_eq, List.all_eq_true] at hh
  rcases mem_split 46 x h hx with rfl | ⟨p, hp, hxp⟩
  · exact ⟨by decide, by decide⟩
  · have h1 := hh.2 p hp
    unfold labelB at h1
    simp only [Bool.and_eq_true, List.all_eq_true] at h1
    have h2 := inL_not x (h1.1.1.2 x hxp)
    exact ⟨h2.2, h2.1⟩
def toLoc (l : Lc) : Loc := ⟨l.sch, l.host, l.port.toNat, l.parts, l.dir⟩
theorem join_tl : ∀ (P : List (List UInt8)) (d : Bool), 47 :: (Go.Lib.join P [47] ++ endD P d) = tl P (d || P.isEmpty)
  | [], d => by
    have e : endD [] d = [] := by unfold endD; simp
    rw [e]
    cases d <;> rfl
  | [p], d => by
    rw [Go.Lib.join_one]
    cases d <;> simp [endD, tl]
  | p :: q :: r, d => by
    have ih := join_tl (q :: r) d
    rw [show Go.Lib.join (p :: q :: r) [47] = p ++ 47 :: Go.Lib.join (q :: r) [47] by simp [Go.Lib.join, List.intercalate_cons_cons]]
    have e : endD (p :: q :: r) d = endD (q :: r) d := by unfold endD; simp
    have e2 : (d || (p :: q :: r).isEmpty) = (d || (q :: r).isEmpty) := by simp
    rw [e, e2]
    show 47 :: (p ++ 47 :: Go.Lib.join (q :: r) [47] ++ endD (q :: r) d) = 47 :: (p ++ tl (q :: r) (d || (q :: r).isEmpty))
    rw [← ih]
    simp
theorem ptI_pt (p : Int) (h : 0 ≤ p) : ptI p = pt p.toNat := by
  unfold ptI pt
  by_cases h0 : p = 0
  · rw [if_pos h0, if_pos (by omega)]
  · rw [if_neg h0, if_neg (by omega)]
    unfold Go.Lib.itoa
    rw [if_neg (by omega), dcm_dec]
theorem wrL_wr (l : Lc) (hs : l.sch = 1 ∨ l.sch = 2) (hp : 0 ≤ l.port) : wrL l = wr (toLoc l) := by
  unfold wrL wr toLoc
  rw [ptI_pt _ hp, join_tl]
  rcases hs with e | e
  · rw [e]; rfl
  · rw [e]; rfl
structure Good (l : Lc) : Prop where
  sch : l.sch = 1 ∨ l.sch = 2
  host : hostB l.host = true
  p0 : 0 ≤ l.port
  p1 : l.port ≤ 65535
  pu : l.port ≠ usual l.sch
  names : ∀ p ∈ l.parts, nameB p = true
  some : l.parts = [] → l.dir = true
theorem good_iff (l : Lc) : goodB l = true ↔ Good l := by
  unfold goodB portB pathB
  simp only [Bool.and_eq_true, Bool.or_eq_true, decide_eq_true_eq, List.all_eq_true, Bool.not_eq_true', decide_eq_false_iff_not]
  constructor
  · rintro ⟨⟨⟨h1, h2⟩, ⟨h3, h4⟩, h5⟩, h6, h7⟩
    exact ⟨h1, h2, h3, h4, h5, h6, fun e => by rcases h7 with h7 | h7; exact h7; rw [e] at h7; simp at h7⟩
  · rintro ⟨h1, h2, h3, h4, h5, h6, h7⟩
    refine ⟨⟨⟨h1, h2⟩, ⟨h3, h4⟩, h5⟩, h6, ?_⟩
    by_cases e : l.parts = []
    · exact .inl (h7 e)
    · exact .inr (List.length_pos_iff.2 e)
theorem Good.fit {l : Lc} (h : Good l) : Lo.fit (toLoc l) := ⟨h.sch, host_fit h.host, fun p hp => name_fit (h.names p hp), h.some⟩
theorem chk_zero {l : Lc} (h : chk l = 0) : Good l ∧ l.parts.length ≤ 10 ∧ (wrL l).length ≤ 200 := by
  unfold chk at h
  split at h
  · cases h
  · rename_i h1
    split at h
    · cases h
    · rename_i h2
      split at h
      · cases h
      · rename_i h3
        exact ⟨(good_iff l).1 (by cases hq : goodB l <;> simp_all), by omega, by omega⟩
/-- one string, one valid locator -/
theorem wrL_inj {l m : Lc} (hl : Good l) (hm : Good m) (h : wrL l = wrL m) : l = m := by
  rw [wrL_wr l hl.sch hl.p0, wrL_wr m hm.sch hm.p0] at h
  have e := wr_inj _ _ hl.fit hm.fit h
  cases l
  cases m
  simp only [toLoc, Loc.mk.injEq] at e
  obtain ⟨e1, e2, e3, e4, e5⟩ := e
  have h1 := hl.p0
  have h2 := hm.p0
  simp only at h1 h2
  have : ∀ a b : Int, 0 ≤ a → 0 ≤ b → a.toNat = b.toNat → a = b := fun a b _ _ _ => by omega
  have e6 := this _ _ h1 h2 e3
  subst e1 e2 e4 e5 e6
  rfl
theorem not_mem_of {h : List UInt8} {c : UInt8} (H : ∀ x ∈ h, x ≠ c) : c ∉ h := fun hm => H c hm rfl
theorem pcs_tl : ∀ (P : List (List UInt8)) (d : Bool), (∀ p ∈ P, p ≠ [] ∧ ∀ x ∈ p, x ≠ 47) → pcs ((tl P d).drop 1) = P
  | [], d, _ => by cases d <;> simp [tl, pcs_nil]
  | p :: r, d, h => by
    have hp := h p (List.mem_cons_self ..)
    have ih := pcs_tl r d (fun q hq => h q (List.mem_cons_of_mem _ hq))
    show pcs (p ++ tl r d) = p :: r
    have hne : p ++ tl r d ≠ [] := fun e => hp.1 (List.append_eq_nil_iff.1 e).1
    rw [pcs_cons _ hne]
    cases hq : tl r d with
    | nil =>
      rw [List.append_nil, cut_none 47 p (not_mem_of hp.2)]
      rw [hq] at ih
      show p :: pcs [] = _
      rw [show pcs [] = r from ih]
    | cons c q =>
      have hc := tl_head r d c q hq
      subst hc
      rw [cut_at 47 p q (not_mem_of hp.2)]
      rw [hq] at ih
      show p :: pcs q = _
      rw [show pcs q = r from ih]
theorem suffix_last (a : List UInt8) (x : UInt8) : Go.Lib.hasSuffix (a ++ [x]) [47] = decide (x = 47) := by
  unfold Go.Lib.hasSuffix
  by_cases h : x = 47
  · subst h
    rw [decide_eq_true rfl]
    exact List.isSuffixOf_iff_suffix.2 ⟨a, rfl⟩
  · rw [decide_eq_false h]
    cases hq : List.isSuffixOf [47] (a ++ [x]) with
    | false => rfl
    | true =>
      obtain ⟨t, ht⟩ := List.isSuffixOf_iff_suffix.1 hq
      have := List.append_inj_right' ht rfl
      exact absurd (List.cons.inj this).1.symm h
theorem tl_end : ∀ (P : List (List UInt8)) (d : Bool), (∀ p ∈ P, p ≠ [] ∧ ∀ x ∈ p, x ≠ 47) → (P = [] → d = true) → ∃ a x, tl P d = a ++ [x] ∧ (x = 47 ↔ d = true)
  | [], d, _, h => by
    rw [h rfl]
    exact ⟨[], 47, rfl, by simp⟩
  | [p], d, h, _ => by
    have hp := h p (List.mem_cons_self ..)
    cases d with
    | true => exact ⟨47 :: p, 47, rfl, by simp⟩
    | false =>
      obtain ⟨a, x, rfl⟩ : ∃ a x, p = a ++ [x] := ⟨p.dropLast, p.getLast hp.1, (List.dropLast_concat_getLast hp.1).symm⟩
      refine ⟨47 :: a, x, by simp [tl], ?_⟩
      have := hp.2 x (by simp)
      simp [this]
  | p :: q :: r, d, h, _ => by
    obtain ⟨a, x, e, hx⟩ := tl_end (q :: r) d (fun z hz => h z (List.mem_cons_of_mem _ hz)) (fun e => by cases e)
    refine ⟨47 :: (p ++ a), x, ?_, hx⟩
    show 47 :: (p ++ tl (q :: r) d) = _
    rw [e]
    simp
theorem cut_pre (n : Nat) (hn : n = 1 ∨ n = 2) (X : List UInt8) : Go.Lib.cut (word n ++ ([58, 47, 47] ++ X)) [58, 47, 47] = (word n, X, true) := by
  have e1 : ∀ X : List UInt8, Go.Lib.index (114 :: 115 :: 121 :: 110 :: 99 :: 58 :: 47 :: 47 :: X) [58, 47, 47] = 5 := fun X => by
    simp [Go.Lib.index, List.isPrefixOf]
  have e2 : ∀ X : List UInt8, Go.Lib.index (104 :: 116 :: 116 :: 112 :: 115 :: 58 :: 47 :: 47 :: X) [58, 47, 47] = 5 := fun X => by
    simp [Go.Lib.index, List.isPrefixOf]
  rcases hn with rfl | rfl
  · show Go.Lib.cut (114 :: 115 :: 121 :: 110 :: 99 :: 58 :: 47 :: 47 :: X) [58, 47, 47] = _
    unfold Go.Lib.cut
    rw [e1]
    rfl
  · show Go.Lib.cut (104 :: 116 :: 116 :: 112 :: 115 :: 58 :: 47 :: 47 :: X) [58, 47, 47] = _
    unfold Go.Lib.cut
    rw [e2]
    rfl
/-- WHAT WAS WRITTEN IS READ -/
theorem rd_wr (l : Lc) (h : Good l) : rdL (wrL l) = l := by
  have hf := h.fit
  have hnm : ∀ p ∈ l.parts, p ≠ [] ∧ ∀ x ∈ p, x ≠ 47 := hf.2.2.1
  have hh := host_fit h.host
  have hd : (l.dir || l.parts.isEmpty) = l.dir := by
    cases hq : l.parts with
    | nil => rw [h.some hq]; rfl
    | cons a b => cases l.dir <;> rfl
  have hw : wrL l = word l.sch ++ ([58, 47, 47] ++ (l.host ++ (pt l.port.toNat ++ tl l.parts l.dir))) := by
    unfold wrL
    rw [ptI_pt _ h.p0, join_tl, hd]
  obtain ⟨T, hT⟩ : ∃ T, tl l.parts l.dir = 47 :: T := by
    cases hq : tl l.parts l.dir with
    | nil =>
      obtain ⟨a, x, e, _⟩ := tl_end l.parts l.dir hnm h.some
      rw [hq] at e
      simp at e
    | cons c q => exact ⟨q, by rw [tl_head _ _ c q hq]⟩
  have hpt : ∀ x ∈ pt l.port.toNat, x ≠ 47 := fun x hx => by
    unfold pt at hx
    split at hx
    · cases hx
    · rcases List.mem_cons.1 hx with rfl | hx
      · decide
      · have := (dcm_digit _ x hx).1
        rintro rfl
        revert this
        decide
  have c2 : Go.Lib.cut (l.host ++ (pt l.port.toNat ++ tl l.parts l.dir)) [47] = (l.host ++ pt l.port.toNat, T, true) := by
    rw [hT, ← List.append_assoc]
    refine cut_at 47 _ T (not_mem_of fun x hx => ?_)
    rcases List.mem_append.1 hx with hx | hx
    · exact (hh x hx).2
    · exact hpt x hx
  have c3 : Go.Lib.cut (l.host ++ pt l.port.toNat) [58] = (l.host, (pt l.port.toNat).drop 1, !decide (l.port.toNat = 0)) := by
    unfold pt
    by_cases h0 : l.port.toNat = 0
    · rw [if_pos h0, List.append_nil, cut_none 58 _ (not_mem_of fun x hx => (hh x hx).1), h0]
      rfl
    · rw [if_neg h0, cut_at 58 _ _ (not_mem_of fun x hx => (hh x hx).1)]
      simp [h0]
  have c4 : atN ((pt l.port.toNat).drop 1) = l.port := by
    have := h.p0
    have := h.p1
    unfold pt
    by_cases h0 : l.port.toNat = 0
    · rw [if_pos h0]
      show atN [] = _
      rw [atN_nil]
      omega
    · rw [if_neg h0]
      show atN (dcm _) = _
      rw [atN_dcm _ (by omega)]
      omega
  have c5 : pcs T = l.parts := by
    have := pcs_tl l.parts l.dir hnm
    rw [hT] at this
    exact this
  have c6 : Go.Lib.hasSuffix (wrL l) [47] = l.dir := by
    obtain ⟨a, x, e, hx⟩ := tl_end l.parts l.dir hnm h.some
    rw [hw, e, ← List.append_assoc (pt _), ← List.append_assoc l.host, ← List.append_assoc [58, 47, 47], ← List.append_assoc (word _), suffix_last]
    cases hdd : l.dir
    · rw [hdd] at hx
      rw [decide_eq_false (fun e => by have := hx.1 e; cases this)]
    · rw [hdd] at hx
      rw [decide_eq_true (hx.2 rfl)]
  have c7 : schOf (word l.sch) = l.sch := by
    rcases h.sch with e | e <;> rw [e] <;> rfl
  have c1 : Go.Lib.cut (wrL l) [58, 47, 47] = (word l.sch, l.host ++ (pt l.port.toNat ++ tl l.parts l.dir), true) := by
    rw [hw]
    exact cut_pre _ h.sch _
  unfold rdL
  rw [c1, c6]
  show (⟨schOf (word l.sch), (Go.Lib.cut (Go.Lib.cut (l.host ++ (pt l.port.toNat ++ tl l.parts l.dir)) [47]).1 [58]).1, atN (Go.Lib.cut (Go.Lib.cut (l.host ++ (pt l.port.toNat ++ tl l.parts l.dir)) [47]).1 [58]).2.1, pcs (Go.Lib.cut (l.host ++ (pt l.port.toNat ++ tl l.parts l.dir)) [47]).2.1, l.dir⟩ : Lc) = l
  rw [c2]
  show (⟨schOf (word l.sch), (Go.Lib.cut (l.host ++ pt l.port.toNat) [58]).1, atN (Go.Lib.cut (l.host ++ pt l.port.toNat) [58]).2.1, pcs T, l.dir⟩ : Lc) = l
  rw [c3, c7, c5]
  show (⟨l.sch, l.host, atN ((pt l.port.toNat).drop 1), l.parts, l.dir⟩ : Lc) = l
  rw [c4]
/-- Parse finds exactly the valid locator with the string -/
theorem parse_iff (s : List UInt8) (l : Lc) : parseL s = some l ↔ chk l = 0 ∧ wrL l = s := by
  unfold parseL
  constructor
  · intro h
    split at h
    · rename_i h1
      injection h with h
      rw [← h]
      exact h1.2
    · cases h
  · rintro ⟨h1, h2⟩
    obtain ⟨g, _, hl⟩ := chk_zero h1
    have e : rdL s = l := by rw [← h2]; exact rd_wr l g
    rw [e, if_pos ⟨by rw [← h2]; exact hl, h1, h2⟩]
/-- any other reading that accepts exactly the strings of valid locators is the same -/
theorem parse_same (s : List UInt8) (r : Option Lc) (h1 : ∀ l, r = some l → chk l = 0 ∧ wrL l = s) (h2 : ∀ l, chk l = 0 → wrL l = s → r ≠ none) : r = parseL s := by
  cases hr : r with
  | some l => exact ((parse_iff s l).2 (h1 l hr)).symm
  | none =>
    cases hp : parseL s with
    | none => rfl
    | some l =>
      obtain ⟨a, b⟩ := (parse_iff s l).1 hp
      exact absurd hr (h2 l a b)
end Lo
end Go.Proofs.YthagoafcphaadaaDoor
