/-
  PLAIN MATHEMATICS of layer 10: the value of a certificate says which one it is, and is well made.
-/
import Derived.Test.YtebldfobpbijgaaOctMath
namespace Go.Proofs.Ytebldfobpbijgaa
namespace Oc
set_option linter.unusedVariables false
def num (t : UInt8) (x : Nat) : Oct := .mk t (nb x) []
def str (t : UInt8) (b : List UInt8) : Oct := .mk t b []
def seq (t : UInt8) (l : List Oct) : Oct := .mk t [] l
theorem nb_inj (x y : Nat) (h : nb x = nb y) : x = y := by rw [← vl_nb x, h, vl_nb]
theorem num_inj (t : UInt8) (x y : Nat) (h : num t x = num t y) : x = y := nb_inj x y (by unfold num at h; exact (Oct.mk.inj h).2.1)
theorem str_inj (t : UInt8) (x y : List UInt8) (h : str t x = str t y) : x = y := by unfold str at h; exact (Oct.mk.inj h).2.1
theorem seq_inj (t : UInt8) (x y : List Oct) (h : seq t x = seq t y) : x = y := by unfold seq at h; exact (Oct.mk.inj h).2.2
/-- rows of sixteen bytes, one after the other -/
theorem flat16_inj : ∀ (l m : List (List UInt8)), (∀ x ∈ l, x.length = 16) → (∀ x ∈ m, x.length = 16) → l.flatten = m.flatten → l = m
  | [], [], _, _, _ => rfl
  | [], y :: m, _, hm, h => by
    have h1 := hm y (List.mem_cons_self ..)
    have h2 := congrArg List.length h
    rw [List.flatten_cons, List.length_append, List.flatten_nil, List.length_nil, h1] at h2
    omega
  | x :: l, [], hl, _, h => by
    have h1 := hl x (List.mem_cons_self ..)
    have h2 := congrArg List.length h
    rw [List.flatten_cons, List.length_append, List.flatten_nil, List.length_nil, h1] at h2
    omega
  | x :: l, y :: m, hl, hm, h => by
    have h1 := hl x (List.mem_cons_self ..)
    have h2 := hm y (List.mem_cons_self ..)
    rw [List.flatten_cons, List.flatten_cons] at h
    obtain ⟨h3, h4⟩ := List.append_inj h (by rw [h1, h2])
    rw [h3, flat16_inj l m (fun z hz => hl z (List.mem_cons_of_mem _ hz)) (fun z hz => hm z (List.mem_cons_of_mem _ hz)) h4]
/-- the lists of spans -/
def sp (s : Nat × Nat × Nat × Nat) : Oct := seq 133 [num 1 s.1, num 2 s.2.1, num 3 s.2.2.1, num 4 s.2.2.2]
def sn (s : Nat × Nat) : Oct := seq 133 [num 1 s.1, num 2 s.2]
theorem sp_inj (s t : Nat × Nat × Nat × Nat) (h : sp s = sp t) : s = t := by
  have h1 := seq_inj _ _ _ h
  obtain ⟨a, b⟩ := List.cons.inj h1
  obtain ⟨c, d⟩ := List.cons.inj b
  obtain ⟨e, f⟩ := List.cons.inj d
  obtain ⟨g, _⟩ := List.cons.inj f
  exact Prod.ext (num_inj _ _ _ a) (Prod.ext (num_inj _ _ _ c) (Prod.ext (num_inj _ _ _ e) (num_inj _ _ _ g)))
theorem sn_inj (s t : Nat × Nat) (h : sn s = sn t) : s = t := by
  have h1 := seq_inj _ _ _ h
  obtain ⟨a, b⟩ := List.cons.inj h1
  obtain ⟨c, _⟩ := List.cons.inj b
  exact Prod.ext (num_inj _ _ _ a) (num_inj _ _ _ c)
theorem map_inj {α : Type} (f : α → Oct) (hf : ∀ a b, f a = f b → a = b) : ∀ (l m : List α), l.map f = m.map f → l = m
  | [], [], _ => rfl
  | [], _ :: _, h => by cases h
  | _ :: _, [], h => by cases h
  | x :: l, y :: m, h => by
    obtain ⟨h1, h2⟩ := List.cons.inj h
    rw [hf x y h1, map_inj f hf l m h2]
/-- a signature -/
structure Sg where
  index : Nat
  chains : List (List UInt8)
  path : List (List UInt8)
def Sg.rows (s : Sg) : Prop := (∀ x ∈ s.chains, x.length = 16) ∧ (∀ x ∈ s.path, x.length = 16)
def sgv (s : Sg) : Oct := seq 131 [num 1 s.index, str 2 s.chains.flatten, str 3 s.path.flatten]
theorem sgv_inj (s t : Sg) (hs : s.rows) (ht : t.rows) (h : sgv s = sgv t) : s = t := by
  have h1 := seq_inj _ _ _ h
  obtain ⟨a, b⟩ := List.cons.inj h1
  obtain ⟨c, d⟩ := List.cons.inj b
  obtain ⟨e, _⟩ := List.cons.inj d
  have g1 := num_inj _ _ _ a
  have g2 := flat16_inj _ _ hs.1 ht.1 (str_inj _ _ _ c)
  have g3 := flat16_inj _ _ hs.2 ht.2 (str_inj _ _ _ e)
  cases s
  cases t
  simp only at g1 g2 g3
  subst g1 g2 g3
  rfl
/-- a certificate without its signature -/
structure Bd where
  serial : Nat
  issuer : List UInt8
  subject : List UInt8
  since : Nat
  till : Nat
  root : List UInt8
  height : Nat
  ca : Bool
  inherit : Bool
  v4 : List (Nat × Nat × Nat × Nat)
  v6 : List (Nat × Nat × Nat × Nat)
  ss : List (Nat × Nat)
  repo : List UInt8
  manifest : List UInt8
  notify : List UInt8
  crl : List UInt8
  parent : List UInt8
def flg (a b : Bool) : Nat := (if a then 1 else 0) + (if b then 2 else 0)
theorem flg_inj (a b c d : Bool) (h : flg a b = flg c d) : a = c ∧ b = d := by revert h; cases a <;> cases b <;> cases c <;> cases d <;> decide
def bdv (c : Bd) : Oct := seq 128 [num 1 c.serial, str 2 c.issuer, str 3 c.subject, num 4 c.since, num 5 c.till, str 6 c.root, num 7 c.height, num 8 (flg c.ca c.inherit),
  seq 130 [seq 129 (c.v4.map sp), seq 129 (c.v6.map sp), seq 129 (c.ss.map sn)], str 9 c.repo, str 10 c.manifest, str 11 c.notify, str 12 c.crl, str 13 c.parent]
theorem bdv_inj (c d : Bd) (h : bdv c = bdv d) : c = d := by
  have h0 := seq_inj _ _ _ h
  obtain ⟨a1, h1⟩ := List.cons.inj h0
  obtain ⟨a2, h2⟩ := List.cons.inj h1
  obtain ⟨a3, h3⟩ := List.cons.inj h2
  obtain ⟨a4, h4⟩ := List.cons.inj h3
  obtain ⟨a5, h5⟩ := List.cons.inj h4
  obtain ⟨a6, h6⟩ := List.cons.inj h5
  obtain ⟨a7, h7⟩ := List.cons.inj h6
  obtain ⟨a8, h8⟩ := List.cons.inj h7
  obtain ⟨a9, h9⟩ := List.cons.inj h8
  obtain ⟨b1, h10⟩ := List.cons.inj h9
  obtain ⟨b2, h11⟩ := List.cons.inj h10
  obtain ⟨b3, h12⟩ := List.cons.inj h11
  obtain ⟨b4, h13⟩ := List.cons.inj h12
  obtain ⟨b5, _⟩ := List.cons.inj h13
  have r0 := seq_inj _ _ _ a9
  obtain ⟨r1, r2⟩ := List.cons.inj r0
  obtain ⟨r3, r4⟩ := List.cons.inj r2
  obtain ⟨r5, _⟩ := List.cons.inj r4
  have e1 := num_inj _ _ _ a1
  have e2 := str_inj _ _ _ a2
  have e3 := str_inj _ _ _ a3
  have e4 := num_inj _ _ _ a4
  have e5 := num_inj _ _ _ a5
  have e6 := str_inj _ _ _ a6
  have e7 := num_inj _ _ _ a7
  obtain ⟨e8, e8b⟩ := flg_inj _ _ _ _ (num_inj _ _ _ a8)
  have f1 := str_inj _ _ _ b1
  have f2 := str_inj _ _ _ b2
  have f3 := str_inj _ _ _ b3
  have f4 := str_inj _ _ _ b4
  have f5 := str_inj _ _ _ b5
  have g1 := map_inj sp sp_inj _ _ (seq_inj _ _ _ r1)
  have g2 := map_inj sp sp_inj _ _ (seq_inj _ _ _ r3)
  have g3 := map_inj sn sn_inj _ _ (seq_inj _ _ _ r5)
  cases c
  cases d
  simp only at e1 e2 e3 e4 e5 e6 e7 e8 e8b f1 f2 f3 f4 f5 g1 g2 g3
  subst e1 e2 e3 e4 e5 e6 e7 e8 e8b f1 f2 f3 f4 f5 g1 g2 g3
  rfl
def whv (c : Bd) (s : Sg) : Oct := seq 132 [bdv c, sgv s]
theorem whv_inj (c d : Bd) (s t : Sg) (hs : s.rows) (ht : t.rows) (h : whv c s = whv d t) : c = d ∧ s = t := by
  have h0 := seq_inj _ _ _ h
  obtain ⟨a, b⟩ := List.cons.inj h0
  obtain ⟨e, _⟩ := List.cons.inj b
  exact ⟨bdv_inj c d a, sgv_inj s t hs ht e⟩
/-- such values are well made -/
theorem shp_num (t : UInt8) (x : Nat) (h0 : t ≠ 0) (h : t.toNat < 128) : shp (num t x) := by
  unfold num
  rw [shp, shps]
  exact ⟨h0, fun _ => rfl, fun h2 => absurd h (by omega), trivial⟩
theorem shp_str (t : UInt8) (x : List UInt8) (h0 : t ≠ 0) (h : t.toNat < 128) : shp (str t x) := by
  unfold str
  rw [shp, shps]
  exact ⟨h0, fun _ => rfl, fun h2 => absurd h (by omega), trivial⟩
theorem shps_of : ∀ l : List Oct, (∀ v ∈ l, shp v) → shps l
  | [], _ => by rw [shps]; trivial
  | v :: r, h => by rw [shps]; exact ⟨h v (List.mem_cons_self ..), shps_of r (fun x hx => h x (List.mem_cons_of_mem _ hx))⟩
theorem shp_seq (t : UInt8) (l : List Oct) (h : 128 ≤ t.toNat) (hl : ∀ v ∈ l, shp v) : shp (seq t l) := by
  unfold seq
  rw [shp]
  refine ⟨fun e => ?_, fun h2 => absurd h (by omega), fun _ => rfl, shps_of l hl⟩
  rw [e] at h
  exact absurd h (by decide)
theorem deps_le (n : Nat) : ∀ l : List Oct, (∀ v ∈ l, dep v ≤ n) → deps l ≤ n
  | [], _ => by rw [deps]; exact Nat.zero_le _
  | v :: r, h => by
    have h1 := h v (List.mem_cons_self ..)
    have h2 := deps_le n r (fun x hx => h x (List.mem_cons_of_mem _ hx))
    rw [deps]
    omega
theorem dep_num (t : UInt8) (x : Nat) : dep (num t x) = 1 := by unfold num; rw [dep, deps]
theorem dep_str (t : UInt8) (x : List UInt8) : dep (str t x) = 1 := by unfold str; rw [dep, deps]
theorem dep_seq (t : UInt8) (l : List Oct) (n : Nat) (h : ∀ v ∈ l, dep v ≤ n) : dep (seq t l) ≤ n + 1 := by
  have := deps_le n l h
  unfold seq
  rw [dep]
  omega
theorem sp_ok (s : Nat × Nat × Nat × Nat) : shp (sp s) ∧ dep (sp s) ≤ 2 := by
  unfold sp
  refine ⟨shp_seq _ _ (by decide) ?_, dep_seq _ _ 1 ?_⟩
  · intro v hv
    simp only [List.mem_cons, List.not_mem_nil, or_false] at hv
    rcases hv with rfl | rfl | rfl | rfl <;> exact shp_num _ _ (by decide) (by decide)
  · intro v hv
    simp only [List.mem_cons, List.not_mem_nil, or_false] at hv
    rcases hv with rfl | rfl | rfl | rfl <;> exact Nat.le_of_eq (dep_num _ _)
theorem sn_ok (s : Nat × Nat) : shp (sn s) ∧ dep (sn s) ≤ 2 := by
  unfold sn
  refine ⟨shp_seq _ _ (by decide) ?_, dep_seq _ _ 1 ?_⟩
  · intro v hv
    simp only [List.mem_cons, List.not_mem_nil, or_false] at hv
    rcases hv with rfl | rfl <;> exact shp_num _ _ (by decide) (by decide)
  · intro v hv
    simp only [List.mem_cons, List.not_mem_nil, or_false] at hv
    rcases hv with rfl | rfl <;> exact Nat.le_of_eq (dep_num _ _)
theorem sgv_ok (s : Sg) : shp (sgv s) ∧ dep (sgv s) ≤ 2 := by
  unfold sgv
  refine ⟨shp_seq _ _ (by decide) ?_, dep_seq _ _ 1 ?_⟩
  · intro v hv
    simp only [List.mem_cons, List.not_mem_nil, or_false] at hv
    rcases hv with rfl | rfl | rfl
    · exact shp_num _ _ (by decide) (by decide)
    · exact shp_str _ _ (by decide) (by decide)
    · exact shp_str _ _ (by decide) (by decide)
  · intro v hv
    simp only [List.mem_cons, List.not_mem_nil, or_false] at hv
    rcases hv with rfl | rfl | rfl
    · exact Nat.le_of_eq (dep_num _ _)
    · exact Nat.le_of_eq (dep_str _ _)
    · exact Nat.le_of_eq (dep_str _ _)
theorem map_ok {α : Type} (f : α → Oct) (hf : ∀ a, shp (f a) ∧ dep (f a) ≤ 2) (l : List α) : shp (seq 129 (l.map f)) ∧ dep (seq 129 (l.map f)) ≤ 3 := by
  refine ⟨shp_seq _ _ (by decide) ?_, dep_seq _ _ 2 ?_⟩
  · intro v hv
    obtain ⟨a, _, rfl⟩ := List.mem_map.1 hv
    exact (hf a).1
  · intro v hv
    obtain ⟨a, _, rfl⟩ := List.mem_map.1 hv
    exact (hf a).2
theorem res_ok (c : Bd) : shp (seq 130 [seq 129 (c.v4.map sp), seq 129 (c.v6.map sp), seq 129 (c.ss.map sn)]) ∧ dep (seq 130 [seq 129 (c.v4.map sp), seq 129 (c.v6.map sp), seq 129 (c.ss.map sn)]) ≤ 4 := by
  refine ⟨shp_seq _ _ (by decide) ?_, dep_seq _ _ 3 ?_⟩
  · intro v hv
    simp only [List.mem_cons, List.not_mem_nil, or_false] at hv
    rcases hv with rfl | rfl | rfl
    · exact (map_ok sp sp_ok _).1
    · exact (map_ok sp sp_ok _).1
    · exact (map_ok sn sn_ok _).1
  · intro v hv
    simp only [List.mem_cons, List.not_mem_nil, or_false] at hv
    rcases hv with rfl | rfl | rfl
    · exact (map_ok sp sp_ok _).2
    · exact (map_ok sp sp_ok _).2
    · exact (map_ok sn sn_ok _).2
theorem bdv_ok (c : Bd) : shp (bdv c) ∧ dep (bdv c) ≤ 5 := by
  have hr := res_ok c
  unfold bdv
  refine ⟨shp_seq _ _ (by decide) ?_, dep_seq _ _ 4 ?_⟩
  · intro v hv
    simp only [List.mem_cons, List.not_mem_nil, or_false] at hv
    rcases hv with rfl | rfl | rfl | rfl | rfl | rfl | rfl | rfl | rfl | rfl | rfl | rfl | rfl | rfl
    all_goals first | exact shp_num _ _ (by decide) (by decide) | exact shp_str _ _ (by decide) (by decide) | exact hr.1
  · intro v hv
    simp only [List.mem_cons, List.not_mem_nil, or_false] at hv
    rcases hv with rfl | rfl | rfl | rfl | rfl | rfl | rfl | rfl | rfl | rfl | rfl | rfl | rfl | rfl
    all_goals first | exact hr.2 | (rw [dep_num]; decide) | (rw [dep_str]; decide)
theorem whv_ok (c : Bd) (s : Sg) : shp (whv c s) ∧ dep (whv c s) ≤ 6 := by
  have h1 := bdv_ok c
  have h2 := sgv_ok s
  unfold whv
  refine ⟨shp_seq _ _ (by decide) ?_, dep_seq _ _ 5 ?_⟩
  · intro v hv
    simp only [List.mem_cons, List.not_mem_nil, or_false] at hv
    rcases hv with rfl | rfl
    · exact h1.1
    · exact h2.1
  · intro v hv
    simp only [List.mem_cons, List.not_mem_nil, or_false] at hv
    rcases hv with rfl | rfl
    · exact h1.2
    · omega
/-- one encoding, one certificate (the sizes are bounded: fewer than 2^24 bytes) -/
theorem enc_inj (v w : Oct) (hv : shp v) (hw : shp w) (dv : dep v ≤ 12) (dw : dep w ≤ 12) (lv : (enc v).length < 16777216) (lw : (enc w).length < 16777216) (h : enc v = enc w) : v = w := by
  have h1 := rd_enc 12 v hv dv lv []
  have h2 := rd_enc 12 w hw dw lw []
  rw [h, h2] at h1
  exact (Prod.mk.inj (Option.some.inj h1)).1.symm
end Oc
end Go.Proofs.Ytebldfobpbijgaa
