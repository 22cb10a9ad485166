/-
  PLAIN MATHEMATICS of layer 9's reference: what its Parse finds in the string of a valid locator.
-/
import Derived.Test.YthagoafcphaadaaDoorLocRM
namespace Go.Proofs.YthagoafcphaadaaDoor
namespace Lo
set_option linter.unusedVariables false
set_option linter.unusedSimpArgs false
theorem tw_app (p : UInt8 → Bool) : ∀ (A B : List UInt8), (∀ x ∈ A, p x = true) → (∀ c t, B = c :: t → p c = false) → (A ++ B).takeWhile p = A
  | [], B, _, h => by
    cases B with
    | nil => rfl
    | cons c t => rw [List.nil_append, List.takeWhile_cons, h c t rfl]; rfl
  | x :: A, B, ha, h => by
    rw [List.cons_append, List.takeWhile_cons, ha x (List.mem_cons_self ..)]
    simp only [if_true]
    rw [tw_app p A B (fun y hy => ha y (List.mem_cons_of_mem _ hy)) h]
/-- where the first byte that is a or b stands, from n on -/
def un (a b : UInt8) (s : List UInt8) (n : Nat) : Nat := n + ((s.drop n).takeWhile fun c => c != a && c != b).length
theorem un_ge (a b : UInt8) (s : List UInt8) (n : Nat) : n ≤ un a b s n := Nat.le_add_right _ _
theorem un_app (a b : UInt8) (X A B : List UInt8) (hA : ∀ x ∈ A, x ≠ a ∧ x ≠ b) (hB : ∀ c t, B = c :: t → c = a ∨ c = b) : un a b (X ++ (A ++ B)) X.length = X.length + A.length := by
  unfold un
  rw [List.drop_left, tw_app _ A B (fun x hx => by have := hA x hx; simp [this]) (fun c t h => by rcases hB c t h with e | e <;> simp [e])]
theorem un_eq (a b : UInt8) (s : List UInt8) (n k : Nat) (hn : n ≤ k) (hk : k ≤ s.length) (h : ∀ j x, n ≤ j → j < k → s[j]? = some x → x ≠ a ∧ x ≠ b) (he : ∀ x, s[k]? = some x → x = a ∨ x = b) : un a b s n = k := by
  have e : s = s.take n ++ ((s.take k).drop n ++ s.drop k) := by
    have h1 : (s.take k).drop n ++ s.drop k = s.drop n := by
      have h2 : s.drop n = (s.take k ++ s.drop k).drop n := by rw [List.take_append_drop]
      rw [h2, List.drop_append_of_le_length (by rw [List.length_take]; omega)]
    rw [h1, List.take_append_drop]
  have h2 := un_app a b (s.take n) ((s.take k).drop n) (s.drop k) (fun x hx => by
    obtain ⟨j, hj⟩ := List.getElem?_of_mem hx
    rw [List.getElem?_drop] at hj
    have hjk : n + j < k := by
      have := (List.getElem?_eq_some_iff.1 hj).1
      rw [List.length_take] at this
      omega
    rw [List.getElem?_take_of_lt hjk] at hj
    exact h (n + j) x (by omega) hjk hj) (fun c t hc => he c (by
    have : (s.drop k)[0]? = some c := by rw [hc]; rfl
    rw [List.getElem?_drop, Nat.add_zero] at this
    exact this))
  rw [← e, List.length_take, List.length_drop, List.length_take] at h2
  rw [show min n s.length = n by omega] at h2
  rw [h2]
  omega
theorem un_le (a b : UInt8) (s : List UInt8) (n : Nat) (h : n ≤ s.length) : un a b s n ≤ s.length := by
  unfold un
  have h1 := (List.takeWhile_prefix (l := s.drop n) fun c => c != a && c != b).length_le
  rw [List.length_drop] at h1
  omega
theorem un_stop (a b : UInt8) (s : List UInt8) (n : Nat) (x : UInt8) (h : s[un a b s n]? = some x) : x = a ∨ x = b := by
  unfold un at h
  rw [← List.getElem?_drop] at h
  generalize hp : (fun c : UInt8 => c != a && c != b) = p at h
  have h1 : ∀ (l : List UInt8), l[(l.takeWhile p).length]? = some x → p x = false := by
    intro l
    induction l with
    | nil => intro h; simp at h
    | cons c t ih =>
      intro h
      rw [List.takeWhile_cons] at h
      cases hc : p c with
      | true => rw [hc] at h; simp only [if_true, List.length_cons, List.getElem?_cons_succ] at h; exact ih h
      | false => rw [hc] at h; simp at h; rw [← h]; exact hc
  have h2 := h1 _ h
  rw [← hp] at h2
  simp only [Bool.and_eq_false_iff, bne_eq_false_iff_eq] at h2
  exact h2
theorem dcm_len : ∀ n : Nat, n ≤ 65535 → (dcm n).length ≤ 5 := by
  have h1 : ∀ k n : Nat, n < 10 ^ k → 1 ≤ k → (dcm n).length ≤ k := by
    intro k
    induction k with
    | zero => intro n _ h; omega
    | succ k ih =>
      intro n h _
      by_cases h10 : n < 10
      · rw [dcm, dif_pos h10]; simp
      · rw [dcm, dif_neg h10, List.length_append]
        have hk : 1 ≤ k := by
          rcases Nat.eq_zero_or_pos k with e | e
          · subst e; simp at h; omega
          · exact e
        have := ih (n / 10) (by rw [Nat.pow_succ] at h; omega) hk
        simp only [List.length_cons, List.length_nil]
        omega
  intro n h
  exact h1 5 n (by omega) (by decide)
/-- what the reference finds of a valid locator in its string -/
structure Fnd (s : List UInt8) (a e : Nat) (l : Lc) : Prop where
  l9 : 9 ≤ s.length
  l200 : s.length ≤ 200
  sch : (l.sch = 1 ∧ s.take 8 = pre 1) ∨ (l.sch = 2 ∧ s.take 8 = pre 2)
  host : l.host = (s.drop 8).take (a - 8)
  some_ : s[a]? = some 58 → e ≤ a + 6 ∧ (∀ x ∈ (s.take e).drop (a + 1), 48 ≤ x.toNat ∧ x.toNat ≤ 57) ∧ l.port = dvl ((s.take e).drop (a + 1)) ∧ s.drop e = tl l.parts l.dir
  none_ : s[a]? ≠ some 58 → l.port = 0 ∧ s.drop a = tl l.parts l.dir
  parts : ∀ p ∈ l.parts, p ≠ [] ∧ ∀ x ∈ p, x ≠ 47
theorem pre_len (n : Nat) : (pre n).length = 8 := by unfold pre; split <;> rfl
theorem tl_ne (P : List (List UInt8)) (d : Bool) (h : P = [] → d = true) : tl P d ≠ [] := by
  cases P with
  | nil => rw [h rfl]; simp [tl]
  | cons p r => simp [tl]
theorem fnd_of {s : List UInt8} {l : Lc} (h : parseL s = some l) : Fnd s (un 58 47 s 8) (un 47 47 s (un 58 47 s 8)) l := by
  obtain ⟨hk, hw⟩ := (parse_iff s l).1 h
  obtain ⟨g, _, h200⟩ := chk_zero hk
  have hs := wrL_tl l g
  rw [hw] at hs h200
  have hh := host_fit g.host
  have hr := rest_head l.port.toNat l.parts l.dir
  have hat : un 58 47 s 8 = 8 + l.host.length := by
    have := un_app 58 47 (pre l.sch) l.host (pt l.port.toNat ++ tl l.parts l.dir) hh hr
    rw [pre_len, ← hs] at this
    exact this
  have hd8 : s.drop 8 = l.host ++ (pt l.port.toNat ++ tl l.parts l.dir) := by
    rw [hs, show (8 : Nat) = (pre l.sch).length from (pre_len _).symm, List.drop_left]
  have hdat : s.drop (8 + l.host.length) = pt l.port.toNat ++ tl l.parts l.dir := by
    rw [← List.drop_drop, hd8, List.drop_left]
  have htl := tl_ne l.parts l.dir g.some
  have hlen : s.length = 8 + (l.host.length + ((pt l.port.toNat).length + (tl l.parts l.dir).length)) := by
    rw [hs]; simp only [List.length_append, pre_len]
  have p0 := g.p0
  have p1 := g.p1
  refine ⟨?_, h200, ?_, ?_, ?_, ?_, g.fit.2.2.1⟩
  · have := List.length_pos_iff.2 htl
    omega
  · have ht : s.take 8 = pre l.sch := by
      rw [hs, show (8 : Nat) = (pre l.sch).length from (pre_len _).symm, List.take_left]
    rcases g.sch with e | e
    · exact .inl ⟨e, by rw [ht, e]⟩
    · exact .inr ⟨e, by rw [ht, e]⟩
  · rw [hat, hd8, show 8 + l.host.length - 8 = l.host.length by omega, List.take_left]
  · rw [hat]
    intro h58
    have hp : l.port.toNat ≠ 0 := fun e => by
      rw [← Nat.add_zero (8 + l.host.length), ← List.getElem?_drop, hdat, e] at h58
      simp only [pt, if_true, List.nil_append] at h58
      cases hq : tl l.parts l.dir with
      | nil => rw [hq] at h58; simp at h58
      | cons c q =>
        have := tl_head _ _ c q hq
        rw [hq, this] at h58
        simp at h58
    have hpt : pt l.port.toNat = 58 :: dcm l.port.toNat := by unfold pt; rw [if_neg hp]
    rw [hpt] at hdat hd8 hs
    have h47 : ∀ x ∈ (58 :: dcm l.port.toNat : List UInt8), x ≠ 47 ∧ x ≠ 47 := fun x hx => by
      rcases List.mem_cons.1 hx with rfl | hx
      · exact ⟨by decide, by decide⟩
      · have h6 := (dcm_digit _ x hx).1
        have : x ≠ 47 := fun e => by
          have h7 : (47 : UInt8).toNat = 47 := rfl
          rw [e, h7] at h6
          omega
        exact ⟨this, this⟩
    have he : un 47 47 s (8 + l.host.length) = 8 + l.host.length + (1 + (dcm l.port.toNat).length) := by
      have := un_app 47 47 (pre l.sch ++ l.host) (58 :: dcm l.port.toNat) (tl l.parts l.dir) h47 (fun c t hc => .inl (tl_head _ _ c t hc))
      rw [List.append_assoc, ← hs, List.length_append, pre_len, List.length_cons] at this
      rw [this]
      omega
    have hdl := dcm_len l.port.toNat (by omega)
    have hdig : (s.take (8 + l.host.length + (1 + (dcm l.port.toNat).length))).drop (8 + l.host.length + 1) = dcm l.port.toNat := by
      rw [List.drop_take, ← List.drop_drop, hdat]
      rw [show 8 + l.host.length + (1 + (dcm l.port.toNat).length) - (8 + l.host.length + 1) = (dcm l.port.toNat).length by omega]
      show ((dcm l.port.toNat) ++ tl l.parts l.dir).take _ = _
      rw [List.take_left]
    rw [he, hdig]
    refine ⟨by omega, dcm_digit _, ?_, ?_⟩
    · rw [dvl_dcm]; omega
    · rw [← List.drop_drop, hdat, show 1 + (dcm l.port.toNat).length = (58 :: dcm l.port.toNat : List UInt8).length by simp; omega, List.drop_left]
  · rw [hat]
    intro h58
    have hp : l.port.toNat = 0 := by
      rcases Nat.eq_zero_or_pos l.port.toNat with e | e
      · exact e
      · exfalso
        apply h58
        rw [← Nat.add_zero (8 + l.host.length), ← List.getElem?_drop, hdat]
        unfold pt
        rw [if_neg (by omega)]
        rfl
    refine ⟨by omega, ?_⟩
    rw [hdat, hp]
    rfl
/-- the state of the loop over the parts, with a valid locator of the string -/
def Sofar (l : Lc) (r : List UInt8) (P : List (List UInt8)) (d : Bool) : Prop := ∃ Q, l.parts = P ++ Q ∧ ((d = false ∧ r = tl Q l.dir) ∨ (d = true ∧ l.dir = true ∧ Q = [] ∧ r = []))
theorem sofar_end {l : Lc} {P : List (List UInt8)} {d : Bool} (h : Sofar l [] P d) : l.parts = P ∧ l.dir = d := by
  obtain ⟨Q, h1, ⟨h2, h3⟩ | ⟨h2, h3, h4, h5⟩⟩ := h
  · cases Q with
    | nil =>
      cases hd : l.dir with
      | true => rw [hd] at h3; simp [tl] at h3
      | false => exact ⟨by rw [h1, List.append_nil], h2.symm⟩
    | cons q r => simp [tl] at h3
  · exact ⟨by rw [h1, h4, List.append_nil], by rw [h3, h2]⟩
/-- the last slash -/
theorem sofar_dir {l : Lc} {s : List UInt8} {P : List (List UInt8)} {d : Bool} {n : Nat} (hp : ∀ p ∈ l.parts, p ≠ [] ∧ ∀ x ∈ p, x ≠ 47) (h : Sofar l (s.drop n) P d) (hn : n + 1 = s.length) : Sofar l (s.drop (n + 1)) P true := by
  obtain ⟨Q, h1, ⟨h2, h3⟩ | ⟨h2, h3, h4, h5⟩⟩ := h
  · have hl : (s.drop n).length = 1 := by rw [List.length_drop]; omega
    rw [h3] at hl
    cases Q with
    | nil =>
      cases hd : l.dir with
      | true => exact ⟨[], h1, .inr ⟨rfl, hd, rfl, by rw [hn]; simp⟩⟩
      | false => rw [hd] at hl; simp [tl] at hl
    | cons q r =>
      exfalso
      have := (hp q (by rw [h1]; simp)).1
      have h6 := List.length_pos_iff.2 this
      simp only [tl, List.length_cons, List.length_append] at hl
      omega
  · exfalso
    have hl : (s.drop n).length = 1 := by rw [List.length_drop]; omega
    rw [h5] at hl
    simp at hl
/-- one more part -/
theorem sofar_part {l : Lc} {s : List UInt8} {P : List (List UInt8)} {d : Bool} {n : Nat} (hp : ∀ p ∈ l.parts, p ≠ [] ∧ ∀ x ∈ p, x ≠ 47) (h : Sofar l (s.drop n) P d) (hn : n < s.length) (hx : ¬ (un 47 47 s (n + 1) = n + 1 ∧ un 47 47 s (n + 1) = s.length)) :
    Sofar l (s.drop (un 47 47 s (n + 1))) (P ++ [(s.drop (n + 1)).take (un 47 47 s (n + 1) - (n + 1))]) d := by
  obtain ⟨Q, h1, ⟨h2, h3⟩ | ⟨h2, h3, h4, h5⟩⟩ := h
  · have hd1 : s.drop (n + 1) = (s.drop n).drop 1 := by rw [List.drop_drop]
    cases Q with
    | nil =>
      exfalso
      cases hd : l.dir with
      | false =>
        rw [hd] at h3
        have : (s.drop n).length = 0 := by rw [h3]; rfl
        rw [List.length_drop] at this
        omega
      | true =>
        rw [hd] at h3
        have hl : (s.drop n).length = 1 := by rw [h3]; rfl
        rw [List.length_drop] at hl
        have : un 47 47 s (n + 1) = n + 1 := by
          unfold un
          rw [hd1, h3]
          rfl
        exact hx ⟨this, by omega⟩
    | cons q r =>
      have hq := hp q (by rw [h1]; simp)
      have hr : s.drop (n + 1) = q ++ tl r l.dir := by rw [hd1, h3]; rfl
      have hu : un 47 47 s (n + 1) = n + 1 + q.length := by
        have := un_app 47 47 (s.take (n + 1)) q (tl r l.dir) (fun x hx => ⟨hq.2 x hx, hq.2 x hx⟩) (fun c t hc => .inl (tl_head _ _ c t hc))
        rw [← hr, List.take_append_drop, List.length_take, show min (n + 1) s.length = n + 1 by omega] at this
        exact this
      rw [hu, show n + 1 + q.length - (n + 1) = q.length by omega, ← List.drop_drop, hr, List.drop_left, List.take_left]
      exact ⟨r, by rw [h1]; simp, .inl ⟨h2, rfl⟩⟩
  · exfalso
    have : (s.drop n).length = 0 := by rw [h5]; rfl
    rw [List.length_drop] at this
    omega
/-- the digits so far -/
def dgs (s : List UInt8) (a i : Nat) : List UInt8 := (s.take i).drop (a + 1)
theorem dgs_start (s : List UInt8) (a : Nat) : dgs s a (a + 1) = [] := by
  unfold dgs
  rw [List.drop_eq_nil_iff, List.length_take]
  omega
theorem dgs_snoc (s : List UInt8) (a i : Nat) (x : UInt8) (hi : a + 1 ≤ i) (hx : s[i]? = some x) : dgs s a (i + 1) = dgs s a i ++ [x] := by
  unfold dgs
  have hl := (List.getElem?_eq_some_iff.1 hx).1
  rw [List.take_add_one, hx, List.drop_append_of_le_length (by rw [List.length_take]; omega)]
  rfl
theorem dvl_snoc (l : List UInt8) (x : UInt8) : dvl (l ++ [x]) = 10 * dvl l + (x.toNat - 48) := by
  unfold dvl
  rw [List.foldl_append]
  rfl
theorem dgs_mem (s : List UInt8) (a i e : Nat) (x : UInt8) (hi : a + 1 ≤ i) (he : i < e) (hx : s[i]? = some x) : x ∈ (s.take e).drop (a + 1) := by
  rw [List.mem_iff_getElem?]
  refine ⟨i - (a + 1), ?_⟩
  rw [List.getElem?_drop, show a + 1 + (i - (a + 1)) = i by omega, List.getElem?_take_of_lt he]
  exact hx
theorem fold_pow : ∀ (l : List UInt8) (a : Nat), (∀ x ∈ l, 48 ≤ x.toNat ∧ x.toNat ≤ 57) → l.foldl (fun a x => 10 * a + (x.toNat - 48)) a + 1 ≤ (a + 1) * 10 ^ l.length
  | [], a, _ => by simp
  | x :: l, a, h => by
    have h1 := h x (List.mem_cons_self ..)
    have h2 := fold_pow l (10 * a + (x.toNat - 48)) (fun y hy => h y (List.mem_cons_of_mem _ hy))
    rw [List.foldl_cons, List.length_cons]
    refine Nat.le_trans h2 ?_
    rw [Nat.pow_succ, Nat.mul_comm (10 ^ l.length) 10, ← Nat.mul_assoc]
    exact Nat.mul_le_mul_right _ (by omega)
theorem dvl_pow (l : List UInt8) (h : ∀ x ∈ l, 48 ≤ x.toNat ∧ x.toNat ≤ 57) : dvl l < 10 ^ l.length := by
  have := fold_pow l 0 h
  unfold dvl
  omega
theorem ext_str9 (s : List UInt8) (a b : Nat) : (str s).extract a b = str ((s.drop a).take (b - a)) := by
  apply ByteArray.ext
  rw [ByteArray.data_extract]
  apply Array.ext'
  rw [Array.toList_extract]
  simp [str, List.extract]
theorem sofar_start (l : Lc) : Sofar l (tl l.parts l.dir) [] false := ⟨l.parts, rfl, .inl ⟨rfl, rfl⟩⟩
end Lo
end Go.Proofs.YthagoafcphaadaaDoor
