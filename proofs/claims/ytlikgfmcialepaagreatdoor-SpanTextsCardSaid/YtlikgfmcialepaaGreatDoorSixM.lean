/-
  PLAIN MATHEMATICS of the strings of addresses of 128 bits: what is written is read.
-/
import Derived.Test.YtlikgfmcialepaaGreatDoorHexP
namespace Go.Proofs.YtlikgfmcialepaaGreatDoor
open Go.RowKit Adr
set_option linter.unusedVariables false
/-- a list cut at each c -/
def splitL (c : UInt8) : List UInt8 → List (List UInt8)
  | [] => [[]]
  | b :: l => if b = c then [] :: splitL c l else match splitL c l with
    | h :: t => (b :: h) :: t
    | [] => [[b]]
theorem splitL_ne (c : UInt8) : ∀ l, splitL c l ≠ []
  | [] => by simp [splitL]
  | b :: l => by
    unfold splitL
    split
    · simp
    · split <;> simp
/-- behind a head without c -/
theorem splitL_app (c : UInt8) (r : List UInt8) : ∀ h : List UInt8, c ∉ h → splitL c (h ++ c :: r) = h :: splitL c r
  | [], _ => by simp [splitL]
  | b :: h, hn => by
    have hb : b ≠ c := fun e => hn (by simp [e])
    have ih := splitL_app c r h (fun e => hn (by simp [e]))
    rw [List.cons_append, splitL, if_neg hb, ih]
theorem splitL_all (c : UInt8) : ∀ h : List UInt8, c ∉ h → splitL c h = [h]
  | [], _ => rfl
  | b :: h, hn => by
    have hb : b ≠ c := fun e => hn (by simp [e])
    have ih := splitL_all c h (fun e => hn (by simp [e]))
    rw [splitL, if_neg hb, ih]
theorem splitL_len (c : UInt8) : ∀ l : List UInt8, (splitL c l).length = l.count c + 1
  | [] => by simp [splitL]
  | b :: l => by
    have ih := splitL_len c l
    unfold splitL
    by_cases h : b = c
    · rw [if_pos h, List.length_cons, ih, h, List.count_cons_self]
    · rw [if_neg h]
      have hc : (b :: l).count c = l.count c := List.count_cons_of_ne (by simpa using h)
      rw [hc, ← ih]
      cases hs : splitL c l with
      | nil => exact absurd hs (splitL_ne c l)
      | cons x t => simp
theorem index_one (c : UInt8) : ∀ h : List UInt8, c ∉ h → ∀ r, Go.Lib.index (h ++ c :: r) [c] = h.length
  | [], _, r => by simp [Go.Lib.index, List.isPrefixOf]
  | b :: h, hn, r => by
    have hb : b ≠ c := fun e => hn (by simp [e])
    have ih := index_one c h (fun e => hn (by simp [e])) r
    rw [List.cons_append, Go.Lib.index, ih]
    have h0 : ([c] : List UInt8).isPrefixOf (b :: (h ++ c :: r)) = false := by simp [List.isPrefixOf, Ne.symm hb]
    rw [h0]
    have : (((h.length : Nat) : Int) == -1) = false := by rw [beq_eq_false_iff_ne]; omega
    simp [this]
theorem index_none (c : UInt8) : ∀ h : List UInt8, c ∉ h → Go.Lib.index h [c] = -1
  | [], _ => by simp [Go.Lib.index]
  | b :: h, hn => by
    have hb : b ≠ c := fun e => hn (by simp [e])
    have ih := index_none c h (fun e => hn (by simp [e]))
    have h0 : ([c] : List UInt8).isPrefixOf (b :: h) = false := by simp [List.isPrefixOf, Ne.symm hb]
    rw [Go.Lib.index, ih, h0]
    simp
/-- each list is a head without c, alone or with c behind it -/
theorem head_c (c : UInt8) : ∀ l : List UInt8, (c ∉ l) ∨ ∃ h r, l = h ++ c :: r ∧ c ∉ h
  | [] => Or.inl (by simp)
  | b :: l => by
    by_cases hb : b = c
    · exact Or.inr ⟨[], l, by simp [hb], by simp⟩
    · rcases head_c c l with h | ⟨h, r, e, hn⟩
      · exact Or.inl (by simp [h, Ne.symm hb])
      · exact Or.inr ⟨b :: h, r, by simp [e], by simp [hn, Ne.symm hb]⟩
theorem splitK_eq (c : UInt8) : ∀ (k : Nat) (l : List UInt8), l.count c = k → Go.Lib.splitK [c] 0 k l = splitL c l
  | 0, l, hk => by
    have hn : c ∉ l := List.count_eq_zero.1 hk
    rw [splitL_all c l hn]
    rfl
  | k + 1, l, hk => by
    rcases head_c c l with h | ⟨h, r, rfl, hn⟩
    · rw [List.count_eq_zero.2 h] at hk; omega
    · have hi := index_one c h hn r
      have hr : r.count c = k := by
        rw [List.count_append, List.count_eq_zero.2 hn, List.count_cons_self] at hk
        omega
      unfold Go.Lib.splitK
      rw [hi, splitL_app c r h hn]
      have h1 : (((h.length : Nat) : Int) == -1) = false := by rw [beq_eq_false_iff_ne]; omega
      rw [if_neg (by simp [h1])]
      have e1 : (((h.length : Nat) : Int)).toNat = h.length := by omega
      rw [e1]
      have e2 : List.drop (h.length + [c].length) (h ++ c :: r) = r := by
        rw [show h ++ c :: r = (h ++ [c]) ++ r by simp, show h.length + [c].length = (h ++ [c]).length by simp]
        exact List.drop_left
      rw [e2, splitK_eq c k r hr]
      simp
theorem parts_data (c : UInt8) (s : ByteArray) : (parts c s).map (·.data.toList) = splitL c s.data.toList := by
  unfold parts
  rw [Go.Lib.splitB_data]
  refine splitK_eq c _ _ ?_
  exact (Go.Lib.count_one c s.data.toList).symm
/-- words without c, joined by c, cut again -/
theorem splitL_join (c : UInt8) : ∀ (x : List UInt8) (xs : List (List UInt8)), (∀ y ∈ x :: xs, c ∉ y) → splitL c (Go.Lib.join (x :: xs) [c]) = x :: xs
  | x, [], h => by
    rw [Go.Lib.join_one]
    exact splitL_all c x (h x (by simp))
  | x, y :: r, h => by
    have ih := splitL_join c y r (fun z hz => h z (by simp [hz]))
    rw [show Go.Lib.join (x :: y :: r) [c] = x ++ c :: Go.Lib.join (y :: r) [c] by simp [Go.Lib.join, List.intercalate_cons_cons]]
    rw [splitL_app c _ x (h x (by simp)), ih]
/-! hexadecimal words -/
theorem hexc_D : ∀ d, d < 16 → hexD (hexc d).toNat = some d := by
  intro d hd
  have : ∀ d : Fin 16, hexD (hexc d.1).toNat = some d.1 := by decide
  exact this ⟨d, hd⟩
theorem hexc_58 : ∀ d, d < 16 → hexc d ≠ 58 ∧ hexc d ≠ 47 ∧ hexc d ≠ 46 ∧ hexc d ≠ 45 := by
  intro d hd
  have : ∀ d : Fin 16, hexc d.1 ≠ 58 ∧ hexc d.1 ≠ 47 ∧ hexc d.1 ≠ 46 ∧ hexc d.1 ≠ 45 := by decide
  exact this ⟨d, hd⟩
theorem hexM_cons (acc d : Nat) (r : List UInt8) (hd : d < 16) (h : acc * 16 + d ≤ 65535) : hexM acc (hexc d :: r) = hexM (acc * 16 + d) r := by
  conv => lhs; unfold hexM
  rw [hexc_D d hd]
  simp only
  rw [if_neg (by omega)]
theorem hex4_M (u : Nat) (h : u < 65536) : hexM 0 (hex4 u) = some (some u) := by
  unfold hex4
  split
  · rw [hexM_cons _ _ _ (by omega) (by omega)]; simp [hexM]
  · split
    · rw [hexM_cons _ _ _ (by omega) (by omega), hexM_cons _ _ _ (by omega) (by omega)]
      simp only [hexM]; congr 2; omega
    · split
      · rw [hexM_cons _ _ _ (by omega) (by omega), hexM_cons _ _ _ (by omega) (by omega), hexM_cons _ _ _ (by omega) (by omega)]
        simp only [hexM]; congr 2; omega
      · rw [hexM_cons _ _ _ (by omega) (by omega), hexM_cons _ _ _ (by omega) (by omega), hexM_cons _ _ _ (by omega) (by omega), hexM_cons _ _ _ (by omega) (by omega)]
        simp only [hexM]; congr 2; omega
theorem hex4_not (u : Nat) (h : u < 65536) : hex4 u ≠ [] ∧ ∀ b ∈ hex4 u, b ≠ 58 ∧ b ≠ 47 ∧ b ≠ 46 ∧ b ≠ 45 := by
  have q : ∀ d, d < 16 → hexc d ≠ 58 ∧ hexc d ≠ 47 ∧ hexc d ≠ 46 ∧ hexc d ≠ 45 := hexc_58
  unfold hex4
  split
  · refine ⟨by simp, fun b hb => ?_⟩
    simp at hb; rw [hb]; exact q _ (by omega)
  · split
    · refine ⟨by simp, fun b hb => ?_⟩
      simp at hb; rcases hb with rfl | rfl <;> exact q _ (by omega)
    · split
      · refine ⟨by simp, fun b hb => ?_⟩
        simp at hb; rcases hb with rfl | rfl | rfl <;> exact q _ (by omega)
      · refine ⟨by simp, fun b hb => ?_⟩
        simp at hb; rcases hb with rfl | rfl | rfl | rfl <;> exact q _ (by omega)
theorem hexS_hex4 (u : Nat) (h : u < 65536) : hexS (str (hex4 u)) = some u := by
  unfold hexS
  have hs : ¬ (str (hex4 u)).size = 0 := by
    have := (hex4_not u h).1
    show ¬ (hex4 u).toArray.size = 0
    simpa using this
  rw [if_neg hs]
  rw [show (str (hex4 u)).data.toList = hex4 u by simp [str], hex4_M u h]
/-! groups -/
/-- the words read one by one -/
def hexAll : List ByteArray → Option (List Nat)
  | [] => some []
  | p :: ps => match hexS p with
    | none => none
    | some n => match hexAll ps with
      | none => none
      | some l => some (n :: l)
def grpR (s : ByteArray) : Option (List Nat) := if s.size = 0 then some [] else hexAll (parts 58 s)
theorem hexAll_hex4 : ∀ zs : List Nat, (∀ z ∈ zs, z < 65536) → hexAll (zs.map fun z => str (hex4 z)) = some zs
  | [], _ => rfl
  | z :: zs, h => by
    rw [List.map_cons, hexAll, hexS_hex4 z (h z (by simp))]
    simp only
    rw [hexAll_hex4 zs (fun y hy => h y (by simp [hy]))]
theorem parts_col (z : Nat) (zs : List Nat) (h : ∀ y ∈ z :: zs, y < 65536) : parts 58 (str (colS (z :: zs))) = (z :: zs).map fun z => str (hex4 z) := by
  have h1 := parts_data 58 (str (colS (z :: zs)))
  rw [show (str (colS (z :: zs))).data.toList = colS (z :: zs) by simp [str]] at h1
  unfold colS at h1
  rw [List.map_cons, splitL_join 58 _ _ (fun y hy => ?_)] at h1
  · have h2 : ((parts 58 (str (colS (z :: zs)))).map (·.data.toList)).map str = ((z :: zs).map hex4).map str := by
      rw [← List.map_cons] at h1
      unfold colS
      rw [h1]
    rw [List.map_map] at h2
    have h3 : (parts 58 (str (colS (z :: zs)))).map (str ∘ fun x => x.data.toList) = parts 58 (str (colS (z :: zs))) := by
      conv => rhs; rw [← List.map_id (parts 58 (str (colS (z :: zs))))]
      apply List.map_congr_left
      intro a _
      exact str_list a
    rw [h3, List.map_map] at h2
    exact h2
  · rw [← List.map_cons, List.mem_map] at hy
    obtain ⟨a, ha, rfl⟩ := hy
    intro hm
    exact ((hex4_not a (h a ha)).2 58 hm).1 rfl
theorem grpR_col (zs : List Nat) (h : ∀ y ∈ zs, y < 65536) : grpR (str (colS zs)) = some zs := by
  unfold grpR
  cases zs with
  | nil => rw [if_pos (by simp [colS, Go.Lib.join, str, ByteArray.size])]
  | cons z zs =>
    rw [parts_col z zs h, hexAll_hex4 _ h]
    have hne : ¬ (str (colS (z :: zs))).size = 0 := by
      show ¬ (colS (z :: zs)).toArray.size = 0
      have h1 := (hex4_not z (h z (by simp))).1
      cases zs with
      | nil => simpa [colS, Go.Lib.join, List.intercalate] using h1
      | cons y r => simp [colS, Go.Lib.join, List.intercalate_cons_cons]
    rw [if_neg hne]
/-- no two colons side by side, none at the end -/
def ncc : List UInt8 → Bool
  | [] => true
  | [b] => b != 58
  | b :: c :: l => !(b == 58 && c == 58) && ncc (c :: l)
theorem index_cc : ∀ (A B : List UInt8), ncc A = true → Go.Lib.index (A ++ 58 :: 58 :: B) [58, 58] = A.length
  | [], B, _ => by simp [Go.Lib.index, List.isPrefixOf]
  | [b], B, h => by
    have hb : b ≠ 58 := by simpa [ncc] using h
    have h0 : ([58, 58] : List UInt8).isPrefixOf (b :: 58 :: 58 :: B) = false := by simp [List.isPrefixOf, Ne.symm hb]
    have ih : Go.Lib.index (58 :: 58 :: B) [58, 58] = 0 := by simp [Go.Lib.index, List.isPrefixOf]
    show Go.Lib.index (b :: 58 :: 58 :: B) [58, 58] = _
    rw [Go.Lib.index, h0, ih]
    simp
  | b :: c :: l, B, h => by
    rw [ncc] at h
    have hh : ¬ (b = 58 ∧ c = 58) ∧ ncc (c :: l) = true := by
      constructor
      · rintro ⟨rfl, rfl⟩; simp at h
      · simp at h; exact h.2
    have ih := index_cc (c :: l) B hh.2
    have h0 : ([58, 58] : List UInt8).isPrefixOf (b :: c :: (l ++ 58 :: 58 :: B)) = false := by
      simp only [List.isPrefixOf, Bool.and_true]
      by_cases e : b = 58
      · have : c ≠ 58 := fun e2 => hh.1 ⟨e, e2⟩
        simp [Ne.symm this]
      · simp [Ne.symm e]
    show Go.Lib.index (b :: (c :: l ++ 58 :: 58 :: B)) [58, 58] = _
    rw [Go.Lib.index, ih]
    rw [show b :: (c :: l ++ 58 :: 58 :: B) = b :: c :: (l ++ 58 :: 58 :: B) from rfl, h0]
    have : (((((c :: l).length : Nat) : Int)) == -1) = false := by rw [beq_eq_false_iff_ne]; omega
    rw [if_neg (by simp), this]
    simp
theorem index_nc : ∀ (A : List UInt8), ncc A = true → Go.Lib.index A [58, 58] = -1
  | [], _ => by simp [Go.Lib.index]
  | [b], h => by
    have hb : b ≠ 58 := by simpa [ncc] using h
    simp [Go.Lib.index, List.isPrefixOf]
  | b :: c :: l, h => by
    rw [ncc] at h
    have hh : ¬ (b = 58 ∧ c = 58) ∧ ncc (c :: l) = true := by
      constructor
      · rintro ⟨rfl, rfl⟩; simp at h
      · simp at h; exact h.2
    have ih := index_nc (c :: l) hh.2
    have h0 : ([58, 58] : List UInt8).isPrefixOf (b :: c :: l) = false := by
      simp only [List.isPrefixOf, Bool.and_true]
      by_cases e : b = 58
      · have : c ≠ 58 := fun e2 => hh.1 ⟨e, e2⟩
        simp [Ne.symm this]
      · simp [Ne.symm e]
    rw [Go.Lib.index, ih, h0]
    simp
theorem ncc_word : ∀ (x : List UInt8), 58 ∉ x → ncc x = true
  | [], _ => rfl
  | [b], h => by simp at h; simp [ncc]; exact fun e => h e.symm
  | b :: c :: l, h => by
    have ih := ncc_word (c :: l) (fun e => h (by simp [e]))
    have hb : b ≠ 58 := fun e => h (by simp [e])
    rw [ncc, ih]
    simp [hb]
theorem ncc_app : ∀ (x r : List UInt8), x ≠ [] → 58 ∉ x → ncc r = true → r ≠ [] → (r.head? ≠ some 58) → ncc (x ++ 58 :: r) = true
  | [b], r, _, h, hr, hne, hd => by
    have hb : b ≠ 58 := fun e => h (by simp [e])
    cases r with
    | nil => exact absurd rfl hne
    | cons c l =>
      have hc : c ≠ 58 := by simpa using hd
      show ncc (b :: 58 :: c :: l) = true
      simp [ncc, hb, hc, hr]
  | b :: c :: l, r, _, h, hr, hne, hd => by
    have ih := ncc_app (c :: l) r (by simp) (fun e => h (by simp [e])) hr hne hd
    have hb : b ≠ 58 := fun e => h (by simp [e])
    show ncc (b :: c :: (l ++ 58 :: r)) = true
    rw [ncc]
    rw [show c :: (l ++ 58 :: r) = c :: l ++ 58 :: r from rfl, ih]
    simp [hb]
theorem ncc_col : ∀ (zs : List Nat), (∀ y ∈ zs, y < 65536) → ncc (colS zs) = true ∧ (zs ≠ [] → colS zs ≠ [] ∧ (colS zs).head? ≠ some 58)
  | [], _ => ⟨rfl, fun h => absurd rfl h⟩
  | [z], h => by
    have hz := hex4_not z (h z (by simp))
    have e : colS [z] = hex4 z := by simp [colS, Go.Lib.join_one]
    rw [e]
    refine ⟨ncc_word _ (fun hm => (hz.2 58 hm).1 rfl), fun _ => ⟨hz.1, fun hd => ?_⟩⟩
    exact (hz.2 58 (List.mem_of_mem_head? hd)).1 rfl
  | z :: y :: r, h => by
    have hz := hex4_not z (h z (by simp))
    have ih := ncc_col (y :: r) (fun a ha => h a (by simp [ha]))
    have e : colS (z :: y :: r) = hex4 z ++ 58 :: colS (y :: r) := by simp [colS, Go.Lib.join, List.intercalate_cons_cons]
    rw [e]
    refine ⟨ncc_app _ _ hz.1 (fun hm => (hz.2 58 hm).1 rfl) ih.1 (ih.2 (by simp)).1 (ih.2 (by simp)).2, fun _ => ⟨by simp, fun hd => ?_⟩⟩
    cases hx : hex4 z with
    | nil => exact hz.1 hx
    | cons b l =>
      rw [hx] at hd
      simp at hd
      exact (hz.2 58 (by rw [hx, hd]; simp)).1 rfl
/-! six -/
def cut6A (s : ByteArray) : ByteArray := ⟨(Go.Lib.cut s.data.toList [58, 58]).1.toArray⟩
def cut6B (s : ByteArray) : ByteArray := ⟨(Go.Lib.cut s.data.toList [58, 58]).2.1.toArray⟩
def cut6F (s : ByteArray) : Bool := (Go.Lib.cut s.data.toList [58, 58]).2.2
/-- eight groups of two rows -/
def fill8 (a b : List Nat) : List Nat := a ++ List.replicate (8 - (a.length + b.length)) 0 ++ b
def sixR (s : ByteArray) : Option (List Nat) :=
  match grpR (cut6A s), grpR (cut6B s) with
  | some a, some b => if 8 < a.length + b.length ∨ cut6F s = false ∧ a.length + b.length ≠ 8 then none else some (fill8 a b)
  | _, _ => none
theorem lz_zero (z : Nat → Bool) : ∀ k, (∀ j, (lzS z k).2.2 ≤ j → j < k → z j = true) ∧ (∀ j, (lzS z k).1 ≤ j → j < (lzS z k).2.1 → z j = true)
  | 0 => by simp [lzS]
  | k + 1 => by
    have ih := lz_zero z k
    unfold lzS
    by_cases h : z k = true
    · rw [if_pos h]
      refine ⟨fun j h1 h2 => ?_, ih.2⟩
      by_cases hj : j = k
      · rw [hj]; exact h
      · exact ih.1 j h1 (by omega)
    · rw [if_neg h]
      refine ⟨fun j h1 h2 => by simp only at h1; omega, fun j h1 h2 => ?_⟩
      simp only [lzF, lzT] at h1 h2
      split at h1
      · rename_i hc
        rw [if_pos hc] at h2
        exact ih.1 j h1 h2
      · rename_i hc
        rw [if_neg hc] at h2
        exact ih.2 j h1 h2
theorem lz_all (z : Nat → Bool) (j : Nat) (h1 : lzFrom z ≤ j) (h2 : j < lzTo z) : z j = true := by
  have ih := lz_zero z 8
  unfold lzFrom lzF at h1
  unfold lzTo lzT at h2
  split at h1
  · rename_i hc
    rw [if_pos hc] at h2
    exact ih.1 j h1 h2
  · rename_i hc
    rw [if_neg hc] at h2
    exact ih.2 j h1 h2
theorem sixR_six (zs : List Nat) (hl : zs.length = 8) (h : ∀ y ∈ zs, y < 65536) : sixR (str (sixS zs)) = some zs := by
  obtain ⟨f, hf⟩ : ∃ f, lzFrom (fun j => zs.getD j 0 == 0) = f := ⟨_, rfl⟩
  obtain ⟨t, ht⟩ : ∃ t, lzTo (fun j => zs.getD j 0 == 0) = t := ⟨_, rfl⟩
  have hft := lz_fin (fun j => zs.getD j 0 == 0)
  have hz := lz_all (fun j => zs.getD j 0 == 0)
  have hdat : (str (sixS zs)).data.toList = sixS zs := by simp [str]
  unfold sixR cut6A cut6B cut6F
  rw [hdat]
  unfold sixS
  rw [hf, ht] at hft hz ⊢
  by_cases e : f = t
  · rw [if_pos e]
    have hi := index_nc _ (ncc_col zs h).1
    have hc : Go.Lib.cut (colS zs) [58, 58] = (colS zs, [], false) := by
      unfold Go.Lib.cut
      rw [hi, if_neg (by omega)]
    rw [hc]
    have g1 : grpR ⟨(colS zs).toArray⟩ = some zs := grpR_col zs h
    have g2 : grpR ⟨([] : List UInt8).toArray⟩ = some [] := rfl
    simp only
    rw [g1, g2]
    simp [hl, fill8]
  · rw [if_neg e]
    have ha : ∀ y ∈ zs.take f, y < 65536 := fun y hy => h y (List.mem_of_mem_take hy)
    have hb : ∀ y ∈ zs.drop t, y < 65536 := fun y hy => h y (List.mem_of_mem_drop hy)
    have hi := index_cc (colS (zs.take f)) (colS (zs.drop t)) (ncc_col _ ha).1
    have hc : Go.Lib.cut (colS (zs.take f) ++ [58, 58] ++ colS (zs.drop t)) [58, 58] = (colS (zs.take f), colS (zs.drop t), true) := by
      rw [show colS (zs.take f) ++ [58, 58] ++ colS (zs.drop t) = colS (zs.take f) ++ 58 :: 58 :: colS (zs.drop t) by simp]
      unfold Go.Lib.cut
      rw [hi, if_pos (by omega)]
      have e1 : (((colS (zs.take f)).length : Nat) : Int).toNat = (colS (zs.take f)).length := by omega
      rw [e1, List.take_left]
      rw [show colS (zs.take f) ++ 58 :: 58 :: colS (zs.drop t) = (colS (zs.take f) ++ [58, 58]) ++ colS (zs.drop t) by simp]
      rw [show (colS (zs.take f)).length + ([58, 58] : List UInt8).length = (colS (zs.take f) ++ [58, 58]).length by simp, List.drop_left]
    rw [hc]
    have g1 : grpR ⟨(colS (zs.take f)).toArray⟩ = some (zs.take f) := grpR_col _ ha
    have g2 : grpR ⟨(colS (zs.drop t)).toArray⟩ = some (zs.drop t) := grpR_col _ hb
    simp only
    rw [g1, g2]
    simp only
    have hlen : (zs.take f).length + (zs.drop t).length = f + (8 - t) := by
      rw [List.length_take, List.length_drop, hl]; omega
    rw [if_neg (by rw [hlen]; simp; omega)]
    congr 1
    unfold fill8
    rw [hlen]
    apply List.ext_getElem?
    intro j
    rw [List.getElem?_append, List.getElem?_append]
    simp only [List.length_append, List.length_take, List.length_replicate, hl]
    by_cases h1 : j < f
    · rw [if_pos (by omega), if_pos (by omega), List.getElem?_take, if_pos h1]
    · by_cases h2 : j < t
      · rw [if_pos (by omega), if_neg (by omega), List.getElem?_replicate, if_pos (by omega)]
        have hz1 := hz j (by omega) h2
        have hjl : j < zs.length := by omega
        have hz2 : zs[j] = 0 := by
          have : zs.getD j 0 = zs[j] := by simp [List.getD, List.getElem?_eq_getElem hjl]
          rw [← this]
          simpa using hz1
        rw [List.getElem?_eq_getElem hjl, hz2]
      · rw [if_neg (by omega), List.getElem?_drop]
        congr 1
        omega
/-! to an address and back -/
def uniH (g : List Nat) : Nat := ((g.getD 0 0 * 65536 + g.getD 1 0) * 65536 + g.getD 2 0) * 65536 + g.getD 3 0
def uniL (g : List Nat) : Nat := ((g.getD 4 0 * 65536 + g.getD 5 0) * 65536 + g.getD 6 0) * 65536 + g.getD 7 0
end Go.Proofs.YtlikgfmcialepaaGreatDoor
