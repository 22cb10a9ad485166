/-
  PLAIN MATHEMATICS of the strings of package number: strings and values are inverse.
-/
import Derived.Test.YtlikgfmcialepaaGreatDoorSixD
import Derived.Test.YtlikgfmcialepaaGreatDoorAsText
namespace Go.Proofs.YtlikgfmcialepaaGreatDoor
open Go.RowKit Adr
set_option linter.unusedVariables false
/-! decimals -/
theorem dec_digit : ∀ (u : Nat), Lib.decDigits u ≠ [] ∧ ∀ c ∈ Lib.decDigits u, 48 ≤ c.toNat ∧ c.toNat ≤ 57 := by
  intro u
  induction u using Nat.strongRecOn with
  | _ u ih =>
    have d1 : ∀ k, k < 10 → 48 ≤ (UInt8.ofNat (48 + k)).toNat ∧ (UInt8.ofNat (48 + k)).toNat ≤ 57 := by
      intro k hk
      have : ∀ k : Fin 10, 48 ≤ (UInt8.ofNat (48 + k.1)).toNat ∧ (UInt8.ofNat (48 + k.1)).toNat ≤ 57 := by decide
      exact this ⟨k, hk⟩
    rw [Lib.decDigits]
    by_cases h : u < 10
    · rw [dif_pos h]
      refine ⟨by simp, fun c hc => ?_⟩
      rw [List.mem_singleton.1 hc]
      exact d1 u h
    · rw [dif_neg h]
      refine ⟨by simp, fun c hc => ?_⟩
      rcases List.mem_append.1 hc with hc | hc
      · exact (ih (u / 10) (by omega)).2 c hc
      · rw [List.mem_singleton.1 hc]
        exact d1 (u % 10) (by omega)
theorem pm_app (M : Nat) (r : List UInt8) : ∀ (l : List UInt8) (acc v : Nat), Lib.parseUintM M acc l = .ok v → Lib.parseUintM M acc (l ++ r) = Lib.parseUintM M v r
  | [], acc, v, h => by
    have : acc = v := by simpa [Lib.parseUintM] using h
    rw [this]; rfl
  | c :: l, acc, v, h => by
    rw [List.cons_append]
    conv => lhs; unfold Lib.parseUintM
    unfold Lib.parseUintM at h
    split at h
    · rename_i h1
      rw [if_pos h1]
      split at h
      · cases h
      · rename_i h2
        rw [if_neg h2]
        split at h
        · cases h
        · rename_i h3
          rw [if_neg h3]
          exact pm_app M r l _ v h
    · cases h
theorem dec_parse (M : Nat) (hM : M < 1844674407370955162) : ∀ (u : Nat), u ≤ M → Lib.parseUintM M 0 (Lib.decDigits u) = .ok u := by
  intro u
  induction u using Nat.strongRecOn with
  | _ u ih =>
    intro hu
    have d1 : ∀ k, k < 10 → (UInt8.ofNat (48 + k)).toNat = 48 + k := by
      intro k hk
      have : ∀ k : Fin 10, (UInt8.ofNat (48 + k.1)).toNat = 48 + k.1 := by decide
      exact this ⟨k, hk⟩
    rw [Lib.decDigits]
    by_cases h : u < 10
    · rw [dif_pos h]
      unfold Lib.parseUintM
      rw [d1 u h, if_pos (by omega), if_neg (by omega), if_neg (by omega)]
      unfold Lib.parseUintM
      congr 1
      omega
    · rw [dif_neg h, pm_app M _ _ _ _ (ih (u / 10) (by omega) (by omega))]
      unfold Lib.parseUintM
      rw [d1 (u % 10) (by omega), if_pos (by omega), if_neg (by omega), if_neg (by omega)]
      unfold Lib.parseUintM
      congr 1
      omega
theorem rdec_dec (B : Nat) (hB : B ≤ 32) (u : Nat) (hu : u < 2 ^ B) : rdec B (Lib.decDigits u) = some u := by
  have h1 : Lib.parseUintB B (Lib.decDigits u) = .ok u := by
    unfold Lib.parseUintB
    rw [if_neg (dec_digit u).1]
    refine dec_parse _ ?_ u (by omega)
    have h2 : 2 ^ B ≤ 2 ^ 32 := Nat.pow_le_pow_right (by omega) hB
    have h3 : (2 : Nat) ^ 32 = 4294967296 := by decide
    omega
  rw [rdec_ok h1, if_pos rfl]
theorem rdec_some {B : Nat} {l : List UInt8} {u : Nat} (h : rdec B l = some u) : Lib.decDigits u = l := by
  unfold rdec at h
  split at h
  · split at h
    · rename_i hd
      rw [← Option.some.inj h]; exact hd
    · cases h
  · cases h
/-- no byte of a decimal is another sign -/
theorem dec_not (u : Nat) (c : UInt8) (hc : c.toNat < 48 ∨ 57 < c.toNat) : c ∉ Lib.decDigits u := fun h => by
  have := (dec_digit u).2 c h
  omega
theorem as_back (n : Nat) (h : n < 4294967296) : asNum (str (asS n)) = some n := by
  have e : (str (asS n)).data.toList = asS n := by simp [str]
  unfold asNum
  have hp : Lib.hasPrefix (str (asS n)).data.toList [65, 83] = true := by
    rw [e]
    unfold asS
    simp [Lib.hasPrefix, List.isPrefixOf]
  rw [if_pos hp]
  have hc : (asCut (str (asS n))).data.toList = Lib.decDigits n := by
    unfold asCut Lib.trimPrefix
    rw [if_pos hp, e]
    simp [asS]
  rw [hc]
  exact rdec_dec 32 (by omega) n (by omega)
theorem as_forth {s : ByteArray} {n : Nat} (h : asNum s = some n) : str (asS n) = s ∧ n < 4294967296 := by
  unfold asNum at h
  split at h
  · rename_i hp
    have hd := rdec_some h
    have hlt := rdec_le h
    refine ⟨?_, by simpa using hlt⟩
    have hc : (asCut s).data.toList = s.data.toList.drop 2 := by
      unfold asCut Lib.trimPrefix
      rw [if_pos hp]
      simp
    rw [hc] at hd
    have : asS n = s.data.toList := by
      unfold asS
      rw [hd]
      have hpre : ([65, 83] : List UInt8) <+: s.data.toList := by
        unfold Lib.hasPrefix at hp
        exact List.isPrefixOf_iff_prefix.1 hp
      obtain ⟨t, ht⟩ := hpre
      rw [← ht]
      simp
    rw [this]
    exact str_list s
  · cases h
/-! four -/
theorem parts_words (c : UInt8) (x : List UInt8) (xs : List (List UInt8)) (h : ∀ y ∈ x :: xs, c ∉ y) : parts c (str (Lib.join (x :: xs) [c])) = (x :: xs).map str := by
  have h1 := parts_data c (str (Lib.join (x :: xs) [c]))
  rw [show (str (Lib.join (x :: xs) [c])).data.toList = Lib.join (x :: xs) [c] by simp [str], splitL_join c x xs h] at h1
  have h2 : ((parts c (str (Lib.join (x :: xs) [c]))).map (·.data.toList)).map str = (x :: xs).map str := by rw [h1]
  rw [List.map_map] at h2
  rw [← h2]
  conv => lhs; rw [← List.map_id (parts c (str (Lib.join (x :: xs) [c])))]
  apply List.map_congr_left
  intro a _
  exact (str_list a).symm
theorem four_back (L : Nat) (h : L < 4294967296) : fourR (str (fourS L)) = some L := by
  have hp : parts 46 (str (fourS L)) = [Lib.decDigits (byteAt L 0), Lib.decDigits (byteAt L 1), Lib.decDigits (byteAt L 2), Lib.decDigits (byteAt L 3)].map str := by
    unfold fourS
    refine parts_words 46 _ _ (fun y hy => ?_)
    simp only [List.mem_cons, List.not_mem_nil, or_false] at hy
    rcases hy with rfl | rfl | rfl | rfl <;> exact dec_not _ 46 (Or.inl (by decide))
  have hb : ∀ k, byteAt L k < 2 ^ 8 := fun k => Nat.mod_lt _ (by decide)
  have hr : ∀ k, rdec 8 (str (Lib.decDigits (byteAt L k))).data.toList = some (byteAt L k) := fun k => by
    rw [show (str (Lib.decDigits (byteAt L k))).data.toList = Lib.decDigits (byteAt L k) by simp [str]]
    exact rdec_dec 8 (by omega) _ (hb k)
  unfold fourR
  rw [hp]
  rw [if_pos (by simp)]
  simp only [List.map_cons, List.map_nil]
  rw [rfold_some (hr 0), rfold_some (hr 1), rfold_some (hr 2), rfold_some (hr 3)]
  unfold rfold
  congr 1
  unfold byteAt
  simp only [Nat.sub_zero, Nat.reduceSub, Nat.reduceMul, Nat.reducePow, Nat.sub_self]
  omega
theorem fourS_bytes (L : Nat) : ∀ c ∈ fourS L, c.toNat = 46 ∨ 48 ≤ c.toNat ∧ c.toNat ≤ 57 := by
  intro c hc
  unfold fourS at hc
  simp only [Lib.join, List.intercalate_cons_cons, List.intercalate_singleton, List.mem_append, List.mem_cons, List.not_mem_nil, or_false] at hc
  have d := fun k => (dec_digit (byteAt L k)).2 c
  rcases hc with (h | h) | (h | h) | (h | h) | h
  all_goals first
    | exact Or.inr (d _ h)
    | (left; rw [h]; decide)
theorem fourS_short (L : Nat) : (fourS L).length ≤ 39 := by
  have d : ∀ k, (Lib.decDigits (byteAt L k)).length ≤ 3 := fun k => by
    have hb : byteAt L k < 256 := Nat.mod_lt _ (by decide)
    rw [Lib.decDigits]
    split
    · simp
    · rw [Lib.decDigits]
      split
      · simp
      · rw [Lib.decDigits]
        split
        · simp
        · omega
  have d0 := d 0; have d1 := d 1; have d2 := d 2; have d3 := d 3
  simp [fourS, Lib.join, List.intercalate]
  omega
theorem indexByte_no (c : UInt8) (l : List UInt8) (h : c ∉ l) : ¬ 0 ≤ Lib.indexByte l c := fun h0 => by
  have := (Lib.indexByte_some (l := l) (c := c) (o := (Lib.indexByte l c).toNat) (by omega)).1
  exact h (List.mem_of_getElem? this)
theorem indexByte_yes (c : UInt8) (l : List UInt8) (h : c ∈ l) : 0 ≤ Lib.indexByte l c := by
  have hge := Lib.indexByte_ge l c
  by_cases h1 : Lib.indexByte l c = -1
  · obtain ⟨k, hk⟩ := List.getElem?_of_mem h
    exact absurd hk (Lib.indexByte_none h1 k)
  · omega
theorem str_dat (l : List UInt8) : (str l).data.toList = l := by simp [str]
theorem ap_four (L : Nat) (h : L < 4294967296) : apR (str (fourS L)) = some (4, 0, L) := by
  have hb := fourS_bytes L
  unfold apR
  rw [if_neg (by rw [str_size]; have := fourS_short L; omega)]
  rw [if_neg (by
    rw [str_dat]
    refine indexByte_no 58 _ (fun hm => ?_)
    have := hb 58 hm
    have e : (58 : UInt8).toNat = 58 := by decide
    omega)]
  rw [addr4_some (four_back L h), if_pos (by rw [str_dat])]
  rfl
/-! six -/
theorem join_short : ∀ (zs : List Nat), zs ≠ [] → (Lib.join (zs.map hex4) [58]).length + 1 ≤ 5 * zs.length
  | [], h => absurd rfl h
  | [a], _ => by have := hex4_len a; simp [Lib.join]; omega
  | a :: b :: r, _ => by
    have ih := join_short (b :: r) (by simp)
    have := hex4_len a
    simp only [Lib.join, List.map_cons, List.length_cons] at ih ⊢
    rw [List.intercalate_cons_cons]
    simp only [List.length_append, List.length_cons, List.length_nil]
    omega
theorem sixS_short (zs : List Nat) (hl : zs.length = 8) : (sixS zs).length ≤ 39 := by
  have hft := lz_fin (fun j => zs.getD j 0 == 0)
  unfold sixS
  split
  · have := join_short zs (by intro e; rw [e] at hl; simp at hl)
    unfold colS
    omega
  · rename_i hne
    have l1 : (colS (zs.take (lzFrom fun j => zs.getD j 0 == 0))).length ≤ 5 * (lzFrom fun j => zs.getD j 0 == 0) := by
      have := join_len (zs.take (lzFrom fun j => zs.getD j 0 == 0))
      rw [List.length_take] at this
      unfold colS
      omega
    have l2 : (colS (zs.drop (lzTo fun j => zs.getD j 0 == 0))).length ≤ 5 * (8 - (lzTo fun j => zs.getD j 0 == 0)) := by
      have := join_len (zs.drop (lzTo fun j => zs.getD j 0 == 0))
      rw [List.length_drop] at this
      unfold colS
      omega
    simp only [List.length_append, List.length_cons, List.length_nil]
    omega
theorem sixS_colon (zs : List Nat) (hl : zs.length = 8) : (58 : UInt8) ∈ sixS zs := by
  unfold sixS
  split
  · unfold colS
    match zs, hl with
    | a :: b :: r, _ => simp [Lib.join, List.intercalate_cons_cons]
  · simp
theorem gs_lt (H L : Nat) : ∀ z ∈ gs H L, z < 65536 := by
  intro z hz
  unfold gs at hz
  simp only [List.mem_cons, List.not_mem_nil, or_false] at hz
  rcases hz with rfl | rfl | rfl | rfl | rfl | rfl | rfl | rfl <;> exact Nat.mod_lt _ (by decide)
theorem uni_gs (H L : Nat) (hH : H < 18446744073709551616) (hL : L < 18446744073709551616) : uni (fun j => (gs H L).getD j 0) 4 = H ∧ uni (fun j => (gs H L).getD (4 + j) 0) 4 = L := by
  constructor
  · simp only [uni, gs, List.getD_cons_zero, List.getD_cons_succ]
    omega
  · simp only [uni, gs, Nat.add_zero, Nat.reduceAdd, List.getD_cons_zero, List.getD_cons_succ]
    omega
theorem ap_six (H L : Nat) (hH : H < 18446744073709551616) (hL : L < 18446744073709551616) : apR (str (sixS (gs H L))) = some (6, H, L) := by
  unfold apR
  rw [if_neg (by rw [str_size]; have := sixS_short (gs H L) rfl; omega)]
  rw [if_pos (by rw [str_dat]; exact indexByte_yes 58 _ (sixS_colon (gs H L) rfl))]
  have h6 : sixP (str (sixS (gs H L))) = some (H, L) := by
    unfold sixP
    rw [sixR_six _ rfl (gs_lt H L)]
    obtain ⟨e1, e2⟩ := uni_gs H L hH hL
    simp only [Option.map_some]
    rw [e1, e2]
  rw [addr6_some h6, if_pos (by rw [str_dat]; rfl)]
  rfl
theorem addr4_forth {s : ByteArray} {L : Nat} (h : addr4 s = some L) : fourS L = s.data.toList ∧ L < 4294967296 := by
  cases h4 : fourR s with
  | none => rw [addr4_none h4] at h; cases h
  | some M =>
    rw [addr4_some h4] at h
    split at h
    · rename_i hd
      have := Option.some.inj h
      subst this
      exact ⟨hd, fourR_lt h4⟩
    · cases h
theorem addr6_forth {s : ByteArray} {H L : Nat} (h : addr6 s = some (H, L)) : addrS 6 H L = s.data.toList ∧ H < 18446744073709551616 ∧ L < 18446744073709551616 := by
  cases h4 : sixP s with
  | none => rw [addr6_none h4] at h; cases h
  | some M =>
    obtain ⟨H', L'⟩ := M
    rw [addr6_some h4] at h
    split at h
    · rename_i hd
      have := Option.some.inj h
      have e1 : H' = H := congrArg Prod.fst this
      have e2 : L' = L := congrArg Prod.snd this
      subst e1 e2
      exact ⟨hd, (sixP_lt h4).1, (sixP_lt h4).2⟩
    · cases h
/-- what is written of an address is read as it -/
theorem ap_back (f : Int) (H L : Nat) (hc : ca f H L = true) (hH : H < 18446744073709551616) (hL : L < 18446744073709551616) :
    (apF (str (addrS f H L)) : Int) = f ∧ apH (str (addrS f H L)) = H ∧ apL (str (addrS f H L)) = L ∧ apE (str (addrS f H L)) = 0 := by
  unfold ca at hc
  by_cases h4 : f = 4
  · rw [if_pos h4] at hc
    subst h4
    have e : H = 0 ∧ L < 4294967296 := by
      simp at hc
      omega
    obtain ⟨rfl, hl⟩ := e
    have hr := ap_four L hl
    rw [show addrS 4 0 L = fourS L from rfl]
    unfold apF apH apL apE
    rw [hr]
    exact ⟨rfl, rfl, rfl, rfl⟩
  · rw [if_neg h4] at hc
    have h6 : f = 6 := by simpa using hc
    subst h6
    have hr := ap_six H L hH hL
    rw [show addrS 6 H L = sixS (gs H L) from rfl]
    unfold apF apH apL apE
    rw [hr]
    exact ⟨rfl, rfl, rfl, rfl⟩
/-- what is read is written so -/
theorem ap_forth {s : ByteArray} (h : apE s = 0) : str (addrS (apF s) (apH s) (apL s)) = s ∧ ca (apF s) (apH s) (apL s) = true ∧ apH s < 18446744073709551616 ∧ apL s < 18446744073709551616 := by
  unfold apE at h
  cases hr : apR s with
  | none => rw [hr] at h; simp at h
  | some p =>
    obtain ⟨f, H, L⟩ := p
    unfold apF apH apL
    rw [hr]
    simp only [Option.map_some, Option.getD_some]
    unfold apR at hr
    split at hr
    · cases hr
    · split at hr
      · cases h6 : addr6 s with
        | none => rw [h6] at hr; cases hr
        | some p =>
          obtain ⟨H', L'⟩ := p
          rw [h6] at hr
          have e := Option.some.inj hr
          have e1 : 6 = f := congrArg (·.1) e
          have e2 : H' = H := congrArg (·.2.1) e
          have e3 : L' = L := congrArg (·.2.2) e
          subst e1 e2 e3
          obtain ⟨a1, a2, a3⟩ := addr6_forth h6
          refine ⟨?_, rfl, a2, a3⟩
          rw [show (((6 : Nat) : Int)) = 6 from rfl, a1, str_list]
      · cases h4 : addr4 s with
        | none => rw [h4] at hr; cases hr
        | some L' =>
          rw [h4] at hr
          have e := Option.some.inj hr
          have e1 : 4 = f := congrArg (·.1) e
          have e2 : 0 = H := congrArg (·.2.1) e
          have e3 : L' = L := congrArg (·.2.2) e
          subst e1 e2 e3
          obtain ⟨a1, a2⟩ := addr4_forth h4
          refine ⟨?_, ca4 L' a2, by omega, by omega⟩
          rw [show (((4 : Nat) : Int)) = 4 from rfl, show addrS 4 0 L' = fourS L' from rfl, a1, str_list]
theorem ap_zero {s : ByteArray} (h : ¬ apE s = 0) : apF s = 0 ∧ apH s = 0 ∧ apL s = 0 ∧ apE s = 12 := by
  unfold apE at h
  cases hr : apR s with
  | none =>
    unfold apF apH apL apE
    rw [hr]
    exact ⟨rfl, rfl, rfl, rfl⟩
  | some p => rw [hr] at h; simp at h
theorem ap_u64 (s : ByteArray) : apH s < 18446744073709551616 ∧ apL s < 18446744073709551616 := by
  by_cases h : apE s = 0
  · exact ⟨(ap_forth h).2.2.1, (ap_forth h).2.2.2⟩
  · obtain ⟨_, h1, h2, _⟩ := ap_zero h
    omega
/-! prefixes -/
theorem addrS_slash (f : Int) (H L : Nat) : (47 : UInt8) ∉ addrS f H L ∧ (45 : UInt8) ∉ addrS f H L := by
  have hcol : ∀ zs : List Nat, (∀ z ∈ zs, z < 65536) → (47 : UInt8) ∉ colS zs ∧ (45 : UInt8) ∉ colS zs := by
    intro zs
    induction zs with
    | nil => intro _; simp [colS, Lib.join]
    | cons z zs ih =>
      intro h
      have hz := hex4_not z (h z (by simp))
      have n1 : (47 : UInt8) ∉ hex4 z := fun hm => (hz.2 47 hm).2.1 rfl
      have n2 : (45 : UInt8) ∉ hex4 z := fun hm => (hz.2 45 hm).2.2.2 rfl
      cases zs with
      | nil => rw [show colS [z] = hex4 z by simp [colS, Lib.join_one]]; exact ⟨n1, n2⟩
      | cons y r =>
        have i := ih (fun a ha => h a (by simp [ha]))
        rw [show colS (z :: y :: r) = hex4 z ++ 58 :: colS (y :: r) by simp [colS, Lib.join, List.intercalate_cons_cons]]
        constructor
        · simp [n1, i.1]
        · simp [n2, i.2]
  unfold addrS
  split
  · have hb := fourS_bytes L
    have e1 : (47 : UInt8).toNat = 47 := by decide
    have e2 : (45 : UInt8).toNat = 45 := by decide
    exact ⟨fun hm => by have := hb 47 hm; omega, fun hm => by have := hb 45 hm; omega⟩
  · have hg := gs_lt H L
    unfold sixS
    split
    · exact hcol _ hg
    · have c1 := hcol ((gs H L).take (lzFrom fun j => (gs H L).getD j 0 == 0)) (fun z hz => hg z (List.mem_of_mem_take hz))
      have c2 := hcol ((gs H L).drop (lzTo fun j => (gs H L).getD j 0 == 0)) (fun z hz => hg z (List.mem_of_mem_drop hz))
      constructor
      · intro hm
        rcases List.mem_append.1 hm with hm | hm
        · rcases List.mem_append.1 hm with hm | hm
          · exact c1.1 hm
          · revert hm; decide
        · exact c2.1 hm
      · intro hm
        rcases List.mem_append.1 hm with hm | hm
        · rcases List.mem_append.1 hm with hm | hm
          · exact c1.2 hm
          · revert hm; decide
        · exact c2.2 hm
theorem cut_at (c : UInt8) (A B : List UInt8) (h : c ∉ A) : Lib.cut (A ++ c :: B) [c] = (A, B, true) := by
  unfold Lib.cut
  rw [index_one c A h B, if_pos (by omega)]
  have e1 : ((A.length : Nat) : Int).toNat = A.length := by omega
  rw [e1, List.take_left]
  rw [show A ++ c :: B = (A ++ [c]) ++ B by simp, show A.length + ([c] : List UInt8).length = (A ++ [c]).length by simp, List.drop_left]
theorem cut_none (c : UInt8) (A : List UInt8) (h : c ∉ A) : Lib.cut A [c] = (A, [], false) := by
  unfold Lib.cut
  rw [index_none c A h, if_neg (by omega)]
theorem pfx_cut (f : Int) (H L n : Nat) : cutA (str (pfxS f H L n)) = str (addrS f H L) ∧ cutB (str (pfxS f H L n)) = str (Lib.decDigits n) := by
  unfold cutA cutB
  rw [str_dat]
  unfold pfxS
  rw [show addrS f H L ++ [47] ++ Lib.decDigits n = addrS f H L ++ 47 :: Lib.decDigits n by simp, cut_at 47 _ _ (addrS_slash f H L).1]
  exact ⟨rfl, rfl⟩
/-- what Parse reads of a string -/
def paOk (s : ByteArray) : Bool := (apE (cutA s) == 0) && (rdec 8 (cutB s).data.toList).isSome && (chk (apF (cutA s)) (apH (cutA s)) (apL (cutA s)) ((rdec 8 (cutB s).data.toList).getD 0) == 0)
def paF (s : ByteArray) : Nat := if paOk s = true then apF (cutA s) else 0
def paH (s : ByteArray) : Nat := if paOk s = true then apH (cutA s) else 0
def paL (s : ByteArray) : Nat := if paOk s = true then apL (cutA s) else 0
def paN (s : ByteArray) : Nat := if paOk s = true then (rdec 8 (cutB s).data.toList).getD 0 else 0
def paE (s : ByteArray) : Int := if paOk s = true then 0 else 12
theorem pa_any (s : ByteArray) (w : World) (env : Env true w) (hs : s.size ≤ 1000) :
    Calls Tryz.prog 11 #[.string s] w (PfxLeft (paF s) (paH s) (paL s) (paN s) (paE s) w) := by
  have hap := ap_any (cutA s)
  have hu := ap_u64 (cutA s)
  unfold paF paH paL paN paE paOk
  by_cases h1 : apE (cutA s) = 0
  · rw [h1] at hap ⊢
    cases hr : rdec 8 (cutB s).data.toList with
    | none => exact parse_no2 s _ _ _ 0 w env hs hap (by decide) hr
    | some n =>
      have hn : n < 256 := by simpa using rdec_le hr
      simp only [beq_self_eq_true, Option.isSome_some, Bool.and_self, Bool.true_and, Option.getD_some]
      by_cases hc : chk (apF (cutA s)) (apH (cutA s)) (apL (cutA s)) n = 0
      · rw [if_pos (by simpa using hc), if_pos (by simpa using hc), if_pos (by simpa using hc), if_pos (by simpa using hc), if_pos (by simpa using hc)]
        exact parse_yes s _ _ _ 0 w env hs hap (by decide) n hn hr ⟨by omega, by omega⟩ ⟨by omega, by omega⟩ hc
      · rw [if_neg (by simpa using hc), if_neg (by simpa using hc), if_neg (by simpa using hc), if_neg (by simpa using hc), if_neg (by simpa using hc)]
        exact parse_ck s _ _ _ 0 w env hs hap (by decide) n hn hr ⟨by omega, by omega⟩ ⟨by omega, by omega⟩ _ rfl (by rw [bne_iff_ne]; exact hc)
  · have hb : (apE (cutA s) == 0) = false := beq_eq_false_iff_ne.2 h1
    simp only [hb, Bool.false_and, Bool.false_eq_true, if_false]
    exact parse_no1 s _ _ _ _ w env hs hap (by rw [bne_iff_ne]; exact h1)
theorem pa_back (f : Int) (H L n : Nat) (hc : chk f H L n = 0) (hca : ca f H L = true) (hn : n ≤ 128) (hH : H < 18446744073709551616) (hL : L < 18446744073709551616) :
    (paF (str (pfxS f H L n)) : Int) = f ∧ paH (str (pfxS f H L n)) = H ∧ paL (str (pfxS f H L n)) = L ∧ paN (str (pfxS f H L n)) = n ∧ paE (str (pfxS f H L n)) = 0 := by
  obtain ⟨ca', cb'⟩ := pfx_cut f H L n
  obtain ⟨b1, b2, b3, b4⟩ := ap_back f H L hca hH hL
  have hr : rdec 8 (str (Lib.decDigits n)).data.toList = some n := by rw [str_dat]; exact rdec_dec 8 (by omega) n (by omega)
  have hok : paOk (str (pfxS f H L n)) = true := by
    unfold paOk
    rw [ca', cb', b4, hr, b1, b2, b3]
    simp [hc]
  unfold paF paH paL paN paE
  rw [hok]
  simp only [if_true]
  rw [ca', cb', hr]
  exact ⟨b1, b2, b3, rfl, by simp⟩
theorem pa_forth {s : ByteArray} (h : paE s = 0) : str (pfxS (paF s) (paH s) (paL s) (paN s)) = s ∧ chk (paF s) (paH s) (paL s) (paN s) = 0 ∧ ca (paF s) (paH s) (paL s) = true ∧ paN s < 256 ∧ paH s < 18446744073709551616 ∧ paL s < 18446744073709551616 := by
  have hok : paOk s = true := by
    unfold paE at h
    by_cases hh : paOk s = true
    · exact hh
    · rw [if_neg hh] at h; cases h
  unfold paF paH paL paN
  rw [if_pos hok, if_pos hok, if_pos hok, if_pos hok]
  unfold paOk at hok
  simp only [Bool.and_eq_true, beq_iff_eq] at hok
  obtain ⟨⟨h1, h2⟩, h3⟩ := hok
  obtain ⟨n, hn⟩ := Option.isSome_iff_exists.1 h2
  rw [hn] at h3 ⊢
  obtain ⟨a1, a2, a3, a4⟩ := ap_forth h1
  refine ⟨?_, h3, a2, by simpa using rdec_le hn, a3, a4⟩
  have hd := rdec_some hn
  have ha : addrS (apF (cutA s)) (apH (cutA s)) (apL (cutA s)) = (cutA s).data.toList := by rw [← str_dat (addrS _ _ _), a1]
  simp only [Option.getD_some]
  unfold pfxS
  rw [hd, ha]
  rcases head_c 47 s.data.toList with hno | ⟨A, B, e, hA⟩
  · exfalso
    have : (cutB s).data.toList = [] := by
      unfold cutB
      rw [cut_none 47 _ hno]
    rw [this] at hd
    exact (dec_digit n).1 hd
  · have e1 : (cutA s).data.toList = A := by unfold cutA; rw [e, cut_at 47 A B hA]
    have e2 : (cutB s).data.toList = B := by unfold cutB; rw [e, cut_at 47 A B hA]
    rw [e1, e2]
    rw [show A ++ [47] ++ B = s.data.toList by rw [e]; simp]
    exact str_list s
theorem pa_zero {s : ByteArray} (h : ¬ paE s = 0) : paF s = 0 ∧ paH s = 0 ∧ paL s = 0 ∧ paN s = 0 ∧ paE s = 12 := by
  unfold paE at h
  have hok : ¬ paOk s = true := fun hh => h (by rw [if_pos hh])
  unfold paF paH paL paN paE
  rw [if_neg hok, if_neg hok, if_neg hok, if_neg hok, if_neg hok]
  exact ⟨rfl, rfl, rfl, rfl, rfl⟩
end Go.Proofs.YtlikgfmcialepaaGreatDoor
