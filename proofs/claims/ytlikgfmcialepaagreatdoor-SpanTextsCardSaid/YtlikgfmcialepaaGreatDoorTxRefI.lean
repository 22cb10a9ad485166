/-
  PLAIN MATHEMATICS of the reference's readers: systems and addresses are read as the program reads them.
-/
import Derived.Test.YtlikgfmcialepaaGreatDoorTxRefH
import Derived.Test.YtlikgfmcialepaaGreatDoorSixD
namespace Go.Proofs.YtlikgfmcialepaaGreatDoor
open Go.RowKit Adr
set_option linter.unusedVariables false
set_option linter.unusedSimpArgs false
/-! numbers of systems -/
theorem asR_eq (s : ByteArray) : asR s = asNum s := by
  have hsz : s.size = s.data.toList.length := by simp
  have e32 : (2 : Nat) ^ 32 - 1 = 4294967295 := by decide
  by_cases hp : Lib.hasPrefix s.data.toList [65, 83] = true
  · have hpre : ([65, 83] : List UInt8) <+: s.data.toList := by
      unfold Lib.hasPrefix at hp
      exact List.isPrefixOf_iff_prefix.1 hp
    obtain ⟨t, ht⟩ := hpre
    have h0 : s.size = t.length + 2 := by rw [hsz, ← ht]; simp
    have h1 : s.extract 0 2 = ⟨#[65, 83]⟩ := by
      rw [ext_str, ← ht]
      rfl
    have h2 : s.extract 2 s.size = str t := by
      rw [ext_str, h0, ← ht]
      have : (([65, 83] ++ t).drop 2).take (t.length + 2 - 2) = t := by simp
      rw [this]
    have h3 : (asCut s).data.toList = t := by
      unfold asCut Lib.trimPrefix
      rw [if_pos hp, ← ht]
      simp
    have h4 := num_rdec 32 (by omega) (str t)
    rw [str_dat, e32] at h4
    unfold asR asNum
    rw [if_pos hp, h3, ← h4, h1, h2]
    by_cases hb : nuB 10 4294967295 (str t) = true
    · rw [if_pos hb, if_pos ⟨by omega, rfl, hb⟩]
    · rw [if_neg hb, if_neg (fun h => hb h.2.2)]
  · unfold asR asNum
    rw [if_neg hp, if_neg]
    rintro ⟨h1, h2, -⟩
    apply hp
    rw [ext_str] at h2
    have h3 : (s.data.toList.drop 0).take (2 - 0) = [65, 83] := by
      have := congrArg (fun x : ByteArray => x.data.toList) h2
      rw [str_dat] at this
      exact this
    unfold Lib.hasPrefix
    refine List.isPrefixOf_iff_prefix.2 ⟨s.data.toList.drop 2, ?_⟩
    rw [← h3]
    simp
/-! groups -/
theorem colN_forth (b lim : Nat) (hb : 2 ≤ b) (hb2 : b ≤ 16) : ∀ (ps : List (List UInt8)) (zs : List Nat), colN b lim ps = some zs → ps = zs.map (dg b) ∧ ∀ z ∈ zs, z ≤ lim
  | [], zs, h => by
    have e : [] = zs := Option.some.inj h
    subst e
    exact ⟨rfl, by simp⟩
  | p :: ps, zs, h => by
    rw [colN] at h
    split at h
    · rename_i hq
      cases hr : colN b lim ps with
      | none => rw [hr] at h; cases h
      | some ys =>
        rw [hr] at h
        have e : nuV b (str p) :: ys = zs := Option.some.inj h
        subst e
        obtain ⟨e1, e2⟩ := colN_forth b lim hb hb2 ps ys hr
        unfold nuB at hq
        simp only [Bool.and_eq_true, decide_eq_true_eq] at hq
        obtain ⟨v, hv⟩ := Option.isSome_iff_exists.1 hq.1
        have h4 : nuV b (str p) = v := by unfold nuV; rw [hv]; rfl
        rw [str_dat] at hv
        refine ⟨?_, fun z hz => ?_⟩
        · rw [List.map_cons, h4, (numR_some hb hb2 hv).1, ← e1]
        · rcases List.mem_cons.1 hz with rfl | hz
          · exact hq.2
          · exact e2 z hz
    · cases h
theorem colN_back (b lim : Nat) (hb : 2 ≤ b) (hb2 : b ≤ 16) (h1 : lim < b ^ 10) (h2 : lim < 2 ^ 64) : ∀ zs : List Nat, (∀ z ∈ zs, z ≤ lim) → colN b lim (zs.map (dg b)) = some zs
  | [], _ => rfl
  | z :: zs, h => by
    have hz := h z (by simp)
    have hn : numR b (dg b z) = some z := numR_dg b z hb hb2 (Nat.lt_of_le_of_lt hz h1) (Nat.lt_of_le_of_lt hz h2)
    have hv : nuV b (str (dg b z)) = z := by unfold nuV; rw [str_dat, hn]; rfl
    have hq : nuB b lim (str (dg b z)) = true := by
      unfold nuB
      rw [hv, str_dat, hn]
      simp [hz]
    rw [List.map_cons, colN, if_pos hq, colN_back b lim hb hb2 h1 h2 zs (fun y hy => h y (by simp [hy])), hv]
    rfl
theorem join_splitL (c : UInt8) : ∀ (n : Nat) (l : List UInt8), l.length ≤ n → Lib.join (splitL c l) [c] = l := by
  intro n
  induction n with
  | zero =>
    intro l hn
    obtain rfl : l = [] := List.length_eq_zero_iff.1 (by omega)
    rfl
  | succ n ih =>
    intro l hn
    rcases head_c c l with h | ⟨h, r, rfl, hh⟩
    · rw [splitL_all c l h]
      simp [Lib.join]
    · rw [splitL_app c r h hh]
      have ih2 := ih r (by simp at hn; omega)
      cases hs : splitL c r with
      | nil => exact absurd hs (splitL_ne c r)
      | cons x xs =>
        rw [hs] at ih2
        have e : Lib.join (h :: x :: xs) [c] = h ++ [c] ++ Lib.join (x :: xs) [c] := by
          simp [Lib.join, List.intercalate_cons_cons]
        rw [e, ih2]
        simp
theorem grR_col (zs : List Nat) (h : ∀ y ∈ zs, y < 65536) : grR 16 65535 58 (str (colS zs)) = some zs := by
  unfold grR
  rw [str_dat]
  cases zs with
  | nil => rw [if_pos (by simp [colS, Go.Lib.join])]
  | cons z zs =>
    have h1 := (hex4_not z (h z (by simp))).1
    have hne : ¬ colS (z :: zs) = [] := by
      cases zs with
      | nil => simpa [colS, Go.Lib.join, List.intercalate] using h1
      | cons y r => simp [colS, Go.Lib.join, List.intercalate_cons_cons]
    rw [if_neg hne]
    have e : splitL 58 (colS (z :: zs)) = (z :: zs).map (dg 16) := by
      unfold colS
      rw [List.map_cons, splitL_join 58 _ _ (fun y hy => ?_), ← List.map_cons]
      · apply List.map_congr_left
        intro a ha
        exact (dg_hex4 a (h a ha)).symm
      · rw [← List.map_cons, List.mem_map] at hy
        obtain ⟨a, ha, rfl⟩ := hy
        intro hm
        exact ((hex4_not a (h a ha)).2 58 hm).1 rfl
    rw [e]
    exact colN_back 16 65535 (by omega) (by omega) (by decide) (by decide) _ (fun y hy => by have := h y hy; omega)
/-- what the reference reads of four groups -/
def rat4 (s : ByteArray) : Option Nat :=
  match grR 10 255 46 s with
  | some [a, b, c, d] => some (((a * 256 + b) * 256 + c) * 256 + d)
  | _ => none
theorem rat4_forth {s : ByteArray} {L : Nat} (h : rat4 s = some L) : fourS L = s.data.toList ∧ L < 4294967296 := by
  unfold rat4 at h
  split at h
  · rename_i a b c d hg
    have e := (Option.some.inj h).symm
    subst e
    unfold grR at hg
    split at hg
    · cases hg
    · obtain ⟨e1, e2⟩ := colN_forth 10 255 (by omega) (by omega) _ _ hg
      have ha := e2 a (by simp)
      have hb := e2 b (by simp)
      have hc := e2 c (by simp)
      have hd := e2 d (by simp)
      have e3 := join_splitL 46 _ s.data.toList (Nat.le_refl _)
      rw [e1] at e3
      simp only [List.map_cons, List.map_nil] at e3
      rw [dg_dec a (by omega), dg_dec b (by omega), dg_dec c (by omega), dg_dec d (by omega)] at e3
      refine ⟨?_, by omega⟩
      unfold fourS byteAt
      simp only [Nat.sub_zero, Nat.reduceSub, Nat.reduceMul, Nat.reducePow, Nat.sub_self]
      rw [← e3]
      have k0 : (((a * 256 + b) * 256 + c) * 256 + d) / 16777216 % 256 = a := by omega
      have k1 : (((a * 256 + b) * 256 + c) * 256 + d) / 65536 % 256 = b := by omega
      have k2 : (((a * 256 + b) * 256 + c) * 256 + d) / 256 % 256 = c := by omega
      have k3 : (((a * 256 + b) * 256 + c) * 256 + d) / 1 % 256 = d := by omega
      rw [k0, k1, k2, k3]
  · cases h
theorem rat4_back (L : Nat) (h : L < 4294967296) : rat4 (str (fourS L)) = some L := by
  have hb : ∀ k, byteAt L k < 256 := fun k => Nat.mod_lt _ (by decide)
  have hp : splitL 46 (fourS L) = [byteAt L 0, byteAt L 1, byteAt L 2, byteAt L 3].map (dg 10) := by
    unfold fourS
    rw [splitL_join 46 _ _ (fun y hy => ?_)]
    · simp only [List.map_cons, List.map_nil]
      rw [dg_dec _ (by have := hb 0; omega), dg_dec _ (by have := hb 1; omega), dg_dec _ (by have := hb 2; omega), dg_dec _ (by have := hb 3; omega)]
    · simp only [List.mem_cons, List.not_mem_nil, or_false] at hy
      rcases hy with rfl | rfl | rfl | rfl <;> exact dec_not _ 46 (Or.inl (by decide))
  have hg : grR 10 255 46 (str (fourS L)) = some [byteAt L 0, byteAt L 1, byteAt L 2, byteAt L 3] := by
    unfold grR
    rw [str_dat, if_neg, hp]
    · refine colN_back 10 255 (by omega) (by omega) (by decide) (by decide) _ (fun y hy => ?_)
      simp only [List.mem_cons, List.not_mem_nil, or_false] at hy
      rcases hy with rfl | rfl | rfl | rfl
      · have := hb 0; omega
      · have := hb 1; omega
      · have := hb 2; omega
      · have := hb 3; omega
    · intro h0
      rw [h0] at hp
      have := congrArg List.length hp
      simp [splitL] at this
  unfold rat4
  rw [hg]
  simp only
  congr 1
  unfold byteAt
  simp only [Nat.sub_zero, Nat.reduceSub, Nat.reduceMul, Nat.reducePow, Nat.sub_self]
  omega
/-- what it reads of eight -/
def rsixL (s : ByteArray) : Option (List Nat) :=
  if cut6F s = true then
    match grR 16 65535 58 (cut6A s), grR 16 65535 58 (cut6B s) with
    | some a, some b => some (fill8 a b)
    | _, _ => none
  else grR 16 65535 58 s
theorem rsixL_back (zs : List Nat) (hl : zs.length = 8) (h : ∀ y ∈ zs, y < 65536) : rsixL (str (sixS zs)) = some zs := by
  obtain ⟨f, hf⟩ : ∃ f, lzFrom (fun j => zs.getD j 0 == 0) = f := ⟨_, rfl⟩
  obtain ⟨t, ht⟩ : ∃ t, lzTo (fun j => zs.getD j 0 == 0) = t := ⟨_, rfl⟩
  have hsix := sixR_six zs hl h
  have hdat : (str (sixS zs)).data.toList = sixS zs := by simp [str]
  unfold sixR cut6A cut6B cut6F at hsix
  unfold rsixL cut6A cut6B cut6F
  rw [hdat] at hsix ⊢
  unfold sixS at hsix ⊢
  rw [hf, ht] at hsix ⊢
  by_cases e : f = t
  · rw [if_pos e]
    have hi := index_nc _ (ncc_col zs h).1
    have hc : Go.Lib.cut (colS zs) [58, 58] = (colS zs, [], false) := by
      unfold Go.Lib.cut
      rw [hi, if_neg (by omega)]
    rw [hc, if_neg (by simp)]
    exact grR_col zs h
  · rw [if_neg e] at hsix ⊢
    have ha : ∀ y ∈ zs.take f, y < 65536 := fun y hy => h y (List.mem_of_mem_take hy)
    have hb : ∀ y ∈ zs.drop t, y < 65536 := fun y hy => h y (List.mem_of_mem_drop hy)
    have hi := index_cc (colS (zs.take f)) (colS (zs.drop t)) (ncc_col _ ha).1
    have hc : Go.Lib.cut (colS (zs.take f) ++ [58, 58] ++ colS (zs.drop t)) [58, 58] = (colS (zs.take f), colS (zs.drop t), true) := by
      rw [show colS (zs.take f) ++ [58, 58] ++ colS (zs.drop t) = colS (zs.take f) ++ 58 :: 58 :: colS (zs.drop t) by simp]
      unfold Go.Lib.cut
      rw [hi, if_pos (by omega)]
      have e1 : (((colS (zs.take f)).length : Nat) : Int).toNat = (colS (zs.take f)).length := by omega
      rw [e1, List.take_left]
      rw [show colS (zs.take f) ++ 58 :: 58 :: colS (zs.drop t) = (colS (zs.take f) ++ [58, 58]) ++ colS (zs.drop t) by simp]
      rw [show (colS (zs.take f)).length + ([58, 58] : List UInt8).length = (colS (zs.take f) ++ [58, 58]).length by simp, List.drop_left]
    rw [hc] at hsix ⊢
    have g1 : grpR ⟨(colS (zs.take f)).toArray⟩ = some (zs.take f) := grpR_col _ ha
    have g2 : grpR ⟨(colS (zs.drop t)).toArray⟩ = some (zs.drop t) := grpR_col _ hb
    have r1 : grR 16 65535 58 ⟨(colS (zs.take f)).toArray⟩ = some (zs.take f) := grR_col _ ha
    have r2 : grR 16 65535 58 ⟨(colS (zs.drop t)).toArray⟩ = some (zs.drop t) := grR_col _ hb
    simp only at hsix ⊢
    rw [g1, g2] at hsix
    rw [if_pos trivial, r1, r2]
    simp only at hsix ⊢
    split at hsix
    · cases hsix
    · exact hsix
theorem grR_le {b lim : Nat} (hb : 2 ≤ b) (hb2 : b ≤ 16) {c : UInt8} {s : ByteArray} {l : List Nat} (h : grR b lim c s = some l) : ∀ z ∈ l, z ≤ lim := by
  unfold grR at h
  split at h
  · have e : [] = l := Option.some.inj h
    subst e
    simp
  · exact (colN_forth b lim hb hb2 _ _ h).2
theorem rsixL_le {s : ByteArray} {g : List Nat} (h : rsixL s = some g) : ∀ z ∈ g, z < 65536 := by
  unfold rsixL at h
  split at h
  · split at h
    · rename_i a b h1 h2
      have e := Option.some.inj h
      subst e
      exact fill8_le (fun z hz => by have := grR_le (by omega) (by omega) h1 z hz; omega) (fun z hz => by have := grR_le (by omega) (by omega) h2 z hz; omega)
    · cases h
  · exact fun z hz => by have := grR_le (by omega) (by omega) h z hz; omega
def rat6 (s : ByteArray) : Option (Nat × Nat) :=
  match rsixL s with
  | some g => if g.length = 8 ∧ addrS 6 (uni (fun j => g.getD j 0) 4) (uni (fun j => g.getD (4 + j) 0) 4) = s.data.toList then some (uni (fun j => g.getD j 0) 4, uni (fun j => g.getD (4 + j) 0) 4) else none
  | none => none
theorem rat6_forth {s : ByteArray} {H L : Nat} (h : rat6 s = some (H, L)) : addrS 6 H L = s.data.toList ∧ H < 18446744073709551616 ∧ L < 18446744073709551616 := by
  unfold rat6 at h
  split at h
  · rename_i g hg
    split at h
    · rename_i hc
      have e := Option.some.inj h
      have e1 : uni (fun j => g.getD j 0) 4 = H := congrArg Prod.fst e
      have e2 : uni (fun j => g.getD (4 + j) 0) 4 = L := congrArg Prod.snd e
      have hv := six_vals g (rsixL_le hg)
      have b1 := uni_lt (fun j => g.getD j 0) hv 4
      have b2 := uni_lt (fun j => g.getD (4 + j) 0) (fun j => hv (4 + j)) 4
      rw [e1] at b1
      rw [e2] at b2
      rw [e1, e2] at hc
      exact ⟨hc.2, by simpa using b1, by simpa using b2⟩
    · cases h
  · cases h
theorem rat6_back (H L : Nat) (hH : H < 18446744073709551616) (hL : L < 18446744073709551616) : rat6 (str (sixS (gs H L))) = some (H, L) := by
  unfold rat6
  rw [rsixL_back (gs H L) rfl (gs_lt H L)]
  obtain ⟨u1, u2⟩ := uni_gs H L hH hL
  simp only
  rw [u1, u2, str_dat, if_pos ⟨rfl, rfl⟩]
/-- what the reference reads of an address -/
def rapR (s : ByteArray) : Option (Nat × Nat × Nat) :=
  if 100 < s.size then none else
    match rat4 s with
    | some L => some (4, 0, L)
    | none => (rat6 s).map fun p => (6, p.1, p.2)
theorem rapR_ap {s : ByteArray} {p : Nat × Nat × Nat} (h : rapR s = some p) : apR s = some p := by
  unfold rapR at h
  split at h
  · cases h
  · split at h
    · rename_i L h4
      have e := Option.some.inj h
      subst e
      obtain ⟨h1, h2⟩ := rat4_forth h4
      have h3 := ap_four L h2
      rw [h1, str_list] at h3
      exact h3
    · cases h6 : rat6 s with
      | none => rw [h6] at h; cases h
      | some q =>
        obtain ⟨H, L⟩ := q
        rw [h6] at h
        have e : (6, H, L) = p := Option.some.inj h
        subst e
        obtain ⟨h1, h2, h3⟩ := rat6_forth h6
        have h5 := ap_six H L h2 h3
        rw [show sixS (gs H L) = addrS 6 H L from rfl, h1, str_list] at h5
        exact h5
theorem ap_rapR {s : ByteArray} {p : Nat × Nat × Nat} (h : apR s = some p) : rapR s = some p := by
  unfold apR at h
  split at h
  · cases h
  · rename_i h39
    unfold rapR
    rw [if_neg (by omega)]
    split at h
    · rename_i hcol
      cases h6 : addr6 s with
      | none => rw [h6] at h; cases h
      | some q =>
        obtain ⟨H, L⟩ := q
        rw [h6] at h
        have e : (6, H, L) = p := Option.some.inj h
        subst e
        obtain ⟨h1, h2, h3⟩ := addr6_forth h6
        have h5 := rat6_back H L h2 h3
        rw [show sixS (gs H L) = addrS 6 H L from rfl, h1, str_list] at h5
        cases h4 : rat4 s with
        | some M =>
          exfalso
          obtain ⟨k1, -⟩ := rat4_forth h4
          have k2 := sixS_colon (gs H L) rfl
          rw [show sixS (gs H L) = addrS 6 H L from rfl, h1, ← k1] at k2
          have k3 := fourS_bytes M 58 k2
          revert k3
          decide
        | none =>
          simp only
          rw [h5]
          rfl
    · cases h4 : addr4 s with
      | none => rw [h4] at h; cases h
      | some L =>
        rw [h4] at h
        have e : (4, 0, L) = p := Option.some.inj h
        subst e
        obtain ⟨h1, h2⟩ := addr4_forth h4
        have h5 := rat4_back L h2
        rw [h1, str_list] at h5
        rw [h5]
theorem rapR_eq (s : ByteArray) : rapR s = apR s := by
  cases h1 : rapR s with
  | some p => exact (rapR_ap h1).symm
  | none =>
    cases h2 : apR s with
    | none => rfl
    | some p =>
      have := ap_rapR h2
      rw [h1] at this
      cases this
end Go.Proofs.YtlikgfmcialepaaGreatDoor
