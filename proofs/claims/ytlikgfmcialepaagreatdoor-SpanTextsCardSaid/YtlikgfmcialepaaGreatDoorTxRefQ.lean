/-
  THE WALKS over the texts of the reference of layer 1: Parse answers as the program's at every string.
-/
import Derived.Test.YtlikgfmcialepaaGreatDoorTxRefN
namespace Go.Proofs.YtlikgfmcialepaaGreatDoor
open Go.RowKit Adr
set_option linter.unusedVariables false
set_option linter.unusedSimpArgs false
theorem str_beq (l : List UInt8) (s : ByteArray) : ((str l).toList == s.toList) = decide (l = s.data.toList) := by
  rw [ByteArray.toList_eq, ByteArray.toList_eq, str_dat]
  by_cases h : l = s.data.toList
  · rw [decide_eq_true h, beq_iff_eq]; exact h
  · rw [decide_eq_false h]; exact beq_eq_false_iff_ne.2 h
/-- AddrParse's answer, out of what is read -/
def ApAns (s : ByteArray) (o : Option (Nat × Nat × Nat)) : Prop := ∀ w : World, Calls Tryz.prog 8 #[.string s] w fun e w' => e = .returned (.tuple #[.int .u8 (((o.map (·.1)).getD 0 : Nat) : Int), .agg #[.int .u64 (((o.map (·.2.1)).getD 0 : Nat) : Int), .int .u64 (((o.map (·.2.2)).getD 0 : Nat) : Int)], .int .i64 (if o.isSome = true then 0 else 12)]) ∧ Below w.heap.size w w'
theorem colN_len {b lim : Nat} : ∀ (ps : List (List UInt8)) (zs : List Nat), colN b lim ps = some zs → zs.length = ps.length
  | [], zs, h => by
    have e : [] = zs := Option.some.inj h
    subst e; rfl
  | p :: ps, zs, h => by
    rw [colN] at h
    split at h
    · cases hr : colN b lim ps with
      | none => rw [hr] at h; cases h
      | some ys =>
        rw [hr] at h
        have e : nuV b (str p) :: ys = zs := Option.some.inj h
        subst e
        simp [colN_len ps ys hr]
    · cases h
theorem grR_len {b lim : Nat} {c : UInt8} {s : ByteArray} {l : List Nat} (h : grR b lim c s = some l) : l.length ≤ s.size + 1 := by
  unfold grR at h
  split at h
  · have e : [] = l := Option.some.inj h
    subst e; simp
  · rw [colN_len _ _ h, splitL_len]
    have h1 : s.data.toList.count c ≤ s.data.toList.length := List.count_le_length
    have h2 : s.data.toList.length = s.size := by simp
    omega
theorem grR_lenD (b lim : Nat) (c : UInt8) (s : ByteArray) : ((grR b lim c s).getD []).length ≤ s.size + 1 := by
  cases h : grR b lim c s with
  | none => simp
  | some l => exact grR_len h
/-- groups that are no four -/
theorem four_not {s : ByteArray} (hs : s.size ≤ 100) (h4 : rat4 s = none) : ∃ ok : Bool, ∀ w, Calls Tryz.prog 33 #[.string s, .int .u8 46, .int .u64 10, .int .u64 255] w fun e w' => ∃ p n cap, e = .returned (.tuple #[.slice p n cap, .bool ok]) ∧ (ok = true → ((n : Int) == 4) = false) ∧ Below w.heap.size w w' := by
  rcases rat4_none h4 with hn | ⟨l, hl, hne⟩
  · refine ⟨false, fun w => ?_⟩
    have h := groups_any s 46 10 255 (by omega) (by omega) (by omega) (by omega) w
    rw [hn] at h
    exact h.mono fun e w' ⟨v, h1, h2, h3, h4⟩ => ⟨none, 0, 0, by rw [h1, h3 rfl]; rfl, fun h => (by cases h), h4⟩
  · refine ⟨true, fun w => ?_⟩
    have h := groups_any s 46 10 255 (by omega) (by omega) (by omega) (by omega) w
    rw [hl] at h
    refine h.mono fun e w' ⟨v, h1, h2, h3, h4⟩ => ?_
    obtain ⟨p, cap, rfl, _⟩ := own_shape h2
    refine ⟨p, _, cap, h1, fun _ => ?_, h4⟩
    show ((l.length : Int) == 4) = false
    rw [beq_eq_false_iff_ne]
    omega
/-- eight groups: their numbers -/
theorem rat6_eight {s : ByteArray} {a b c d e f i j : Nat} (h : rsixL s = some [a, b, c, d, e, f, i, j]) :
    rat6 s = if addrS 6 (((a * 65536 + b) * 65536 + c) * 65536 + d) (((e * 65536 + f) * 65536 + i) * 65536 + j) = s.data.toList then some (((a * 65536 + b) * 65536 + c) * 65536 + d, ((e * 65536 + f) * 65536 + i) * 65536 + j) else none := by
  unfold rat6
  rw [h]
  obtain ⟨u1, u2⟩ := uni_eight a b c d e f i j
  simp only [u1, u2, List.length_cons, List.length_nil, true_and]
theorem rat6_not {s : ByteArray} (h : ∀ g, rsixL s = some g → g.length ≠ 8) : rat6 s = none := by
  unfold rat6
  cases hg : rsixL s with
  | none => rfl
  | some g => simp only [h g hg, false_and, if_false]
theorem len_ne {g : List Nat} (h : g.length ≠ 8) : ((g.length : Int) == 8) = false := by
  rw [beq_eq_false_iff_ne]; omega
/-- the reference's AddrParse at every string -/
theorem rap_any (s : ByteArray) : ApAns s (rapR s) := by
  intro w
  unfold rapR
  by_cases h100 : 100 < s.size
  · rw [if_pos h100]
    exact rap_long s h100 w
  · rw [if_neg h100]
    have hs : s.size ≤ 100 := by omega
    cases h4 : rat4 s with
    | some L =>
      obtain ⟨a, b, c, d, hg, hL⟩ := rat4_some h4
      have h := rap_four s hs a b c d hg w
      rw [hL] at h
      exact h
    | none =>
      obtain ⟨ok, hok⟩ := four_not hs h4
      by_cases hi : Lib.index s.data.toList [58, 58] = -1
      · obtain ⟨hf, h6⟩ := cut6_none hi
        cases hg : grR 16 65535 58 s with
        | none =>
          have hr : rat6 s = none := rat6_not (fun g h => by rw [h6, hg] at h; cases h)
          rw [hr]
          refine rap_nc_bad s hs hi ok false w hok (fun w => ?_)
          have h := groups_any s 58 16 65535 (by omega) (by omega) (by omega) (by omega) w
          rw [hg] at h
          exact h.mono fun e w' ⟨v, h1, h2, h3, h4⟩ => ⟨none, 0, 0, by rw [h1, h3 rfl]; rfl, fun h => (by cases h), h4⟩
        | some g =>
          rw [hg] at h6
          by_cases h8 : g.length = 8
          · obtain ⟨a, b, c, d, e, f, i, j, rfl⟩ := eight_of g h8
            have hr := rat6_eight h6
            have h := rap_nc_eight s hs hi ok a b c d e f i j hg w hok _ _ rfl rfl _ rfl _ (str_beq _ _)
            rw [hr]
            by_cases ht : addrS 6 (((a * 65536 + b) * 65536 + c) * 65536 + d) (((e * 65536 + f) * 65536 + i) * 65536 + j) = s.data.toList
            · rw [if_pos ht]
              rw [decide_eq_true ht] at h
              exact h
            · rw [if_neg ht]
              rw [decide_eq_false ht] at h
              exact h
          · have hr : rat6 s = none := rat6_not (fun g' h => by rw [h6] at h; cases h; exact h8)
            rw [hr]
            refine rap_nc_bad s hs hi ok true w hok (fun w => ?_)
            have h := groups_any s 58 16 65535 (by omega) (by omega) (by omega) (by omega) w
            rw [hg] at h
            refine h.mono fun e w' ⟨v, h1, h2, h3, h4⟩ => ?_
            obtain ⟨p, cap, rfl, _⟩ := own_shape h2
            exact ⟨p, _, cap, h1, fun _ => len_ne h8, h4⟩
      · have hge := Lib.index_ge s.data.toList [58, 58]
        obtain ⟨m, hm⟩ := Int.eq_ofNat_of_zero_le (show 0 ≤ Lib.index s.data.toList [58, 58] by omega)
        obtain ⟨hf, eA, eB, hm2⟩ := cut6_some hm
        have h6 : rsixL s = match grR 16 65535 58 (s.extract 0 m), grR 16 65535 58 (s.extract (m + 2) s.size) with
            | some a, some b => some (fill8 a b)
            | _, _ => none := by
          unfold rsixL
          rw [if_pos hf, eA, eB]
          cases grR 16 65535 58 (s.extract 0 m) <;> cases grR 16 65535 58 (s.extract (m + 2) s.size) <;> rfl
        have lA := grR_lenD 16 65535 58 (s.extract 0 m)
        have lB := grR_lenD 16 65535 58 (s.extract (m + 2) s.size)
        have sA : (s.extract 0 m).size ≤ 100 := by simp; omega
        have sB : (s.extract (m + 2) s.size).size ≤ 100 := by simp; omega
        have go := fun rf rH rL re h => rap_cc s hs m hm hm2 ok w hok (grR 16 65535 58 (s.extract 0 m)).isSome (grR 16 65535 58 (s.extract (m + 2) s.size)).isSome ((grR 16 65535 58 (s.extract 0 m)).getD []) ((grR 16 65535 58 (s.extract (m + 2) s.size)).getD []) _
          (fun w => (groups_any (s.extract 0 m) 58 16 65535 (by omega) (by omega) (by omega) (by omega) w).mono fun e w' ⟨v, h1, h2, h3, h4⟩ => ⟨v, h1, h2, h4⟩)
          (fun w => (groups_any (s.extract (m + 2) s.size) 58 16 65535 (by omega) (by omega) (by omega) (by omega) w).mono fun e w' ⟨v, h1, h2, h3, h4⟩ => ⟨v, h1, h2, h4⟩)
          (by omega) rfl rf rH rL re h
        cases hA : grR 16 65535 58 (s.extract 0 m) with
        | none =>
          rw [hA] at h6
          have hr : rat6 s = none := rat6_not (fun g h => by rw [h6] at h; cases h)
          rw [hr]
          rw [hA] at go
          exact go 0 0 0 12 (Or.inl ⟨Or.inl rfl, rfl, rfl, rfl, rfl⟩)
        | some la =>
          cases hB : grR 16 65535 58 (s.extract (m + 2) s.size) with
          | none =>
            rw [hA, hB] at h6
            have hr : rat6 s = none := rat6_not (fun g h => by rw [h6] at h; cases h)
            rw [hr]
            rw [hA, hB] at go
            exact go 0 0 0 12 (Or.inl ⟨Or.inl rfl, rfl, rfl, rfl, rfl⟩)
          | some lb =>
            rw [hA, hB] at h6
            rw [hA, hB] at go
            have h6' : rsixL s = some (fill8 la lb) := h6
            by_cases h8 : (fill8 la lb).length = 8
            · have hle := rsixL_le h6'
              obtain ⟨a, b, c, d, e, f, i, j, hz⟩ := eight_of _ h8
              rw [hz] at h6' hle
              have hr := rat6_eight h6'
              have hb : a ≤ 65535 ∧ b ≤ 65535 ∧ c ≤ 65535 ∧ d ≤ 65535 ∧ e ≤ 65535 ∧ f ≤ 65535 ∧ i ≤ 65535 ∧ j ≤ 65535 :=
                ⟨by have := hle a (by simp); omega, by have := hle b (by simp); omega, by have := hle c (by simp); omega, by have := hle d (by simp); omega, by have := hle e (by simp); omega, by have := hle f (by simp); omega, by have := hle i (by simp); omega, by have := hle j (by simp); omega⟩
              rw [hr]
              by_cases ht : addrS 6 (((a * 65536 + b) * 65536 + c) * 65536 + d) (((e * 65536 + f) * 65536 + i) * 65536 + j) = s.data.toList
              · rw [if_pos ht]
                refine go 6 _ _ 0 (Or.inr ⟨rfl, a, b, c, d, e, f, i, j, _, _, _, true, hz, hb, rfl, rfl, rfl, by rw [str_beq, decide_eq_true ht], fun _ => ⟨rfl, rfl, rfl, rfl⟩, fun h => (by cases h)⟩)
              · rw [if_neg ht]
                exact go 0 0 0 12 (Or.inr ⟨rfl, a, b, c, d, e, f, i, j, _, _, _, false, hz, hb, rfl, rfl, rfl, by rw [str_beq, decide_eq_false ht], fun h => (by cases h), fun _ => ⟨rfl, rfl, rfl, rfl⟩⟩)
            · have hr : rat6 s = none := rat6_not (fun g h => by rw [h6'] at h; cases h; exact h8)
              rw [hr]
              exact go 0 0 0 12 (Or.inl ⟨Or.inr ⟨rfl, len_ne h8⟩, rfl, rfl, rfl, rfl⟩)
/-- it answers as the program's -/
theorem rap_same (s : ByteArray) (w : World) : Calls Tryz.prog 8 #[.string s] w fun e w' => e = .returned (.tuple #[.int .u8 (apF s : Int), .agg #[.int .u64 (apH s : Int), .int .u64 (apL s : Int)], .int .i64 (apE s)]) ∧ Below w.heap.size w w' := by
  have h := rap_any s w
  rw [rapR_eq] at h
  exact h
end Go.Proofs.YtlikgfmcialepaaGreatDoor
namespace Go.Proofs.YtlikgfmcialepaaGreatDoor
open Go.RowKit Adr
set_option linter.unusedVariables false
set_option linter.unusedSimpArgs false
theorem own_cellsT {w : World} {base : Nat} {e : TypeId} {v : Value} {n : Nat} {xs : List Value} (h : w.ownsRow base e 1 v n xs) (hn : 0 < n) :
    ∃ g cap, v = .slice (some ⟨g, 0, none⟩) n cap ∧ base ≤ g ∧ g < w.heap.size ∧ n ≤ cap ∧ cap ≤ maxLen ∧ ∀ (j : Nat) x, xs[j]? = some x → w.cell? ⟨g, j, none⟩ = some x := by
  obtain ⟨hl, h | ⟨g, cap, cur, rfl, hb, hg, hnc, hcm, hcs, ht⟩⟩ := h
  · omega
  · have hlt : g < w.heap.size := (Array.getElem?_eq_some_iff.1 hg).1
    refine ⟨g, cap, rfl, hb, hlt, hnc, hcm, fun j x hj => ?_⟩
    have hjn : j < n * 1 := by have := (List.getElem?_eq_some_iff.1 hj).1; omega
    have h1 : cur.toList[j]? = some x := by
      have h2 : (cur.toList.take (n * 1))[j]? = cur.toList[j]? := by rw [List.getElem?_take]; rw [if_pos hjn]
      rw [← h2, ht]
      exact hj
    simp only [World.cell?, hg]
    simpa using h1
theorem pf_setT {B : Nat} {w : World} {f h l n f' h' l' n' : Int} (t : Pf4 B w f h l n) : Pf4 B ((((w.setCell ⟨B, 0, none⟩ (.int .u8 f')).setCell ⟨B, 1, none⟩ (.int .u64 h')).setCell ⟨B, 2, none⟩ (.int .u64 l')).setCell ⟨B, 3, none⟩ (.int .i64 n')) f' h' l' n' := by
  obtain ⟨a0, a1, a2, a3, f0, f1, f2, f3⟩ := t
  obtain ⟨b0, b1, b2, b3⟩ := four_set (v0 := .int .u8 f') (v1 := .int .u64 h') (v2 := .int .u64 l') (v3 := .int .i64 n') a0 a1 a2 a3
  exact ⟨b0, b1, b2, b3, by simpa using f0, by simpa using f1, by simpa using f2, by simpa using f3⟩
theorem four_belowT {n b : Nat} {u w : World} {v0 v1 v2 v3 : Value} (h : Below n u w) (hb : n ≤ b) : Below n u ((((w.setCell ⟨b, 0, none⟩ v0).setCell ⟨b, 1, none⟩ v1).setCell ⟨b, 2, none⟩ v2).setCell ⟨b, 3, none⟩ v3) := (((h.setCell hb _).setCell hb _).setCell hb _).setCell hb _
set_option maxRecDepth 100000 in
set_option maxHeartbeats 4000000 in
theorem rpa_parts (s : ByteArray) (hs : s.size ≤ 1000) (hl : ((splitL 47 s.data.toList).length : Int) ≠ 2) (w : World) :
    Calls Tryz.prog 12 #[.string s] w (PfxLeft 0 0 0 0 12 w) := by
  have HP := Lib.hid (fun w => rparts_any s 47 hs w)
  have hl2 : (((splitL 47 s.data.toList).length : Int) != 2) = true := by simpa using hl
  generalize splitL 47 s.data.toList = ps at HP hl2
  clear hl
  go_enter Tryz.func12, Tryz.ntmps12
  go_wp2_with fail
  have T0 := Lib.hid (Pf4.new w 0 0 0 0 26)
  have HB0 := Lib.hid (below_new w (.cells #[.int .u8 0, .int .u64 0, .int .u64 0, .int .i64 0] 26))
  refine (HP.out _).mono ?_
  rintro e1 w1 ⟨v1, rfl, hown, hb1⟩
  obtain ⟨p, cap, rfl, hc⟩ := own_shape hown
  have T1 := Lib.hid (T0.out.on hb1)
  have HB1 := Lib.hid (HB0.out.trans (hb1.mono HB0.out.size))
  clear hb1 T0 HB0 hown
  obtain ⟨a0, a1, a2, a3, f0, f1, f2, f3⟩ := T1.out
  go_wp2_with fail
  have A := pf_setT (f' := 0) (h' := 0) (l' := 0) (n' := 0) T1.out
  refine bodyPost_ret (v := .tuple #[.agg #[.int .u8 0, .int .u64 0, .int .u64 0, .int .i64 0], .int .i64 12]) (by simp [results, Tryz.results12, go_sem, A.a0, A.a1, A.a2, A.a3]) rfl ⟨rfl, four_belowT HB1.out (Nat.le_refl _)⟩
set_option maxRecDepth 100000 in
set_option maxHeartbeats 4000000 in
theorem rpa_two (s : ByteArray) (hs : s.size ≤ 1000) (a b : List UInt8) (hsp : splitL 47 s.data.toList = [a, b]) (f h l ec nv : Int) (nb : Bool) (w : World)
    (hap : ∀ w, Calls Tryz.prog 8 #[.string (str a)] w fun e w' => e = .returned (.tuple #[.int .u8 f, .agg #[.int .u64 h, .int .u64 l], .int .i64 ec]) ∧ Below w.heap.size w w')
    (hnu : ∀ w, Calls Tryz.prog 40 #[.string (str b), .int .u64 10, .int .u64 128] w fun e w' => e = .returned (.tuple #[.int .u64 nv, .bool nb]) ∧ w = w')
    (rf rh rl rn re : Int)
    (hk : ((ec != 0) = true ∨ ec = 0 ∧ nb = false) ∧ rf = 0 ∧ rh = 0 ∧ rl = 0 ∧ rn = 0 ∧ re = 12 ∨
      ec = 0 ∧ nb = true ∧ 0 ≤ nv ∧ nv ≤ 128 ∧ ∃ c, (∀ w, Calls Tryz.prog 36 #[.agg #[.int .u8 f, .int .u64 h, .int .u64 l, .int .i64 nv]] w fun e w' => e = .returned (.int .i64 c) ∧ Below w.heap.size w w') ∧
        ((c != 0) = true ∧ rf = 0 ∧ rh = 0 ∧ rl = 0 ∧ rn = 0 ∧ re = 12 ∨ c = 0 ∧ rf = f ∧ rh = h ∧ rl = l ∧ rn = nv ∧ re = 0)) :
    Calls Tryz.prog 12 #[.string s] w (PfxLeft rf rh rl rn re w) := by
  have HP : RowKit.Hid (∀ w, Calls Tryz.prog 39 #[.string s, .int .u8 47] w fun e w' => ∃ v, e = .returned v ∧ w'.ownsRow w.heap.size 9 1 v 2 (strsV [a, b]) ∧ Below w.heap.size w w') := Lib.hid (fun w => by
    have h := rparts_any s 47 hs w
    rw [hsp] at h
    exact h)
  have HA := Lib.hid hap
  have HN := Lib.hid hnu
  have HK := Lib.hid hk
  have HCELL : RowKit.Hid (∃ sa sb, sa = str a ∧ sb = str b ∧ strsV [a, b] = [Value.string sa, Value.string sb]) := Lib.hid ⟨_, _, rfl, rfl, rfl⟩
  clear hap hnu hk hsp
  obtain ⟨sa, sb, ea, eb, hcv⟩ := HCELL.out
  rw [← ea] at HA
  rw [← eb] at HN
  rw [hcv] at HP
  clear ea eb hcv HCELL
  go_enter Tryz.func12, Tryz.ntmps12
  go_wp2_with fail
  have T0 := Lib.hid (Pf4.new w 0 0 0 0 26)
  have HB0 := Lib.hid (below_new w (.cells #[.int .u8 0, .int .u64 0, .int .u64 0, .int .i64 0] 26))
  refine (HP.out _).mono ?_
  rintro e1 w1 ⟨v1, rfl, hown, hb1⟩
  obtain ⟨g, cap, rfl, hgb, hgl, hc2, hcm, hcells⟩ := own_cellsT hown (by omega)
  have c0 : w1.cell? ⟨g, 0, none⟩ = some (.string sa) := hcells 0 _ rfl
  have C1 : RowKit.Hid (w1.cell? ⟨g, 1, none⟩ = some (.string sb)) := Lib.hid (hcells 1 _ rfl)
  have T1 := Lib.hid (T0.out.on hb1)
  have HB1 := Lib.hid (HB0.out.trans (hb1.mono HB0.out.size))
  clear hb1 T0 HB0 hown hcells hgb hcm
  go_wp2_with fail
  refine (HA.out _).mono ?_
  rintro e2 w2 ⟨rfl, hb2⟩
  have T2 := Lib.hid (T1.out.on hb2)
  have HB2 := Lib.hid (HB1.out.trans (hb2.mono HB1.out.size))
  have C2 := Lib.hid ((hb2.cell (p := ⟨g, 1, none⟩) hgl).trans C1.out)
  have hgl2 : g < w2.heap.size := Nat.lt_of_lt_of_le hgl hb2.size
  clear hb2 T1 HB1 c0 C1 hgl
  go_upto_region 5 with fail
  obtain ⟨N, hN⟩ : ∃ N, w2.heap.size = N := ⟨_, rfl⟩
  generalize hv : World.alloc _ _ = v
  have T3 : RowKit.Hid (Pf4 w.heap.size v 0 0 0 0) := Lib.hid (by rw [← hv]; exact T2.out.on (below_new _ _))
  have A3 : RowKit.Hid (Ad2 N v h l) := Lib.hid (by rw [← hv, ← hN]; exact Ad2.new w2 h l _)
  have C3 : RowKit.Hid (v.cell? ⟨g, 1, none⟩ = some (.string sb)) := Lib.hid (by rw [← hv]; exact ((below_new w2 _).cell (p := ⟨g, 1, none⟩) hgl2).trans C2.out)
  have HB3 : RowKit.Hid (Below w.heap.size w v) := Lib.hid (by rw [← hv]; exact HB2.out.alloc HB2.out.size _)
  clear hv T2 HB2 C2 hgl2
  try rw [hN]
  clear hN
  have c1 := C3.out
  go_wp2_with fail
  refine (HN.out _).mono ?_
  rintro e3 w3 ⟨rfl, rfl⟩
  clear c1
  obtain ⟨a0, a1, _, _⟩ := A3.out
  rcases HK.out with ⟨hbad, rfl, rfl, rfl, rfl, rfl⟩ | ⟨rfl, rfl, n0, n1, c, hck, hc⟩
  · go_upto_region 7 with fail
    obtain ⟨M, hM⟩ : ∃ M, v.heap.size = M := ⟨_, rfl⟩
    generalize hv : World.alloc _ _ = v4
    have T4 : RowKit.Hid (Pf4 w.heap.size v4 0 0 0 0) := Lib.hid (by rw [← hv]; exact T3.out.on (below_new _ _))
    have HB4 : RowKit.Hid (Below w.heap.size w v4) := Lib.hid (by rw [← hv]; exact HB3.out.alloc HB3.out.size _)
    clear hv T3 HB3 a0 a1 A3 C3
    try rw [hM]
    clear hM
    obtain ⟨a0, a1, a2, a3, f0, f1, f2, f3⟩ := T4.out
    rcases hbad with hbad | ⟨rfl, rfl⟩
    all_goals
      go_wp2_with fail
      have A := pf_setT (f' := 0) (h' := 0) (l' := 0) (n' := 0) T4.out
      refine bodyPost_ret (v := .tuple #[.agg #[.int .u8 0, .int .u64 0, .int .u64 0, .int .i64 0], .int .i64 12]) (by simp [results, Tryz.results12, go_sem, A.a0, A.a1, A.a2, A.a3]) rfl ⟨rfl, four_belowT HB4.out (Nat.le_refl _)⟩
  · have HCK := Lib.hid hck
    have HC := Lib.hid hc
    clear hck hc HK
    go_upto_region 7 with fail
    obtain ⟨M, hM⟩ : ∃ M, v.heap.size = M := ⟨_, rfl⟩
    generalize hv : World.alloc _ _ = v4
    have T4 : RowKit.Hid (Pf4 w.heap.size v4 0 0 0 0) := Lib.hid (by rw [← hv]; exact T3.out.on (below_new _ _))
    have P4 : RowKit.Hid (Pf4 M v4 f h l nv) := Lib.hid (by rw [← hv, ← hM]; exact Pf4.new v f h l nv _)
    have HB4 : RowKit.Hid (Below w.heap.size w v4) := Lib.hid (by rw [← hv]; exact HB3.out.alloc HB3.out.size _)
    clear hv T3 HB3 a0 a1 A3 C3
    try rw [hM]
    clear hM
    obtain ⟨p0, p1, p2, p3, _, _, _, _⟩ := P4.out
    go_wp2_with fail
    refine (HCK.out _).mono ?_
    rintro e5 w5 ⟨rfl, hb5⟩
    have T5 := Lib.hid (T4.out.on hb5)
    have P5 := Lib.hid (P4.out.on hb5)
    have HB5 := Lib.hid (HB4.out.trans (hb5.mono HB4.out.size))
    clear hb5 T4 P4 HB4 p0 p1 p2 p3
    obtain ⟨a0, a1, a2, a3, f0, f1, f2, f3⟩ := T5.out
    obtain ⟨p0, p1, p2, p3, _, _, _, _⟩ := P5.out
    rcases HC.out with ⟨hc0, rfl, rfl, rfl, rfl, rfl⟩ | ⟨rfl, rfl, rfl, rfl, rfl, rfl⟩
    · go_wp2_with fail
      have A := pf_setT (f' := 0) (h' := 0) (l' := 0) (n' := 0) T5.out
      refine bodyPost_ret (v := .tuple #[.agg #[.int .u8 0, .int .u64 0, .int .u64 0, .int .i64 0], .int .i64 12]) (by simp [results, Tryz.results12, go_sem, A.a0, A.a1, A.a2, A.a3]) rfl ⟨rfl, four_belowT HB5.out (Nat.le_refl _)⟩
    · go_wp2_with fail
      have A := pf_setT (f' := rf) (h' := rh) (l' := rl) (n' := rn) T5.out
      refine bodyPost_ret (v := .tuple #[.agg #[.int .u8 rf, .int .u64 rh, .int .u64 rl, .int .i64 rn], .int .i64 0]) (by simp [results, Tryz.results12, go_sem, A.a0, A.a1, A.a2, A.a3]) rfl ⟨rfl, four_belowT HB5.out (Nat.le_refl _)⟩
end Go.Proofs.YtlikgfmcialepaaGreatDoor
namespace Go.Proofs.YtlikgfmcialepaaGreatDoor
open Go.RowKit Adr
set_option linter.unusedVariables false
set_option linter.unusedSimpArgs false
theorem cut_noneT {s : ByteArray} (h : (47 : UInt8) ∉ s.data.toList) : (cutB s).data.toList = [] := by
  unfold cutB Lib.cut
  rw [index_none 47 _ h, if_neg (by omega)]
theorem cut_someT {s : ByteArray} {h r : List UInt8} (e : s.data.toList = h ++ 47 :: r) (hn : (47 : UInt8) ∉ h) : cutA s = str h ∧ cutB s = str r := by
  have hi := index_one 47 h hn r
  unfold cutA cutB Lib.cut
  rw [e, hi, if_pos (by omega)]
  have e1 : ((h.length : Nat) : Int).toNat = h.length := by omega
  rw [e1]
  refine ⟨?_, ?_⟩
  · rw [List.take_left]; rfl
  · rw [show h ++ 47 :: r = (h ++ [47]) ++ r by simp, show h.length + ([47] : List UInt8).length = (h ++ [47]).length by simp, List.drop_left]
    rfl
theorem rdec_nil (B : Nat) : rdec B [] = none := by
  cases h : rdec B [] with
  | none => rfl
  | some u =>
    have := rdec_some h
    exact absurd this (dec_digit u).1
theorem rdec_slash {B : Nat} {l : List UInt8} (h : (47 : UInt8) ∈ l) : rdec B l = none := by
  cases hr : rdec B l with
  | none => rfl
  | some u =>
    have e := rdec_some hr
    rw [← e] at h
    exact absurd h (dec_not u 47 (Or.inl (by decide)))
theorem pa_noT {s : ByteArray} (h : rdec 8 (cutB s).data.toList = none) : paF s = 0 ∧ paH s = 0 ∧ paL s = 0 ∧ paN s = 0 ∧ paE s = 12 := by
  have hok : ¬ paOk s = true := by unfold paOk; rw [h]; simp
  unfold paF paH paL paN paE
  rw [if_neg hok, if_neg hok, if_neg hok, if_neg hok, if_neg hok]
  exact ⟨rfl, rfl, rfl, rfl, rfl⟩
theorem nub_rdec (p : ByteArray) : (nuB 10 128 p = true → rdec 8 p.data.toList = some (nuV 10 p) ∧ nuV 10 p ≤ 128) ∧ (nuB 10 128 p = false → rdec 8 p.data.toList = none ∨ ∃ n, rdec 8 p.data.toList = some n ∧ 128 < n) := by
  have h := num_rdec 8 (by omega) p
  have e : (2 : Nat) ^ 8 - 1 = 255 := by decide
  rw [e] at h
  rw [← h]
  unfold nuB
  cases hs : (numR 10 p.data.toList).isSome
  · simp
  · constructor
    · intro h1
      simp only [Bool.true_and, decide_eq_true_eq] at h1
      exact ⟨by rw [if_pos (by simp; omega)], h1⟩
    · intro h1
      simp only [Bool.true_and, decide_eq_false_iff_not] at h1
      by_cases h2 : nuV 10 p ≤ 255
      · right; exact ⟨nuV 10 p, by rw [if_pos (by simp; omega)], by omega⟩
      · left; rw [if_neg (by simp; omega)]
theorem chk_far {f h l n : Int} (hn : 128 < n) : ¬ chk f h l n = 0 := by
  intro h0
  cases h1 : ok f h l n
  · rcases chk_no0 f h l n h1 with e | e <;> rw [e] at h0 <;> omega
  · have := cutOk_of f h l n h1
    have := wid_hi f
    omega
theorem split_threeT {r : List UInt8} (h : (47 : UInt8) ∈ r) : 2 ≤ (splitL 47 r).length := by
  rw [splitL_len]
  have := List.count_pos_iff.2 h
  omega
theorem pa_badT {s : ByteArray} (h : paOk s = false) : paF s = 0 ∧ paH s = 0 ∧ paL s = 0 ∧ paN s = 0 ∧ paE s = 12 := by
  have hok : ¬ paOk s = true := by rw [h]; simp
  unfold paF paH paL paN paE
  rw [if_neg hok, if_neg hok, if_neg hok, if_neg hok, if_neg hok]
  exact ⟨rfl, rfl, rfl, rfl, rfl⟩
/-- the reference's Parse answers as the program's -/
theorem rpa_same (s : ByteArray) (hs : s.size ≤ 1000) (w : World) :
    Calls Tryz.prog 12 #[.string s] w (PfxLeft (paF s : Int) (paH s : Int) (paL s : Int) (paN s : Int) (paE s) w) := by
  have bad : rdec 8 (cutB s).data.toList = none → ((splitL 47 s.data.toList).length : Int) ≠ 2 → Calls Tryz.prog 12 #[.string s] w (PfxLeft (paF s : Int) (paH s : Int) (paL s : Int) (paN s : Int) (paE s) w) := by
    intro h1 h2
    obtain ⟨e1, e2, e3, e4, e5⟩ := pa_noT h1
    rw [e1, e2, e3, e4, e5]
    exact rpa_parts s hs h2 w
  rcases head_c 47 s.data.toList with hn | ⟨h, r, e, hn⟩
  · refine bad (by rw [cut_noneT hn]; exact rdec_nil 8) ?_
    rw [splitL_all 47 _ hn]
    simp
  · obtain ⟨ca, cb⟩ := cut_someT e hn
    have hsp : splitL 47 s.data.toList = h :: splitL 47 r := by rw [e]; exact splitL_app 47 r h hn
    by_cases hr : (47 : UInt8) ∈ r
    · refine bad (by rw [cb, str_dat]; exact rdec_slash hr) ?_
      rw [hsp]
      have := split_threeT hr
      simp only [List.length_cons]
      omega
    · rw [splitL_all 47 r hr] at hsp
      have hsz : (str r).size ≤ 1000 := by
        have h1 := cut_small s
        rw [cb] at h1
        omega
      have hnu := fun w => number_any (str r) 10 128 (by omega) (by omega) (by omega) hsz w
      have hap := fun w => rap_same (str h) w
      obtain ⟨u1, u2⟩ := ap_u64 (str h)
      obtain ⟨k1, k2⟩ := nub_rdec (str r)
      refine rpa_two s hs h r hsp _ _ _ _ _ _ w hap hnu _ _ _ _ _ ?_
      by_cases hec : apE (str h) = 0
      · cases hb : nuB 10 128 (str r)
        · left
          have hok : paOk s = false := by
            unfold paOk
            rw [ca, cb]
            rcases k2 hb with h1 | ⟨n, h1, h2⟩
            · rw [h1]; simp
            · rw [h1]
              have : (chk (apF (str h)) (apH (str h)) (apL (str h)) (((some n).getD 0 : Nat) : Int) == 0) = false := by
                rw [beq_eq_false_iff_ne]
                exact chk_far (by simp; omega)
              rw [this]; simp
          obtain ⟨e1, e2, e3, e4, e5⟩ := pa_badT hok
          rw [e1, e2, e3, e4, e5]
          exact ⟨Or.inr ⟨hec, rfl⟩, rfl, rfl, rfl, rfl, rfl⟩
        · right
          obtain ⟨h1, h2⟩ := k1 hb
          refine ⟨hec, rfl, by omega, by omega, chk (apF (str h)) (apH (str h)) (apL (str h)) (nuV 10 (str r) : Nat), fun w => rchk_any _ _ _ _ w ⟨by omega, by omega⟩ ⟨by omega, by omega⟩, ?_⟩
          by_cases hc : chk (apF (str h)) (apH (str h)) (apL (str h)) (nuV 10 (str r) : Nat) = 0
          · right
            have hok : paOk s = true := by
              unfold paOk
              rw [ca, cb, h1, hec]
              simp only [Option.isSome_some, Option.getD_some, hc]
              rfl
            unfold paF paH paL paN paE
            rw [if_pos hok, if_pos hok, if_pos hok, if_pos hok, if_pos hok, ca, cb, h1]
            exact ⟨hc, rfl, rfl, rfl, rfl, rfl⟩
          · left
            have hok : paOk s = false := by
              unfold paOk
              rw [ca, cb, h1]
              have : (chk (apF (str h)) (apH (str h)) (apL (str h)) (((some (nuV 10 (str r))).getD 0 : Nat) : Int) == 0) = false := by
                rw [beq_eq_false_iff_ne]; exact hc
              rw [this]; simp
            obtain ⟨e1, e2, e3, e4, e5⟩ := pa_badT hok
            rw [e1, e2, e3, e4, e5]
            exact ⟨by simpa using hc, rfl, rfl, rfl, rfl, rfl⟩
      · left
        have hok : paOk s = false := by
          unfold paOk
          rw [ca]
          have : (apE (str h) == 0) = false := by rw [beq_eq_false_iff_ne]; exact hec
          rw [this]; simp
        obtain ⟨e1, e2, e3, e4, e5⟩ := pa_badT hok
        rw [e1, e2, e3, e4, e5]
        exact ⟨Or.inl (by simpa using hec), rfl, rfl, rfl, rfl, rfl⟩
end Go.Proofs.YtlikgfmcialepaaGreatDoor
