/-
  THE WALKS over the texts of the reference of layer 1: groups of a string; numbers of systems, read.
-/
import Derived.Test.YtlikgfmcialepaaGreatDoorTxRefF
namespace Go.Proofs.YtlikgfmcialepaaGreatDoor
open Go.RowKit Adr
set_option linter.unusedVariables false
set_option linter.unusedSimpArgs false
def colN (b lim : Nat) : List (List UInt8) → Option (List Nat)
  | [] => some []
  | p :: ps => if nuB b lim (str p) = true then (colN b lim ps).map (nuV b (str p) :: ·) else none
/-- what the reference reads of groups -/
def grR (b lim : Nat) (c : UInt8) (s : ByteArray) : Option (List Nat) := if s.data.toList = [] then some [] else colN b lim (splitL c s.data.toList)
theorem split_small (c : UInt8) (s : ByteArray) : ∀ p ∈ splitL c s.data.toList, (str p).size ≤ s.size := by
  intro p hp
  rw [← parts_data] at hp
  obtain ⟨q, hq, rfl⟩ := List.mem_map.1 hp
  rw [str_size]
  have h1 := parts_small c s q hq
  have h2 : q.data.toList.length = q.size := by simp
  omega
theorem split_many (c : UInt8) (s : ByteArray) : (splitL c s.data.toList).length ≤ s.size + 1 ∧ 0 < (splitL c s.data.toList).length := by
  rw [splitL_len]
  have h1 : s.data.toList.count c ≤ s.data.toList.length := List.count_le_length
  have h2 : s.data.toList.length = s.size := by simp
  omega
def u64sV (zs : List Nat) : List Value := zs.map fun z : Nat => Value.int .u64 (z : Int)
theorem u64sV_snoc (zs : List Nat) (z : Nat) : u64sV (zs ++ [z]) = u64sV zs ++ [.int .u64 (z : Int)] := by
  unfold u64sV
  rw [List.map_append]
  rfl
theorem colN_step (b lim : Nat) (ps : List (List UInt8)) (k : Nat) (p : List UInt8) (h : ps[k]? = some p) : colN b lim (ps.drop k) = if nuB b lim (str p) = true then (colN b lim (ps.drop (k + 1))).map (nuV b (str p) :: ·) else none := by
  obtain ⟨hk, hp⟩ := List.getElem?_eq_some_iff.1 h
  rw [List.drop_eq_getElem_cons hk, hp]
  rfl
/-- a row of strings of the call's own, opened -/
theorem own_strV {w : World} {base : Nat} {e : TypeId} {v : Value} {n : Nat} {xs : List (List UInt8)} (h : w.ownsRow base e 1 v n (strsV xs)) (hn : 0 < n) :
    ∃ g cap, v = .slice (some ⟨g, 0, none⟩) n cap ∧ n ≤ cap ∧ cap ≤ maxLen ∧ g < w.heap.size ∧ (∀ j p, xs[j]? = some p → w.cell? ⟨g, j, none⟩ = some (.string (str p))) := by
  obtain ⟨hl, h | ⟨g, cap, cur, rfl, hb, hg, hnc, hcm, hcs, ht⟩⟩ := h
  · omega
  · refine ⟨g, cap, rfl, hnc, hcm, (Array.getElem?_eq_some_iff.1 hg).1, fun j p hj => ?_⟩
    have hjn : j < n := by
      have := (List.getElem?_eq_some_iff.1 hj).1
      unfold strsV at hl
      simp at hl
      omega
    have h1 : cur.toList[j]? = some (.string (str p)) := by
      have h2 : (cur.toList.take (n * 1))[j]? = cur.toList[j]? := by rw [List.getElem?_take]; rw [if_pos (by omega)]
      rw [← h2, ht]
      unfold strsV
      rw [List.getElem?_map, hj]
      rfl
    simp only [World.cell?, hg]
    simpa using h1
theorem owns_mono2 {w : World} {base base' : Nat} {e : TypeId} {size n : Nat} {v : Value} {xs : List Value} (h : w.ownsRow base e size v n xs) (hb : base' ≤ base) : w.ownsRow base' e size v n xs := by
  obtain ⟨hl, h | ⟨g, cap, cur, hv, hg, h1⟩⟩ := h
  · exact ⟨hl, .inl h⟩
  · exact ⟨hl, .inr ⟨g, cap, cur, hv, Nat.le_trans hb hg, h1⟩⟩
def GroupsLeft (r : Option (List Nat)) (w : World) (e : Ending) (w' : World) : Prop :=
  ∃ v, e = .returned (.tuple #[v, .bool r.isSome]) ∧ w'.ownsRow w.heap.size 22 1 v (r.getD []).length (u64sV (r.getD [])) ∧ (r = none → v = .slice none 0 0) ∧ Below w.heap.size w w'
theorem groups_empty (c b lim : Int) (w : World) :
    Calls Tryz.prog 33 #[.string ⟨#[]⟩, .int .u8 c, .int .u64 b, .int .u64 lim] w fun e w' => e = .returned (.tuple #[.slice none 0 0, .bool true]) ∧ w = w' := by
  go_enter Tryz.func33, Tryz.ntmps33
  go_wp2_with fail
  go_ret2
  exact ⟨rfl, rfl⟩
set_option maxRecDepth 100000 in
set_option maxHeartbeats 4000000 in
theorem groups_some (s : ByteArray) (c : UInt8) (b lim : Nat) (hb : 2 ≤ b) (hb2 : b ≤ 16) (hl : lim < 18446744073709551616) (hs : s.size ≤ 1000) (hne : s.data.toList ≠ []) (w : World) :
    Calls Tryz.prog 33 #[.string s, .int .u8 c.toNat, .int .u64 b, .int .u64 lim] w (GroupsLeft (colN b lim (splitL c s.data.toList)) w) := by
  have HP := Lib.hid (fun w => rparts_any s c hs w)
  have HM := Lib.hid (split_small c s)
  have hmany := split_many c s
  have hne2 : (s.toList == (⟨#[]⟩ : ByteArray).toList) = false := bytes_ne hne
  have hne3 : s.toList.isEmpty = false := by
    rw [ByteArray.toList_eq]
    cases h : s.data.toList with
    | nil => exact absurd h hne
    | cons a t => rfl
  have HNE := Lib.hid hne2
  obtain ⟨ps, hps⟩ : ∃ ps, splitL c s.data.toList = ps := ⟨_, rfl⟩
  rw [hps] at HP HM hmany ⊢
  obtain ⟨hm1, hm2⟩ := hmany
  obtain ⟨r, hr⟩ : ∃ r, colN b lim ps = r := ⟨_, rfl⟩
  rw [hr]
  have HR := Lib.hid hr
  have HNum := Lib.hid (fun (p : ByteArray) (h : p.size ≤ 1000) w => number_any p b lim hb hb2 hl h w)
  clear hps hr hne
  obtain ⟨i0, hi, hz0, hz1, hz2⟩ := info_parts Tryz.info_u64
  go_enter Tryz.func33, Tryz.ntmps33
  go_wp2_with fail
  refine (HP.out w).mono ?_
  rintro e w2 ⟨v, rfl, hown, hb2'⟩
  obtain ⟨G, cap, rfl, hc1, hc2, hG, hcells⟩ := own_strV hown hm2
  have HC := Lib.hid hcells
  have HB2 := Lib.hid hb2'
  have hms : ps.length ≤ 1001 := by omega
  clear hown hb2' hcells hne2 hne3
  go_wp2_with fail
  go_loopw [11, 12] (fun v i wr => ∃ (k : Nat) (zs : List Nat), k ≤ ps.length ∧ i = .int .i64 (k : Int) ∧ zs.length = k ∧ wr.ownsRow w2.heap.size 22 1 v k (u64sV zs) ∧ Below w2.heap.size w2 wr ∧ colN b lim ps = (colN b lim (ps.drop k)).map (zs ++ ·)) (fun _ i _ => ps.length - (intOf i).toNat)
  case atStart => exact ⟨0, [], Nat.zero_le _, rfl, rfl, World.ownsRow_nil _ _ _ _, Below.refl _ _, by rw [List.drop_zero]; cases colN b lim ps <;> simp⟩
  case round =>
    obtain ⟨k, zs, hk, rfl, hzl, hown, hbl, hcol⟩ := hrel
    have HO := Lib.hid hown
    have HBL := Lib.hid hbl
    have HCOL := Lib.hid hcol
    have HZL := Lib.hid hzl
    by_cases hlt : k < ps.length
    · have hki : (k : Int) < (ps.length : Int) := by omega
      obtain ⟨p, hp⟩ : ∃ p, ps[k]? = some p := ⟨ps[k], List.getElem?_eq_getElem hlt⟩
      have hck := (hbl.cell (p := ⟨G, k, none⟩) hG).trans (HC.out k p hp)
      have hps1 : (str p).size ≤ 1000 := Nat.le_trans (HM.out p (List.mem_of_getElem? hp)) hs
      have HN := Lib.hid (HNum.out (str p) hps1)
      have HST := Lib.hid (colN_step b lim ps k p hp)
      obtain ⟨P, hP⟩ : ∃ P, str p = P := ⟨_, rfl⟩
      rw [hP] at hck HN HST
      obtain ⟨z, hz⟩ : ∃ z, nuV b P = z := ⟨_, rfl⟩
      obtain ⟨q, hq⟩ : ∃ q, nuB b lim P = q := ⟨_, rfl⟩
      rw [hz, hq] at HN HST
      clear hown hbl hcol hzl hp hP hz hq hps1
      go_wp2_with fail
      refine (HN.out wr).mono ?_
      rintro e wx ⟨rfl, rfl⟩
      cases q
      · have hrn : r = none := by
          rw [← HR.out, HCOL.out, HST.out]
          rfl
        subst hrn
        go_wp2_with fail
        go_ret2
        exact ⟨_, rfl, World.ownsRow_nil _ _ _ _, fun _ => rfl, HB2.out.trans (HBL.out.mono HB2.out.size)⟩
      · go_wp2_with (at_builtin; refine wpList_append_own _ rfl (.tmp 38) (.tmp 40) 69 rfl w2.heap.size 22 i0 (.int .u64 0) 1 8 Tryz.underlying69 hi hz0 hz1 hz2 rfl (by decide) _ _ _ rfl (HO.out.alloc _) ⟨wr.heap.size, 0, none⟩ 1 1 [.int .u64 ((z : Nat) : Int)] rfl rfl ?c1 ?c2 ?c3 ?c4 ?c5 ?_; rotate_left 5; intro v' w5 hown5 hgrow5 _; have HO5 := Lib.hid hown5; have HG5 := Lib.hid hgrow5; clear hown5 hgrow5)
        case c1 => exact cell_one_new _ _ _
        case c2 => simp [Value.oneCell']
        case c3 => unfold maxLen; omega
        case c4 => omega
        case c5 => have := HBL.out.size; simp; omega
        obtain ⟨g1, g2⟩ := own_step' HO.out HG5.out HBL.out HBL.out.size
        refine ⟨⟨k + 1, zs ++ [z], by omega, by go_num, by rw [List.length_append, HZL.out]; rfl, ?_, g1, ?_⟩, by simp [intOf]; omega⟩
        · rw [u64sV_snoc]
          exact HO5.out
        · rw [HCOL.out, HST.out]
          cases colN b lim (ps.drop (k + 1)) <;> simp
    · have hki : (ps.length : Int) ≤ (k : Int) := by omega
      have hrs : r = some zs := by
        rw [← HR.out, hcol, List.drop_eq_nil_of_le (by omega)]
        simp [colN]
      subst hrs
      have hown2 := hown
      rw [← hzl] at hown2
      have HO2 := Lib.hid (owns_mono2 hown2 HB2.out.size)
      clear hown hbl hcol hzl hown2
      go_wp2_with fail
      go_ret2
      exact ⟨_, rfl, HO2.out, (fun h => by cases h), HB2.out.trans (HBL.out.mono HB2.out.size)⟩
/-- the reference's groups -/
theorem groups_any (s : ByteArray) (c : UInt8) (b lim : Nat) (hb : 2 ≤ b) (hb2 : b ≤ 16) (hl : lim < 18446744073709551616) (hs : s.size ≤ 1000) (w : World) :
    Calls Tryz.prog 33 #[.string s, .int .u8 c.toNat, .int .u64 b, .int .u64 lim] w (GroupsLeft (grR b lim c s) w) := by
  unfold grR
  by_cases h : s.data.toList = []
  · rw [if_pos h]
    obtain rfl : s = ⟨#[]⟩ := by
      apply ByteArray.ext
      apply Array.ext'
      rw [h]
    refine (groups_empty _ _ _ w).mono ?_
    rintro e w' ⟨rfl, rfl⟩
    exact ⟨_, rfl, World.ownsRow_nil _ _ _ _, fun _ => rfl, Below.refl _ _⟩
  · rw [if_neg h]
    exact groups_some s c b lim hb hb2 hl hs h w
/-- the reference's AsParse, by its number -/
def asR (s : ByteArray) : Option Nat := if 2 ≤ s.size ∧ s.extract 0 2 = ⟨#[65, 83]⟩ ∧ nuB 10 4294967295 (s.extract 2 s.size) = true then some (nuV 10 (s.extract 2 s.size)) else none
set_option maxRecDepth 100000 in
set_option maxHeartbeats 1000000 in
theorem rasparse_core (s : ByteArray) (hs : s.size ≤ 1000) (n : Nat) (ok : Bool) (h2 : 2 ≤ s.size) (hA : s.extract 0 2 = ⟨#[65, 83]⟩) (hn : n < 4294967296 ∨ ok = false)
    (hN : ∀ w, Calls Tryz.prog 40 #[.string (s.extract 2 s.size), .int .u64 10, .int .u64 4294967295] w fun e w' => e = .returned (.tuple #[.int .u64 n, .bool ok]) ∧ w = w') (w : World) :
    Calls Tryz.prog 14 #[.string s] w fun e w' => e = .returned (.tuple #[.int .u32 ((if ok = true then n else 0 : Nat) : Int), .int .i64 (if ok = true then 0 else 12)]) ∧ w = w' := by
  have HN := Lib.hid hN
  have hz : (2 : Int) ≤ (s.size : Int) := by omega
  clear hN
  cases ok
  · go_enter Tryz.func14, Tryz.ntmps14
    go_wp2_with fail
    refine (HN.out w).mono ?_
    rintro e wx ⟨rfl, rfl⟩
    go_wp2_with fail
    go_ret2
    exact ⟨rfl, rfl⟩
  · have HW : RowKit.Hid ((n : Int) % 4294967296 = (n : Int)) := Lib.hid (by
      rcases hn with h | h
      · omega
      · cases h)
    clear hn
    go_enter Tryz.func14, Tryz.ntmps14
    go_wp2_with fail
    refine (HN.out w).mono ?_
    rintro e wx ⟨rfl, rfl⟩
    go_wp2_with fail
    rw [HW.out]
    go_ret2
    exact ⟨rfl, rfl⟩
end Go.Proofs.YtlikgfmcialepaaGreatDoor
