/-
  THE WALKS over the texts of the reference of layer 1: a string's parts.
-/
import Derived.Test.YtlikgfmcialepaaGreatDoorTxRefE
import Derived.Test.YtlikgfmcialepaaGreatDoorSixM
import Derived.Maps.AppendAt
namespace Go.Proofs.YtlikgfmcialepaaGreatDoor
open Go.RowKit Adr
set_option linter.unusedVariables false
set_option linter.unusedSimpArgs false
def strsV (xs : List (List UInt8)) : List Value := xs.map fun p => Value.string (str p)
theorem strsV_snoc (xs : List (List UInt8)) (p : List UInt8) : strsV (xs ++ [p]) = strsV xs ++ [.string (str p)] := by
  unfold strsV
  rw [List.map_append]
  rfl
theorem ext_str (s : ByteArray) (a b : Nat) : s.extract a b = str ((s.data.toList.drop a).take (b - a)) := by
  apply ByteArray.ext
  rw [ByteArray.data_extract]
  apply Array.ext'
  rw [Array.toList_extract]
  simp [str, List.extract]
theorem part_cut (c : UInt8) (l : List UInt8) (a k : Nat) (hak : a ≤ k) (hk : k < l.length) (hc : l[k] = c) (hn : c ∉ (l.drop a).take (k - a)) :
    splitL c (l.drop a) = (l.drop a).take (k - a) :: splitL c (l.drop (k + 1)) := by
  have e : l.drop a = (l.drop a).take (k - a) ++ c :: l.drop (k + 1) := by
    have h1 := (List.take_append_drop (k - a) (l.drop a)).symm
    rw [List.drop_drop, show a + (k - a) = k by omega, List.drop_eq_getElem_cons hk, hc] at h1
    exact h1
  have h2 := splitL_app c (l.drop (k + 1)) ((l.drop a).take (k - a)) hn
  rw [← e] at h2
  exact h2
set_option maxRecDepth 100000 in
set_option maxHeartbeats 4000000 in
theorem rparts_any (s : ByteArray) (c : UInt8) (hs : s.size ≤ 1000) (w : World) :
    Calls Tryz.prog 39 #[.string s, .int .u8 c.toNat] w fun e w' => ∃ v, e = .returned v ∧ w'.ownsRow w.heap.size 9 1 v (splitL c s.data.toList).length (strsV (splitL c s.data.toList)) ∧ Below w.heap.size w w' := by
  have hlen : s.data.toList.length = s.size := by simp
  obtain ⟨l, hl⟩ : ∃ l, s.data.toList = l := ⟨_, rfl⟩
  have HE : RowKit.Hid (∀ a b, s.extract a b = str ((l.drop a).take (b - a))) := Lib.hid (fun a b => by rw [← hl]; exact ext_str s a b)
  have HAT : RowKit.Hid (∀ k, (h : k < s.size) → ∃ h2 : k < l.length, l[k] = s[k]) := Lib.hid (by
    intro k h
    subst hl
    exact ⟨by rw [hlen]; exact h, rfl⟩)
  rw [hl] at hlen ⊢
  have HLEN := Lib.hid hlen
  clear hl hlen
  obtain ⟨i0, hi, hz0, hz1, hz2⟩ := info_parts Tryz.info_string
  obtain ⟨N, hN⟩ : ∃ N, w.heap.size = N := ⟨_, rfl⟩
  rw [hN]
  have HN := Lib.hid hN
  clear hN
  go_enter Tryz.func39, Tryz.ntmps39
  go_wp2_with fail
  go_loopw [5, 6, 7] (fun v la i wr => ∃ (k a : Nat) (xs : List (List UInt8)), a ≤ k ∧ k ≤ s.size ∧ i = .int .i64 (k : Int) ∧ la = .int .i64 (a : Int) ∧ wr.ownsRow N 9 1 v xs.length (strsV xs) ∧ Below N w wr ∧ N ≤ wr.heap.size ∧ xs.length ≤ a ∧ splitL c l = xs ++ splitL c (l.drop a) ∧ c ∉ (l.drop a).take (k - a)) (fun _ _ i _ => s.size - (intOf i).toNat)
  case atStart => exact ⟨0, 0, [], Nat.le_refl _, Nat.zero_le _, rfl, rfl, World.ownsRow_nil _ _ _ _, Below.refl _ _, by rw [HN.out]; exact Nat.le_refl _, Nat.le_refl _, by simp, by simp⟩
  case round =>
    obtain ⟨k, a, xs, hak, hks, rfl, rfl, hown, hbl, hNs, hxa, hsp, hnc⟩ := hrel
    have HO := Lib.hid hown
    have HBL := Lib.hid hbl
    have HNS := Lib.hid hNs
    have HSP := Lib.hid hsp
    have HNC := Lib.hid hnc
    clear hown hbl hNs hsp hnc
    by_cases hlt : k < s.size
    · have hki : (k : Int) < (s.size : Int) := by omega
      obtain ⟨hkl, hkc⟩ := HAT.out k hlt
      cases hq : (((s[k]'hlt).toNat : Int) == (c.toNat : Int))
      · have hne : l[k] ≠ c := by
          intro h
          rw [← hkc, h] at hq
          simp at hq
        have HNE := Lib.hid hne
        clear hkc hne
        go_wp2_with fail
        go_roundw
        case rel =>
          refine ⟨k + 1, a, xs, by omega, by omega, by go_num, rfl, HO.out, HBL.out, HNS.out, hxa, HSP.out, ?_⟩
          rw [show k + 1 - a = k - a + 1 by omega, List.take_add_one, List.getElem?_drop, show a + (k - a) = k by omega, List.getElem?_eq_getElem hkl]
          intro hm
          rcases List.mem_append.1 hm with hm | hm
          · exact HNC.out hm
          · simp at hm
            exact HNE.out hm.symm
        case measure => simp [intOf]; omega
      · have heq : l[k] = c := by
          rw [hkc]
          apply UInt8.toNat_inj.1
          have := beq_iff_eq.1 hq
          omega
        have HCUT := Lib.hid (part_cut c l a k hak hkl heq HNC.out)
        have hex := HE.out a k
        obtain ⟨p, hp⟩ : ∃ p, (l.drop a).take (k - a) = p := ⟨_, rfl⟩
        rw [hp] at hex HCUT
        have HEX := Lib.hid hex
        have hai : (a : Int) ≤ (k : Int) := by omega
        clear hkc heq hp hex
        go_wp2_with (at_builtin; refine wpList_append_own _ rfl (.tmp 19) (.tmp 24) 83 rfl N 9 i0 (.string ⟨#[]⟩) 1 16 Tryz.underlying83 hi hz0 hz1 hz2 rfl (by decide) _ _ _ rfl (HO.out.alloc _) ⟨wr.heap.size, 0, none⟩ 1 1 [.string (s.extract a k)] rfl rfl ?c1 ?c2 ?c3 ?c4 ?c5 ?_; rotate_left 5; intro v' w5 hown5 hgrow5 _; have HO5 := Lib.hid hown5; have HG5 := Lib.hid hgrow5; clear hown5 hgrow5)
        case c1 => exact cell_one_new _ _ _
        case c2 => simp [Value.oneCell']
        case c3 => unfold maxLen; omega
        case c4 => omega
        case c5 => have := HNS.out; simp; omega
        obtain ⟨g1, g2⟩ := own_step' HO.out HG5.out HBL.out HNS.out
        refine ⟨⟨k + 1, k + 1, xs ++ [p], Nat.le_refl _, by omega, by go_num, by go_num, ?_, g1, g2, by simp; omega, ?_, by rw [Nat.sub_self]; simp⟩, by simp [intOf]; omega⟩
        · have h := HO5.out
          rw [HEX.out] at h
          rw [strsV_snoc, List.length_append]
          exact h
        · rw [HSP.out, HCUT.out]
          simp
    · have hki : (s.size : Int) ≤ (k : Int) := by omega
      have hai : (a : Int) ≤ (s.size : Int) := by omega
      have hnc2 : c ∉ l.drop a := by
        have h := HNC.out
        rw [List.take_of_length_le (by rw [List.length_drop, HLEN.out]; omega)] at h
        exact h
      have HSP2 : RowKit.Hid (splitL c l = xs ++ [l.drop a]) := Lib.hid (by rw [HSP.out, splitL_all c _ hnc2])
      have hex := HE.out a s.size
      rw [List.take_of_length_le (by rw [List.length_drop, HLEN.out]; omega)] at hex
      have HEX := Lib.hid hex
      clear hnc2 hex
      go_wp2_with (at_builtin; refine wpList_append_own _ rfl (.tmp 28) (.tmp 32) 83 rfl N 9 i0 (.string ⟨#[]⟩) 1 16 Tryz.underlying83 hi hz0 hz1 hz2 rfl (by decide) _ _ _ rfl (HO.out.alloc _) ⟨wr.heap.size, 0, none⟩ 1 1 [.string (s.extract a s.size)] rfl rfl ?c1 ?c2 ?c3 ?c4 ?c5 ?_; rotate_left 5; intro v' w5 hown5 hgrow5 _; have HO5 := Lib.hid hown5; have HG5 := Lib.hid hgrow5; clear hown5 hgrow5)
      case c1 => exact cell_one_new _ _ _
      case c2 => simp [Value.oneCell']
      case c3 => unfold maxLen; omega
      case c4 => omega
      case c5 => have := HNS.out; simp; omega
      obtain ⟨g1, g2⟩ := own_step' HO.out HG5.out HBL.out HNS.out
      go_ret
      refine ⟨v', rfl, ?_, g1⟩
      have h := HO5.out
      rw [HEX.out] at h
      rw [HSP2.out, strsV_snoc, List.length_append]
      exact h
end Go.Proofs.YtlikgfmcialepaaGreatDoor
