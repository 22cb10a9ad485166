/-
  THE WALKS over package locator: isHost, isPath.
-/
import Derived.Test.YthagoafcphaadaaDoorLocWB
namespace Go.Proofs.YthagoafcphaadaaDoor
open Go.RowKit Lo
set_option linter.unusedVariables false
set_option linter.unusedSimpArgs false
variable {fl : Bool}
theorem take_all2 (p : List UInt8 → Bool) (l : List (List UInt8)) (k : Nat) (x : List UInt8) (hk : l[k]? = some x) (h : (l.take k).all p = true) (h2 : p x = true) : (l.take (k + 1)).all p = true := by
  rw [List.take_add_one, hk, List.all_append, h]
  simp [h2]
theorem not_all2 (p : List UInt8 → Bool) (l : List (List UInt8)) (k : Nat) (x : List UInt8) (hk : l[k]? = some x) (h2 : p x = false) : l.all p = false := by
  cases h : l.all p with
  | false => rfl
  | true =>
    have := List.all_eq_true.1 h x (List.mem_of_getElem? hk)
    rw [h2] at this
    cases this
theorem splitL_small (c : UInt8) : ∀ (l : List UInt8), ∀ p ∈ splitL c l, p.length ≤ l.length
  | [], p, h => by
    simp [splitL] at h
    rw [h]; exact Nat.le_refl _
  | b :: l, p, h => by
    have ih := splitL_small c l
    unfold splitL at h
    split at h
    · rcases List.mem_cons.1 h with rfl | h
      · simp
      · have := ih p h
        simp; omega
    · cases hs : splitL c l with
      | nil => exact absurd hs (splitL_ne c l)
      | cons q t =>
        rw [hs] at h ih
        rcases List.mem_cons.1 h with rfl | h
        · have := ih q (List.mem_cons_self ..)
          simp; omega
        · have := ih p (List.mem_cons_of_mem _ h)
          simp; omega
theorem splitL_count (c : UInt8) : ∀ (l : List UInt8), (splitL c l).length = l.count c + 1
  | [] => by simp [splitL]
  | b :: l => by
    have ih := splitL_count c l
    unfold splitL
    by_cases h : b = c
    · rw [if_pos h, List.length_cons, ih, h, List.count_cons_self]
    · rw [if_neg h]
      have hc : (b :: l).count c = l.count c := List.count_cons_of_ne (by simpa using h)
      rw [hc, ← ih]
      cases hs : splitL c l with
      | nil => exact absurd hs (splitL_ne c l)
      | cons x t => simp
set_option maxRecDepth 100000 in
set_option maxHeartbeats 4000000 in
theorem host_any (s : ByteArray) (w : World) (env : LEnv fl w) (hs : s.size < 4294967281) :
    Calls Tryd.prog 26 #[.string s] w fun e w' => e = .returned (.bool (hostB s.data.toList)) ∧ Below w.heap.size w w' := by
  have hG := env.big
  have HE := Lib.hid env
  have hN : hostB s.data.toList = (decide (s.size ≤ 60) && (splitL 46 s.data.toList).all labelB) := by
    unfold hostB
    rw [data_len]
  go_enter Tryd.func26, Tryd.ntmps26
  by_cases h1 : s.size ≤ 60
  · have i1 : ¬ ((s.size : Int) > 60) := by omega
    rw [decide_eq_true h1, Bool.true_and] at hN
    obtain ⟨m, hm⟩ := env.mx
    have hsp := Tryd.strings_Split s ⟨#[46]⟩ m w hs hm (by decide)
    rw [split_str] at hsp
    have hcn : Go.Lib.countB s ⟨#[46]⟩ + 1 = (splitL 46 s.data.toList).length := by
      rw [splitL_count]
      exact congrArg (· + 1) (Go.Lib.count_one 46 s.data.toList)
    have hcz : ((Go.Lib.countB s ⟨#[46]⟩ : Nat) : Int) + 1 = ((splitL 46 s.data.toList).length : Nat) := by rw [← hcn]; simp
    have hsm : ∀ p ∈ splitL 46 s.data.toList, p.length ≤ s.size := fun p hp => by
      have := splitL_small 46 s.data.toList p hp
      rw [data_len] at this
      exact this
    have hln : (splitL 46 s.data.toList).length ≤ 61 := by
      rw [splitL_count]
      have := List.count_le_length (a := (46 : UInt8)) (l := s.data.toList)
      rw [data_len] at this
      omega
    obtain ⟨L, hL⟩ : ∃ L, splitL 46 s.data.toList = L := ⟨_, rfl⟩
    rw [hL] at hsp hcn hN hsm hln hcz
    rw [hcn] at hsp
    have HN := Lib.hid hN
    have HSM := Lib.hid hsm
    have HSP := Lib.hid hsp
    have HLN := Lib.hid hln
    clear hN hsm hsp hL hcn hcz hm env
    go_wp2_with fail
    refine HSP.out.mono ?_
    rintro e w1 ⟨rfl, rfl⟩
    generalize hw1 : w.alloc (.cells (List.map Value.string (List.map str L)).toArray 9) = w1
    have hb1 : Below w.heap.size w w1 := by rw [← hw1]; exact below_new _ _
    have hz1 : w.heap.size < w1.heap.size := by rw [← hw1]; simp
    have HC : RowKit.Hid (∀ (k : Nat) x, L[k]? = some x → w1.cell? ⟨w.heap.size, k, none⟩ = some (.string (str x))) := Lib.hid (fun k x hk => by
      rw [← hw1]
      refine (World.cell?_alloc_at _ _ _ _ rfl).trans ?_
      simp [hk])
    have HB1 := Lib.hid hb1
    clear hw1 hb1
    go_wp2_with fail
    go_loopw [11] (fun i wr => ∃ k : Nat, k ≤ L.length ∧ i = .int .i64 k ∧ (L.take k).all labelB = true ∧ Below w1.heap.size w1 wr) (fun i _ => L.length - (intOf i).toNat)
    case atStart => exact ⟨0, by omega, rfl, by simp, Below.refl _ _⟩
    case round =>
      obtain ⟨k, hk, rfl, hnf, hbl⟩ := hrel
      have HNF := Lib.hid hnf
      have HBL := Lib.hid hbl
      have hzr : w.heap.size < wr.heap.size := Nat.lt_of_lt_of_le hz1 hbl.size
      clear hnf hbl
      by_cases hlt : k < L.length
      · have hki : (k : Int) < (L.length : Int) := by omega
        obtain ⟨x, hx⟩ : ∃ x, L[k]? = some x := ⟨L[k], List.getElem?_eq_getElem hlt⟩
        have hcell := (HBL.out.cell (p := ⟨w.heap.size, k, none⟩) hz1).trans (HC.out k x hx)
        have HX := Lib.hid hx
        have hxs : (str x).size ≤ s.size := by rw [str_size]; exact HSM.out x (List.mem_of_getElem? hx)
        have HLB := Lib.hid (label_any (str x) wr (HE.out.below (HB1.out.trans (HBL.out.mono (by omega))) hG) (by omega))
        clear hx
        cases hq : labelB x
        · have HR := Lib.hid (not_all2 labelB L k x HX.out hq)
          have HQ := Lib.hid hq
          clear hq
          go_wp2_with fail
          refine HLB.out.mono ?_
          rw [str_dat, HQ.out]
          rintro e w2 ⟨rfl, hb2⟩
          go_wp2_with fail
          go_ret
          exact ⟨by rw [HN.out, HR.out]; rfl, (HB1.out.trans (HBL.out.mono (by omega))).trans (hb2.mono (by omega))⟩
        · have HR := Lib.hid (take_all2 labelB L k x HX.out HNF.out hq)
          have HQ := Lib.hid hq
          clear hq
          go_wp2_with fail
          refine HLB.out.mono ?_
          rw [str_dat, HQ.out]
          rintro e w2 ⟨rfl, hb2⟩
          go_wp2_with fail
          go_roundw
          case rel => exact ⟨k + 1, by omega, by go_num, HR.out, HBL.out.trans (hb2.mono HBL.out.size)⟩
          case measure => simp [intOf]; omega
      · have hki : (L.length : Int) ≤ (k : Int) := by omega
        have HR : RowKit.Hid (L.all labelB = true) := Lib.hid (by
          have := HNF.out
          rw [List.take_of_length_le (by omega)] at this
          exact this)
        go_wp2_with fail
        go_ret
        exact ⟨by rw [HN.out, HR.out]; rfl, HB1.out.trans (HBL.out.mono (by omega))⟩
  · have i1 : ((s.size : Int) > 60) := by omega
    rw [decide_eq_false h1] at hN
    have HN : RowKit.Hid (hostB s.data.toList = false) := hN
    clear hN
    go_wp2_with fail
    go_ret
    exact ⟨by rw [HN.out]; rfl, Below.refl _ _⟩
set_option maxRecDepth 100000 in
set_option maxHeartbeats 4000000 in
theorem path_any (A : Option Addr) (L : List (List UInt8)) (c : Nat) (d : Bool) (w : World) (env : LEnv fl w) (hA : StrsAt A L w) (hl : L.length ≤ 1000) (hp : ∀ p ∈ L, p.length < 4294967281) :
    Calls Tryd.prog 28 #[.slice A L.length c, .bool d] w fun e w' => e = .returned (.bool (pathB L d)) ∧ Below w.heap.size w w' := by
  have hG := env.big
  have HE := Lib.hid env
  have HA := Lib.hid hA
  have HP := Lib.hid hp
  have hN : pathB L d = (L.all nameB && (d || decide (0 < L.length))) := rfl
  have HN := Lib.hid hN
  clear hN env hA hp
  go_enter Tryd.func28, Tryd.ntmps28
  go_wp2_with fail
  go_loopw [9] (fun i wr => ∃ k : Nat, k ≤ L.length ∧ i = .int .i64 k ∧ (L.take k).all nameB = true ∧ Below w.heap.size w wr) (fun i _ => L.length - (intOf i).toNat)
  case atStart => exact ⟨0, by omega, rfl, by simp, Below.refl _ _⟩
  case round =>
    obtain ⟨k, hk, rfl, hnf, hbl⟩ := hrel
    have HNF := Lib.hid hnf
    have HBL := Lib.hid hbl
    clear hnf hbl
    by_cases hlt : k < L.length
    · have hki : (k : Int) < (L.length : Int) := by omega
      obtain ⟨x, hx⟩ : ∃ x, L[k]? = some x := ⟨L[k], List.getElem?_eq_getElem hlt⟩
      obtain ⟨g, o, rfl, hgz, hcs⟩ := HA.out (by intro e; rw [e] at hlt; simp at hlt)
      have hcell := (HBL.out.cell (p := ⟨g, o + k, none⟩) hgz).trans (hcs k x hx)
      have HX := Lib.hid hx
      have HLB := Lib.hid (name_any (str x) wr (HE.out.below HBL.out hG) (by rw [str_size]; exact HP.out x (List.mem_of_getElem? hx)))
      clear hx hcs
      cases hq : nameB x
      · have HR := Lib.hid (not_all2 nameB L k x HX.out hq)
        have HQ := Lib.hid hq
        clear hq
        go_wp2_with fail
        refine HLB.out.mono ?_
        rw [str_dat, HQ.out]
        rintro e w2 ⟨rfl, hb2⟩
        go_wp2_with fail
        go_ret
        exact ⟨by rw [HN.out, HR.out]; rfl, HBL.out.trans (hb2.mono HBL.out.size)⟩
      · have HR := Lib.hid (take_all2 nameB L k x HX.out HNF.out hq)
        have HQ := Lib.hid hq
        clear hq
        go_wp2_with fail
        refine HLB.out.mono ?_
        rw [str_dat, HQ.out]
        rintro e w2 ⟨rfl, hb2⟩
        go_wp2_with fail
        go_roundw
        case rel => exact ⟨k + 1, by omega, by go_num, HR.out, HBL.out.trans (hb2.mono HBL.out.size)⟩
        case measure => simp [intOf]; omega
    · have hki : (L.length : Int) ≤ (k : Int) := by omega
      have HR : RowKit.Hid (L.all nameB = true) := Lib.hid (by
        have := HNF.out
        rw [List.take_of_length_le (by omega)] at this
        exact this)
      cases d
      · by_cases h0 : 0 < L.length
        · have i0 : ((L.length : Int) > 0) := by omega
          go_wp2_with fail
          go_ret
          exact ⟨by rw [HN.out, HR.out, decide_eq_true h0]; rfl, HBL.out⟩
        · have i0 : ¬ ((L.length : Int) > 0) := by omega
          go_wp2_with fail
          go_ret
          exact ⟨by rw [HN.out, HR.out, decide_eq_false h0]; rfl, HBL.out⟩
      · go_wp2_with fail
        go_ret
        exact ⟨by rw [HN.out, HR.out]; rfl, HBL.out⟩
end Go.Proofs.YthagoafcphaadaaDoor
