/-
  THE WALKS over layer 8: ReadSeq, of the program and of the reference. Written by wip/gen-oc5.py.
-/
import Derived.Test.YthagoafcphaadaaOcI
namespace Go.Proofs.Ythagoafcphaadaa
open Go.RowKit Sha Oc
set_option linter.unusedVariables false
set_option linter.unusedSimpArgs false
def rdQ (t tg : UInt8) (n ll : Nat) (lo hi : Int) : Bool := decide (t = tg ∧ n = 0 ∧ lo ≤ (ll : Int) ∧ (ll : Int) ≤ hi)
def RsPost (yes : Bool) (l : List Oct) (w : World) (e : Ending) (w' : World) : Prop := ∃ v, e = .returned (.tuple #[v, .int .i64 (if yes then 0 else 12)]) ∧ At (Rw w.heap.size w') w' (.mk 0 [] (if yes then l else [])) (.slice none 0 0) v ∧ Below w.heap.size w w'
theorem nil_list (R : Nat → Prop) (w : World) : At R w (.mk 0 [] []) (.slice none 0 0) (.slice none 0 0) :=
  .mk 0 [] [] none 0 none 0 0 0 (fun _ => undef) (fun _ => undef) (Nat.le_refl _) (by decide) (fun _ => rfl) (fun h => absurd rfl h) (fun _ _ _ h => absurd rfl h) (Nat.le_refl _) (by decide) (fun _ => rfl) (fun h => absurd rfl h) (fun k o h => by simp at h) (fun k o h => by simp at h) (fun k o h => by simp at h) (fun k o h => by simp at h)
theorem at_list {R : Nat → Prop} {w : World} {t : UInt8} {b : List UInt8} {l : List Oct} {x y : Value} (h : At R w (.mk t b l) x y) : At R w (.mk 0 [] l) (.slice none 0 0) y := by
  cases h with
  | mk t b l A c B d g off vb vl hc hbm hcn hs hA hd hlm hdn hB h0 h1 h2 hr =>
    exact .mk 0 [] l none 0 B d g off vb vl (Nat.le_refl _) (by decide) (fun _ => rfl) (fun h => absurd rfl h) (fun _ _ _ h => absurd rfl h) hd hlm hdn hB h0 h1 h2 hr
theorem own_list {base b' : Nat} {w : World} {v : Value} {l : List Oct} {ts : List (Oct × Value × Value)} (hts : ts.map (·.1) = l) (hown : w.ownsRow base 28 3 v l.length (rowT ts)) (hels : ∀ u ∈ ts, At (Rw base w) w u.1 u.2.1 u.2.2) (hlen : l.length ≤ 5000) (hle : b' ≤ base) : At (Rw b' w) w (.mk 0 [] l) (.slice none 0 0) v := by
  subst hts
  rw [List.length_map] at hown hlen
  obtain ⟨B, d, rfl, h⟩ := at_of_rows 0 (b := []) (A := none) (c := 0) hown hels (by omega) (Nat.le_refl _) (by decide) (fun _ => rfl) (fun h => absurd rfl h) (fun _ _ _ h => absurd rfl h)
  exact h.own (Below.refl _ _) hle
set_option maxRecDepth 100000 in
set_option maxHeartbeats 4000000 in
theorem readseq_any (t : UInt8) (b : List UInt8) (l : List Oct) (tg : UInt8) (lo hi : Int) (hcn5 : cnt (.mk t b l) ≤ 5000) (htt5 : tot (.mk t b l) ≤ 100000) (w : World) (x y : Value) (hat : At (fun _ => True) w (.mk t b l) x y) :
    Calls Try.prog 12 #[.agg (cell3 (.mk t b l) x y), .int .u8 (tg.toNat : Int), .int .i64 lo, .int .i64 hi] w (RsPost (rdQ t tg b.length l.length lo hi) l w) := by
  have hcn8 : cnts l ≤ 5000 := by rw [cnt] at hcn5; omega
  have htt : tots l ≤ 100000 := by rw [tot] at htt5; omega
  have hll5 : l.length ≤ 5000 := by have := len_cnts l; omega
  have HLM := Lib.hid hll5
  obtain ⟨A, c, B, d, g, off, vb, vl, rfl, rfl, hc, hbm, hcn, hs, hd, hdn, he⟩ := hat.els
  show Calls Try.prog 12 #[.agg #[.int .u8 (t.toNat : Int), .slice A b.length c, .slice B l.length d], .int .u8 (tg.toNat : Int), .int .i64 lo, .int .i64 hi] w _
  have HT := Lib.hid (fun (V : World) (hb : Below w.heap.size w V) => twins_all l hcn8 htt B d g off vb vl V (he.on hb))
  unfold TwsPost at HT
  obtain ⟨r, hr0⟩ : ∃ r, rdQ t tg b.length l.length lo hi = r := ⟨_, rfl⟩
  rw [hr0]
  unfold rdQ at hr0
  obtain ⟨n, hn⟩ : ∃ n, b.length = n := ⟨_, rfl⟩
  obtain ⟨ll, hll⟩ : ∃ ll, l.length = ll := ⟨_, rfl⟩
  rw [hn, hll] at hr0
  rw [hll] at HT
  have HLL := Lib.hid hll
  rw [hn, hll]
  have HROW := Lib.hid (heap_alloc_new w (.cells #[.int .u8 (t.toNat : Int), .slice A n c, .slice B ll d] 28))
  have HB0 := Lib.hid (below_new w (.cells #[.int .u8 (t.toNat : Int), .slice A n c, .slice B ll d] 28))
  clear hat hs he hc hbm hcn hd hdn hcn8 htt hll5 hcn5 htt5
  clear hn hll
  by_cases h1 : t = tg
  · subst h1
    have hne := u8_eq t
    by_cases h2 : n = 0
    · subst h2
      by_cases h3 : lo ≤ (ll : Int)
      · have h3d : ¬ (ll : Int) < lo := by omega
        by_cases h4 : (ll : Int) ≤ hi
        · have hr : true = r := by rw [← hr0]; exact (decide_eq_true ⟨rfl, rfl, h3, h4⟩).symm
          subst hr
          have h4d : ¬ hi < (ll : Int) := by omega
          clear h3 h4 hr0
          go_enter Try.func12, Try.ntmps12
          go_upto_region 1 with (fail)
          generalize hV : World.alloc w _ = V at HROW HB0 ⊢
          clear hV
          have hlt := (Array.getElem?_eq_some_iff.1 HROW.out).1
          obtain ⟨_, hc0, hc1, hc2⟩ := facts3 HROW.out
          go_wp2_with fail
          refine (HT.out V HB0.out).mono ?_
          rintro e w1 ⟨v, ts, rfl, hts, hown, hels, hb1⟩
          have HB1 := Lib.hid (chain HB0.out hb1)
          have hat1 := own_list hts (by rw [HLL.out]; exact hown) hels HLM.out HB0.out.size
          have HAT1 := Lib.hid hat1
          clear hts hown hels hb1 hat1
          go_wp2_with fail
          go_ret2
          exact ⟨_, rfl, HAT1.out, HB1.out⟩
        · have hr : false = r := by rw [← hr0]; exact (decide_eq_false (fun h => h4 h.2.2.2)).symm
          subst hr
          have h4d : hi < (ll : Int) := by omega
          clear h3 h4 hr0
          go_enter Try.func12, Try.ntmps12
          go_upto_region 1 with (fail)
          generalize hV : World.alloc w _ = V at HROW HB0 ⊢
          clear hV
          have hlt := (Array.getElem?_eq_some_iff.1 HROW.out).1
          obtain ⟨_, hc0, hc1, hc2⟩ := facts3 HROW.out
          go_wp2_with fail
          go_ret2
          exact ⟨_, rfl, nil_list _ _, HB0.out⟩
      · have hr : false = r := by rw [← hr0]; exact (decide_eq_false (fun h => h3 h.2.2.1)).symm
        subst hr
        have h3d : (ll : Int) < lo := by omega
        clear h3 hr0
        go_enter Try.func12, Try.ntmps12
        go_upto_region 1 with (fail)
        generalize hV : World.alloc w _ = V at HROW HB0 ⊢
        clear hV
        have hlt := (Array.getElem?_eq_some_iff.1 HROW.out).1
        obtain ⟨_, hc0, hc1, hc2⟩ := facts3 HROW.out
        go_wp2_with fail
        go_ret2
        exact ⟨_, rfl, nil_list _ _, HB0.out⟩
    · have hr : false = r := by rw [← hr0]; exact (decide_eq_false (fun h => h2 h.2.1)).symm
      subst hr
      have h2i : (0 : Int) < (n : Int) := by omega
      clear h2 hr0
      go_enter Try.func12, Try.ntmps12
      go_upto_region 1 with (fail)
      generalize hV : World.alloc w _ = V at HROW HB0 ⊢
      clear hV
      have hlt := (Array.getElem?_eq_some_iff.1 HROW.out).1
      obtain ⟨_, hc0, hc1, hc2⟩ := facts3 HROW.out
      go_wp2_with fail
      go_ret2
      exact ⟨_, rfl, nil_list _ _, HB0.out⟩
  · have hr : false = r := by rw [← hr0]; exact (decide_eq_false (fun h => h1 h.1)).symm
    subst hr
    have hne := u8_ne t tg h1
    clear h1 hr0
    go_enter Try.func12, Try.ntmps12
    go_upto_region 1 with (fail)
    generalize hV : World.alloc w _ = V at HROW HB0 ⊢
    clear hV
    have hlt := (Array.getElem?_eq_some_iff.1 HROW.out).1
    obtain ⟨_, hc0, hc1, hc2⟩ := facts3 HROW.out
    go_wp2_with fail
    go_ret2
    exact ⟨_, rfl, nil_list _ _, HB0.out⟩
end Go.Proofs.Ythagoafcphaadaa
