/-
  THE WALKS over layer 8: ReadStr, of the program and of the reference. Written by wip/gen-oc5.py.
-/
import Derived.Test.YthagoafcphaadaaOcH
import Derived.Laws.IdiomStrings
import Derived.Lib.BufferRead
namespace Go.Proofs.Ythagoafcphaadaa
open Go.RowKit Sha Oc
set_option linter.unusedVariables false
set_option linter.unusedSimpArgs false
def rdS (t tg : UInt8) (b : List UInt8) (ll : Nat) (M : Int) : List UInt8 × Int := if t = tg ∧ ll = 0 ∧ (b.length : Int) ≤ M then (b, 0) else ([], 12)
theorem conv_back (b : List UInt8) (A : Option Addr) (c : Nat) (V : World) (hcn : A = none → c = 0) (hs : SrcAt A b V) : (convert 22 9 (.slice A b.length c)).run Try.prog V = .ok (.string ⟨b.toArray⟩) V := by
  cases A with
  | none =>
    have hb : b = [] := by
      cases b with
      | nil => rfl
      | cons x r =>
        obtain ⟨g, o, h, _⟩ := hs (by simp)
        cases h
    subst hb
    exact Lib.run_convert_nil_bytes V 22 9 5 c Try.underlying22 Try.underlying5 Try.underlying9
  | some a =>
    refine run_convert_bytes_back (P := Try.prog) V 22 9 5 a c b Try.underlying22 Try.underlying5 Try.underlying9 (fun j hj => ?_)
    obtain ⟨g, o, h, hcell⟩ := hs (by rintro rfl; simp at hj)
    obtain rfl := Option.some.inj h
    rw [add_eq]
    exact hcell j _ (List.getElem?_eq_getElem hj)
set_option maxRecDepth 100000 in
set_option maxHeartbeats 4000000 in
theorem readstr_any (t : UInt8) (b : List UInt8) (l : List Oct) (tg : UInt8) (M : Int) (w : World) (x y : Value) (hat : At (fun _ => True) w (.mk t b l) x y) :
    Calls Try.prog 10 #[.agg (cell3 (.mk t b l) x y), .int .u8 (tg.toNat : Int), .int .i64 M] w fun e w' => e = .returned (.tuple #[.string ⟨(rdS t tg b l.length M).1.toArray⟩, .int .i64 (rdS t tg b l.length M).2]) ∧ Below w.heap.size w w' := by
  obtain ⟨A, c, B, d, g, off, vb, vl, rfl, rfl, hc, hbm, hcn, hs, hd, hdn, he⟩ := hat.els
  show Calls Try.prog 10 #[.agg #[.int .u8 (t.toNat : Int), .slice A b.length c, .slice B l.length d], .int .u8 (tg.toNat : Int), .int .i64 M] w _
  have hconv := fun (V : World) (hb : Below w.heap.size w V) => conv_back b A c V hcn (hs.on hb)
  obtain ⟨r, hr⟩ : ∃ r, rdS t tg b l.length M = r := ⟨_, rfl⟩
  rw [hr]
  unfold rdS at hr
  obtain ⟨n, hn⟩ : ∃ n, b.length = n := ⟨_, rfl⟩
  obtain ⟨ll, hll⟩ : ∃ ll, l.length = ll := ⟨_, rfl⟩
  rw [hn, hll] at hr ⊢
  rw [hn] at hconv
  have HCV := Lib.hid hconv
  have HROW := Lib.hid (heap_alloc_new w (.cells #[.int .u8 (t.toNat : Int), .slice A n c, .slice B ll d] 28))
  have HB0 := Lib.hid (below_new w (.cells #[.int .u8 (t.toNat : Int), .slice A n c, .slice B ll d] 28))
  clear hconv hat hs he hc hbm hcn hd hdn hn hll
  by_cases h1 : t = tg
  · subst h1
    have hne := u8_eq t
    by_cases h2 : ll = 0
    · subst h2
      by_cases h3 : (n : Int) ≤ M
      · rw [if_pos ⟨rfl, rfl, h3⟩] at hr
        subst hr
        have h3d : ¬ M < (n : Int) := by omega
        clear h3
        go_enter Try.func10, Try.ntmps10
        go_upto_region 1 with (fail)
        generalize hV : World.alloc w _ = V at HROW HB0 ⊢
        clear hV
        have hlt := (Array.getElem?_eq_some_iff.1 HROW.out).1
        obtain ⟨_, hc0, hc1, hc2⟩ := facts3 HROW.out
        have hcv := HCV.out V HB0.out
        go_wp2_with fail
        go_ret2
        exact ⟨rfl, HB0.out⟩
      · rw [if_neg (fun h => h3 h.2.2)] at hr
        subst hr
        have h3d : M < (n : Int) := by omega
        clear h3
        go_enter Try.func10, Try.ntmps10
        go_upto_region 1 with (fail)
        generalize hV : World.alloc w _ = V at HROW HB0 ⊢
        clear hV
        have hlt := (Array.getElem?_eq_some_iff.1 HROW.out).1
        obtain ⟨_, hc0, hc1, hc2⟩ := facts3 HROW.out
        go_wp2_with fail
        go_ret2
        exact ⟨rfl, HB0.out⟩
    · rw [if_neg (fun h => h2 h.2.1)] at hr
      subst hr
      have h2i : (0 : Int) < (ll : Int) := by omega
      clear h2
      go_enter Try.func10, Try.ntmps10
      go_upto_region 1 with (fail)
      generalize hV : World.alloc w _ = V at HROW HB0 ⊢
      clear hV
      have hlt := (Array.getElem?_eq_some_iff.1 HROW.out).1
      obtain ⟨_, hc0, hc1, hc2⟩ := facts3 HROW.out
      go_wp2_with fail
      go_ret2
      exact ⟨rfl, HB0.out⟩
  · rw [if_neg (fun h => h1 h.1)] at hr
    subst hr
    have hne := u8_ne t tg h1
    clear h1
    go_enter Try.func10, Try.ntmps10
    go_upto_region 1 with (fail)
    generalize hV : World.alloc w _ = V at HROW HB0 ⊢
    clear hV
    have hlt := (Array.getElem?_eq_some_iff.1 HROW.out).1
    obtain ⟨_, hc0, hc1, hc2⟩ := facts3 HROW.out
    go_wp2_with fail
    go_ret2
    exact ⟨rfl, HB0.out⟩
end Go.Proofs.Ythagoafcphaadaa
