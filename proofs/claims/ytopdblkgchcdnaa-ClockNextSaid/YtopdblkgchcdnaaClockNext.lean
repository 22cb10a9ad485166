/- ClockNext: for every events and number, the next event is one of the events, behind the number, and no event lies between. No condition. -/
import Derived.Test.YtopdblkgchcdnaaClkH
import Derived.Test.YtopdblkgchcdnaaClkN
import Derived.Test.YtopdblkgchcdnaaRows
namespace Go.Proofs.Ytopdblkgchcdnaa
open Go.ChangeShapes Go.WideShapes Go.ChangeAt Go.RowKit Clk
open Go.WideMaps Go.WideElems
set_option linter.unusedVariables false
set_option linter.unusedSimpArgs false
/-- some of the first k -/
def anyB (f : Int → Bool) (zs : List Int) (k : Nat) : Bool := (zs.take k).any f
theorem anyB_zero (f : Int → Bool) (zs : List Int) : anyB f zs 0 = false := rfl
theorem anyB_succ (f : Int → Bool) (zs : List Int) (k : Nat) (h : k < zs.length) : anyB f zs (k + 1) = (anyB f zs k || f (zs.getD k 0)) := by
  unfold anyB
  rw [List.take_add_one, List.any_append]
  simp [List.getD, List.getElem?_eq_getElem h]
theorem anyB_false (f : Int → Bool) (zs : List Int) (h : ∀ j, j < zs.length → f (zs.getD j 0) = false) : anyB f zs zs.length = false := by
  have : ∀ k, k ≤ zs.length → anyB f zs k = false := by
    intro k
    induction k with
    | zero => intro _; rfl
    | succ k ih => intro hk; rw [anyB_succ f zs k (by omega), ih (by omega), h k (by omega)]; rfl
  exact this _ (Nat.le_refl _)
theorem anyB_true (f : Int → Bool) (zs : List Int) (j : Nat) (hj : j < zs.length) (h : f (zs.getD j 0) = true) : anyB f zs zs.length = true := by
  have : ∀ k, j < k → k ≤ zs.length → anyB f zs k = true := by
    intro k
    induction k with
    | zero => intro h _; omega
    | succ k ih =>
      intro h1 h2
      rw [anyB_succ f zs k (by omega)]
      by_cases hk : j = k
      · subst hk; rw [h]; simp
      · rw [ih (by omega) (by omega)]; rfl
  exact this _ hj (Nat.le_refl _)
set_option maxRecDepth 100000 in
set_option maxHeartbeats 4000000 in
theorem next_core (t : Int) (b off cap : Nat) (zs : List Int) (n g : Int) (w : World) (hl : zs.length ≤ 1000)
    (hc : ∀ k, k < zs.length → w.cell? ⟨b, off + k, none⟩ = some (.int .i64 (zs.getD k 0)))
    (h3 : ∀ w1, Below w.heap.size w w1 → Calls Try.prog 15 #[.slice (some ⟨b, off, none⟩) zs.length cap, .int .i64 t] w1 fun e' w' => e' = .returned (.tuple #[.int .i64 n, .int .i64 g]) ∧ w1 = w')
    (hk : g = 6 ∧ n = 0 ∧ (∀ j, j < zs.length → ¬ t < zs.getD j 0) ∨ g = 0 ∧ t < n ∧ (∃ j, j < zs.length ∧ zs.getD j 0 = n) ∧ (∀ j, j < zs.length → t < zs.getD j 0 → n ≤ zs.getD j 0)) :
    Calls Try.prog 9 #[.slice (some ⟨b, off, none⟩) zs.length cap, .int .i64 t] w fun e' w' => e' = .returned (.bool true) ∧ Below w.heap.size w w' := by
  have H3 := Lib.hid h3
  have HC := Lib.hid hc
  have HK := Lib.hid hk
  clear h3 hc hk
  go_enter Try.func9, Try.ntmps9
  go_wp2_with fail
  refine (alive_any _).mono ?_
  rintro e' w1 ⟨rfl, hb1⟩
  have HB1 := Lib.hid hb1
  have HC1 := Lib.hid (fun (k : Nat) (hk : k < zs.length) => (hb1.cell (p := ⟨b, off + k, none⟩) (World.block_lt_of_cell? _ _ (HC.out k hk))).trans (HC.out k hk))
  clear hb1 HC
  go_wp2_with fail
  refine (H3.out _ HB1.out).mono ?_
  rintro e' w2 ⟨rfl, rfl⟩
  go_wp2_with fail
  rcases HK.out with ⟨rfl, rfl, h1⟩ | ⟨rfl, h1, h2, h4⟩
  · have F1 := Lib.hid h1
    clear h1 HK
    go_loop [8, 9, 10] (fun f l i => ∃ k : Nat, k ≤ zs.length ∧ i = .int .i64 k ∧ f = .bool (anyB (· == 0) zs k) ∧ l = .bool false) (fun _ _ i => zs.length - (intOf i).toNat)
    case atStart => exact ⟨0, Nat.zero_le _, rfl, rfl, rfl⟩
    case round =>
      obtain ⟨k, hk, rfl, rfl, rfl⟩ := hrel
      by_cases hlt : k < zs.length
      · have hcell := HC1.out k hlt
        have hS := anyB_succ (· == 0) zs k hlt
        have hF : ¬ t < zs.getD k 0 := by have := F1.out k hlt; omega
        obtain ⟨x, hx⟩ : ∃ x, zs.getD k 0 = x := ⟨_, rfl⟩
        rw [hx] at hcell hF hS
        have hF2 : decide (t < x) = false := by simpa using hF
        have HS := Lib.hid hS
        clear hx hS hF
        cases ha : anyB (· == 0) zs k
        · rw [ha] at HS
          cases hx0 : (x == 0)
          all_goals
            have HS2 : RowKit.Hid (anyB (· == 0) zs (k + 1) = (x == 0)) := Lib.hid (by rw [HS.out]; simp)
            rw [hx0] at HS2
            clear HS ha
            go_wp2_with fail
            go_round
            case rel => exact ⟨k + 1, by omega, by go_num, by rw [HS2.out], rfl⟩
            case measure => simp [intOf]; omega
        · rw [ha] at HS
          have HS2 : RowKit.Hid (anyB (· == 0) zs (k + 1) = true) := Lib.hid (by rw [HS.out]; simp)
          clear HS ha
          go_wp2_with fail
          go_round
          case rel => exact ⟨k + 1, by omega, by go_num, by rw [HS2.out], rfl⟩
          case measure => simp [intOf]; omega
      · go_wp2_with fail
        go_ret
        exact ⟨rfl, HB1.out⟩
  · have F2 := Lib.hid h2
    have F4 := Lib.hid h4
    clear h2 h4 HK
    go_loop [8, 9, 10] (fun f l i => ∃ k : Nat, ∃ lb : Bool, k ≤ zs.length ∧ i = .int .i64 k ∧ f = .bool (anyB (· == n) zs k) ∧ l = .bool lb) (fun _ _ i => zs.length - (intOf i).toNat)
    case atStart => exact ⟨0, false, Nat.zero_le _, rfl, rfl, rfl⟩
    case round =>
      obtain ⟨k, lb, hk, rfl, rfl, rfl⟩ := hrel
      by_cases hlt : k < zs.length
      · have hcell := HC1.out k hlt
        have hS := anyB_succ (· == n) zs k hlt
        have hF := F4.out k hlt
        obtain ⟨x, hx⟩ : ∃ x, zs.getD k 0 = x := ⟨_, rfl⟩
        rw [hx] at hcell hF hS
        have HS := Lib.hid hS
        have HF := Lib.hid hF
        clear hx hS hF
        cases ha : anyB (· == n) zs k
        · rw [ha] at HS
          cases hx0 : (x == n)
          all_goals
            have HS2 : RowKit.Hid (anyB (· == n) zs (k + 1) = (x == n)) := Lib.hid (by rw [HS.out]; simp)
            rw [hx0] at HS2
            clear HS ha
            cases lb
            all_goals
              by_cases htx : t < x
              · have hxn : ¬ x < n := by have := HF.out htx; omega
                go_wp2_with fail
                go_round
                case rel => exact ⟨k + 1, _, by omega, by go_num, by rw [HS2.out], rfl⟩
                case measure => simp [intOf]; omega
              · go_wp2_with fail
                go_round
                case rel => exact ⟨k + 1, _, by omega, by go_num, by rw [HS2.out], rfl⟩
                case measure => simp [intOf]; omega
        · rw [ha] at HS
          have HS2 : RowKit.Hid (anyB (· == n) zs (k + 1) = true) := Lib.hid (by rw [HS.out]; simp)
          clear HS ha
          cases lb
          all_goals
            by_cases htx : t < x
            · have hxn : ¬ x < n := by have := HF.out htx; omega
              go_wp2_with fail
              go_round
              case rel => exact ⟨k + 1, _, by omega, by go_num, by rw [HS2.out], rfl⟩
              case measure => simp [intOf]; omega
            · go_wp2_with fail
              go_round
              case rel => exact ⟨k + 1, _, by omega, by go_num, by rw [HS2.out], rfl⟩
              case measure => simp [intOf]; omega
      · obtain ⟨j, hj, hjn⟩ := F2.out
        have hall : anyB (· == n) zs k = true := by
          have : k = zs.length := by omega
          rw [this]
          exact anyB_true _ zs j hj (by simp only [hjn, beq_self_eq_true])
        rw [hall]
        clear hall hj hjn
        go_wp2_with fail
        go_ret
        exact ⟨rfl, HB1.out⟩
set_option maxHeartbeats 2000000 in
theorem next_few (t : Int) (v0 : Option Addr) (len cap : Nat) (zs : List Int) (hlen : zs.length = len) (w : World) (h0 : len = 0 ∨ 1000 < len) (hm : len ≤ 9223372036854775807) (n g : Int)
    (h3 : len ≤ 1200 → ∀ w1, Below w.heap.size w w1 → Calls Try.prog 15 #[.slice v0 len cap, .int .i64 t] w1 fun e' w' => e' = .returned (.tuple #[.int .i64 n, .int .i64 g]) ∧ w1 = w')
    (hg : len = 0 ∧ n = 0 ∧ g = 6 ∨ 1000 < len ∧ n = 0 ∧ g = 4) :
    Calls Try.prog 9 #[.slice v0 len cap, .int .i64 t] w fun e' w' => e' = .returned (.bool true) ∧ Below w.heap.size w w' := by
  have H3 := Lib.hid h3
  clear h3
  rcases hg with ⟨rfl, rfl, rfl⟩ | ⟨h1, rfl, rfl⟩
  · clear h0 hlen
    go_enter Try.func9, Try.ntmps9
    go_wp2_with fail
    refine (alive_any _).mono ?_
    rintro e' w1 ⟨rfl, hb1⟩
    have HB1 := Lib.hid hb1
    clear hb1
    go_wp2_with fail
    refine (H3.out (by omega) _ HB1.out).mono ?_
    rintro e' w2 ⟨rfl, rfl⟩
    go_wp2_with fail
    go_loop [8, 9, 10] (fun f l i => f = .bool false ∧ l = .bool false ∧ i = .int .i64 0) (fun _ _ _ => 0)
    case atStart => exact ⟨rfl, rfl, rfl⟩
    case round =>
      obtain ⟨rfl, rfl, rfl⟩ := hrel
      go_wp2_with fail
      go_ret
      exact ⟨rfl, HB1.out⟩
  · clear h0 hlen
    by_cases h2 : len ≤ 1200
    · go_enter Try.func9, Try.ntmps9
      go_wp2_with fail
      refine (alive_any _).mono ?_
      rintro e' w1 ⟨rfl, hb1⟩
      have HB1 := Lib.hid hb1
      clear hb1
      go_wp2_with fail
      refine (H3.out h2 _ HB1.out).mono ?_
      rintro e' w2 ⟨rfl, rfl⟩
      go_wp2_with fail
      go_ret
      exact ⟨rfl, HB1.out⟩
    · go_enter Try.func9, Try.ntmps9
      go_wp2_with fail
      refine (alive_any _).mono ?_
      rintro e' w1 ⟨rfl, hb1⟩
      have HB1 := Lib.hid hb1
      clear hb1
      go_wp2_with fail
      go_ret
      exact ⟨rfl, HB1.out⟩
theorem next_true (v : Value) (zs : List Int) (t : Int) (w : World) (hz : zs.length ≤ 9223372036854775807) (hv : Evs w v zs) :
    Calls Try.prog 9 #[v, .int .i64 t] w fun e' w' => e' = .returned (.bool true) ∧ Below w.heap.size w w' := by
  have hn : ∀ w1, Below w.heap.size w w1 → _ := fun w1 hb => next_any t v zs w1 hz (hv.on hb)
  by_cases h0 : zs.length = 0 ∨ 1000 < zs.length
  · have hv' := hv
    have hshape : ∃ v0 cap, v = .slice v0 zs.length cap := by
      rcases hv' with ⟨⟨a, cap, rfl⟩, rfl⟩ | ⟨b, off, cap, rfl, hc⟩
      · exact ⟨a, cap, rfl⟩
      · exact ⟨_, _, rfl⟩
    obtain ⟨v0, cap, rfl⟩ := hshape
    refine next_few t v0 zs.length cap zs rfl w h0 hz _ _ (fun _ => hn) ?_
    rcases h0 with h0 | h0
    · have : zs = [] := List.eq_nil_of_length_eq_zero h0
      subst this
      exact Or.inl ⟨rfl, by simp [neV, nxt_nil], by simp [neE, nxt_nil]⟩
    · exact Or.inr ⟨h0, by simp [neV, Nat.not_le.2 h0], by simp [neE, Nat.not_le.2 h0]⟩
  · rcases hv with ⟨⟨a, cap, rfl⟩, rfl⟩ | ⟨b, off, cap, rfl, hc⟩
    · exact absurd (Or.inl rfl) h0
    · have hl : zs.length ≤ 1000 := by omega
      refine next_core t b off cap zs _ _ w hl hc hn ?_
      rcases nxt_says t zs with ⟨h1, h2⟩ | ⟨m, h1, h2, h3, h4⟩
      · exact Or.inl ⟨by simp [neE, hl, h1], by simp [neV, h1], h2⟩
      · have e : neV t zs = m := by simp [neV, hl, h1]
        rw [e]
        exact Or.inr ⟨by simp [neE, hl, h1], h3, h2, h4⟩
/-! The row -/
set_option maxRecDepth 100000 in
theorem next_lifted (os : Os) (started : os.Started) (H : Type) (enc : TypeId × Value → H) :
    ReturnsInHanded {} Try.checked os 9 .any (Rows.clockNextSpec.pre6 enc Try.prog Try.f9 Rows.clockNextRow.domain false) (Rows.clockNextSpec.post enc Try.prog Try.f9 false true false false) := by
  refine returnsInHanded_of_change (C := Try.checked) Try.own started (by kernel_rfl) Try.func9
    (ChangeSpec.witness6 (enc := enc) (C := Try.checked) false ⟨#[], #[.slice none 0 0, .int .i64 0], []⟩ 8 (by kernel_rfl) (by kernel_rfl) (by kernel_rfl) (by kernel_rfl)) ?_
  intro W base args ds gs before hval0 hW hcnd _
  have hval : ∀ (j : Nat) t v, Try.f9.params[j]? = some t → args[j]? = some v → Value.okWide Try.prog W .any base t v := hval0
  have hW' := hW
  obtain ⟨p, q, hA0, hV, rfl, hfz, hnd⟩ := hW
  have hA : DataW.TrodAll enc Try.prog W 0 (fun _ => true) true Try.f9.params.toList args.toList ds p := hA0
  rw [Try.params9] at hA hval
  obtain ⟨v0, vs0, d0, ds0, p0, q0, hargs, rfl, rfl, h0, r0⟩ := trodAll_cons hA
  obtain ⟨v1, vs1, d1, ds1, p1, q1, rfl, rfl, rfl, h1, r1⟩ := trodAll_cons r0
  obtain ⟨rfl, rfl, rfl⟩ := trodAll_nil r1
  obtain rfl : args = #[v0, v1] := by cases args; simp_all
  obtain ⟨rfl, rfl⟩ := trodVars_none hV
  obtain ⟨zs, z0, y0⟩ := open_events (hval 0 35 v0 rfl rfl) h0
  obtain ⟨t, rfl, e1, f1, w1⟩ := open_int Try.underlying2 (hval 1 2 v1 rfl rfl) h1
  refine (next_true _ zs t W z0 y0).mono fun e W' ⟨he, hg⟩ => ?_
  subst he
  exact ⟨_, rfl, law_post Try.laidOut (by kernel_rfl) (by kernel_rfl) hW' hg (trodAll_cons_mk (shut_bool Try.underlying4 _) trodAll_mk0) rfl rfl⟩

/-- the statement -/
theorem next_holds : Rows.ClockNextSaid :=
  OpenClaim.holds_of_wide 9 Try.f9 rfl rfl rfl rfl rfl rfl rfl ⟨rfl, rfl, rfl, rfl, rfl⟩ rfl rfl rfl rfl rfl (by kernel_rfl) Try.func9 (by kernel_rfl)
    (of_decide_eq_true (by kernel_rfl)) (by unfold Func.isWrapper; rw [if_neg (of_decide_eq_false (by kernel_rfl))]; exact ⟨rfl, rfl⟩)
    (fun os started H enc _ => next_lifted os started H enc)
#print axioms next_holds
end Go.Proofs.Ytopdblkgchcdnaa
