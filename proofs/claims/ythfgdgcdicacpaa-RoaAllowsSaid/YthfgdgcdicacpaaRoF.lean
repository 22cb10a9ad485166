/-
  THE WALK of layer 14's law RoaAllows.
-/
import Derived.Test.YthfgdgcdicacpaaRoE
namespace Go.Proofs.Ythfgdgcdicacpaa
namespace Ro
open Go.RowKit Sha Adr
set_option linter.unusedVariables false
set_option linter.unusedSimpArgs false
set_option maxRecDepth 100000 in
set_option maxHeartbeats 4000000 in
theorem lawallows_any (ra : Ra) (hw : Wf ra) (A : Option Addr) (c : Nat) (pf ph pl pn : Int) (uph : U64 ph) (upl : U64 pl) (a : Int) (w : World) (hp : Aps A ra.ps w) :
    Calls Try.prog 4 #[.agg #[.int .u32 ra.sy, .slice A ra.ps.length c], .agg #[.int .u8 pf, .int .u64 ph, .int .u64 pl, .int .i64 pn], .int .u32 a] w fun e w' => e = .returned (.bool true) ∧ Below w.heap.size w w' := by
  obtain ⟨sy, ps⟩ := ra
  dsimp only at hp ⊢
  have HP1 := Lib.hid (fun (hl : ps.length ≤ 100000) (V : World) (hb : Below w.heap.size w V) => allows_any sy ps A c hl hw.ps pf ph pl pn uph upl a V (hp.on hb))
  have HP2 := Lib.hid (fun (hl : ps.length ≤ 100000) (V : World) (hb : Below w.heap.size w V) => allows_ref sy ps A c hl hw.ps pf ph pl pn uph upl a V (hp.on hb))
  obtain ⟨n, hn⟩ : ∃ n, ps.length = n := ⟨_, rfl⟩
  rw [hn] at HP1 HP2 ⊢
  have HG := Lib.hid (fun (V : World) => great_any sy n A c V)
  generalize alV sy ps pf ph pl pn a = RV at HP1 HP2
  generalize alE ps pf ph pl pn = RE at HP1 HP2
  unfold AlP at HP1 HP2
  have HB0 := Lib.hid ((below_new w (.cells #[.int .u32 sy, .slice A n c] 25)).alloc (by simp) (.cells #[.int .u8 pf, .int .u64 ph, .int .u64 pl, .int .i64 pn] 44))
  have HR0 := Lib.hid (heap_alloc2_oldR w (.cells #[.int .u32 sy, .slice A n c] 25) (.cells #[.int .u8 pf, .int .u64 ph, .int .u64 pl, .int .i64 pn] 44))
  have HQ0 := Lib.hid (heap_alloc2_newR w (.cells #[.int .u32 sy, .slice A n c] 25) (.cells #[.int .u8 pf, .int .u64 ph, .int .u64 pl, .int .i64 pn] 44))
  clear hn hw hp uph upl
  go_enter Try.func4, Try.ntmps4
  go_upto_region 1 with (fail)
  generalize hV : World.alloc (World.alloc w _) _ = V at HB0 HR0 HQ0 ⊢
  clear hV
  obtain ⟨hlt, c0, c1⟩ := facts2 HR0.out
  go_wp2_with fail
  refine (HG.out V).mono ?_
  rintro e w2 ⟨rfl, hb⟩
  have HB2 := Lib.hid (chain HB0.out hb)
  have HR2 := Lib.hid (row_on HR0.out hb)
  have HQ2 := Lib.hid (row_on HQ0.out hb)
  clear hb c0 c1 hlt
  by_cases h : 130 < n
  · rw [decide_eq_true h]
    go_wp2_with fail
    go_ret
    exact ⟨rfl, HB2.out⟩
  · rw [decide_eq_false h]
    have H1 := Lib.hid (HP1.out (by omega) w2 HB2.out)
    have H2 := Lib.hid (HP2.out (by omega))
    clear h HP1 HP2
    obtain ⟨hlt, c0, c1⟩ := facts2 HR2.out
    obtain ⟨hlt', p0, p1, p2, p3⟩ := facts4 HQ2.out
    go_wp2_with fail
    refine H1.out.mono ?_
    rintro e w3 ⟨rfl, hb⟩
    have HB3 := Lib.hid (chain HB2.out hb)
    have HR3 := Lib.hid (row_on HR2.out hb)
    have HQ3 := Lib.hid (row_on HQ2.out hb)
    clear hb c0 c1 hlt p0 p1 p2 p3 hlt'
    obtain ⟨hlt, c0, c1⟩ := facts2 HR3.out
    obtain ⟨hlt', p0, p1, p2, p3⟩ := facts4 HQ3.out
    go_wp2_with fail
    refine (H2.out w3 HB3.out).mono ?_
    rintro e w4 ⟨rfl, hb⟩
    have HB4 := Lib.hid (chain HB3.out hb)
    clear hb c0 c1 hlt p0 p1 p2 p3 hlt'
    cases RV
    all_goals
      go_wp2_with fail
      go_ret
      exact ⟨by first | rfl | simp, HB4.out⟩
end Ro
end Go.Proofs.Ythfgdgcdicacpaa
