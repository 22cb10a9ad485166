/-
  THE WALK over the reference's comparison of bytes.
-/
import Derived.Test.YtafolokkjpbieaaDoorDigOpen
namespace Go.Proofs.YtafolokkjpbieaaDoor
open Go.RowKit Sha
set_option linter.unusedVariables false
set_option linter.unusedSimpArgs false
set_option maxRecDepth 100000 in
set_option maxHeartbeats 1000000 in
theorem same_eq (l : List UInt8) (A1 A2 : Option Addr) (c1 c2 : Nat) (hl : l.length ≤ 1000000) (h1 : l.length ≤ c1) (h2 : l.length ≤ c2) (w : World) (s1 : SrcAt A1 l w) (s2 : SrcAt A2 l w) :
    Calls Tryd.prog 18 #[.slice A1 l.length c1, .slice A2 l.length c2] w fun e w' => e = .returned (.bool true) ∧ ∃ m, w' = w.drewN m := by
  obtain ⟨n, hn⟩ : ∃ n, l.length = n := ⟨_, rfl⟩
  rw [hn] at hl h1 h2 ⊢
  have HN := Lib.hid hn
  have S1 := Lib.hid s1
  have S2 := Lib.hid s2
  have hnn : ((n : Int) != (n : Int)) = false := by simp
  clear hn s1 s2
  go_enter Tryd.func18, Tryd.ntmps18
  go_wp2_with fail
  go_loopw [5] (fun i wr => ∃ (k m : Nat), k ≤ n ∧ i = .int .i64 (k : Int) ∧ wr = w.drewN m) (fun i _ => n - (intOf i).toNat)
  case atStart => exact ⟨0, 0, by omega, rfl, rfl⟩
  case round =>
    obtain ⟨k, m, hk, rfl, hwr⟩ := hrel
    have HWR := Lib.hid hwr
    clear hwr
    by_cases hlt : k < n
    · obtain ⟨x, hx⟩ : ∃ x, l[k]? = some x := ⟨_, List.getElem?_eq_getElem (by rw [HN.out]; exact hlt)⟩
      have hne : l ≠ [] := by intro e; rw [e] at hx; simp at hx
      obtain ⟨g1, o1, rfl, c1⟩ := S1.out hne
      obtain ⟨g2, o2, rfl, c2⟩ := S2.out hne
      have e1 : wr.cell? ⟨g1, o1 + k, none⟩ = some (.int .u8 (x.toNat : Int)) := by rw [HWR.out]; exact c1 k x hx
      have e2 : wr.cell? ⟨g2, o2 + k, none⟩ = some (.int .u8 (x.toNat : Int)) := by rw [HWR.out]; exact c2 k x hx
      have hki : (k : Int) < (n : Int) := by omega
      clear hx hne c1 c2
      go_wp2_with fail
      go_quiet (fail)
      go_wp2_with fail
      go_roundw
      case rel => exact ⟨k + 1, _, by omega, by go_num, by rw [HWR.out, World.drewN_drewN]⟩
      case measure => simp [intOf]; omega
    · have hge : ¬ ((k : Int) < (n : Int)) := by omega
      go_wp2_with fail
      go_ret
      exact ⟨rfl, m, HWR.out⟩
end Go.Proofs.YtafolokkjpbieaaDoor
