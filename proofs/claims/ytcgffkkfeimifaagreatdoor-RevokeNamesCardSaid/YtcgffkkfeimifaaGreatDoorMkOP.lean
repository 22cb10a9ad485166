import Derived.Test.YtcgffkkfeimifaaGreatDoorOneAll
import Derived.Deep.Slices
import Derived.OpenShut
import Derived.Test.YtcgffkkfeimifaaGreatDoorMkDL
import Derived.Deep.Strs
import Derived.Lib.SmallJoins
namespace Go.Proofs.YtcgffkkfeimifaaGreatDoor
open Go.ChangeShapes Go.WideShapes Go.ChangeAt Go.RowKit Go.Joins
set_option linter.unusedVariables false
set_option maxRecDepth 100000
section
variable {H : Type} {enc : TypeId × Value → H} {w : World}
end
end Go.Proofs.YtcgffkkfeimifaaGreatDoor
namespace Go.Proofs.YtcgffkkfeimifaaGreatDoor
open Go.ChangeShapes Go.WideShapes Go.ChangeAt Go.RowKit Go.Joins Sha Ots
set_option linter.unusedVariables false
set_option maxRecDepth 100000
section
variable {H : Type} {enc : TypeId × Value → H} {w : World}
end
end Go.Proofs.YtcgffkkfeimifaaGreatDoor
namespace Go.Proofs.YtcgffkkfeimifaaGreatDoor
open Go.RowKit Sha Ots
set_option linter.unusedVariables false
set_option linter.unusedSimpArgs false
theorem chkV_zero {h n : Int} {cl pl : Nat} (h0 : chkV h n cl pl = 0) : (0 ≤ h ∧ h ≤ 4) ∧ (0 ≤ n ∧ n < ((2 ^ h.toNat : Nat) : Int)) ∧ cl = 35 ∧ (pl : Int) = h := by
 unfold chkV at h0
 by_cases h1 : 0 ≤ h ∧ h ≤ 4
 ·
  rw [if_pos h1] at h0
  by_cases h2 : (0 ≤ n ∧ n < ((2 ^ h.toNat : Nat) : Int)) ∧ cl = 35 ∧ (pl : Int) = h
  ·
   exact ⟨h1, h2⟩
  ·
   rw [if_neg h2] at h0
   exact absurd h0 (by decide)
 ·
  rw [if_neg h1] at h0
  exact absurd h0 (by decide)
def rtV (l : List UInt8) (cs ps : List (List UInt8)) (h n : Int) : List UInt8 := if chkV h n cs.length ps.length = 0 then fol (key l cs) n.toNat ps else List.replicate 16 0
theorem rtV_len (l : List UInt8) (cs ps : List (List UInt8)) (h n : Int) : (rtV l cs ps h n).length = 16 := by
 unfold rtV
 split
 ·
  exact fol_len _ (key_len _ _) _ _
 ·
  rfl
theorem root_all (l : List UInt8) (A : Option Addr) (c : Nat) (hl : l.length ≤ 100000) (hc : l.length ≤ c) (hcm : c ≤ maxLen) (n : Int) (CA PA : Option Addr) (cs ps : List (List UInt8)) (cc pc : Nat) (w : World) (hsrc : SrcAt A l w) (hsc : Shorts CA cs w) (hsp : Shorts PA ps w) (env : DEnv w) (h : Int) :
  Calls Tryz.prog 51 #[.int .i64 h, .slice A l.length c, .agg #[.int .i64 n, .slice CA cs.length cc, .slice PA ps.length pc]] w fun e w' => e = .returned (.tuple #[.agg (bcells (rtV l cs ps h n)), .int .i64 (chkV h n cs.length ps.length)]) ∧ Below w.heap.size w w' := by
 by_cases h0 : chkV h n cs.length ps.length = 0
 ·
  obtain ⟨h1, h2, h3, h4⟩ := chkV_zero h0
  have hr : rtV l cs ps h n = fol (key l cs) n.toNat ps := by unfold rtV; rw [if_pos h0]
  obtain ⟨k, rfl⟩ : ∃ k : Nat, h = (k : Int) := ⟨h.toNat, by omega⟩
  obtain ⟨j, rfl⟩ : ∃ j : Nat, n = (j : Int) := ⟨n.toNat, by omega⟩
  rw [Int.toNat_natCast] at h2
  have hpk : ps.length = k := by omega
  have hj : j < 2 ^ k := by have := h2.2; exact_mod_cast this
  rw [h0, hr, Int.toNat_natCast, h3, hpk]
  exact root_any k j (by omega) hj l A c hl hc hcm cs ps CA PA cc pc h3 hpk w hsrc hsc hsp env
 ·
  have hr : rtV l cs ps h n = List.replicate 16 0 := by unfold rtV; rw [if_neg h0]
  rw [hr]
  exact root_bad h n _ CA PA _ cc _ pc h0 w
theorem verify_all (R : List UInt8) (hR : R.length = 16) (x : Int) (l : List UInt8) (A : Option Addr) (c : Nat) (hl : l.length ≤ 100000) (hc : l.length ≤ c) (hcm : c ≤ maxLen) (n : Int) (CA PA : Option Addr) (cs ps : List (List UInt8)) (cc pc : Nat) (w : World) (hsrc : SrcAt A l w) (hsc : Shorts CA cs w) (hsp : Shorts PA ps w) (env : DEnv w) :
  Calls Tryz.prog 27 #[.agg (pkc R x), .slice A l.length c, .agg #[.int .i64 n, .slice CA cs.length cc, .slice PA ps.length pc]] w fun e w' => e = .returned (.bool (decide (chkV x n cs.length ps.length = 0) && (rtV l cs ps x n == R))) ∧ Below w.heap.size w w' :=
 verify7_of R (rtV l cs ps x n) hR (rtV_len _ _ _ _ _) x n (chkV x n cs.length ps.length) A l.length c CA PA cs.length cc ps.length pc w (fun V hb => root_all l A c hl hc hcm n CA PA cs ps cc pc V (hsrc.on hb) (hsc.on hb) (hsp.on hb) (env.on hb) x)
end Go.Proofs.YtcgffkkfeimifaaGreatDoor
