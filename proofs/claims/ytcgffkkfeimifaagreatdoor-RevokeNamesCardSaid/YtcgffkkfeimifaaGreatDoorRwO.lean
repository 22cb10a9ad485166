import Derived.Test.YtcgffkkfeimifaaGreatDoorRwCD
import Derived.Test.YtcgffkkfeimifaaGreatDoorRwFAD
namespace Go.Proofs.YtcgffkkfeimifaaGreatDoor
open Go.RowKit Sha Ots
set_option linter.unusedVariables false
set_option linter.unusedSimpArgs false
namespace Sg
open Oc Fast
def nsL : Rl := { exL with sg := ⟨0, sgn (msd rws7 0) exB, []⟩ }
def nsK : Rl := { nsL with ser := [5] }
theorem rws7_16 : rws7.length = 16 := rfl
theorem rws7_cells : bcells rws7 = #[.int .u8 7, .int .u8 0, .int .u8 0, .int .u8 0, .int .u8 0, .int .u8 0, .int .u8 0, .int .u8 0, .int .u8 0, .int .u8 0, .int .u8 0, .int .u8 0, .int .u8 0, .int .u8 0, .int .u8 0, .int .u8 0] := rfl
theorem exL_sgn0 : sgn0 exL = exL := rfl
theorem ns_sign : sgR exL rws7 0 0 = (nsL, 0) := by
 unfold sgR
 rw [exL_sgn0, if_pos exL_ok, if_pos ⟨by decide, by decide, by decide, by decide⟩, exL_body]
 rfl
theorem ns_bad1 : sgR exL rws7 0 1 = (rl0, 2) := by
 unfold sgR
 rw [exL_sgn0, if_pos exL_ok, if_neg (by decide)]
theorem rl0_bad : rvC rl0 = 8 := by decide
theorem ns_bad9 : sgR rl0 rws7 9 9 = (rl0, 8) := by
 unfold sgR
 have h : sgn0 rl0 = rl0 := rfl
 rw [h, rl0_bad, if_neg (by decide)]
theorem ns_sg : wfV 0 (sgn (msd rws7 0) exB).length 0 = true := by
 rw [sgn35]
 decide
theorem nsL_ok : rvC nsL = 0 := rvC_other (l := exL) exL_ok (n := 0) (cs := sgn (msd rws7 0) exB) (ps := []) ns_sg
theorem exK_ok : rvC { exL with ser := [5] } = 0 := by decide
theorem nsK_ok : rvC nsK = 0 := rvC_other (l := { exL with ser := [5] }) exK_ok (n := 0) (cs := sgn (msd rws7 0) exB) (ps := []) ns_sg
theorem nsL_wf : Wf nsL := ⟨by decide, by decide, sgn_16 _ _, fun x hx => by cases hx⟩
theorem nsK_wf : Wf nsK := ⟨by decide, by decide, sgn_16 _ _, fun x hx => by cases hx⟩
theorem rl0_wf : Wf rl0 := ⟨by decide, by decide, by decide, by decide⟩
theorem nsK_body : enc (rbv (rbOf { exL with ser := [5] })) = bodN := by kernel_rfl
theorem ns_chk (D : List UInt8) (R : List UInt8) : vf7 D (sgn (msd rws7 0) exB) [] R 0 0 = (key D (sgn (msd rws7 0) exB) == R) := by
 have h0 : Go.Proofs.YtcgffkkfeimifaaGreatDoor.chkV 0 0 (sgn (msd rws7 0) exB).length ([] : List (List UInt8)).length = 0 := by
  rw [sgn35]
  decide
 unfold vf7 rtV
 rw [if_pos h0, h0]
 rfl
theorem nsL_verifies : vfV nsL (node rws7 0 0) 0 = 0 := by
 have h : vf7 (enc (rbv (rbOf nsL))) nsL.sg.cs nsL.sg.ps (node rws7 0 0) 0 nsL.sg.idx = true := by
  have e : enc (rbv (rbOf nsL)) = exB := exL_body
  rw [e]
  show vf7 exB (sgn (msd rws7 0) exB) [] (node rws7 0 0) 0 0 = true
  rw [ns_chk]
  have hf : fol (key exB (sgn (msd rws7 0) exB)) 0 (pth rws7 0 0 0) = node rws7 0 0 := root_follows rws7 exB 0 0 (by decide)
  have hk : key exB (sgn (msd rws7 0) exB) = node rws7 0 0 := hf
  rw [hk]
  simp
 unfold vfV
 rw [if_pos nsL_ok, if_pos h]
theorem nsK_fails : vfV nsK (node rws7 0 0) 0 = 22 := by
 have h : vf7 (enc (rbv (rbOf nsK))) nsK.sg.cs nsK.sg.ps (node rws7 0 0) 0 nsK.sg.idx = false := by
  have e : enc (rbv (rbOf nsK)) = bodN := nsK_body
  rw [e]
  show vf7 bodN (sgn (msd rws7 0) exB) [] (node rws7 0 0) 0 0 = false
  rw [ns_chk]
  exact key_other
 unfold vfV
 rw [if_pos nsK_ok, h]
 rfl
theorem exL_fails : vfV exL (node rws7 0 0) 0 = 22 := by
 have h : vf7 (enc (rbv (rbOf exL))) exL.sg.cs exL.sg.ps (node rws7 0 0) 0 exL.sg.idx = false := by
  unfold vf7
  have hc : Go.Proofs.YtcgffkkfeimifaaGreatDoor.chkV 0 exL.sg.idx exL.sg.cs.length exL.sg.ps.length = 12 := by decide
  rw [hc]
  rfl
 unfold vfV
 rw [if_pos exL_ok, h]
 rfl
theorem rl0_fails (R : List UInt8) : vfV rl0 R 0 = 8 := by
 unfold vfV
 rw [rl0_bad, if_neg (by decide)]
theorem dec_nil : rvD [] = (rl0, 12) := by kernel_rfl
theorem dec_body : rvD exB = (rl0, 12) := by kernel_rfl
end Sg
end Go.Proofs.YtcgffkkfeimifaaGreatDoor
