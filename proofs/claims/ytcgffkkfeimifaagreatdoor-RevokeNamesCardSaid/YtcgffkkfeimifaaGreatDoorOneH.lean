import Derived.Test.YtcgffkkfeimifaaGreatDoorOneAll
import Derived.Stop.BytesEq
namespace Go.Proofs.YtcgffkkfeimifaaGreatDoor
open Go.RowKit Sha Ots
set_option linter.unusedVariables false
set_option linter.unusedSimpArgs false
theorem eql_short (F G : List UInt8) (hF : F.length = 16) (hG : G.length = 16) (w : World) : (binOp .eql 41 (.agg (bcells F)) (.agg (bcells G))).run Tryz.prog w = .ok (.bool (F == G)) w :=
 run_eql_bytes (P := Tryz.prog) w 41 5 16 Tryz.underlying41 Tryz.underlying5 (fun _ => by kernel_rfl) F G hF hG
theorem neq_short (F G : List UInt8) (hF : F.length = 16) (hG : G.length = 16) (w : World) : (binOp .neq 41 (.agg (bcells F)) (.agg (bcells G))).run Tryz.prog w = .ok (.bool (!(F == G))) w := by
 have h := eql_short F G hF hG w
 have h2 : (Op.equal 41 (.agg (bcells F)) (.agg (bcells G))).run Tryz.prog w = .ok (F == G) w := by
  cases hr : (Op.equal 41 (.agg (bcells F)) (.agg (bcells G))).run Tryz.prog w with
  | ok a w' =>
   unfold binOp at h
   simp [hr] at h
   rw [h.1, h.2]
  | halt e w' =>
   unfold binOp at h
   simp [hr] at h
 unfold binOp
 simp [h2]
end Go.Proofs.YtcgffkkfeimifaaGreatDoor
