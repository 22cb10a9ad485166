/-
  No cell of these rows narrows 'for every input' (looked for: loops, veiled, ifaces, maps, wideKeys, modest, calm, conditions, laid).
  DERIVED. THE GIVEN ROWS OF THIS SEAT. 5 by the template 'for every input the law returns true; each argument reads behind the call as it read before'; 0 by the template 'total and deterministic' (their statements: YthfgdgcdicacpaaTotals.lean).
  GIVEN WITH THE SEED: the statements are not yours to turn. If you find one false, say at which input.
  Laid BY PROGRAM, IN A SANDBOX (cutbox-rows.mjs): the forced cells as the released guide's own fill.sh prints them over the translation 049658f33db305b3… (all of the seat's roots in one cut). By AI agents, Wed Nov 11 2026. No macro, syntax, notation, axiom, sorry.
-/
import Derived.Test.YthfgdgcdicacpaaChecked
import GoSem.Claim
import GoSem.ClaimJoined
import GoSem.ClaimMapViews
import Derived.JoinedTies
import Derived.KernelRfl
namespace Go.Proofs.Ythfgdgcdicacpaa
/- THE CELL 'sum', in the pinned program and in every row, IS THE sha256 OF THE DUMP (.gsa) THAT YthfgdgcdicacpaaProg.lean LOADS. Nothing in Lean hashes anything: it is a label: what it is worth is what the hold of that sum in a sandbox is worth. -/
noncomputable def Try.pinned : Pinned := { name := "ythfgdgcdicacpaa", sum := "049658f33db305b3127d70716f74a51b78415375caede1d4e236cd74e752036c", checked := Try.checked }
namespace Rows
def none {H : Type} : Left H := { results := [], args := [] }

/-- 'gatepathlaw14.RoaCodes': WHATEVER THE INPUT: true; the input reads as it did. -/
def roaCodesSpec : ChangeSpec := { name := "roaCodes", fn := fun _ => fun
  | [d1, d2] => { results := [.lit (.bool true)], args := [d1, d2] }
  | _ => none }
def roaCodesRow : OpenClaim := { program := "ythfgdgcdicacpaa", sum := "049658f33db305b3127d70716f74a51b78415375caede1d4e236cd74e752036c", func := "gatepath/gatepathlaw14.RoaCodes", spec := "roaCodes", unfollowed := true, recurses := true, apart := false }
def RoaCodesSaid : Prop := roaCodesRow.holds Try.pinned (OpenSpec.ofChange roaCodesSpec)

/-- ITS FALSE NEIGHBOUR: 'it returns false'. Refute it at one input. -/
def roaCodesWrong : ChangeSpec := { name := "roaCodes", fn := fun _ => fun
  | [d1, d2] => { results := [.lit (.bool false)], args := [d1, d2] }
  | _ => none }
def RoaCodesWrongFalsely : Prop := roaCodesRow.holds Try.pinned (OpenSpec.ofChange roaCodesWrong)

/-- 'gatepathlaw14.RoaAllows': WHATEVER THE INPUT: true; the input reads as it did. -/
def roaAllowsSpec : ChangeSpec := { name := "roaAllows", fn := fun _ => fun
  | [d1, d2, d3] => { results := [.lit (.bool true)], args := [d1, d2, d3] }
  | _ => none }
def roaAllowsRow : OpenClaim := { program := "ythfgdgcdicacpaa", sum := "049658f33db305b3127d70716f74a51b78415375caede1d4e236cd74e752036c", func := "gatepath/gatepathlaw14.RoaAllows", spec := "roaAllows", unfollowed := true, recurses := true, apart := false }
def RoaAllowsSaid : Prop := roaAllowsRow.holds Try.pinned (OpenSpec.ofChange roaAllowsSpec)

/-- ITS FALSE NEIGHBOUR: 'it returns false'. Refute it at one input. -/
def roaAllowsWrong : ChangeSpec := { name := "roaAllows", fn := fun _ => fun
  | [d1, d2, d3] => { results := [.lit (.bool false)], args := [d1, d2, d3] }
  | _ => none }
def RoaAllowsWrongFalsely : Prop := roaAllowsRow.holds Try.pinned (OpenSpec.ofChange roaAllowsWrong)

/-- 'gatepathlaw14.RoaBack': WHATEVER THE INPUT: true; the input reads as it did. -/
def roaBackSpec : ChangeSpec := { name := "roaBack", fn := fun _ => fun
  | [d] => { results := [.lit (.bool true)], args := [d] }
  | _ => none }
def roaBackRow : OpenClaim := { program := "ythfgdgcdicacpaa", sum := "049658f33db305b3127d70716f74a51b78415375caede1d4e236cd74e752036c", func := "gatepath/gatepathlaw14.RoaBack", spec := "roaBack", unfollowed := true, recurses := true, apart := false }
def RoaBackSaid : Prop := roaBackRow.holds Try.pinned (OpenSpec.ofChange roaBackSpec)

/-- ITS FALSE NEIGHBOUR: 'it returns false'. Refute it at one input. -/
def roaBackWrong : ChangeSpec := { name := "roaBack", fn := fun _ => fun
  | [d] => { results := [.lit (.bool false)], args := [d] }
  | _ => none }
def RoaBackWrongFalsely : Prop := roaBackRow.holds Try.pinned (OpenSpec.ofChange roaBackWrong)

/-- 'gatepathlaw14.RoaOnce': WHATEVER THE INPUT: true; the input reads as it did. -/
def roaOnceSpec : ChangeSpec := { name := "roaOnce", fn := fun _ => fun
  | [d] => { results := [.lit (.bool true)], args := [d] }
  | _ => none }
def roaOnceRow : OpenClaim := { program := "ythfgdgcdicacpaa", sum := "049658f33db305b3127d70716f74a51b78415375caede1d4e236cd74e752036c", func := "gatepath/gatepathlaw14.RoaOnce", spec := "roaOnce", unfollowed := true, recurses := true, apart := false }
def RoaOnceSaid : Prop := roaOnceRow.holds Try.pinned (OpenSpec.ofChange roaOnceSpec)

/-- ITS FALSE NEIGHBOUR: 'it returns false'. Refute it at one input. -/
def roaOnceWrong : ChangeSpec := { name := "roaOnce", fn := fun _ => fun
  | [d] => { results := [.lit (.bool false)], args := [d] }
  | _ => none }
def RoaOnceWrongFalsely : Prop := roaOnceRow.holds Try.pinned (OpenSpec.ofChange roaOnceWrong)

/-- 'gatepathlaw14.RoaOrigins': WHATEVER THE INPUT: true; the input reads as it did. -/
def roaOriginsSpec : ChangeSpec := { name := "roaOrigins", fn := fun _ => fun
  | [d1, d2, d3] => { results := [.lit (.bool true)], args := [d1, d2, d3] }
  | _ => none }
def roaOriginsRow : OpenClaim := { program := "ythfgdgcdicacpaa", sum := "049658f33db305b3127d70716f74a51b78415375caede1d4e236cd74e752036c", func := "gatepath/gatepathlaw14.RoaOrigins", spec := "roaOrigins", unfollowed := true, recurses := true, apart := false }
def RoaOriginsSaid : Prop := roaOriginsRow.holds Try.pinned (OpenSpec.ofChange roaOriginsSpec)

/-- ITS FALSE NEIGHBOUR: 'it returns false'. Refute it at one input. -/
def roaOriginsWrong : ChangeSpec := { name := "roaOrigins", fn := fun _ => fun
  | [d1, d2, d3] => { results := [.lit (.bool false)], args := [d1, d2, d3] }
  | _ => none }
def RoaOriginsWrongFalsely : Prop := roaOriginsRow.holds Try.pinned (OpenSpec.ofChange roaOriginsWrong)

/- THE SECOND FORM. 'bulk': how many values and letters a reading holds, each counted each time it is reached (what is shared counts as often as it is met; a slice's spare places count too). A statement '..UptoSaid' is the law's where the arguments, and the package variables that the reading takes, are together of bulk at most 1048576: NARROWER than '..Said'. Prove '..Said' where nothing that the law and all that it calls make is longer than what came in: it says more and counts as full. Else prove '..UptoSaid'. A law counts once. -/
mutual
def uptoBulk {H : Type} : DataW H → Nat
  | .lit (.string bytes) => bytes.length + 1
  | .lit _ => 1
  | .nil => 1
  | .ptr d => uptoBulk d + 1
  | .slice elems spare => uptoBulkAll elems + uptoBulkAll spare + 1
  | .agg parts => uptoBulkAll parts + 1
  | .iface _ d => uptoBulk d + 1
  | .map entries => uptoBulkEntries entries + 1
  | .held _ => 1
def uptoBulkAll {H : Type} : List (DataW H) → Nat
  | [] => 0
  | d :: r => uptoBulk d + uptoBulkAll r
def uptoBulkEntries {H : Type} : List (Lit × DataW H) → Nat
  | [] => 0
  | x :: r => uptoBulkEntry x + uptoBulkEntries r
def uptoBulkEntry {H : Type} : Lit × DataW H → Nat
  | (.string bytes, d) => bytes.length + uptoBulk d + 1
  | (_, d) => uptoBulk d + 1
 end
def uptoSmall : (H : Type) → List (DataW H) → Bool := fun _ ds => decide (uptoBulkAll ds ≤ 1048576)
def OpenSpec.upto (s : _root_.Go.ChangeSpec) : _root_.Go.OpenSpec := { _root_.Go.OpenSpec.ofChange s with cond := some uptoSmall }

/-- 'gatepathlaw14.RoaCodes', WHERE WHAT IT READS IS OF BULK AT MOST 1048576: true; the input reads as it did. -/
def roaCodesUptoRow : OpenClaim := { program := "ythfgdgcdicacpaa", sum := "049658f33db305b3127d70716f74a51b78415375caede1d4e236cd74e752036c", func := "gatepath/gatepathlaw14.RoaCodes", spec := "roaCodes", unfollowed := true, recurses := true, apart := false, narrowed := true }
def RoaCodesUptoSaid : Prop := roaCodesUptoRow.holds Try.pinned (OpenSpec.upto roaCodesSpec)

/-- 'gatepathlaw14.RoaAllows', WHERE WHAT IT READS IS OF BULK AT MOST 1048576: true; the input reads as it did. -/
def roaAllowsUptoRow : OpenClaim := { program := "ythfgdgcdicacpaa", sum := "049658f33db305b3127d70716f74a51b78415375caede1d4e236cd74e752036c", func := "gatepath/gatepathlaw14.RoaAllows", spec := "roaAllows", unfollowed := true, recurses := true, apart := false, narrowed := true }
def RoaAllowsUptoSaid : Prop := roaAllowsUptoRow.holds Try.pinned (OpenSpec.upto roaAllowsSpec)

/-- 'gatepathlaw14.RoaBack', WHERE WHAT IT READS IS OF BULK AT MOST 1048576: true; the input reads as it did. -/
def roaBackUptoRow : OpenClaim := { program := "ythfgdgcdicacpaa", sum := "049658f33db305b3127d70716f74a51b78415375caede1d4e236cd74e752036c", func := "gatepath/gatepathlaw14.RoaBack", spec := "roaBack", unfollowed := true, recurses := true, apart := false, narrowed := true }
def RoaBackUptoSaid : Prop := roaBackUptoRow.holds Try.pinned (OpenSpec.upto roaBackSpec)

/-- 'gatepathlaw14.RoaOnce', WHERE WHAT IT READS IS OF BULK AT MOST 1048576: true; the input reads as it did. -/
def roaOnceUptoRow : OpenClaim := { program := "ythfgdgcdicacpaa", sum := "049658f33db305b3127d70716f74a51b78415375caede1d4e236cd74e752036c", func := "gatepath/gatepathlaw14.RoaOnce", spec := "roaOnce", unfollowed := true, recurses := true, apart := false, narrowed := true }
def RoaOnceUptoSaid : Prop := roaOnceUptoRow.holds Try.pinned (OpenSpec.upto roaOnceSpec)

/-- 'gatepathlaw14.RoaOrigins', WHERE WHAT IT READS IS OF BULK AT MOST 1048576: true; the input reads as it did. -/
def roaOriginsUptoRow : OpenClaim := { program := "ythfgdgcdicacpaa", sum := "049658f33db305b3127d70716f74a51b78415375caede1d4e236cd74e752036c", func := "gatepath/gatepathlaw14.RoaOrigins", spec := "roaOrigins", unfollowed := true, recurses := true, apart := false, narrowed := true }
def RoaOriginsUptoSaid : Prop := roaOriginsUptoRow.holds Try.pinned (OpenSpec.upto roaOriginsSpec)

end Rows
end Go.Proofs.Ythfgdgcdicacpaa
