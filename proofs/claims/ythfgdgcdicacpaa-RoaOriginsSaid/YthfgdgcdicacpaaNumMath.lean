import Derived.Test.YthfgdgcdicacpaaRows
import Derived.RowKit
namespace Go.Proofs.Ythfgdgcdicacpaa
namespace Adr
def wid (f : Int) : Int := if f = 4 then 32 else if f = 6 then 128 else 0
def ca (f h l : Int) : Bool := if f = 4 then (h == 0 && l / 4294967296 == 0) else f == 6
def clrH (h n : Int) : Int := if 64 ≤ n then h / 2 ^ (n - 64).toNat * 2 ^ (n - 64).toNat else h
def clrL (l n : Int) : Int := if 64 ≤ n then 0 else l / 2 ^ n.toNat * 2 ^ n.toNat
def U64 (x : Int) : Prop := 0 ≤ x ∧ x < 18446744073709551616
def cutOk (f h l n : Int) : Bool := ca f h l && decide (0 ≤ n) && decide (n ≤ wid f)
def cutF (f h l n : Int) : Int := if cutOk f h l n = true then f else 0
def cutH (f h l n : Int) : Int := if cutOk f h l n = true then clrH h (wid f - n) else 0
def cutL (f h l n : Int) : Int := if cutOk f h l n = true then clrL l (wid f - n) else 0
def cutN (f h l n : Int) : Int := if cutOk f h l n = true then n else 0
def cutE (f h l n : Int) : Int := if cutOk f h l n = true then 0 else 2
def ok (f h l n : Int) : Bool := cutOk f h l n && (clrH h (wid f - n) == h && clrL l (wid f - n) == l)
def chk (f h l n : Int) : Int := if ok f h l n = true then 0 else if wid f = 0 then 2 else 8
def cov (f h l n f' h' l' n' : Int) : Bool := ok f h l n && ok f' h' l' n' && (f == f') && decide (n ≤ n') && (clrH h' (wid f - n) == h && clrL l' (wid f - n) == l)
theorem wid_hi (f : Int) : wid f ≤ 128 := by unfold wid; split <;> (try split) <;> omega
theorem wrap_u64 {x : Int} (h : U64 x) : IntKind.u64.wrap x = x := by
 obtain ⟨a, b⟩ := h
 simp only [IntKind.wrap, IntKind.signed, IntKind.bits]
 simp
 omega
end Adr
end Go.Proofs.Ythfgdgcdicacpaa
