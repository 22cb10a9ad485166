/-
  THE WALKS over package number: Covers, Name.
-/
import Derived.Test.YtlikgfmcialepaaGreatDoorNumWalkC
namespace Go.Proofs.YtlikgfmcialepaaGreatDoor
open Go.RowKit Adr
/-- a call of Check leaves what was there -/
theorem chk_call (f h l n : Int) (w : World) (uh : U64 h) (ul : U64 l) (c : Int) (hc : chk f h l n = c) :
    Calls Tryz.prog 34 #[.agg #[.int .u8 f, .int .u64 h, .int .u64 l, .int .i64 n]] w fun e w' => e = .returned (.int .i64 c) ∧ Below w.heap.size w w' := by
  subst hc; exact chk_any f h l n w uh ul
theorem chk_ok0 (f h l n : Int) (h1 : ok f h l n = true) : chk f h l n = 0 := by simp [chk, h1]
theorem chk_no0 (f h l n : Int) (h1 : ok f h l n = false) : chk f h l n = 2 ∨ chk f h l n = 8 := by
  unfold chk
  rw [h1]
  by_cases h0 : wid f = 0
  · left; simp [h0]
  · right; simp [h0]
theorem clear_call (h l n : Int) (w : World) (uh : U64 h) (ul : U64 l) (h1 : 0 ≤ n) (h2 : n ≤ 128) (H L : Int) (eH : clrH h n = H) (eL : clrL l n = L) :
    Calls Tryz.prog 81 #[.agg #[.int .u64 h, .int .u64 l], .int .i64 n] w fun e w' => e = .returned (.agg #[.int .u64 H, .int .u64 L]) ∧ Below w.heap.size w w' := by
  subst eH eL; exact clear_any h l n w uh ul h1 h2
theorem cutOk_of (f h l n : Int) (h1 : ok f h l n = true) : 0 ≤ n ∧ n ≤ wid f := by
  simp only [ok, cutOk, Bool.and_eq_true, decide_eq_true_eq] at h1
  exact ⟨h1.1.1.2, h1.1.2⟩
/-! names -/
def nb (c : UInt8) : Bool := (97 ≤ c && c ≤ 122) || (65 ≤ c && c ≤ 90) || (48 ≤ c && c ≤ 57) || c == 45 || c == 95
def nameOk (s : ByteArray) : Bool := decide (1 ≤ s.size) && decide (s.size ≤ 40) && s.data.toList.all nb
end Go.Proofs.YtlikgfmcialepaaGreatDoor
