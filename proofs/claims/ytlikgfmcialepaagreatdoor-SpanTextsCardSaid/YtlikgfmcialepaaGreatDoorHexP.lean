/-
  THE WALK over strconv.ParseUint(s, 16, 16).
-/
import Derived.Test.YtlikgfmcialepaaGreatDoorHexU
import Derived.Test.YtlikgfmcialepaaGreatDoorShelf
namespace Go.Proofs.YtlikgfmcialepaaGreatDoor
open Go.RowKit Adr
set_option linter.unusedVariables false
def hexS (s : ByteArray) : Option Nat := if s.size = 0 then none else match hexM 0 s.data.toList with
  | some (some n) => some n
  | _ => none
/-- a call of ParseUint in base 16: a number, or an error -/
def HexLeft (r : Option Nat) (w : World) (e : Ending) (w' : World) : Prop :=
  (∃ n : Nat, ∃ x : Value, e = .returned (.tuple #[.int .u64 n, x]) ∧ ((r = some n ∧ x = .nilIface) ∨ (r = none ∧ ∃ t p, x = .iface t (.pointer p)))) ∧ Below w.heap.size w w'
theorem hex_ok (s : ByteArray) (n : Nat) (w : World) (h : Calls Tryz.prog 83 #[.string s, .int .i64 16, .int .i64 16] w fun e w' => e = .returned (.tuple #[.int .u64 n, .nilIface]) ∧ Below w.heap.size w w') :
    Calls Tryz.prog 64 #[.string s, .int .i64 16, .int .i64 16] w (HexLeft (some n) w) := by
  have H := Lib.hid h
  clear h
  go_enter Tryz.func64, Tryz.ntmps64
  go_wp2_with fail
  refine H.out.mono ?_
  rintro e w1 ⟨rfl, hb1⟩
  go_wp2_with fail
  go_ret2
  exact ⟨⟨n, _, rfl, .inl ⟨rfl, rfl⟩⟩, hb1⟩
theorem hex_bad (s : ByteArray) (n : Nat) (k : Int) (w : World) (env : Env true w) (hs : s.size ≤ 1000000) (hk : k = 1 ∨ k = 2) (h : Calls Tryz.prog 83 #[.string s, .int .i64 16, .int .i64 16] w fun e w' => e = .returned (.tuple #[.int .u64 n, .iface 152 (.int .i64 k)]) ∧ Below w.heap.size w w') :
    Calls Tryz.prog 64 #[.string s, .int .i64 16, .int .i64 16] w (HexLeft none w) := by
  have H := Lib.hid h
  have HT : RowKit.Hid (∀ w, Env true w → Calls Tryz.prog 84 #[.string ⟨#[80, 97, 114, 115, 101, 85, 105, 110, 116]⟩, .string s, .int .i64 16, .int .i64 16, .iface 152 (.int .i64 k)] w fun e w' => (∃ t p, e = .returned (.iface t (.pointer p))) ∧ Below w.heap.size w w') := Lib.hid (fun w env => by
    rcases hk with rfl | rfl
    · obtain ⟨tp, p, hv⟩ := env.rng rfl
      have hc := World.var?_cell (g := 3) (by kernel_rfl) hv 0
      refine (Tryz.strconv_toError_range _ s 16 16 (.iface tp p) w (by omega) (by simpa using hc) (Or.inr ⟨_, _, rfl⟩)).mono ?_
      rintro e w' ⟨N, rfl, _, _, hb⟩
      exact ⟨⟨_, _, rfl⟩, hb⟩
    · obtain ⟨tp, p, hv⟩ := env.syn rfl
      have hc := World.var?_cell (g := 2) (by kernel_rfl) hv 0
      refine (Tryz.strconv_toError_syntax _ s 16 16 (.iface tp p) w (by omega) (by simpa using hc) (Or.inr ⟨_, _, rfl⟩)).mono ?_
      rintro e w' ⟨N, rfl, _, _, hb⟩
      exact ⟨⟨_, _, rfl⟩, hb⟩)
  have hG := env.big
  have HE := Lib.hid env
  clear h env hk hs
  go_enter Tryz.func64, Tryz.ntmps64
  go_wp2_with fail
  refine H.out.mono ?_
  rintro e w1 ⟨rfl, hb1⟩
  have HB1 := Lib.hid hb1
  clear hb1
  go_wp2_with fail
  refine (HT.out w1 (HE.out.below HB1.out hG)).mono ?_
  rintro e w2 ⟨⟨t, p, rfl⟩, hb2⟩
  go_wp2_with fail
  go_ret2
  exact ⟨⟨n, _, rfl, .inr ⟨rfl, _, _, rfl⟩⟩, HB1.out.trans (hb2.mono HB1.out.size)⟩
theorem pu16 (s : ByteArray) (w : World) (env : Env true w) (hs : s.size ≤ 1000000) :
    Calls Tryz.prog 64 #[.string s, .int .i64 16, .int .i64 16] w (HexLeft (hexS s) w) := by
  by_cases h0 : s.size = 0
  · have e : hexS s = none := by unfold hexS; rw [if_pos h0]
    rw [e]
    obtain rfl : s = ⟨#[]⟩ := by
      apply ByteArray.ext
      exact Array.eq_empty_of_size_eq_zero h0
    exact hex_bad _ 0 2 w env hs (Or.inr rfl) ((Tryz.internal_strconv_ParseUint_empty 16 16 w).mono fun e w' ⟨a, b⟩ => ⟨a, by rw [b]; exact Below.refl _ _⟩)
  · have hi := pu16i s h0 hs w
    unfold hexS
    rw [if_neg h0]
    rcases hr : hexM 0 s.data.toList with _ | (_ | n)
    · rw [hr] at hi
      exact hex_bad s 0 2 w env hs (Or.inr rfl) (hi.mono fun e w' ⟨a, b⟩ => ⟨a, by rw [b]; exact Lib.bytesWorld_below _ _ _⟩)
    · rw [hr] at hi
      exact hex_bad s 65535 1 w env hs (Or.inl rfl) (hi.mono fun e w' ⟨a, b⟩ => ⟨a, by rw [b]; exact Lib.bytesWorld_below _ _ _⟩)
    · rw [hr] at hi
      exact hex_ok s n w (hi.mono fun e w' ⟨a, b⟩ => ⟨a, by rw [b]; exact Lib.bytesWorld_below _ _ _⟩)
end Go.Proofs.YtlikgfmcialepaaGreatDoor
