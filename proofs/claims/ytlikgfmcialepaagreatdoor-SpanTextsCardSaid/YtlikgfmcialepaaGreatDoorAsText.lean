/-
  THE WALKS over AsText and AsParse.
-/
import Derived.Test.YtlikgfmcialepaaGreatDoorTextI
import Derived.Test.YtlikgfmcialepaaGreatDoorShelf
namespace Go.Proofs.YtlikgfmcialepaaGreatDoor
open Go.RowKit Adr
set_option linter.unusedVariables false
/-- the string of a number of a system -/
def asS (n : Nat) : List UInt8 := [65, 83] ++ Lib.decDigits n
theorem as_text (n : Nat) (w : World) (env : Env true w) (hn : n < 4294967296) :
    Calls Tryz.prog 15 #[.int .u32 n] w fun e w' => e = .returned (.string (str (asS n))) ∧ Below w.heap.size w w' := by
  have HF := Lib.hid (fu10 n w (by omega) env.tab)
  have HW : RowKit.Hid (IntKind.u64.wrap (n : Int) = (n : Int)) := Lib.hid (wrap_u64 ⟨by omega, by omega⟩)
  have s3 := str_size (Lib.decDigits n)
  have s4 : (Lib.decDigits n).length ≤ 20 := by rw [Lib.decDigits_length]; exact Lib.nDigits_le20 _ (by omega)
  obtain ⟨Y, hY⟩ : ∃ Y, str (Lib.decDigits n) = Y := ⟨_, rfl⟩
  have hZ : str (asS n) = ⟨#[65, 83]⟩ ++ Y := by
    unfold asS
    rw [str_app, hY]
    rfl
  rw [hZ]
  have HF2 : RowKit.Hid (Calls Tryz.prog 42 #[.int .u64 n, .int .i64 10] w fun e w' => e = .returned (.string Y) ∧ Below w.heap.size w w') := by rw [← hY]; exact HF
  rw [hY] at s3
  have t2 : Y.size ≤ 20 := by omega
  clear env hn HF s3 s4 hY hZ
  go_enter Tryz.func15, Tryz.ntmps15
  go_wp2_with fail
  rw [HW.out]
  refine HF2.out.mono ?_
  rintro e w1 ⟨rfl, hb1⟩
  go_wp2_with fail
  go_ret
  exact ⟨rfl, hb1⟩
/-- what follows the word -/
def asCut (s : ByteArray) : ByteArray := ⟨(Lib.trimPrefix s.data.toList [65, 83]).toArray⟩
def asNum (s : ByteArray) : Option Nat := if Lib.hasPrefix s.data.toList [65, 83] = true then rdec 32 (asCut s).data.toList else none
theorem as_no (s : ByteArray) (w : World) (b : Bool) (m : Nat) (o : Bool) (hbo : (b && o) = false)
    (h1 : ∀ w, Calls Tryz.prog 41 #[.string s, .string ⟨#[65, 83]⟩] w fun e w' => e = .returned (.tuple #[.string (asCut s), .bool b]) ∧ w' = w)
    (h2 : Calls Tryz.prog 38 #[.string (asCut s), .int .i64 32] w fun e w' => e = .returned (.tuple #[.int .u64 m, .bool o]) ∧ Below w.heap.size w w') :
    Calls Tryz.prog 13 #[.string s] w fun e w' => e = .returned (.tuple #[.int .u32 0, .int .i64 12]) ∧ Below w.heap.size w w' := by
  have H1 := Lib.hid h1
  have H2 := Lib.hid h2
  clear h1 h2
  cases b <;> cases o
  all_goals first
    | (exfalso; revert hbo; decide)
    | (clear hbo
       go_enter Tryz.func13, Tryz.ntmps13
       go_wp2_with fail
       refine (H1.out _).mono ?_
       rintro e w1 ⟨rfl, rfl⟩
       go_wp2_with fail
       refine H2.out.mono ?_
       rintro e w2 ⟨rfl, hb2⟩
       go_wp2_with fail
       go_ret2
       exact ⟨rfl, hb2⟩)
theorem as_yes (s : ByteArray) (w : World) (m : Nat) (hm : m < 4294967296)
    (h1 : ∀ w, Calls Tryz.prog 41 #[.string s, .string ⟨#[65, 83]⟩] w fun e w' => e = .returned (.tuple #[.string (asCut s), .bool true]) ∧ w' = w)
    (h2 : Calls Tryz.prog 38 #[.string (asCut s), .int .i64 32] w fun e w' => e = .returned (.tuple #[.int .u64 m, .bool true]) ∧ Below w.heap.size w w') :
    Calls Tryz.prog 13 #[.string s] w fun e w' => e = .returned (.tuple #[.int .u32 m, .int .i64 0]) ∧ Below w.heap.size w w' := by
  have H1 := Lib.hid h1
  have H2 := Lib.hid h2
  have HW : RowKit.Hid ((m : Int) % 4294967296 = (m : Int)) := Lib.hid (by omega)
  clear h1 h2 hm
  go_enter Tryz.func13, Tryz.ntmps13
  go_wp2_with fail
  refine (H1.out _).mono ?_
  rintro e w1 ⟨rfl, rfl⟩
  go_wp2_with fail
  refine H2.out.mono ?_
  rintro e w2 ⟨rfl, hb2⟩
  go_wp2_with fail
  rw [HW.out]
  go_ret2
  exact ⟨rfl, hb2⟩
theorem as_parse (s : ByteArray) (w : World) (env : Env true w) (hs : s.size ≤ 1000000) :
    Calls Tryz.prog 13 #[.string s] w fun e w' => e = .returned (.tuple #[.int .u32 ((asNum s).getD 0 : Nat), .int .i64 (if (asNum s).isSome = true then 0 else 12)]) ∧ Below w.heap.size w w' := by
  have hl : (asCut s).size ≤ 1000000 := by
    have e1 : (asCut s).size = (Lib.trimPrefix s.data.toList [65, 83]).length := by
      unfold asCut
      show (Lib.trimPrefix s.data.toList [65, 83]).toArray.size = _
      simp
    have e2 : s.size = s.data.toList.length := Array.length_toList.symm
    rw [e1]
    unfold Lib.trimPrefix
    split
    · rw [List.length_drop]; omega
    · omega
  have HR := rd32 (asCut s) w env hl
  have HP : ∀ w, Calls Tryz.prog 41 #[.string s, .string ⟨#[65, 83]⟩] w fun e w' => e = .returned (.tuple #[.string (asCut s), .bool (Lib.hasPrefix s.data.toList [65, 83])]) ∧ w' = w := fun w => Tryz.strings_CutPrefix s ⟨#[65, 83]⟩ w
  cases hp : Lib.hasPrefix s.data.toList [65, 83]
  · rw [hp] at HP
    have e : asNum s = none := by simp [asNum, hp]
    rw [e]
    exact as_no s w false _ _ rfl HP HR
  · rw [hp] at HP
    have e : asNum s = rdec 32 (asCut s).data.toList := by simp [asNum, hp]
    rw [e]
    cases hr : rdec 32 (asCut s).data.toList with
    | none =>
      rw [hr] at HR
      exact as_no s w true _ _ rfl HP HR
    | some m =>
      rw [hr] at HR
      exact as_yes s w m (by have := rdec_le hr; omega) HP HR
end Go.Proofs.YtlikgfmcialepaaGreatDoor
