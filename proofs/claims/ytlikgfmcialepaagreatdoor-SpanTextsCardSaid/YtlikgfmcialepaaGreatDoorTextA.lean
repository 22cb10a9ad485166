/-
  THE WALKS over the strings of package number: what the library's tables hold; fourText.
-/
import Derived.Test.YtlikgfmcialepaaGreatDoorFmtU
import Derived.Test.YtlikgfmcialepaaGreatDoorNumWalkD
import Derived.Test.YtlikgfmcialepaaGreatDoorNumMathC
import Derived.Lib.ItoaLen
namespace Go.Proofs.YtlikgfmcialepaaGreatDoor
open Go.RowKit Adr
/-- what the strings lean on: the library's tables and variables -/
structure Env (fl : Bool) (w : World) : Prop where
  tz : w.cell? ⟨5, 15, none⟩ = some (.int .u8 4)
  mx : ∃ m : Int, w.cell? ⟨0, 0, none⟩ = some (.int .i64 m)
  tab : Lib.TabIs Tryz.prog w "internal/strconv.uint64pow10" .u64 Lib.pow10Tab
  syn : fl = true → ∃ tp p, w.var? Tryz.prog "strconv.ErrSyntax" = some #[.iface tp p]
  rng : fl = true → ∃ tp p, w.var? Tryz.prog "strconv.ErrRange" = some #[.iface tp p]
  big : 8 ≤ w.heap.size
variable {fl : Bool}
theorem Env.below {w w' : World} {B : Nat} (h : Env fl w) (hb : Below B w w') (hB : 8 ≤ B) : Env fl w' := by
  refine ⟨?_, ?_, ?_, ?_, ?_, Nat.le_trans h.big hb.size⟩
  · rw [hb.cell (p := ⟨5, 15, none⟩) (by show 5 < B; omega)]; exact h.tz
  · obtain ⟨m, hm⟩ := h.mx
    exact ⟨m, by rw [hb.cell (p := ⟨0, 0, none⟩) (by show 0 < B; omega)]; exact hm⟩
  · exact var?_below hb (g := 1) (by kernel_rfl) (by omega) h.tab
  · intro hf
    obtain ⟨tp, p, hv⟩ := h.syn hf
    exact ⟨tp, p, var?_below hb (g := 2) (by kernel_rfl) (by omega) hv⟩
  · intro hf
    obtain ⟨tp, p, hv⟩ := h.rng hf
    exact ⟨tp, p, var?_below hb (g := 3) (by kernel_rfl) (by omega) hv⟩
theorem Env.on {w w' : World} (h : Env fl w) (hb : Below w.heap.size w w') : Env fl w' := h.below hb h.big
theorem cell_same {w : World} {a : Addr} {v u : Value} (h : w.cell? a = some u) : (w.setCell a v).cell? a = some v := World.cell?_setCell_same (h := h) ..
theorem cell_far {w : World} {a b : Addr} {v u : Value} (h : w.cell? b = some u) (hne : a ≠ b) : (w.setCell a v).cell? b = some u := by
  rw [World.cell?_setCell_other (h := hne)]; exact h
def byteAt (L k : Nat) : Nat := L / 2 ^ (8 * (3 - k)) % 256
def str (l : List UInt8) : ByteArray := ⟨l.toArray⟩
def fourS (L : Nat) : List UInt8 := Lib.join [Lib.decDigits (byteAt L 0), Lib.decDigits (byteAt L 1), Lib.decDigits (byteAt L 2), Lib.decDigits (byteAt L 3)] [46]
theorem and255 (q : Nat) (h : q < 18446744073709551616) : bits BinOp.and IntKind.u64 q 255 = ((q % 256 : Nat) : Int) := by
  have h1 := bits_and_u64_nat q 255 (by omega) (by omega)
  rw [show q &&& 255 = q % 256 from Nat.and_two_pow_sub_one_eq_mod q 8] at h1
  exact h1
theorem byte_expr (L k : Nat) (hL : L < 18446744073709551616) : bits BinOp.and IntKind.u64 ((L : Int) / 2 ^ (8 * (3 - k))) 255 = (byteAt L k : Int) := by
  have e2 : (L : Int) / 2 ^ (8 * (3 - k)) = ((L / 2 ^ (8 * (3 - k)) : Nat) : Int) := by simp
  rw [e2, and255 _ (Nat.lt_of_le_of_lt (Nat.div_le_self _ _) hL)]
  rfl
theorem byteAt_lt (L k : Nat) : byteAt L k < 18446744073709551616 := by
  have := Nat.mod_lt (L / 2 ^ (8 * (3 - k))) (show 256 > 0 by omega)
  unfold byteAt
  omega
set_option maxHeartbeats 1000000 in
theorem four_any (H L : Nat) (w : World) (env : Env fl w) (hL : L < 18446744073709551616) :
    Calls Tryz.prog 22 #[.agg #[.int .u64 H, .int .u64 L]] w fun e w' => e = .returned (.string (str (fourS L))) ∧ Below w.heap.size w w' := by
  have hG := env.big
  have HE := Lib.hid env
  have HL := Lib.hid hL
  clear env hL
  go_enter Tryz.func22, Tryz.ntmps22
  go_wp2_with fail
  go_loopw [5] (fun i wr => ∃ k : Nat, k ≤ 4 ∧ i = .int .i64 k ∧ Below w.heap.size w wr ∧ w.heap.size + 1 < wr.heap.size ∧ wr.cell? ⟨w.heap.size, 1, none⟩ = some (.int .u64 L) ∧ (∀ j, j < 4 → wr.cell? ⟨w.heap.size + 1, j, none⟩ = some (.string (if j < k then str (Lib.decDigits (byteAt L j)) else ⟨#[]⟩))) ∧ (∀ j, wr.frozen? ⟨w.heap.size + 1, j, none⟩ = false)) (fun i _ => 4 - (intOf i).toNat)
  case atStart =>
    refine ⟨0, by omega, rfl, ((Below.refl _ _).alloc (Nat.le_refl _) _).alloc (by simp) _, by simp, by simp, fun j hj => ?_, fun j => by simp⟩
    have hj0 : j = 0 ∨ j = 1 ∨ j = 2 ∨ j = 3 := by omega
    rcases hj0 with rfl | rfl | rfl | rfl <;> exact (World.cell?_alloc_at _ _ _ _ (by simp)).trans rfl
  case round =>
    obtain ⟨k, hk, rfl, hbel, hsz, hL1, hc, hf⟩ := hrel
    have HB := Lib.hid hbel
    have HC := Lib.hid hc
    have HF := Lib.hid hf
    clear hbel hc hf
    by_cases hlt : k < 4
    · have hx := Lib.hid (byte_expr L k HL.out)
      have hlt' : (k : Int) < 4 := by omega
      have hck := HC.out k hlt
      have hfk := HF.out k
      go_wp2_with fail
      rw [hx.out]
      refine (fu10 _ _ (byteAt_lt L k) (HE.out.below HB.out hG).tab).mono ?_
      rintro e w1 ⟨rfl, hb1⟩
      have hz1 : w.heap.size + 1 < w1.heap.size := by have := hb1.size; omega
      have hy1 : w.heap.size < w1.heap.size := by omega
      have hck1 := (hb1.cell (p := ⟨w.heap.size + 1, k, none⟩) hsz).trans hck
      have hfk1 := (hb1.frozen (p := ⟨w.heap.size + 1, k, none⟩) hsz).trans hfk
      go_wp2_with fail
      go_roundw
      case rel =>
        refine ⟨k + 1, by omega, by go_num, (HB.out.trans (hb1.mono (by omega))).setCell (by simp) _, by simpa using hz1, ?_, fun j hj => ?_, fun j => ?_⟩
        · exact cell_far ((hb1.cell (p := ⟨w.heap.size, 1, none⟩) (by show w.heap.size < wr.heap.size; omega)).trans hL1) (by simp)
        · by_cases hjk : j = k
          · subst hjk
            rw [if_pos (by omega)]
            exact cell_same hck1
          · refine (cell_far ((hb1.cell (p := ⟨w.heap.size + 1, j, none⟩) hsz).trans (HC.out j hj)) (by simp <;> omega)).trans ?_
            by_cases h1 : j < k
            · rw [if_pos h1, if_pos (by omega)]
            · rw [if_neg h1, if_neg (by omega)]
        · rw [World.frozen?_setCell]
          exact (hb1.frozen (p := ⟨w.heap.size + 1, j, none⟩) hsz).trans (HF.out j)
      case measure => simp [intOf]; omega
    · have e : k = 4 := by omega
      subst e
      go_wp2_with fail
      have hcc : ∀ (j : Nat) (x : ByteArray), [str (Lib.decDigits (byteAt L 0)), str (Lib.decDigits (byteAt L 1)), str (Lib.decDigits (byteAt L 2)), str (Lib.decDigits (byteAt L 3))][j]? = some x → wr.cell? ⟨w.heap.size + 1, 0 + j, none⟩ = some (.string x) := fun j x hj => by
        have hj4 : j < 4 := by have := (List.getElem?_eq_some_iff.1 hj).1; simpa using this
        rw [Nat.zero_add, HC.out j hj4, if_pos hj4]
        have hj0 : j = 0 ∨ j = 1 ∨ j = 2 ∨ j = 3 := by omega
        rcases hj0 with rfl | rfl | rfl | rfl <;> (simp at hj; rw [hj])
      have HJ := Lib.hid (Tryz.strings_Join (w.heap.size + 1) 0 4 [str (Lib.decDigits (byteAt L 0)), str (Lib.decDigits (byteAt L 1)), str (Lib.decDigits (byteAt L 2)), str (Lib.decDigits (byteAt L 3))] ⟨#[46]⟩ wr hcc hsz (by simp) (by simp) (by
        have d : ∀ k, (Lib.decDigits (byteAt L k)).length ≤ 20 := fun k => by rw [Lib.decDigits_length]; exact Lib.nDigits_le20 _ (byteAt_lt L k)
        have d0 := d 0; have d1 := d 1; have d2 := d 2; have d3 := d 3
        simp [Lib.join, str, List.intercalate]
        omega))
      clear hcc
      refine HJ.out.mono ?_
      rintro e w1 ⟨rfl, hb1⟩
      go_wp2_with fail
      go_ret
      exact ⟨rfl, HB.out.trans (hb1.mono (by omega))⟩
end Go.Proofs.YtlikgfmcialepaaGreatDoor
