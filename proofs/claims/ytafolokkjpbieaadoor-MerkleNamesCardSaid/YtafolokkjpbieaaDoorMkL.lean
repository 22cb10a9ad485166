/-
  PUBLIC KEYS compared; a public key built of its root.
-/
import Derived.Test.YtafolokkjpbieaaDoorMkDJ
import Derived.Test.YtafolokkjpbieaaDoorOneH
namespace Go.Proofs.YtafolokkjpbieaaDoor
open Go.RowKit Sha Ots
set_option linter.unusedVariables false
set_option linter.unusedSimpArgs false
theorem part_root (R : List UInt8) (hR : R.length = 16) (h : Int) (w : World) : (part 23 (pkc R h) 0).run Tryd.prog w = .ok (.agg (bcells R)) w := by
  have hs : (sizeOf 23).run Tryd.prog w = .ok 16 w := by kernel_rfl
  have ha : (isAgg 23).run Tryd.prog w = .ok true w := by kernel_rfl
  have he : (pkc R h).extract 0 16 = bcells R := by
    apply Array.ext_getElem?
    intro j
    unfold pkc bcells
    rw [Array.getElem?_extract, List.getElem?_toArray, List.getElem?_toArray]
    by_cases hj : j < 16
    · rw [if_pos (by simp [bvals_len, hR]; omega), Nat.zero_add, List.getElem?_append_left (by rw [bvals_len, hR]; exact hj)]
      rfl
    · rw [if_neg (by simp [bvals_len, hR]; omega), List.getElem?_eq_none (by simp [hR]; omega)]
  have hz : (pkc R h).size = 17 := pkc_size R h hR
  simp [part, hs, ha, he, hz]
theorem part_height (R : List UInt8) (hR : R.length = 16) (h : Int) (w : World) : (part 3 (pkc R h) 16).run Tryd.prog w = .ok (.int .i64 h) w := by
  have hs : (sizeOf 3).run Tryd.prog w = .ok 1 w := by kernel_rfl
  have ha : (isAgg 3).run Tryd.prog w = .ok false w := by kernel_rfl
  have he : (pkc R h)[16]? = some (.int .i64 h) := by
    unfold pkc
    rw [List.getElem?_toArray, List.getElem?_append_right (by rw [bvals_len, hR]; exact Nat.le_refl _), bvals_len, hR]
    rfl
  have hz : (pkc R h).size = 17 := pkc_size R h hR
  simp only [part, Sem.run_bind, ha, Result.andThen_ok, Bool.false_eq_true, if_false, he, Sem.run_pure]
theorem Tryd.fieldsPk : (Tryd.prog.fieldsOf 25).toList = [{ name := "Root", type := 23, offset := 0, embedded := false, tag := "", pkgPath := "", byteOffset := 0 }, { name := "Height", type := 3, offset := 16, embedded := false, tag := "", pkgPath := "", byteOffset := 16 }] := by kernel_rfl
theorem eql_pk (R R' : List UInt8) (hR : R.length = 16) (hR' : R'.length = 16) (h h' : Int) (w : World) :
    (binOp .eql 25 (.agg (pkc R h)) (.agg (pkc R' h'))).run Tryd.prog w = .ok (.bool ((R == R') && (h == h'))) w := by
  rw [run_eql_struct, run_equalIn_struct w 9999 25 _ _ (by kernel_rfl) (by kernel_rfl), Tryd.fieldsPk]
  have h1 : (Op.equalIn 9999 23 (.agg (bcells R)) (.agg (bcells R'))).run Tryd.prog w = .ok (R == R') w :=
    run_equalIn_bytes (P := Tryd.prog) w 9997 23 5 16 Tryd.underlying23 Tryd.underlying5 (fun _ => by kernel_rfl) R R' hR hR'
  have h2 : (Op.equalIn 9999 3 (.int .i64 h) (.int .i64 h')).run Tryd.prog w = .ok (h == h') w := run_equalIn_int w 9998 3 .i64 .i64 h h' Tryd.underlying3
  simp only [Op.eqFields]
  rw [if_pos (by decide), if_pos (by decide)]
  simp only [Sem.run_bind, part_root R hR, part_root R' hR', part_height R hR, part_height R' hR', Result.andThen_ok, h1, h2]
  cases hb : (R == R')
  · simp
  · cases hc : (h == h')
    · simp [h2, hc, part_height R hR, part_height R' hR']
    · simp [h2, hc, part_height R hR, part_height R' hR']
/-- a public key built of its root alone -/
theorem build17z (R : List UInt8) (hR : R.length = 16) : List.foldl (fun (cs : Array Value) x => cs.setIfInBounds x.snd x.fst) #[.int .u8 0, .int .u8 0, .int .u8 0, .int .u8 0, .int .u8 0, .int .u8 0, .int .u8 0, .int .u8 0, .int .u8 0, .int .u8 0, .int .u8 0, .int .u8 0, .int .u8 0, .int .u8 0, .int .u8 0, .int .u8 0, .int .i64 0] (bvals R).zipIdx = pkc R 0 := by
  rw [← build17 R hR 0]
  have hl : (bvals R).length = 16 := by rw [bvals_len, hR]
  have hz : (List.foldl (fun (cs : Array Value) x => cs.setIfInBounds x.snd x.fst) #[.int .u8 0, .int .u8 0, .int .u8 0, .int .u8 0, .int .u8 0, .int .u8 0, .int .u8 0, .int .u8 0, .int .u8 0, .int .u8 0, .int .u8 0, .int .u8 0, .int .u8 0, .int .u8 0, .int .u8 0, .int .u8 0, .int .i64 0] (bvals R).zipIdx)[16]? = some (.int .i64 0) := by
    rw [fold_set _ _ _ (by rw [hl]; decide) 16, if_neg (by rw [hl]; omega)]
    rfl
  apply Array.ext_getElem?
  intro j
  rw [Array.getElem?_setIfInBounds]
  by_cases hj : 16 = j
  · subst hj
    rw [if_pos rfl, if_pos (Array.getElem?_eq_some_iff.1 hz).1, hz]
  · rw [if_neg hj]
end Go.Proofs.YtafolokkjpbieaaDoor
