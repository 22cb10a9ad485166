/-
  THE WALKS over package locator: Kind.
-/
import Derived.Test.YthagoafcphaadaaDoorLocWH
import Derived.MapKept
import Derived.Carry
namespace Go.Proofs.YthagoafcphaadaaDoor
open Go.RowKit Lo
set_option linter.unusedVariables false
set_option linter.unusedSimpArgs false
variable {fl : Bool}
/-- the kind of a name -/
def kindL (s : List UInt8) : Nat :=
  if nameB s = true ∧ 4 < s.length then
    if s.drop (s.length - 4) = [46, 99, 101, 114] then 1 else if s.drop (s.length - 4) = [46, 99, 114, 108] then 2 else if s.drop (s.length - 4) = [46, 109, 102, 116] then 3 else if s.drop (s.length - 4) = [46, 114, 111, 97] then 4 else if s.drop (s.length - 4) = [46, 97, 115, 97] then 5 else 0
  else 0
theorem ins_run (w : World) (es : Array MapEntry) (n : Nat) (key : ByteArray) (v : Value) (hf : Instr.findNow .string (.string key) es.toList 0 = some none) :
    (Instr.mapUpdate 56 (.map (some w.heap.size)) (.string key) v).run Tryd.prog (w.alloc (.map es n)) = .ok () (w.alloc (.map (es.push { key := .string key, val := v, born := n }) (n + 1))) := by
  have hb := (MapKept.heap_alloc w (.map es n)).1
  have hm : Tryd.prog.underlying 56 = some (.map 9 5) := Tryd.underlying56
  have hk : MapKept.IsKey .string (.string key) := by simp [MapKept.IsKey]
  simp [Instr.mapUpdate, run_underlying hm, MapKept.run_getObj_map hb, MapKept.run_checkKey Tryd.underlying9 hk, MapKept.run_findKey Tryd.underlying9 hf, MapKept.run_setObj_map _ hb, Result.andThen]
  have e : ∀ o o' : Obj, (w.heap.push o).setIfInBounds w.heap.size o' = w.heap.push o' := fun o o' => by
    apply Array.ext_getElem?
    intro i
    rw [Array.getElem?_setIfInBounds, Array.getElem?_push, Array.getElem?_push]
    by_cases hi : w.heap.size = i
    · subst hi; simp
    · rw [if_neg hi, if_neg (Ne.symm hi), if_neg (Ne.symm hi)]
  exact congrArg (fun h => { w with heap := h }) (e _ _)
def kval : Option (Nat × Value) → Value
  | some (_, v) => v
  | none => .int .u8 0
theorem look_run (w : World) (es : Array MapEntry) (n : Nat) (key : ByteArray) (r : Option (Nat × Value)) (v : Value) (hf : Instr.findNow .string (.string key) es.toList 0 = some r) (hv : v = kval r) :
    (Instr.lookup 56 (.map (some w.heap.size)) (.string key) false).run Tryd.prog (w.alloc (.map es n)) = .ok v (w.alloc (.map es n)) := by
  have hb := (MapKept.heap_alloc w (.map es n)).1
  have hm : Tryd.prog.underlying 56 = some (.map 9 5) := Tryd.underlying56
  have hk : MapKept.IsKey .string (.string key) := by simp [MapKept.IsKey]
  have hz : ∀ w, (zeroValue 5).run Tryd.prog w = .ok (.int .u8 0) w := fun w => by kernel_rfl
  subst hv
  cases r with
  | none => simp [Instr.lookup, run_underlying hm, MapKept.run_getObj_map hb, MapKept.run_checkKey Tryd.underlying9 hk, MapKept.run_findKey Tryd.underlying9 hf, hz, Result.andThen]; rfl
  | some p => simp [Instr.lookup, run_underlying hm, MapKept.run_getObj_map hb, MapKept.run_checkKey Tryd.underlying9 hk, MapKept.run_findKey Tryd.underlying9 hf, Result.andThen]; rfl
def ent (k : List UInt8) (n : Nat) (b : Nat) : MapEntry := { key := .string ⟨k.toArray⟩, val := .int .u8 n, born := b }
def kcer : List UInt8 := [46, 99, 101, 114]
def kcrl : List UInt8 := [46, 99, 114, 108]
def kmft : List UInt8 := [46, 109, 102, 116]
def kroa : List UInt8 := [46, 114, 111, 97]
def kasa : List UInt8 := [46, 97, 115, 97]
def E5 : Array MapEntry := #[ent kcer 1 0, ent kcrl 2 1, ent kmft 3 2, ent kroa 4 3, ent kasa 5 4]
def kfind (x : List UInt8) : Option (Nat × Value) := if x = kcer then some (0, .int .u8 1) else if x = kcrl then some (1, .int .u8 2) else if x = kmft then some (2, .int .u8 3) else if x = kroa then some (3, .int .u8 4) else if x = kasa then some (4, .int .u8 5) else none
theorem bs_eq (a b : ByteArray) : (a == b) = decide (a.data.toList = b.data.toList) := by
  obtain ⟨⟨x⟩⟩ := a
  obtain ⟨⟨y⟩⟩ := b
  show ((⟨x⟩ : Array UInt8) == ⟨y⟩) = decide (x = y)
  rw [Bool.eq_iff_iff, beq_iff_eq, decide_eq_true_eq]
  constructor
  · intro h; injection h
  · intro h; rw [h]
theorem find5 (x : ByteArray) : Instr.findNow .string (.string x) E5.toList 0 = some (kfind x.data.toList) := by
  have h : ∀ k : List UInt8, (x == (⟨k.toArray⟩ : ByteArray)) = decide (x.data.toList = k) := fun k => by
    rw [bs_eq]
  unfold kfind E5 ent
  by_cases h1 : x.data.toList = kcer
  · simp [Instr.findNow, Instr.sameNow, h, h1]
  · by_cases h2 : x.data.toList = kcrl
    · simp [Instr.findNow, Instr.sameNow, h, h1, h2]
      simp [kcer, kcrl]
    · by_cases h3 : x.data.toList = kmft
      · simp [Instr.findNow, Instr.sameNow, h, h1, h2, h3]
        simp [kcer, kcrl, kmft]
      · by_cases h4 : x.data.toList = kroa
        · simp [Instr.findNow, Instr.sameNow, h, h1, h2, h3, h4]
          simp [kcer, kcrl, kmft, kroa]
        · by_cases h5 : x.data.toList = kasa
          · simp [Instr.findNow, Instr.sameNow, h, h1, h2, h3, h4, h5]
            simp [kcer, kcrl, kmft, kroa, kasa]
          · simp [Instr.findNow, Instr.sameNow, h, h1, h2, h3, h4, h5]
theorem kfind_val (x : List UInt8) : kval (kfind x) = .int .u8 (((match kfind x with | some (k, _) => k + 1 | none => 0) : Nat) : Int) := by
  unfold kfind
  by_cases h1 : x = kcer
  · rw [if_pos h1]; rfl
  · rw [if_neg h1]
    by_cases h2 : x = kcrl
    · rw [if_pos h2]; rfl
    · rw [if_neg h2]
      by_cases h3 : x = kmft
      · rw [if_pos h3]; rfl
      · rw [if_neg h3]
        by_cases h4 : x = kroa
        · rw [if_pos h4]; rfl
        · rw [if_neg h4]
          by_cases h5 : x = kasa
          · rw [if_pos h5]; rfl
          · rw [if_neg h5]; rfl
theorem ext_drop (s : List UInt8) (k : Nat) : (str s).extract k (str s).size = str (s.drop k) := by
  apply ByteArray.ext
  rw [ByteArray.data_extract]
  apply Array.ext'
  rw [Array.toList_extract]
  simp only [str, List.extract]
  exact List.take_of_length_le (by rw [List.length_drop]; show s.length - k ≤ s.toArray.size - k; simp)
set_option maxRecDepth 100000 in
set_option maxHeartbeats 8000000 in
theorem Kind_any (s : List UInt8) (hs : s.length < 4294967281) (w : World) (env : LEnv fl w) :
    Calls Tryd.prog 11 #[.string (str s)] w fun e w' => e = .returned (.int .u8 (kindL s : Nat)) ∧ Below w.heap.size w w' := by
  have hG := env.big
  have HN := Lib.hid (name_any (str s) w env (by rw [str_size]; exact hs))
  rw [str_dat] at HN
  have hk : kindL s = if nameB s = true ∧ 4 < s.length then (match kfind (s.drop (s.length - 4)) with | some (k, _) => k + 1 | none => 0) else 0 := by
    unfold kindL kfind
    by_cases h : nameB s = true ∧ 4 < s.length
    · rw [if_pos h, if_pos h]
      show (if s.drop (s.length - 4) = kcer then 1 else if s.drop (s.length - 4) = kcrl then 2 else if s.drop (s.length - 4) = kmft then 3 else if s.drop (s.length - 4) = kroa then 4 else if s.drop (s.length - 4) = kasa then 5 else 0) = _
      generalize s.drop (s.length - 4) = x
      by_cases h1 : x = kcer
      · rw [if_pos h1, if_pos h1]
      · rw [if_neg h1, if_neg h1]
        by_cases h2 : x = kcrl
        · rw [if_pos h2, if_pos h2]
        · rw [if_neg h2, if_neg h2]
          by_cases h3 : x = kmft
          · rw [if_pos h3, if_pos h3]
          · rw [if_neg h3, if_neg h3]
            by_cases h4 : x = kroa
            · rw [if_pos h4, if_pos h4]
            · rw [if_neg h4, if_neg h4]
              by_cases h5 : x = kasa
              · rw [if_pos h5, if_pos h5]
              · rw [if_neg h5, if_neg h5]
    · rw [if_neg h, if_neg h]
  have hmm := @run_makeMap Tryd.prog
  generalize nameB s = NB at HN hk
  clear env
  go_enter Tryd.func11, Tryd.ntmps11
  cases NB
  · have HK : RowKit.Hid (kindL s = 0) := Lib.hid (by rw [hk, if_neg (fun h => by cases h.1)])
    clear hk
    go_wp2_with fail
    refine HN.out.mono ?_
    rintro e w2 ⟨rfl, hb⟩
    have HB := Lib.hid hb
    clear hb
    go_wp2_with fail
    go_ret
    exact ⟨by rw [HK.out]; rfl, HB.out⟩
  · by_cases h4 : 4 < s.length
    · have i1 : ¬ ((str s).size : Int) ≤ 4 := by rw [str_size]; omega
      rw [if_pos ⟨rfl, h4⟩] at hk
      have HK := Lib.hid hk
      have i2 : ((str s).size : Int) - 4 = ((s.length - 4 : Nat) : Int) := by rw [str_size]; omega
      clear hk
      go_wp2_with fail
      refine HN.out.mono ?_
      rintro e w2 ⟨rfl, hb⟩
      have HB := Lib.hid hb
      clear hb
      have g1 := ins_run w2 #[] 0 ⟨#[46, 99, 101, 114]⟩ (.int .u8 1) (by rfl)
      have g2 := ins_run w2 #[{ key := .string ⟨#[46, 99, 101, 114]⟩, val := .int .u8 1, born := 0 }] 1 ⟨#[46, 99, 114, 108]⟩ (.int .u8 2) (by rfl)
      have g3 := ins_run w2 #[{ key := .string ⟨#[46, 99, 101, 114]⟩, val := .int .u8 1, born := 0 }, { key := .string ⟨#[46, 99, 114, 108]⟩, val := .int .u8 2, born := 1 }] 2 ⟨#[46, 109, 102, 116]⟩ (.int .u8 3) (by rfl)
      have g4 := ins_run w2 #[{ key := .string ⟨#[46, 99, 101, 114]⟩, val := .int .u8 1, born := 0 }, { key := .string ⟨#[46, 99, 114, 108]⟩, val := .int .u8 2, born := 1 }, { key := .string ⟨#[46, 109, 102, 116]⟩, val := .int .u8 3, born := 2 }] 3 ⟨#[46, 114, 111, 97]⟩ (.int .u8 4) (by rfl)
      have g5 := ins_run w2 #[{ key := .string ⟨#[46, 99, 101, 114]⟩, val := .int .u8 1, born := 0 }, { key := .string ⟨#[46, 99, 114, 108]⟩, val := .int .u8 2, born := 1 }, { key := .string ⟨#[46, 109, 102, 116]⟩, val := .int .u8 3, born := 2 }, { key := .string ⟨#[46, 114, 111, 97]⟩, val := .int .u8 4, born := 3 }] 4 ⟨#[46, 97, 115, 97]⟩ (.int .u8 5) (by rfl)
      have hkv : Value.int .u8 (kindL s : Nat) = kval (kfind (s.drop (s.length - 4))) := by rw [kfind_val, HK.out]
      have gl0 := look_run w2 E5 5 ((str s).extract (s.length - 4) (str s).size) (kfind (s.drop (s.length - 4))) (.int .u8 (kindL s : Nat)) (by
        have h := find5 ((str s).extract (s.length - 4) (str s).size)
        rw [h, ext_drop, str_dat]) hkv
      have gl : (Instr.lookup 56 (.map (some w2.heap.size)) (.string ((str s).extract (s.length - 4) (str s).size)) false).run Tryd.prog (w2.alloc (.map #[{ key := .string ⟨#[46, 99, 101, 114]⟩, val := .int .u8 1, born := 0 }, { key := .string ⟨#[46, 99, 114, 108]⟩, val := .int .u8 2, born := 1 }, { key := .string ⟨#[46, 109, 102, 116]⟩, val := .int .u8 3, born := 2 }, { key := .string ⟨#[46, 114, 111, 97]⟩, val := .int .u8 4, born := 3 }, { key := .string ⟨#[46, 97, 115, 97]⟩, val := .int .u8 5, born := 4 }] 5)) = .ok (.int .u8 (kindL s : Nat)) (w2.alloc (.map #[{ key := .string ⟨#[46, 99, 101, 114]⟩, val := .int .u8 1, born := 0 }, { key := .string ⟨#[46, 99, 114, 108]⟩, val := .int .u8 2, born := 1 }, { key := .string ⟨#[46, 109, 102, 116]⟩, val := .int .u8 3, born := 2 }, { key := .string ⟨#[46, 114, 111, 97]⟩, val := .int .u8 4, born := 3 }, { key := .string ⟨#[46, 97, 115, 97]⟩, val := .int .u8 5, born := 4 }] 5)) := gl0
      clear hkv gl0 HK
      obtain ⟨KK, hKK⟩ : ∃ KK, kindL s = KK := ⟨_, rfl⟩
      rw [hKK] at gl
      have HKK := Lib.hid hKK
      clear hKK
      go_wp2_with fail
      go_ret
      exact ⟨by rw [HKK.out]; rfl, HB.out.trans ((below_new _ _).mono HB.out.size)⟩
    · have i1 : ((str s).size : Int) ≤ 4 := by rw [str_size]; omega
      have HK : RowKit.Hid (kindL s = 0) := Lib.hid (by rw [hk, if_neg (fun h => h4 h.2)])
      clear hk
      go_wp2_with fail
      refine HN.out.mono ?_
      rintro e w2 ⟨rfl, hb⟩
      have HB := Lib.hid hb
      clear hb
      go_wp2_with fail
      go_ret
      exact ⟨by rw [HK.out]; rfl, HB.out⟩
end Go.Proofs.YthagoafcphaadaaDoor
