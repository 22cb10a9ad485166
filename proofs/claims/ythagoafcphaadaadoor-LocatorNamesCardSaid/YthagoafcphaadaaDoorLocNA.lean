/-
  WHAT LocatorNames LEANS ON: letters; closed locators and strings that the kernel reckons; rows of locators.
-/
import Derived.Test.YthagoafcphaadaaDoorLocRG
import Derived.Test.YthagoafcphaadaaDoorLocWJ
import Derived.Laws.OwnMore
import Derived.Laws.MakeOwn
namespace Go.Proofs.YthagoafcphaadaaDoor
open Go.RowKit Lo
set_option linter.unusedVariables false
set_option linter.unusedSimpArgs false
namespace Lo
def aa (n : Nat) : List UInt8 := List.replicate n 97
theorem aa_len (n : Nat) : (aa n).length = n := List.length_replicate
theorem aa_get (n j : Nat) (h : j < (aa n).length) : (aa n)[j] = 97 := List.getElem_replicate ..
def textC (l : Lc) : List UInt8 × Int := if chkC l = 0 then (wrC l, 0) else ([], chkC l)
theorem textC_eq (l : Lc) : textL l = textC l := by
  unfold textL textC
  rw [chkC_eq]
  by_cases h : chk l = 0
  · have g := (chk_zero h).1
    rw [if_pos h, if_pos h, wrC_eq _ g.p0 g.p1]
  · rw [if_neg h, if_neg h]
def joinC (d n : List UInt8) : List UInt8 × Int := match parseC d with
  | none => ([], 12)
  | some l => if l.dir = true ∧ nameB n = true then textC (l.file n) else ([], 2)
theorem joinC_eq (d n : List UInt8) : joinL d n = joinC d n := by
  unfold joinL joinC
  rw [parseC_eq]
  cases parseC d with
  | none => rfl
  | some l => simp only [textC_eq]
def splitC (s : List UInt8) : List UInt8 × List UInt8 × Int := match parseC s with
  | none => ([], [], 12)
  | some l => if l.dir = true then ([], [], 2) else (wrC l.up, l.parts.getLast?.getD [], 0)
theorem splitC_eq (s : List UInt8) : splitS s = splitC s := by
  unfold splitS splitC
  cases hp : parseL s with
  | none => rw [parseC_eq] at hp; rw [hp]
  | some l =>
    have g := up_good (chk_zero ((parse_iff s l).1 hp).1).1
    rw [parseC_eq] at hp
    rw [hp]
    simp only [wrC_eq _ g.p0 g.p1]
def withinC (d s : List UInt8) : Bool × Int := match parseC d, parseC s with
  | some a, some _ => if a.dir = true then (Go.Lib.hasPrefix s d, 0) else (false, 2)
  | _, _ => (false, 12)
theorem withinC_eq (d s : List UInt8) : withinL d s = withinC d s := by
  unfold withinL withinC
  rw [parseC_eq, parseC_eq]
  cases parseC d <;> cases parseC s <;> rfl
end Lo
/-! letters -/
def acs (n k : Nat) : Array Value := (List.replicate k (Value.int .u8 97) ++ List.replicate (n - k) (Value.int .u8 0)).toArray
theorem acs_size (n k : Nat) (h : k ≤ n) : (acs n k).size = n := by unfold acs; simp; omega
theorem acs_set (n k : Nat) (h : k < n) : (acs n k).setIfInBounds k (.int .u8 97) = acs n (k + 1) := by
  obtain ⟨m, rfl⟩ : ∃ m, n = k + (m + 1) := ⟨n - k - 1, by omega⟩
  unfold acs
  rw [List.setIfInBounds_toArray, show k + (m + 1) - k = m + 1 by omega, show k + (m + 1) - (k + 1) = m by omega, List.replicate_succ, List.set_append_right _ _ (by simp), List.length_replicate, Nat.sub_self, List.set_cons_zero, List.replicate_succ']
  simp
theorem Tryd.info_byte9 : (Tryd.prog.info? 5).map (fun i => (i.zero, i.size, i.bytes)) = some (some (.int .u8 0), 1, 1) := by kernel_rfl
theorem mk_letters (n : Nat) (hn : n ≤ 1000) (w : World) : (Instr.makeSlice 52 (.int .i64 (n : Int)) (.int .i64 (n : Int))).run Tryd.prog w = .ok (.slice (some ⟨w.heap.size, 0, none⟩) n n) (w.alloc (.cells (acs n 0) 5)) := by
  obtain ⟨i0, hi, hz0, hz1, hz2⟩ := info_parts Tryd.info_byte9
  have h := run_make (P := Tryd.prog) w 52 5 i0 _ Tryd.underlying52 hi hz0 .i64 .i64 (n : Int) (n : Int) (by omega) (by omega) (by rw [hz2]; omega) (by omega)
  have hm : madeCells (Value.int .u8 0).cells (Int.toNat (n : Int) * 1) = acs n 0 := by
    apply Array.ext'
    refine (toList_madeCells_one (.int .u8 0) _).trans ?_
    rw [Int.toNat_natCast, Nat.mul_one]
    unfold acs
    simp
  rw [hz1, hm, Int.toNat_natCast] at h
  exact h
set_option maxRecDepth 100000 in
set_option maxHeartbeats 4000000 in
theorem letters_any (n : Nat) (hn : n ≤ 1000) (h1 : 1 ≤ n) (w : World) : Calls Tryd.prog 8 #[.int .i64 (n : Int)] w fun e w' => e = .returned (.string (str (aa n))) ∧ Below w.heap.size w w' := by
  have hmk := mk_letters n hn w
  have hrow := heap_alloc_new w (.cells (acs n 0) 5)
  have hbel := below_new w (.cells (acs n 0) 5)
  have HCV : RowKit.Hid (∀ V : World, V.heap[w.heap.size]? = some (.cells (acs n n) 5 (0, 0)) → (convert 52 9 (.slice (some ⟨w.heap.size, 0, none⟩) n n)).run Tryd.prog V = .ok (.string (str (aa n))) V) := Lib.hid (fun V hV => by
    have h := run_convert_bytes_back (P := Tryd.prog) V 52 9 5 ⟨w.heap.size, 0, none⟩ n (aa n) Tryd.underlying52 Tryd.underlying5 Tryd.underlying9 (fun j hj => by
      rw [addr_add, Nat.zero_add, cell_row hV]
      have hj2 : j < n := by rw [aa_len] at hj; exact hj
      rw [aa_get]
      unfold acs
      rw [Nat.sub_self, List.replicate_zero, List.append_nil, List.getElem?_toArray, List.getElem?_replicate, if_pos hj2]
      rfl)
    rw [aa_len] at h
    exact h)
  obtain ⟨N, hN⟩ : ∃ N, w.heap.size = N := ⟨_, rfl⟩
  have HNN := Lib.hid hN
  go_enter Tryd.func8, Tryd.ntmps8
  go_wp2_with fail
  generalize hV0 : World.alloc w _ = V0
  rw [hV0] at hrow hbel
  rw [hN] at HCV hrow hbel
  try simp only [hN]
  have HR0 := Lib.hid hrow
  have HB0 := Lib.hid hbel
  clear hmk hrow hbel hV0 hN
  go_loopw [4] (fun i wr => ∃ k : Nat, k ≤ n ∧ i = .int .i64 k ∧ RowKit.Hid (wr.heap[N]? = some (.cells (acs n k) 5 (0, 0)) ∧ Below N w wr)) (fun i _ => n - (intOf i).toNat)
  case atStart => exact ⟨0, Nat.zero_le _, by go_num, Lib.hid ⟨HR0.out, HB0.out⟩⟩
  case round =>
    clear HR0 HB0
    obtain ⟨k, hk, rfl, HK⟩ := hrel
    by_cases hlt : k < n
    · have hki : (k : Int) < (n : Int) := by omega
      have hsz := acs_size n k hk
      obtain ⟨z, hz⟩ : ∃ z, (acs n k)[k]? = some z := ⟨_, Array.getElem?_eq_getElem (by omega)⟩
      have hc := (cell_row (j := k) HK.out.1).trans hz
      have hl := row_lt HK.out.1
      have hf : wr.frozen? ⟨N, k, none⟩ = false := frozen_of_row _ _ _ _ _ HK.out.1
      have HS := Lib.hid (show (wr.setCell ⟨N, k, none⟩ (.int .u8 97)).heap[N]? = some (.cells (acs n (k + 1)) 5 (0, 0)) by rw [← acs_set n k hlt]; exact heap_setCell_same _ _ _ _ _ _ HK.out.1)
      have HB := Lib.hid (HK.out.2.setCell (p := ⟨N, k, none⟩) (Nat.le_refl N) (.int .u8 97))
      have HLT := Lib.hid hlt
      clear hz hsz
      go_wp2_with fail
      exact ⟨⟨k + 1, HLT.out, by go_num, Lib.hid ⟨HS.out, HB.out⟩⟩, by have := HLT.out; simp [intOf]; omega⟩
    · have hkk : k = n := by omega
      subst hkk
      have hki : ¬ (k : Int) < (k : Int) := by omega
      have hcv := HCV.out wr HK.out.1
      go_wp2_with fail
      go_ret
      exact ⟨rfl, by rw [HNN.out]; exact HK.out.2⟩
end Go.Proofs.YthagoafcphaadaaDoor
