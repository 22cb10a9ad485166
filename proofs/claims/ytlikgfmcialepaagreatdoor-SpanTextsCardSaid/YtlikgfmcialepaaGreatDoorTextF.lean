/-
  THE WALKS over the strings of package number: four decimals.
-/
import Derived.Test.YtlikgfmcialepaaGreatDoorTextE
import Derived.Lib.SplitLaws
namespace Go.Proofs.YtlikgfmcialepaaGreatDoor
open Go.RowKit Adr
set_option linter.unusedVariables false
/-- the parts between points -/
def parts (c : UInt8) (s : ByteArray) : List ByteArray := Lib.splitB ⟨#[c]⟩ 0 (Lib.countB s ⟨#[c]⟩) s
theorem splitB_small (c : UInt8) : ∀ (k : Nat) (s : ByteArray), ∀ p ∈ Lib.splitB ⟨#[c]⟩ 0 k s, p.size ≤ s.size
  | 0, s, p, hp => by
    rw [Lib.splitB_zero] at hp
    simp at hp
    rw [hp]
    exact Nat.le_refl _
  | k + 1, s, p, hp => by
    unfold Lib.splitB at hp
    split at hp
    · simp at hp
      rw [hp]
      exact Nat.le_refl _
    · rcases List.mem_cons.1 hp with rfl | hp
      · rw [ByteArray.size_extract]; omega
      · have ih := splitB_small c k _ p hp
        rw [ByteArray.size_extract] at ih
        omega
theorem parts_len (c : UInt8) (s : ByteArray) : (parts c s).length = Lib.countB s ⟨#[c]⟩ + 1 := Lib.splitB_all ⟨#[c]⟩ (Nat.le_refl 1) 0 _ s rfl
theorem parts_small (c : UInt8) (s : ByteArray) : ∀ p ∈ parts c s, p.size ≤ s.size := splitB_small c _ s
/-- four numbers, one after the other -/
def rfold : List ByteArray → Nat → Option Nat
  | [], a => some a
  | p :: ps, a => match rdec 8 p.data.toList with
    | some n => rfold ps (a * 256 + n)
    | none => none
def fourR (s : ByteArray) : Option Nat := if (parts 46 s).length = 4 then rfold (parts 46 s) 0 else none
theorem rfold_some {p : ByteArray} {ps : List ByteArray} {a n : Nat} (h : rdec 8 p.data.toList = some n) : rfold (p :: ps) a = rfold ps (a * 256 + n) := by
  conv => lhs; unfold rfold
  rw [h]
theorem rfold_none {p : ByteArray} {ps : List ByteArray} {a : Nat} (h : rdec 8 p.data.toList = none) : rfold (p :: ps) a = none := by
  conv => lhs; unfold rfold
  rw [h]
theorem rdec_le {B : Nat} {l : List UInt8} {u : Nat} (h : rdec B l = some u) : u < 2 ^ B := by
  unfold rdec at h
  split at h
  · rename_i v hv
    have := Lib.parseUintB_le hv
    split at h
    · have hu : v = u := by simpa using h
      have h2 : 0 < 2 ^ B := Nat.two_pow_pos B
      omega
    · cases h
  · cases h
theorem or8 (a n : Nat) (ha : a < 16777216) (hn : n < 256) : bits BinOp.or IntKind.u64 ((a : Int) * 256) n = ((a * 256 + n : Nat) : Int) := by
  have h1 := bits_or_u64_nat (a * 256) n (by omega) (by omega)
  have h2 : a * 256 ||| n = a * 256 + n := by
    have := Nat.shiftLeft_add_eq_or_of_lt (b := n) (i := 8) (by omega) a
    rw [Nat.shiftLeft_eq] at this
    exact this.symm
  rw [h2] at h1
  rw [← h1]
  congr 1
set_option maxHeartbeats 400000 in
theorem four_len (s : ByteArray) (w : World) (env : Env true w) (hs : s.size ≤ 1000) (hl : (parts 46 s).length ≠ 4) :
    Calls Tryz.prog 32 #[.string s] w fun e w' => e = .returned (.tuple #[.agg #[.int .u64 0, .int .u64 0], .bool false]) ∧ Below w.heap.size w w' := by
  obtain ⟨m, hm⟩ := env.mx
  have hG := env.big
  have hsp := Tryz.strings_Split s ⟨#[46]⟩ m (w.alloc (.cells #[.int .u64 0, .int .u64 0] 24)) (by omega) ((World.cell?_alloc_past _ _ _ (by omega)).trans hm) (Nat.le_refl 1)
  rw [← parts_len] at hsp
  rw [show Lib.splitB ⟨#[46]⟩ 0 (Lib.countB s ⟨#[46]⟩) s = parts 46 s from rfl] at hsp
  obtain ⟨ps, hps⟩ : ∃ ps, parts 46 s = ps := ⟨_, rfl⟩
  rw [hps] at hsp hl
  have hl' : ((ps.length : Int) == 4) = false := beq_eq_false_iff_ne.2 (by omega)
  have hl2 : ((ps.length : Int) != 4) = true := by rw [bne_iff_ne]; omega
  have HS := Lib.hid hsp
  clear hsp hps hl
  go_enter Tryz.func32, Tryz.ntmps32
  go_wp2_with fail
  refine HS.out.mono ?_
  rintro e w1 ⟨rfl, rfl⟩
  go_wp2_with fail
  refine bodyPost_ret (v := .tuple #[.agg #[.int .u64 0, .int .u64 0], .bool false]) (by simp [results, Tryz.results32, go_sem]) rfl ⟨rfl, ((Below.refl _ _).alloc (Nat.le_refl _) _).alloc (by simp) _⟩
def FourRel (ps : List ByteArray) (tot : Option Nat) (w : World) (k a : Nat) (wr : World) : Prop :=
  Below w.heap.size w wr ∧ w.heap.size + 2 < wr.heap.size ∧ (∀ j x, ps[j]? = some x → wr.cell? ⟨w.heap.size + 1, j, none⟩ = some (.string x)) ∧ wr.cell? ⟨w.heap.size + 1 + 1, 0, none⟩ = some (.int .u64 0) ∧ wr.cell? ⟨w.heap.size + 1 + 1, 1, none⟩ = some (.int .u64 a) ∧ wr.frozen? ⟨w.heap.size + 1 + 1, 1, none⟩ = false ∧ wr.frozen? ⟨w.heap.size, 0, none⟩ = false ∧ wr.frozen? ⟨w.heap.size, 1, none⟩ = false ∧
    wr.cell? ⟨w.heap.size, 0, none⟩ = some (.int .u64 0) ∧ wr.cell? ⟨w.heap.size, 1, none⟩ = some (.int .u64 0) ∧ rfold (ps.drop k) a = tot ∧ a < 256 ^ k
theorem four_keep {ps : List ByteArray} {tot : Option Nat} {w wr w1 : World} {k a : Nat} (h : FourRel ps tot w k a wr) (hb : Below wr.heap.size wr w1) : FourRel ps tot w k a w1 := by
  obtain ⟨h1, h2, h3, h4, h5, h6, h7, h8, h9, h10, h11, h12⟩ := h
  have c : ∀ b j, b ≤ w.heap.size + 2 → w1.cell? ⟨b, j, none⟩ = wr.cell? ⟨b, j, none⟩ := fun b j hbb => hb.cell (p := ⟨b, j, none⟩) (by show b < _; omega)
  have f : ∀ b j, b ≤ w.heap.size + 2 → w1.frozen? ⟨b, j, none⟩ = wr.frozen? ⟨b, j, none⟩ := fun b j hbb => hb.frozen (p := ⟨b, j, none⟩) (by show b < _; omega)
  exact ⟨h1.trans (hb.mono (by omega)), by have := hb.size; omega, fun j x hx => by rw [c _ _ (by omega)]; exact h3 j x hx, by rw [c _ _ (by omega)]; exact h4, by rw [c _ _ (by omega)]; exact h5, by rw [f _ _ (by omega)]; exact h6, by rw [f _ _ (by omega)]; exact h7, by rw [f _ _ (by omega)]; exact h8, by rw [c _ _ (by omega)]; exact h9, by rw [c _ _ (by omega)]; exact h10, h11, h12⟩
set_option maxHeartbeats 2000000 in
theorem four_core (ps : List ByteArray) (s : ByteArray) (w : World) (env : Env true w) (hs : s.size ≤ 1000) (hps : parts 46 s = ps) (hl : ps.length = 4) :
    Calls Tryz.prog 32 #[.string s] w fun e w' => e = .returned (.tuple #[.agg #[.int .u64 0, .int .u64 ((rfold ps 0).getD 0 : Nat)], .bool (rfold ps 0).isSome]) ∧ Below w.heap.size w w' := by
  obtain ⟨m, hm⟩ := env.mx
  have hG := env.big
  have HE := Lib.hid env
  have hsp := Tryz.strings_Split s ⟨#[46]⟩ m (w.alloc (.cells #[.int .u64 0, .int .u64 0] 24)) (by omega) ((World.cell?_alloc_past _ _ _ (by omega)).trans hm) (Nat.le_refl 1)
  rw [← parts_len] at hsp
  rw [show Lib.splitB ⟨#[46]⟩ 0 (Lib.countB s ⟨#[46]⟩) s = parts 46 s from rfl] at hsp
  have hsmall := parts_small 46 s
  rw [hps] at hsp hsmall
  rw [hl] at hsp
  obtain ⟨tot, ht⟩ : ∃ tot, rfold ps 0 = tot := ⟨_, rfl⟩
  rw [ht]
  have HT := Lib.hid ht
  have HS := Lib.hid hsp
  have HL := Lib.hid hl
  have HSm := Lib.hid hsmall
  clear hsp hps hl ht hsmall env
  go_enter Tryz.func32, Tryz.ntmps32
  go_wp2_with fail
  refine HS.out.mono ?_
  rintro e w1 ⟨rfl, rfl⟩
  go_wp2_with fail
  go_loopw [18] (fun i wr => ∃ k a : Nat, k ≤ 4 ∧ i = .int .i64 k ∧ FourRel ps tot w k a wr) (fun i _ => 4 - (intOf i).toNat)
  case atStart =>
    refine ⟨0, 0, by omega, rfl, ((Below.refl _ _).alloc (Nat.le_refl _) _).alloc (by simp) _ |>.alloc (by simp; omega) _, by simp, fun j x hx => ?_, by go_simp, by go_simp, by go_simp, by go_simp, by go_simp, by go_simp, by go_simp, HT.out, by simp⟩
    refine (World.cell?_alloc_past _ _ _ (by simp)).trans ((World.cell?_alloc_at _ _ _ _ (by simp)).trans ?_)
    simp [hx]
  case round =>
    obtain ⟨k, a, hk, rfl, hrl⟩ := hrel
    have HR := Lib.hid hrl
    clear hrl
    by_cases hlt : k < 4
    · have hkl : k < ps.length := by have := HL.out; omega
      obtain ⟨x, hx⟩ : ∃ x, ps[k]? = some x := ⟨_, List.getElem?_eq_getElem hkl⟩
      have hck := HR.out.2.2.1 k x hx
      have hdrop : ps.drop k = x :: ps.drop (k + 1) := by
        rw [List.drop_eq_getElem_cons hkl]
        rw [List.getElem?_eq_getElem hkl] at hx
        rw [Option.some.inj hx]
      have hxs : x.size ≤ 1000000 := by
        have := HSm.out x (List.mem_of_getElem? hx)
        omega
      have HD := Lib.hid hdrop
      have hrd := rd8 x wr (HE.out.below HR.out.1 hG) hxs
      have HX := Lib.hid hx
      clear hx hdrop
      cases hr : rdec 8 x.data.toList with
      | none =>
        rw [hr] at hrd
        have HRD := Lib.hid hrd
        have htot : tot = none := by rw [← HR.out.2.2.2.2.2.2.2.2.2.2.1, HD.out, rfold_none hr]
        subst htot
        clear hr hrd
        go_wp2_with fail
        refine HRD.out.mono ?_
        rintro e w2 ⟨rfl, hb2⟩
        have HR2 := Lib.hid (four_keep HR.out hb2)
        have f1 := HR2.out.2.2.2.2.2.2.1
        have f2 := HR2.out.2.2.2.2.2.2.2.1
        have f3 := HR2.out.2.2.2.2.2.2.2.2.1
        have f4 := HR2.out.2.2.2.2.2.2.2.2.2.1
        go_wp2_with fail
        refine bodyPost_ret (v := .tuple #[.agg #[.int .u64 0, .int .u64 0], .bool false]) (by simp [results, Tryz.results32, go_sem, f3, f4]) rfl ⟨rfl, (HR2.out.1.setCell (by simp) _).setCell (by simp) _⟩
      | some n =>
        rw [hr] at hrd
        have HRD := Lib.hid hrd
        have hn := rdec_le hr
        have ha : a < 16777216 := by
          have h1 := HR.out.2.2.2.2.2.2.2.2.2.2.2
          have h2 : 256 ^ k ≤ 256 ^ 3 := Nat.pow_le_pow_right (by omega) (by omega)
          have h3 : (256 : Nat) ^ 3 = 16777216 := by decide
          omega
        have hstep : rfold (ps.drop (k + 1)) (a * 256 + n) = tot := by rw [← HR.out.2.2.2.2.2.2.2.2.2.2.1, HD.out, rfold_some hr]
        have hor := or8 a n ha (by simpa using hn)
        have hlt2 : a * 256 + n < 256 ^ (k + 1) := by
          have h1 := HR.out.2.2.2.2.2.2.2.2.2.2.2
          rw [Nat.pow_succ]
          have : n < 256 := by simpa using hn
          omega
        have hwa : IntKind.u64.wrap ((a : Int) * 256) = (a : Int) * 256 := wrap_u64 ⟨by omega, by omega⟩
        have HST := Lib.hid hstep
        have HLT := Lib.hid hlt2
        clear hr hrd hn ha hstep hlt2
        go_wp2_with fail
        refine HRD.out.mono ?_
        rintro e w2 ⟨rfl, hb2⟩
        have HR2 := Lib.hid (four_keep HR.out hb2)
        have f1 := HR2.out.2.2.2.2.1
        have f2 := HR2.out.2.2.2.2.2.1
        go_wp2_with fail
        obtain ⟨r1, r2, r3, r4, r5, r6, r7, r8, r9, r10, r11, r12⟩ := HR2.out
        refine ⟨⟨k + 1, a * 256 + n, by omega, by go_num, r1.setCell (by simp; omega) _, by simpa using r2, fun j y hy => cell_far (r3 j y hy) (by simp), cell_far r4 (by simp), ?_, by simpa using r6, by simpa using r7, by simpa using r8, cell_far r9 (by simp), cell_far r10 (by simp), HST.out, HLT.out⟩, by simp [intOf]; omega⟩
        rw [show ((a : Int) * 256 + (n : Int)) = ((a * 256 + n : Nat) : Int) by omega]
        exact cell_same r5
    · have ek : k = 4 := by omega
      subst ek
      obtain ⟨r1, r2, r3, r4, r5, r6, r7, r8, r9, r10, r11, r12⟩ := HR.out
      have htot : tot = some a := by
        rw [← r11, List.drop_of_length_le (by have := HL.out; omega)]
        rfl
      subst htot
      have R1 := Lib.hid r1
      clear r1 r3 r11 r12
      go_wp2_with fail
      refine bodyPost_ret (v := .tuple #[.agg #[.int .u64 0, .int .u64 a], .bool true]) (by simp [results, Tryz.results32, go_sem, r9, r10]) rfl ⟨rfl, (R1.out.setCell (by simp) _).setCell (by simp) _⟩
theorem four_read (s : ByteArray) (w : World) (env : Env true w) (hs : s.size ≤ 1000) :
    Calls Tryz.prog 32 #[.string s] w fun e w' => e = .returned (.tuple #[.agg #[.int .u64 0, .int .u64 ((fourR s).getD 0 : Nat)], .bool (fourR s).isSome]) ∧ Below w.heap.size w w' := by
  unfold fourR
  by_cases hl : (parts 46 s).length = 4
  · rw [if_pos hl]
    exact four_core (parts 46 s) s w env hs rfl hl
  · rw [if_neg hl]
    exact four_len s w env hs hl
end Go.Proofs.YtlikgfmcialepaaGreatDoor
