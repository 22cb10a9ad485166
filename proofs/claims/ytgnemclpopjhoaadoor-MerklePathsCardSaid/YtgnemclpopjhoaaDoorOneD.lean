/-
  THE WALKS over the program's digits.
-/
import Derived.Test.YtgnemclpopjhoaaDoorOneC
namespace Go.Proofs.YtgnemclpopjhoaaDoor
open Go.RowKit Sha Ots
set_option linter.unusedVariables false
set_option linter.unusedSimpArgs false
/-- numbers as cells -/
def ivals (l : List Nat) : List Value := l.map fun (d : Nat) => Value.int .i64 (d : Int)
theorem ivals_len (l : List Nat) : (ivals l).length = l.length := by simp [ivals]
theorem ivals_app (a b : List Nat) : ivals (a ++ b) = ivals a ++ ivals b := by simp [ivals]
/-- numbers in memory -/
def Ints (A : Option Addr) (D : List Nat) (w : World) : Prop := ∀ (j d : Nat), D[j]? = some d → ∃ g o, A = some ⟨g, o, none⟩ ∧ w.cell? ⟨g, o + j, none⟩ = some (.int .i64 (d : Int))
theorem Ints.on {A : Option Addr} {D : List Nat} {w V : World} (h : Ints A D w) (hb : Below w.heap.size w V) : Ints A D V := fun j d hj => by
  obtain ⟨g, o, e, hc⟩ := h j d hj
  exact ⟨g, o, e, by rw [hb.cell (p := ⟨g, o + j, none⟩) (World.block_lt_of_cell? _ _ hc)]; exact hc⟩
theorem ints_own {w : World} {b n c g : Nat} {D : List Nat} (h : w.ownsRow b 3 1 (.slice (some ⟨g, 0, none⟩) n c) n (ivals D)) : Ints (some ⟨g, 0, none⟩) D w := fun j d hj => by
  refine ⟨g, 0, rfl, ?_⟩
  have h2 := h.cells (g := g) rfl j (.int .i64 (d : Int)) (by unfold ivals; rw [List.getElem?_map, hj]; rfl)
  rw [add_eq, Nat.zero_add] at h2
  rw [Nat.zero_add]
  exact h2
theorem Tryd.info_int : (Tryd.prog.info? 3).map (fun i => (i.zero, i.size, i.bytes)) = some (some (.int .i64 0), 1, 8) := by kernel_rfl
theorem new_cells (w : World) (L : List Value) (t : TypeId) : ∀ j u, L[j]? = some u → (w.alloc (.cells L.toArray t)).cell? ((⟨w.heap.size, 0, none⟩ : Addr).add j) = some u := fun j u hj => by
  rw [add_eq, Nat.zero_add, cell_of_row _ _ _ _ _ _ (heap_alloc_new _ _)]
  simpa using hj
theorem nib_take (s : List UInt8) (k : Nat) (h : k < s.length) : nib (s.take (k + 1)) = nib (s.take k) ++ [(s.getD k 0).toNat / 16, (s.getD k 0).toNat % 16] := by
  rw [List.take_succ_eq_append_getElem h]
  unfold nib
  rw [List.flatMap_append, List.getD_eq_getElem?_getD, List.getElem?_eq_getElem h]
  rfl
theorem csum_two (l : List Nat) (a b : Nat) (ha : a ≤ 15) (hb : b ≤ 15) : ((csum (l ++ [a, b]) : Nat) : Int) = (csum l : Nat) + (30 - (a : Int) - (b : Int)) := by
  rw [csum_app]
  simp only [csum]
  omega
set_option maxRecDepth 100000 in
set_option maxHeartbeats 1000000 in
theorem digitsOf_any (s : List UInt8) (hs : s.length = 16) (w : World) :
    Calls Tryd.prog 62 #[.agg (bcells s)] w fun e w' => ∃ X, e = .returned (.slice (some ⟨X, 0, none⟩) 35 35) ∧ w.heap.size ≤ X ∧ Ints (some ⟨X, 0, none⟩) (digs s) w' ∧ Below w.heap.size w w' := by
  obtain ⟨i0, hi, hz0, hz1, hz2⟩ := info_parts Tryd.info_int
  have HI := Lib.hid hi
  have HS := Lib.hid hs
  have HSZ := Lib.hid (sz16 s hs)
  clear hi hs
  go_enter Tryd.func62, Tryd.ntmps62
  go_wp2_with (first | (refine wpList_load_row rfl 23 (.tmp 1) rfl w.heap.size rfl 23 (bcells s) (0, 0) _ HB0.out Tryd.underlying23 rfl HSZ.out ?_) | (at_make; go_loud (refine wpList_make_own _ rfl (.const (.int .i64 0)) (.const (.int .i64 35)) 74 rfl (w.heap.size + 1) 3 i0 (.int .i64 0) 1 Tryd.underlying74 HI.out hz0 hz1 .i64 .i64 35 35 rfl rfl rfl (by rw [hz2]; decide) (by decide) (by simp) ?_); intro w1 ho1 hb1; have HO1 := Lib.hid ho1; have HB0 : RowKit.Hid (w1.heap[w.heap.size]? = some (.cells (bcells s) 23 (0, 0))) := Lib.hid ((hb1.block _ (by simp) (by simp)).trans (heap_alloc_new _ _)); have HB1 : RowKit.Hid (Below w.heap.size w w1) := Lib.hid ((below_new w _).trans ⟨hb1.os, hb1.tape, hb1.output, Nat.le_trans (by simp) hb1.size, fun k hk => hb1.block k (by simp; omega) (by simp)⟩); clear ho1 hb1))
  have hos : w1.ownsRow (w.heap.size + 1) 3 1 (.slice (some ⟨w.heap.size + 1, 0, none⟩) 0 35) 0 (ivals (nib (s.take 0))) := by
    have h := HO1.out
    rw [World.size_alloc] at h
    exact h
  have HOS := Lib.hid hos
  clear HO1 hos HB0
  go_loopw [3, 4, 6, 7, 8, 11] (fun v sm _ _ _ x wr => ∃ k : Nat, k ≤ 16 ∧ x = .int .i64 (k : Int) ∧ sm = .int .i64 ((csum (nib (s.take k)) : Nat) : Int) ∧ v = .slice (some ⟨w.heap.size + 1, 0, none⟩) (2 * k) 35 ∧ RowKit.Hid (wr.ownsRow (w.heap.size + 1) 3 1 (.slice (some ⟨w.heap.size + 1, 0, none⟩) (2 * k) 35) (2 * k) (ivals (nib (s.take k)))) ∧ RowKit.Hid (Below w.heap.size w wr)) (fun _ _ _ _ _ x _ => 16 - (intOf x).toNat)
  case atStart => exact ⟨0, by omega, rfl, rfl, rfl, HOS, HB1⟩
  case round =>
    clear HOS HB1
    obtain ⟨k, hk, rfl, rfl, rfl, HO, HB⟩ := hrel
    by_cases hlt : k < 16
    · have hix : ∀ w, (Instr.index 23 (.agg (bcells s)) (.int .i64 (k : Int))).run Tryd.prog w = .ok (.int .u8 ((s.getD k 0).toNat : Int)) w :=
        fun w => run_index_row Tryd.underlying23 (fun _ => by kernel_rfl) (fun _ => by kernel_rfl) k hlt (bcells_at s k (by rw [HS.out]; exact hlt)) w
      have hnt := nib_take s k (by rw [HS.out]; exact hlt)
      have hcl : csum (nib (s.take k)) ≤ 480 := by
        have h := csum_le (nib (s.take k))
        rw [nib_len, List.length_take, HS.out] at h
        omega
      obtain ⟨b, hb⟩ : ∃ b, (s.getD k 0).toNat = b := ⟨_, rfl⟩
      have hb8 : b < 256 := by rw [← hb]; exact (s.getD k 0).toNat_lt
      rw [hb] at hix hnt
      have HNT := Lib.hid hnt
      obtain ⟨D, hD⟩ : ∃ D, nib (s.take k) = D := ⟨_, rfl⟩
      have HD := Lib.hid hD
      rw [hD] at HO HNT hcl ⊢
      obtain ⟨C, hC⟩ : ∃ C, csum D = C := ⟨_, rfl⟩
      rw [hC] at hcl ⊢
      have HC := Lib.hid hC
      clear hnt hb hD hC
      have hne : (ivals [b / 16, b % 16]) = [Value.int .i64 ((b : Int) / 16), Value.int .i64 ((b : Int) % 16)] := by simp [ivals]
      have hcs : ((csum (D ++ [b / 16, b % 16]) : Nat) : Int) = (C : Int) + (30 - (b : Int) / 16 - (b : Int) % 16) := by
        rw [csum_two _ _ _ (by omega) (by omega), HC.out]
        omega
      have HNE := Lib.hid hne
      have HCS := Lib.hid hcs
      clear hne hcs
      go_wp2_with (at_builtin; refine wpList_append_fits _ rfl (.tmp 26) (.tmp 29) 74 rfl (w.heap.size + 1) 3 i0 1 Tryd.underlying74 HI.out hz1 (w.heap.size + 1) (2 * k) 35 (ivals D) rfl (HO.out.alloc _) ⟨wr.heap.size, 0, none⟩ 2 2 [.int .i64 ((b : Int) / 16), .int .i64 ((b : Int) % 16)] rfl rfl (new_cells _ _ _) (by intro u hu; simp at hu; rcases hu with rfl | rfl <;> rfl) (by omega) ?_; intro w5 hown5 hgrow5; have HO5 := Lib.hid hown5; have HG5 := Lib.hid hgrow5; clear hown5 hgrow5)
      refine ⟨⟨k + 1, by omega, by go_num, ?_, ?_, Lib.hid ?_, Lib.hid ((HB.out.alloc HB.out.size _).grown HG5.out (by have := HB.out.size; simp; omega) (fun j hj => (by have hj2 : w.heap.size + 1 = j := (by simpa using hj); omega)))⟩, by simp [intOf]; omega⟩
      · rw [HNT.out, HCS.out]
      · rw [Nat.mul_add]
      · rw [HNT.out, ivals_app, HNE.out, Nat.mul_add]
        exact HO5.out
    · have hkk : k = 16 := by omega
      subst hkk
      have hge : ¬ ((16 : Nat) : Int) < 16 := by omega
      have hst : s.take 16 = s := List.take_of_length_le (by rw [HS.out]; exact Nat.le_refl _)
      rw [hst] at HO ⊢
      have hcl := csum_480 s HS.out
      obtain ⟨D, hD⟩ : ∃ D, nib s = D := ⟨_, rfl⟩
      rw [hD] at HO hcl ⊢
      obtain ⟨C, hC⟩ : ∃ C, csum D = C := ⟨_, rfl⟩
      rw [hC] at hcl ⊢
      have hdg : digs s = D ++ [C / 256, C / 16 % 16, C % 16] := by unfold digs; rw [hD, hC]
      have hne : (ivals [C / 256, C / 16 % 16, C % 16]) = [Value.int .i64 ((C : Int) / 256), Value.int .i64 ((C : Int) / 16 % 16), Value.int .i64 ((C : Int) % 16)] := by simp [ivals]
      have HDG := Lib.hid hdg
      have HNE := Lib.hid hne
      clear hst hD hC hdg hne
      go_wp2_with (at_builtin; go_loud (refine wpList_append_fits _ rfl (.tmp 32) (.tmp 40) 74 rfl (w.heap.size + 1) 3 i0 1 Tryd.underlying74 HI.out hz1 (w.heap.size + 1) 32 35 (ivals D) rfl (HO.out.alloc _) ⟨wr.heap.size, 0, none⟩ 3 3 [.int .i64 ((C : Int) / 256), .int .i64 ((C : Int) / 16 % 16), .int .i64 ((C : Int) % 16)] rfl rfl (new_cells _ _ _) (by intro u hu; simp at hu; rcases hu with rfl | rfl | rfl <;> rfl) (by omega) ?_); intro w5 hown5 hgrow5; have HO5 := Lib.hid hown5; have HG5 := Lib.hid hgrow5; clear hown5 hgrow5)
      go_ret
      refine ⟨w.heap.size + 1, rfl, by omega, ?_, ?_⟩
      · refine ints_own (b := w.heap.size + 1) (n := 35) (c := 35) ?_
        rw [HDG.out, ivals_app, HNE.out]
        exact HO5.out
      · exact (HB.out.alloc HB.out.size _).grown HG5.out (by have := HB.out.size; simp; omega) (fun j hj => by
          have : w.heap.size + 1 = j := by simpa using hj
          omega)
/-- the program's digits of a message -/
theorem digits_any (l : List UInt8) (A : Option Addr) (c : Nat) (hl : l.length ≤ 100000) (hc : l.length ≤ c) (hcm : c ≤ maxLen) (w : World) (hs : SrcAt A l w) (env : DEnv w) :
    Calls Tryd.prog 46 #[.slice A l.length c] w fun e w' => ∃ X, e = .returned (.slice (some ⟨X, 0, none⟩) 35 35) ∧ w.heap.size ≤ X ∧ Ints (some ⟨X, 0, none⟩) (dig l) w' ∧ Below w.heap.size w w' := by
  have hsho : Calls Tryd.prog 28 #[.slice A l.length c] w fun e w' => e = .returned (.agg (bcells (sh l))) ∧ Below w.heap.size w w' := short_any l A c hl hc hcm w hs env
  have hdg : dig l = digs (sh l) := rfl
  rw [hdg]
  have h16 := sh_len l
  obtain ⟨F, hF⟩ : ∃ F, sh l = F := ⟨_, rfl⟩
  rw [hF] at hsho h16 ⊢
  have SH := Lib.hid hsho
  obtain ⟨n, hn⟩ : ∃ n, l.length = n := ⟨_, rfl⟩
  rw [hn] at SH ⊢
  clear hsho hF hn hs env hdg
  go_enter Tryd.func46, Tryd.ntmps46
  go_wp2_with fail
  refine SH.out.mono ?_
  rintro e w1 ⟨rfl, hb1⟩
  have HB1 := Lib.hid hb1
  clear hb1
  go_wp2_with fail
  refine (digitsOf_any F h16 w1).mono ?_
  rintro e w2 ⟨X, rfl, hX, hi, hb2⟩
  have HX := Lib.hid hX
  have HI := Lib.hid hi
  have HB2 := Lib.hid (chain HB1.out hb2)
  clear hX hi hb2
  go_wp2_with fail
  go_ret
  exact ⟨X, rfl, Nat.le_trans HB1.out.size HX.out, HI.out, HB2.out⟩
end Go.Proofs.YtgnemclpopjhoaaDoor
