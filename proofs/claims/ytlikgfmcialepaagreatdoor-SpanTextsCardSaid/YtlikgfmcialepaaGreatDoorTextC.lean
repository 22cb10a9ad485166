/-
  THE WALKS over the strings of package number: the longest run of zeros.
-/
import Derived.Test.YtlikgfmcialepaaGreatDoorTextB
namespace Go.Proofs.YtlikgfmcialepaaGreatDoor
open Go.RowKit Adr
variable {fl : Bool}
set_option linter.unusedVariables false
/-- the run that begins at s ends at e: what becomes of the best run so far -/
def lzF (f t s e : Nat) : Nat := if 2 ≤ e - s ∧ t - f < e - s then s else f
def lzT (f t s e : Nat) : Nat := if 2 ≤ e - s ∧ t - f < e - s then e else t
set_option maxHeartbeats 400000 in
theorem end_hit (e s t f : Nat) (bs bt bf : Nat) (w : World) (hs : w.cell? ⟨bs, 0, none⟩ = some (.int .i64 s)) (ht : w.cell? ⟨bt, 0, none⟩ = some (.int .i64 t)) (hf : w.cell? ⟨bf, 0, none⟩ = some (.int .i64 f)) (fs : w.frozen? ⟨bs, 0, none⟩ = false) (ft : w.frozen? ⟨bt, 0, none⟩ = false) (ff : w.frozen? ⟨bf, 0, none⟩ = false) (n1 : ¬ bs = bt) (n2 : ¬ bs = bf) (n3 : ¬ bt = bf) (n4 : ¬ bt = bs) (n5 : ¬ bf = bs) (n6 : ¬ bf = bt)
    (he : e ≤ 8) (hse : s ≤ e) (hft : f ≤ t) (htt : t ≤ 8) (h2 : 2 ≤ e - s) (h3 : t - f < e - s) :
    Calls Tryz.prog 78 #[.int .i64 e, .pointer (some ⟨bs, 0, none⟩), .pointer (some ⟨bt, 0, none⟩), .pointer (some ⟨bf, 0, none⟩)] w fun r w' => r = .returned (.tuple #[]) ∧ w' = ((w.setCell ⟨bf, 0, none⟩ (.int .i64 s)).setCell ⟨bt, 0, none⟩ (.int .i64 e)).setCell ⟨bs, 0, none⟩ (.int .i64 ((e : Int) + 1)) := by
  have g1 : (2 : Int) ≤ (e : Int) - (s : Int) := by omega
  have g2 : (t : Int) - (f : Int) < (e : Int) - (s : Int) := by omega
  have g3 : (0 : Int) ≤ (t : Int) - (f : Int) := by omega
  have g4 : (e : Int) - (s : Int) ≤ 8 := by omega
  clear h2 h3
  go_enter Tryz.func78, Tryz.ntmps78
  go_wp2
  go_end0
  exact ⟨rfl, rfl⟩
set_option maxHeartbeats 400000 in
theorem end_miss1 (e s t f : Nat) (bs bt bf : Nat) (w : World) (hs : w.cell? ⟨bs, 0, none⟩ = some (.int .i64 s)) (ht : w.cell? ⟨bt, 0, none⟩ = some (.int .i64 t)) (hf : w.cell? ⟨bf, 0, none⟩ = some (.int .i64 f)) (fs : w.frozen? ⟨bs, 0, none⟩ = false) (ft : w.frozen? ⟨bt, 0, none⟩ = false) (ff : w.frozen? ⟨bf, 0, none⟩ = false) (n1 : ¬ bs = bt) (n2 : ¬ bs = bf) (n3 : ¬ bt = bf) (n4 : ¬ bt = bs) (n5 : ¬ bf = bs) (n6 : ¬ bf = bt)
    (he : e ≤ 8) (hse : s ≤ e) (hft : f ≤ t) (htt : t ≤ 8) (h2 : ¬ 2 ≤ e - s) :
    Calls Tryz.prog 78 #[.int .i64 e, .pointer (some ⟨bs, 0, none⟩), .pointer (some ⟨bt, 0, none⟩), .pointer (some ⟨bf, 0, none⟩)] w fun r w' => r = .returned (.tuple #[]) ∧ w' = w.setCell ⟨bs, 0, none⟩ (.int .i64 ((e : Int) + 1)) := by
  have g1 : ¬ (2 : Int) ≤ (e : Int) - (s : Int) := by omega
  have g5 : (0 : Int) ≤ (e : Int) - (s : Int) := by omega
  have g3 : (0 : Int) ≤ (t : Int) - (f : Int) := by omega
  have g4 : (e : Int) - (s : Int) ≤ 8 := by omega
  clear h2
  go_enter Tryz.func78, Tryz.ntmps78
  go_wp2
  go_end0
  exact ⟨rfl, rfl⟩
set_option maxHeartbeats 400000 in
theorem end_miss2 (e s t f : Nat) (bs bt bf : Nat) (w : World) (hs : w.cell? ⟨bs, 0, none⟩ = some (.int .i64 s)) (ht : w.cell? ⟨bt, 0, none⟩ = some (.int .i64 t)) (hf : w.cell? ⟨bf, 0, none⟩ = some (.int .i64 f)) (fs : w.frozen? ⟨bs, 0, none⟩ = false) (ft : w.frozen? ⟨bt, 0, none⟩ = false) (ff : w.frozen? ⟨bf, 0, none⟩ = false) (n1 : ¬ bs = bt) (n2 : ¬ bs = bf) (n3 : ¬ bt = bf) (n4 : ¬ bt = bs) (n5 : ¬ bf = bs) (n6 : ¬ bf = bt)
    (he : e ≤ 8) (hse : s ≤ e) (hft : f ≤ t) (htt : t ≤ 8) (h3 : 2 ≤ e - s) (h2 : ¬ t - f < e - s) :
    Calls Tryz.prog 78 #[.int .i64 e, .pointer (some ⟨bs, 0, none⟩), .pointer (some ⟨bt, 0, none⟩), .pointer (some ⟨bf, 0, none⟩)] w fun r w' => r = .returned (.tuple #[]) ∧ w' = w.setCell ⟨bs, 0, none⟩ (.int .i64 ((e : Int) + 1)) := by
  have g1 : (2 : Int) ≤ (e : Int) - (s : Int) := by omega
  have g2 : ¬ (t : Int) - (f : Int) < (e : Int) - (s : Int) := by omega
  have g3 : (0 : Int) ≤ (t : Int) - (f : Int) := by omega
  have g4 : (e : Int) - (s : Int) ≤ 8 := by omega
  clear h2 h3
  go_enter Tryz.func78, Tryz.ntmps78
  go_wp2
  go_end0
  exact ⟨rfl, rfl⟩
/-- what a call of endRun leaves -/
def EndLeft (e s t f bs bt bf : Nat) (w : World) (r : Ending) (w' : World) : Prop :=
  r = .returned (.tuple #[]) ∧ w'.cell? ⟨bs, 0, none⟩ = some (.int .i64 ((e + 1 : Nat) : Int)) ∧ w'.cell? ⟨bt, 0, none⟩ = some (.int .i64 (lzT f t s e : Nat)) ∧ w'.cell? ⟨bf, 0, none⟩ = some (.int .i64 (lzF f t s e : Nat)) ∧ (∀ a, w'.frozen? a = w.frozen? a) ∧ (∀ a : Addr, a.block ≠ bs → a.block ≠ bt → a.block ≠ bf → w'.cell? a = w.cell? a) ∧ w'.heap.size = w.heap.size ∧ ∀ n (u : World), n ≤ bs → n ≤ bt → n ≤ bf → Below n u w → Below n u w'
theorem end_any (e s t f : Nat) (bs bt bf : Nat) (w : World) (hs : w.cell? ⟨bs, 0, none⟩ = some (.int .i64 s)) (ht : w.cell? ⟨bt, 0, none⟩ = some (.int .i64 t)) (hf : w.cell? ⟨bf, 0, none⟩ = some (.int .i64 f)) (fs : w.frozen? ⟨bs, 0, none⟩ = false) (ft : w.frozen? ⟨bt, 0, none⟩ = false) (ff : w.frozen? ⟨bf, 0, none⟩ = false) (n1 : ¬ bs = bt) (n2 : ¬ bs = bf) (n3 : ¬ bt = bf)
    (he : e ≤ 8) (hse : s ≤ e) (hft : f ≤ t) (htt : t ≤ 8) :
    Calls Tryz.prog 78 #[.int .i64 e, .pointer (some ⟨bs, 0, none⟩), .pointer (some ⟨bt, 0, none⟩), .pointer (some ⟨bf, 0, none⟩)] w (EndLeft e s t f bs bt bf w) := by
  have ne : ∀ {a b : Nat}, ¬ a = b → (⟨a, 0, none⟩ : Addr) ≠ ⟨b, 0, none⟩ := fun h h2 => h (by injection h2)
  have ne2 : ∀ {a : Nat} {x : Addr}, x.block ≠ a → (⟨a, 0, none⟩ : Addr) ≠ x := fun h h2 => h (by rw [← h2])
  have ec : ((e : Int) + 1) = ((e + 1 : Nat) : Int) := by omega
  by_cases h2 : 2 ≤ e - s
  · by_cases h3 : t - f < e - s
    · refine (end_hit e s t f bs bt bf w hs ht hf fs ft ff n1 n2 n3 (Ne.symm n1) (Ne.symm n2) (Ne.symm n3) he hse hft htt h2 h3).mono ?_
      rintro r w' ⟨rfl, rfl⟩
      have e1 : lzF f t s e = s := by unfold lzF; rw [if_pos ⟨h2, h3⟩]
      have e2 : lzT f t s e = e := by unfold lzT; rw [if_pos ⟨h2, h3⟩]
      refine ⟨rfl, ?_, ?_, ?_, fun a => by simp, fun a a1 a2 a3 => ?_, by simp [World.setCell], fun n u b1 b2 b3 hb => ((hb.setCell b3 _).setCell b2 _).setCell b1 _⟩
      · rw [ec]; exact cell_same (cell_far (cell_far hs (ne (Ne.symm n2))) (ne (Ne.symm n1)))
      · rw [e2]; exact cell_far (cell_same (cell_far ht (ne (Ne.symm n3)))) (ne n1)
      · rw [e1]; exact cell_far (cell_far (cell_same hf) (ne n3)) (ne n2)
      · rw [World.cell?_setCell_other (h := ne2 a1), World.cell?_setCell_other (h := ne2 a2), World.cell?_setCell_other (h := ne2 a3)]
    · refine (end_miss2 e s t f bs bt bf w hs ht hf fs ft ff n1 n2 n3 (Ne.symm n1) (Ne.symm n2) (Ne.symm n3) he hse hft htt h2 h3).mono ?_
      rintro r w' ⟨rfl, rfl⟩
      have e1 : lzF f t s e = f := by unfold lzF; rw [if_neg (fun h => h3 h.2)]
      have e2 : lzT f t s e = t := by unfold lzT; rw [if_neg (fun h => h3 h.2)]
      refine ⟨rfl, by rw [ec]; exact cell_same hs, by rw [e2]; exact cell_far ht (ne n1), by rw [e1]; exact cell_far hf (ne n2), fun a => by simp, fun a a1 a2 a3 => ?_, by simp [World.setCell], fun n u b1 b2 b3 hb => hb.setCell b1 _⟩
      rw [World.cell?_setCell_other (h := ne2 a1)]
  · refine (end_miss1 e s t f bs bt bf w hs ht hf fs ft ff n1 n2 n3 (Ne.symm n1) (Ne.symm n2) (Ne.symm n3) he hse hft htt h2).mono ?_
    rintro r w' ⟨rfl, rfl⟩
    have e1 : lzF f t s e = f := by unfold lzF; rw [if_neg (fun h => h2 h.1)]
    have e2 : lzT f t s e = t := by unfold lzT; rw [if_neg (fun h => h2 h.1)]
    refine ⟨rfl, by rw [ec]; exact cell_same hs, by rw [e2]; exact cell_far ht (ne n1), by rw [e1]; exact cell_far hf (ne n2), fun a => by simp, fun a a1 a2 a3 => ?_, by simp [World.setCell], fun n u b1 b2 b3 hb => hb.setCell b1 _⟩
    rw [World.cell?_setCell_other (h := ne2 a1)]
/-- the best run, and where the present one begins, behind k groups -/
def lzS (z : Nat → Bool) : Nat → Nat × Nat × Nat
  | 0 => (0, 0, 0)
  | k + 1 => if z k = true then lzS z k else (lzF (lzS z k).1 (lzS z k).2.1 (lzS z k).2.2 k, lzT (lzS z k).1 (lzS z k).2.1 (lzS z k).2.2 k, k + 1)
theorem lzFT (f t s e : Nat) (h1 : f ≤ t) (h2 : t ≤ e) (h3 : s ≤ e) : lzF f t s e ≤ lzT f t s e ∧ lzT f t s e ≤ e := by
  unfold lzF lzT
  split <;> omega
theorem lz_inv (z : Nat → Bool) : ∀ k, (lzS z k).1 ≤ (lzS z k).2.1 ∧ (lzS z k).2.1 ≤ k ∧ (lzS z k).2.2 ≤ k
  | 0 => by simp [lzS]
  | k + 1 => by
    have ih := lz_inv z k
    unfold lzS
    split
    · omega
    · have := lzFT _ _ _ _ ih.1 ih.2.1 ih.2.2
      simp only
      omega
def lzFrom (z : Nat → Bool) : Nat := lzF (lzS z 8).1 (lzS z 8).2.1 (lzS z 8).2.2 8
def lzTo (z : Nat → Bool) : Nat := lzT (lzS z 8).1 (lzS z 8).2.1 (lzS z 8).2.2 8
theorem lz_fin (z : Nat → Bool) : lzFrom z ≤ lzTo z ∧ lzTo z ≤ 8 := by
  have ih := lz_inv z 8
  exact lzFT _ _ _ _ ih.1 ih.2.1 ih.2.2
def LzRel (z : Nat → Bool) (g : Nat → Nat) (w : World) (k : Nat) (wr : World) : Prop :=
  Below w.heap.size w wr ∧ w.heap.size + 3 < wr.heap.size ∧ (∀ j, j < 8 → wr.cell? ⟨w.heap.size, j, none⟩ = some (.int .u16 (g j : Nat))) ∧
    wr.cell? ⟨w.heap.size + 1 + 1 + 1, 0, none⟩ = some (.int .i64 ((lzS z k).2.2 : Nat)) ∧ wr.cell? ⟨w.heap.size + 1 + 1, 0, none⟩ = some (.int .i64 ((lzS z k).2.1 : Nat)) ∧ wr.cell? ⟨w.heap.size + 1, 0, none⟩ = some (.int .i64 ((lzS z k).1 : Nat)) ∧
    wr.frozen? ⟨w.heap.size + 1 + 1 + 1, 0, none⟩ = false ∧ wr.frozen? ⟨w.heap.size + 1 + 1, 0, none⟩ = false ∧ wr.frozen? ⟨w.heap.size + 1, 0, none⟩ = false
theorem lz_step {z : Nat → Bool} {g : Nat → Nat} {w wr w' : World} {k : Nat} {r : Ending} (hz : z k = false) (h : LzRel z g w k wr) (he : EndLeft k (lzS z k).2.2 (lzS z k).2.1 (lzS z k).1 (w.heap.size + 1 + 1 + 1) (w.heap.size + 1 + 1) (w.heap.size + 1) wr r w') : LzRel z g w (k + 1) w' := by
  obtain ⟨h1, h2, h3, h4, h5, h6, h7, h8, h9⟩ := h
  obtain ⟨_, e1, e2, e3, e4, e5, e6, e7⟩ := he
  have ez : lzS z (k + 1) = (lzF (lzS z k).1 (lzS z k).2.1 (lzS z k).2.2 k, lzT (lzS z k).1 (lzS z k).2.1 (lzS z k).2.2 k, k + 1) := by
    conv => lhs; unfold lzS
    rw [if_neg (by simp [hz])]
  refine ⟨e7 _ _ (by omega) (by omega) (by omega) h1, by omega, fun j hj => ?_, ?_, ?_, ?_, by rw [e4]; exact h7, by rw [e4]; exact h8, by rw [e4]; exact h9⟩
  · rw [e5 _ (by show w.heap.size ≠ _; omega) (by show w.heap.size ≠ _; omega) (by show w.heap.size ≠ _; omega)]
    exact h3 j hj
  · rw [ez]; exact e1
  · rw [ez]; exact e2
  · rw [ez]; exact e3
theorem lz_skip {z : Nat → Bool} {g : Nat → Nat} {w wr : World} {k : Nat} (hz : z k = true) (h : LzRel z g w k wr) : LzRel z g w (k + 1) wr := by
  have ez : lzS z (k + 1) = lzS z k := by
    conv => lhs; unfold lzS
    rw [if_pos hz]
  unfold LzRel at h ⊢
  rw [ez]
  exact h
set_option maxRecDepth 100000 in
set_option maxHeartbeats 2000000 in
theorem lz_any (g0 g1 g2 g3 g4 g5 g6 g7 : Nat) (w : World) :
    Calls Tryz.prog 52 #[.agg #[.int .u16 g0, .int .u16 g1, .int .u16 g2, .int .u16 g3, .int .u16 g4, .int .u16 g5, .int .u16 g6, .int .u16 g7]] w fun e w' => e = .returned (.tuple #[.int .i64 (lzFrom fun j => [g0, g1, g2, g3, g4, g5, g6, g7].getD j 0 == 0 : Nat), .int .i64 (lzTo fun j => [g0, g1, g2, g3, g4, g5, g6, g7].getD j 0 == 0 : Nat)]) ∧ Below w.heap.size w w' := by
  have hmf : ∀ (fn : Fn) (first cap : Array Value) (w : World), (Instr.makeFunc fn first cap).run Tryz.prog w = .ok (.func fn first cap) w := fun _ _ _ _ => rfl
  obtain ⟨g, hg⟩ : ∃ g : Nat → Nat, (fun j => [g0, g1, g2, g3, g4, g5, g6, g7].getD j 0) = g := ⟨_, rfl⟩
  obtain ⟨z, hz⟩ : ∃ z : Nat → Bool, (fun j => [g0, g1, g2, g3, g4, g5, g6, g7].getD j 0 == 0) = z := ⟨_, rfl⟩
  have hzg : ∀ j, z j = (g j == 0) := fun j => by rw [← hz, ← hg]
  rw [hz]
  have HG := Lib.hid hg
  have HZG := Lib.hid hzg
  clear hg hz hzg
  go_enter Tryz.func52, Tryz.ntmps52
  go_wp2_with fail
  go_loopw [8] (fun i wr => ∃ k : Nat, k ≤ 8 ∧ i = .int .i64 k ∧ LzRel z g w k wr) (fun i _ => 8 - (intOf i).toNat)
  case atStart =>
    refine ⟨0, by omega, rfl, (((Below.refl _ _).alloc (Nat.le_refl _) _).alloc (by simp) _).alloc (by simp; omega) _ |>.alloc (by simp; omega) _, by simp, fun j hj => ?_, ?_, ?_, ?_, by go_simp, by go_simp, by go_simp⟩
    · rw [← HG.out]
      have hj0 : j = 0 ∨ j = 1 ∨ j = 2 ∨ j = 3 ∨ j = 4 ∨ j = 5 ∨ j = 6 ∨ j = 7 := by omega
      rcases hj0 with rfl | rfl | rfl | rfl | rfl | rfl | rfl | rfl <;> go_simp
    · go_simp; rfl
    · go_simp; rfl
    · go_simp; rfl
  case round =>
    obtain ⟨k, hk, rfl, hrl⟩ := hrel
    have HR := Lib.hid hrl
    by_cases hlt : k < 8
    · have hck := hrl.2.2.1 k hlt
      clear hrl
      cases hzk : z k
      · have hgk : ((g k : Int) != 0) = true := by
          have := HZG.out k; rw [hzk] at this
          have h0 : g k ≠ 0 := by simpa using this.symm
          rw [bne_iff_ne]; omega
        have HZ := Lib.hid hzk
        clear hzk
        have hcall := end_any k (lzS z k).2.2 (lzS z k).2.1 (lzS z k).1 (w.heap.size + 1 + 1 + 1) (w.heap.size + 1 + 1) (w.heap.size + 1) wr HR.out.2.2.2.1 HR.out.2.2.2.2.1 HR.out.2.2.2.2.2.1 HR.out.2.2.2.2.2.2.1 HR.out.2.2.2.2.2.2.2.1 HR.out.2.2.2.2.2.2.2.2 (by omega) (by omega) (by omega) (by omega) (lz_inv z k).2.2 (lz_inv z k).1 (by have := (lz_inv z k).2.1; omega)
        have HCALL := Lib.hid hcall
        clear hcall
        go_wp2_with fail
        refine HCALL.out.mono ?_
        rintro e w1 hel
        have HS := Lib.hid (lz_step HZ.out HR.out hel)
        obtain ⟨rfl, _⟩ := hel
        go_wp2_with fail
        go_roundw
        case rel => exact ⟨k + 1, by omega, by go_num, HS.out⟩
        case measure => simp [intOf]; omega
      · have hgk : ((g k : Int) != 0) = false := by
          have := HZG.out k; rw [hzk] at this
          have h0 : g k = 0 := by simpa using this.symm
          rw [h0]; rfl
        have HS := Lib.hid (lz_skip hzk HR.out)
        clear hzk
        go_wp2_with fail
        go_roundw
        case rel => exact ⟨k + 1, by omega, by go_num, HS.out⟩
        case measure => simp [intOf]; omega
    · have ek : k = 8 := by omega
      subst ek
      have hcall := end_any 8 (lzS z 8).2.2 (lzS z 8).2.1 (lzS z 8).1 (w.heap.size + 1 + 1 + 1) (w.heap.size + 1 + 1) (w.heap.size + 1) wr HR.out.2.2.2.1 HR.out.2.2.2.2.1 HR.out.2.2.2.2.2.1 HR.out.2.2.2.2.2.2.1 HR.out.2.2.2.2.2.2.2.1 HR.out.2.2.2.2.2.2.2.2 (by omega) (by omega) (by omega) (by omega) (lz_inv z 8).2.2 (lz_inv z 8).1 (lz_inv z 8).2.1
      have HCALL := Lib.hid hcall
      clear hcall hrl
      go_wp2_with fail
      refine HCALL.out.mono ?_
      rintro e w1 ⟨rfl, e1, e2, e3, e4, e5, e6, e7⟩
      have c2 : w1.cell? ⟨w.heap.size + 1, 0, none⟩ = some (.int .i64 (lzFrom z : Nat)) := e3
      have c3 : w1.cell? ⟨w.heap.size + 1 + 1, 0, none⟩ = some (.int .i64 (lzTo z : Nat)) := e2
      have f2 : w1.frozen? ⟨w.heap.size + 1, 0, none⟩ = false := by rw [e4]; exact HR.out.2.2.2.2.2.2.2.2
      have f3 : w1.frozen? ⟨w.heap.size + 1 + 1, 0, none⟩ = false := by rw [e4]; exact HR.out.2.2.2.2.2.2.2.1
      have hB := Lib.hid (e7 w.heap.size w (by omega) (by omega) (by omega) HR.out.1)
      clear e1 e2 e3 e4 e5 e6 e7
      go_wp2_with fail
      go_region
      go_wp2
      refine bodyPost_ret (v := .tuple #[.int .i64 (lzFrom z : Nat), .int .i64 (lzTo z : Nat)]) (by simp [results, Tryz.results52, go_sem, c2, c3]) rfl ⟨rfl, ((hB.out.setCell (by simp) _).setCell (by simp; omega) _).drew⟩
/-- the string of eight groups -/
def sixS (zs : List Nat) : List UInt8 :=
  if lzFrom (fun j => zs.getD j 0 == 0) = lzTo (fun j => zs.getD j 0 == 0) then colS zs else colS (zs.take (lzFrom fun j => zs.getD j 0 == 0)) ++ [58, 58] ++ colS (zs.drop (lzTo fun j => zs.getD j 0 == 0))
end Go.Proofs.YtlikgfmcialepaaGreatDoor
