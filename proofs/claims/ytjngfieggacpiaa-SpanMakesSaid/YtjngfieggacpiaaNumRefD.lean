/-
  THE WALKS over the reference of layer 1: Addr, Cut.
-/
import Derived.Test.YtjngfieggacpiaaNumRefC
import Derived.StillTailTactics
import Derived.BigRegion
namespace Go.Proofs.Ytjngfieggacpiaa
open Go.RowKit Adr
def hiP (N k : Nat) : Int := ((N / 2 ^ k / 2 ^ 64 : Nat) : Int)
def loP (N k : Nat) : Int := ((N / 2 ^ k % 2 ^ 64 : Nat) : Int)
def biP (N k : Nat) : Int := ((N / 2 ^ k % 2 : Nat) : Int)
theorem hiP_nn (N k : Nat) : 0 ≤ hiP N k := Int.natCast_nonneg _
theorem loP_nn (N k : Nat) : 0 ≤ loP N k := Int.natCast_nonneg _
theorem biP_nn (N k : Nat) : 0 ≤ biP N k := Int.natCast_nonneg _
theorem cell_same {w : World} {a : Addr} {v u : Value} (h : w.cell? a = some u) : (w.setCell a v).cell? a = some v := World.cell?_setCell_same (h := h) ..
theorem cell_far {w : World} {a b : Addr} {v u : Value} (h : w.cell? b = some u) (hne : a ≠ b) : (w.setCell a v).cell? b = some u := by
  rw [World.cell?_setCell_other (h := hne)]; exact h
theorem set_same {w : World} {a : Addr} {v u : Value} (h : w.cell? a = some u) : (w.setCell a v).drew.cell? a = some v := by
  rw [World.cell?_drew]; exact World.cell?_setCell_same (h := h) ..
theorem set_far {w : World} {a b : Addr} {v u : Value} (h : w.cell? b = some u) (hne : a ≠ b) : (w.setCell a v).drew.cell? b = some u := by
  rw [World.cell?_drew, World.cell?_setCell_other (h := hne)]; exact h
theorem power_still (n : Int) (w : World) (h0 : 0 ≤ n) (h1 : n ≤ 63) (p : Int) (hp : (2 : Int) ^ n.toNat = p) :
    Calls Try.prog 38 #[.int .i64 n] w fun e w' => e = .returned (.int .u64 p) ∧ w' = w :=
  (power_call n w h0 h1 p hp).mono fun _ _ ⟨a, b⟩ => ⟨a, b.symm⟩
set_option maxHeartbeats 1000000 in
theorem raddr_any (g cap W N : Nat) (w : World) (hg : g < w.heap.size) (hW : W ≤ 128) (hN : N < 2 ^ 128) (hNW : N < 2 ^ W)
    (hc : ∀ j, j < W → w.cell? ⟨g, j, none⟩ = some (.int .i64 (biP N (W - 1 - j)))) :
    Calls Try.prog 25 #[.slice (some ⟨g, 0, none⟩) W cap] w fun e w' => e = .returned (.agg #[.int .u64 (hiP N 0), .int .u64 (loP N 0)]) ∧ Below w.heap.size w w' := by
  have HN := Lib.hid hN
  have HNW := Lib.hid hNW
  have HC := Lib.hid hc
  clear hN hNW hc
  go_enter Try.func25, Try.ntmps25
  go_wp2_with fail
  go_loopw [4] (fun i wr => ∃ k : Nat, k ≤ W ∧ i = .int .i64 k ∧ Below w.heap.size w wr ∧ w.heap.size + 1 < wr.heap.size ∧ wr.cell? ⟨w.heap.size + 1, 0, none⟩ = some (.int .u64 (hiP N (W - k))) ∧ wr.cell? ⟨w.heap.size + 1, 1, none⟩ = some (.int .u64 (loP N (W - k))) ∧ wr.frozen? ⟨w.heap.size + 1, 0, none⟩ = false ∧ wr.frozen? ⟨w.heap.size + 1, 1, none⟩ = false ∧ wr.frozen? ⟨w.heap.size, 0, none⟩ = false ∧ wr.frozen? ⟨w.heap.size, 1, none⟩ = false ∧ (∃ a, wr.cell? ⟨w.heap.size, 0, none⟩ = some a) ∧ (∃ a, wr.cell? ⟨w.heap.size, 1, none⟩ = some a)) (fun i _ => W - (intOf i).toNat)
  case atStart =>
    have e1 : hiP N W = 0 := by unfold hiP; rw [Nat.div_eq_of_lt HNW.out]; rfl
    have e2 : loP N W = 0 := by unfold loP; rw [Nat.div_eq_of_lt HNW.out]; rfl
    exact ⟨0, by omega, rfl, ((Below.refl _ _).alloc (Nat.le_refl _) _).alloc (by simp) _, by simp, by simp [e1], by simp [e2], by simp, by simp, by simp, by simp, ⟨_, by simp; rfl⟩, ⟨_, by simp; rfl⟩⟩
  case round =>
    obtain ⟨k, hk, rfl, hbel, hsz, hcH, hcL, hfH, hfL, hfA, hfB, hA, hB⟩ := hrel
    by_cases hlt : k < W
    · have hck : wr.cell? ⟨g, k, none⟩ = some (.int .i64 (biP N (W - 1 - k))) := (hbel.cell (p := ⟨g, k, none⟩) hg).trans (HC.out k hlt)
      have HB := Lib.hid hbel
      have HA1 := Lib.hid hA
      have HB1 := Lib.hid hB
      have hne : ¬ g = w.heap.size + 1 := by omega
      have hne' : ¬ w.heap.size + 1 = g := by omega
      have n1 := hiP_nn N (W - k)
      have n2 := loP_nn N (W - k)
      clear hbel hA hB
      obtain ⟨p, hp⟩ : ∃ p : Int, (2 : Int) ^ (63 : Int).toNat = p := ⟨_, rfl⟩
      have p1 : 1 ≤ p := by rw [← hp]; decide
      have hp0 : ¬ p = 0 := by omega
      have hp1 : (p == 0) = false := by simp; omega
      have HP := Lib.hid hp
      clear hp
      go_wp2_with fail
      go_still_tail 11, (by kernel_rfl)
      still_call (power_still 63 _ (by omega) (by omega) p HP.out)
      repeat still_step
      refine wpStill_nil ?_
      change wpList _ _ _ _ _ wr.drew
      go_wp2_with fail
      generalize hq : IntKind.u64.wrap (IntKind.u64.wrap (hiP N (W - k) + hiP N (W - k)) + IntKind.u64.wrap ((loP N (W - k)).tdiv p)) = q
      generalize hw2 : (wr.setCell { block := w.heap.size + 1, off := 0 } (Value.int IntKind.u64 q)).drew = w2
      have hB2 := Lib.hid (show Below w.heap.size w w2 by rw [← hw2]; exact (HB.out.setCell (by simp) _).drew)
      have c0 : w2.cell? ⟨w.heap.size + 1, 0, none⟩ = some (.int .u64 q) := by rw [← hw2]; exact set_same hcH
      have c1 : w2.cell? ⟨w.heap.size + 1, 1, none⟩ = some (.int .u64 (loP N (W - k))) := by rw [← hw2]; exact set_far hcL (by simp)
      have cA := Lib.hid (show ∃ a, w2.cell? ⟨w.heap.size, 0, none⟩ = some a by obtain ⟨a, ha⟩ := HA1.out; exact ⟨a, by rw [← hw2]; exact set_far ha (by simp)⟩)
      have cB := Lib.hid (show ∃ a, w2.cell? ⟨w.heap.size, 1, none⟩ = some a by obtain ⟨a, ha⟩ := HB1.out; exact ⟨a, by rw [← hw2]; exact set_far ha (by simp)⟩)
      have f0 : w2.frozen? ⟨w.heap.size + 1, 0, none⟩ = false := by rw [← hw2]; simpa using hfH
      have f1 : w2.frozen? ⟨w.heap.size + 1, 1, none⟩ = false := by rw [← hw2]; simpa using hfL
      have fA : w2.frozen? ⟨w.heap.size, 0, none⟩ = false := by rw [← hw2]; simpa using hfA
      have fB : w2.frozen? ⟨w.heap.size, 1, none⟩ = false := by rw [← hw2]; simpa using hfB
      have s2 : w.heap.size + 1 < w2.heap.size := by rw [← hw2]; simpa using hsz
      have ck : w2.cell? ⟨g, k, none⟩ = some (.int .i64 (biP N (W - 1 - k))) := by rw [← hw2]; exact set_far hck (by simp <;> omega)
      have HQ := Lib.hid hq
      clear hw2 hq hcH hcL hfH hfL hfA hfB hsz hck HA1 HB1 HB
      go_still_tail 12, (by kernel_rfl)
      change wpList _ _ _ _ _ (World.drew _)
      go_wp2_with fail
      have HZ := addr_step N W k HN.out hlt
      rw [show p = 9223372036854775808 by rw [← HP.out]; decide] at HQ
      have e1 : q = hiP N (W - (k + 1)) := by rw [← HQ.out]; exact HZ.1
      have e2 : IntKind.u64.wrap (IntKind.u64.wrap (loP N (W - k) + loP N (W - k)) + IntKind.u64.wrap (biP N (W - 1 - k))) = loP N (W - (k + 1)) := HZ.2
      rw [e2]
      rw [e1] at c0
      refine ⟨⟨k + 1, by omega, by go_num, (hB2.out.setCell (by simp) _).drew, by simpa using s2, set_far c0 (by simp), set_same c1, by simpa using f0, by simpa using f1, by simpa using fA, by simpa using fB, ?_, ?_⟩, by simp [intOf] <;> omega⟩
      · obtain ⟨a, ha⟩ := cA.out
        exact ⟨a, set_far ha (by simp)⟩
      · obtain ⟨a, ha⟩ := cB.out
        exact ⟨a, set_far ha (by simp)⟩
    · have e : k = W := by omega
      subst e
      obtain ⟨a, ha⟩ := hA
      obtain ⟨b, hb⟩ := hB
      have HB := Lib.hid hbel
      clear hbel
      rw [Nat.sub_self] at hcH hcL
      go_wp2
      refine bodyPost_ret (v := .agg #[.int .u64 (hiP N 0), .int .u64 (loP N 0)]) (by simp [results, Try.results25, go_sem, ha, hb]) rfl ⟨rfl, (HB.out.setCell (by simp) _).setCell (by simp) _⟩
theorem cut_final {h l : Int} (uh : U64 h) (ul : U64 l) (f : Int) (c : ca f h l = true) (W n : Nat) (hW : wid f = (W : Int)) (hw : W ≤ 128) (hn : n ≤ W) :
    ∃ N : Nat, N < 2 ^ W ∧ N < 2 ^ 128 ∧ (∀ j, j < W → biP N (W - 1 - j) = if j < n then bt h l ((W : Int) - 1 - j) else 0) ∧ hiP N 0 = clrH h ((W : Int) - n) ∧ loP N 0 = clrL l ((W : Int) - n) := by
  have hb := fun j hj => cut_bits uh ul W n j hn hj
  obtain ⟨H, rfl, hH⟩ := u64_nat uh
  obtain ⟨L, rfl, hL⟩ := u64_nat ul
  obtain ⟨H', L', e1, e2, hL', e3⟩ := clr_num H L (W - n) hL
  have eWn : ((W : Int) - n) = ((W - n : Nat) : Int) := by omega
  have lt1 := ca_lt hH hL c
  have eW : (wid f).toNat = W := by omega
  rw [eW] at lt1
  have lt2 : num H' L' < 2 ^ W := by rw [e3]; exact Nat.lt_of_le_of_lt (Nat.div_mul_le_self _ _) lt1
  refine ⟨num H' L', lt2, Nat.lt_of_lt_of_le lt2 (Nat.pow_le_pow_right (by omega) hw), fun j hj => ?_, ?_, ?_⟩
  · rw [← hb j hj, eWn, e1, e2, bt_at H' L' W j hL' hj]
    rfl
  · rw [eWn, e1]
    unfold hiP
    rw [Nat.pow_zero, Nat.div_one, num_div H' L' hL']
  · rw [eWn, e2]
    unfold loP
    rw [Nat.pow_zero, Nat.div_one, num_mod H' L' hL']
end Go.Proofs.Ytjngfieggacpiaa
