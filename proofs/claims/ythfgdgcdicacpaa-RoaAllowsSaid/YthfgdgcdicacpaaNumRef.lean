/-
  THE WALKS over the reference of layer 1: width, addresses, power, the list of bits.
-/
import Derived.Test.YthfgdgcdicacpaaNumWalkD
import Derived.Test.YthfgdgcdicacpaaNumCmp
namespace Go.Proofs.Ythfgdgcdicacpaa
open Go.RowKit Adr

set_option maxHeartbeats 400000 in
theorem rwidth_any (f : Int) (w : World) :
    Calls Try.prog 51 #[.int .u8 f] w fun e w' => e = .returned (.int .i64 (wid f)) ∧ w = w' := by
  go_enter Try.func51, Try.ntmps51
  go_wp2
  · have h : (f == 4) = true := by assumption
    go_ret
    exact ⟨by simp at h; subst h; rfl, rfl⟩
  · have h : (f == 4) = false := by assumption
    have h' : (f == 6) = true := by assumption
    go_ret
    exact ⟨by simp at h'; subst h'; rfl, rfl⟩
  · have h : (f == 4) = false := by assumption
    have h' : (f == 6) = false := by assumption
    go_ret
    exact ⟨by simp at h h'; simp [wid, h, h'], rfl⟩

theorem leq32 (l : Int) (h0 : 0 ≤ l) : decide (l ≤ 4294967295) = (l / 4294967296 == 0) := by
  rw [Bool.eq_iff_iff]
  simp
  omega
set_option maxHeartbeats 400000 in
theorem rca_any (f h l : Int) (w : World) (hl : 0 ≤ l) :
    Calls Try.prog 65 #[.int .u8 f, .agg #[.int .u64 h, .int .u64 l]] w fun e w' => e = .returned (.bool (ca f h l)) ∧ Below w.heap.size w w' := by
  have hq := Lib.hid (leq32 l hl)
  by_cases h4 : f = 4
  · subst h4
    by_cases h0 : h = 0
    · subst h0
      go_enter Try.func65, Try.ntmps65
      go_wp2
      go_ret
      exact ⟨by simp [ca, hq.out], (Below.refl _ _).alloc (Nat.le_refl _) _⟩
    · go_enter Try.func65, Try.ntmps65
      go_wp2
      go_ret
      exact ⟨by simp [ca, h0], (Below.refl _ _).alloc (Nat.le_refl _) _⟩
  · have h5 : (f == 4) = false := by simp [h4]
    clear h4
    go_enter Try.func65, Try.ntmps65
    go_wp2
    go_ret
    simp at h5
    exact ⟨by simp [ca, h5], (Below.refl _ _).alloc (Nat.le_refl _) _⟩

set_option maxHeartbeats 400000 in
theorem rcmp_any (h l h' l' : Int) (w : World) :
    Calls Try.prog 78 #[.agg #[.int .u64 h, .int .u64 l], .agg #[.int .u64 h', .int .u64 l']] w fun e w' => e = .returned (.int .i64 (cmp h l h' l')) ∧ Below w.heap.size w w' := by
  by_cases c1 : h = h'
  · subst c1
    by_cases c2 : l = l'
    · subst c2
      go_enter Try.func78, Try.ntmps78
      go_wp2
      go_ret
      exact ⟨by simp [cmp], ((Below.refl _ _).alloc (Nat.le_refl _) _).alloc (by simp) _⟩
    · by_cases c3 : l < l'
      all_goals
        go_enter Try.func78, Try.ntmps78
        go_wp2
        go_ret
        exact ⟨by simp [cmp, c2, c3], ((Below.refl _ _).alloc (Nat.le_refl _) _).alloc (by simp) _⟩
  · by_cases c3 : h < h'
    all_goals
      go_enter Try.func78, Try.ntmps78
      go_wp2
      go_ret
      exact ⟨by simp [cmp, c1, c3], ((Below.refl _ _).alloc (Nat.le_refl _) _).alloc (by simp) _⟩

theorem pow_lt64 (k : Nat) (h : k ≤ 63) : U64 ((2 : Int) ^ k) := by
  have hp : (0 : Int) < 2 ^ k := Int.pow_pos (by omega)
  have h1 : (2 : Nat) ^ k ≤ 2 ^ 63 := Nat.pow_le_pow_right (by omega) h
  have e : (2 : Nat) ^ 63 = 9223372036854775808 := by decide
  have c : ((2 : Int) ^ k) = ((2 ^ k : Nat) : Int) := by simp
  exact ⟨by omega, by omega⟩
theorem pow_step (k : Nat) (h : k < 63) : IntKind.u64.wrap ((2 : Int) ^ k + 2 ^ k) = 2 ^ (k + 1) := by
  have e : (2 : Int) ^ k + 2 ^ k = 2 ^ (k + 1) := by rw [Int.pow_succ]; omega
  rw [e]
  exact wrap_u64 (pow_lt64 _ h)
set_option maxHeartbeats 400000 in
theorem power_any (n : Int) (w : World) (h0 : 0 ≤ n) (h1 : n ≤ 63) :
    Calls Try.prog 91 #[.int .i64 n] w fun e w' => e = .returned (.int .u64 (2 ^ n.toNat)) ∧ w = w' := by
  go_enter Try.func91, Try.ntmps91
  go_wp2
  go_loop [3, 4] (fun x i => ∃ k : Nat, (k : Int) ≤ n ∧ i = .int .i64 k ∧ x = .int .u64 (2 ^ k)) (fun _ i => n.toNat - (intOf i).toNat)
  case atStart => exact ⟨0, by omega, rfl, rfl⟩
  case round =>
    obtain ⟨k, hk, rfl, rfl⟩ := hrel
    by_cases hlt : (k : Int) < n
    · have HS := Lib.hid (pow_step k (by omega))
      go_wp2
      go_round
      case rel => exact ⟨k + 1, by omega, by go_num, by rw [HS.out]⟩
      case measure => simp [intOf]; omega
    · go_wp2
      go_ret
      have e : n.toNat = k := by omega
      exact ⟨by rw [e]; rfl, rfl⟩

/-! Bits -/
theorem Try.info_int : (Try.prog.info? 3).map (fun i => (i.zero, i.size, i.bytes)) = some (some (.int .i64 0), 1, 8) := by kernel_rfl
/-- the bits, the most significant one first -/
def bitList (f h l : Int) (k : Nat) : List Int := (List.range k).map fun (j : Nat) => bt h l (wid f - 1 - (j : Int))
theorem bitList_len (f h l : Int) (k : Nat) : (bitList f h l k).length = k := by simp [bitList]
theorem bitList_succ (f h l : Int) (k : Nat) : bitList f h l (k + 1) = bitList f h l k ++ [bt h l (wid f - 1 - k)] := by simp [bitList, List.range_succ]
theorem power_call (n : Int) (w : World) (h0 : 0 ≤ n) (h1 : n ≤ 63) (p : Int) (hp : (2 : Int) ^ n.toNat = p) :
    Calls Try.prog 91 #[.int .i64 n] w fun e w' => e = .returned (.int .u64 p) ∧ w = w' := by
  subst hp; exact power_any n w h0 h1
theorem quo_bit (x p : Int) (ux : U64 x) (p1 : 1 ≤ p) : wrap64 ((IntKind.u64.wrap (x.tdiv p)).tmod 2) = x / p % 2 := by
  have e1 : x.tdiv p = x / p := Int.tdiv_eq_ediv_of_nonneg ux.1
  have h1 : 0 ≤ x / p := Int.ediv_nonneg ux.1 (by omega)
  have h2 : x / p ≤ x := Int.ediv_le_self p ux.1
  have e2 : IntKind.u64.wrap (x / p) = x / p := wrap_u64 ⟨h1, by have := ux.2; omega⟩
  rw [e1, e2, Int.tmod_eq_emod_of_nonneg h1]
  have h3 := Int.emod_nonneg (x / p) (show (2 : Int) ≠ 0 by omega)
  have h4 := Int.emod_lt_of_pos (x / p) (show (0 : Int) < 2 by omega)
  exact IntWalk.wrap64_in _ ⟨by omega, by omega⟩
theorem mod2_i64 (x : Int) : wrap64 (x % 2) = x % 2 := by
  have h1 := Int.emod_nonneg x (show (2 : Int) ≠ 0 by omega)
  have h2 := Int.emod_lt_of_pos x (show (0 : Int) < 2 by omega)
  exact IntWalk.wrap64_in _ ⟨by omega, by omega⟩
/-- an append to a row of the call's own: what becomes of the rest -/
theorem own_step {B : Nat} {w wr w1 : World} {o : Obj} {e size n : Nat} {v : Value} {xs : List Value} (hown : wr.ownsRow (B + 1) e size v n xs) (hg : (wr.alloc o).grownBy w1 v.ownBlock) (hbel : Below B w wr) (hsz : B + 1 ≤ wr.heap.size) :
    Below B w w1 ∧ (∀ b, b ≤ B → ∀ j, w1.cell? ⟨b, j, none⟩ = wr.cell? ⟨b, j, none⟩) ∧ B + 1 ≤ w1.heap.size := by
  have hlt := hown.lt
  have h1 : Below B w (wr.alloc o) := hbel.alloc (by omega) o
  refine ⟨h1.grown hg (by simp; omega) (fun k hk => by have := (hlt k hk).1; omega), fun b hb j => ?_, ?_⟩
  · have e1 : w1.heap[b]? = (wr.alloc o).heap[b]? := hg.block b (by simp; omega) (fun hk => by have := (hlt b hk.symm).1; omega)
    have e2 : (wr.alloc o).heap[b]? = wr.heap[b]? := Below.heap_alloc wr o b (by omega)
    exact World.cell?_of_block (a := ⟨b, j, none⟩) (e1.trans e2)
  · have := hg.size
    simp at this
    omega
set_option maxRecDepth 100000 in
set_option maxHeartbeats 1000000 in
theorem bits_any (f h l : Int) (w : World) (uh : U64 h) (ul : U64 l) :
    Calls Try.prog 66 #[.int .u8 f, .agg #[.int .u64 h, .int .u64 l]] w fun e w' => ∃ v, e = .returned v ∧ w'.ownsRow (w.heap.size + 1) 3 1 v (wid f).toNat ((bitList f h l (wid f).toNat).map (Value.int .i64)) ∧ Below w.heap.size w w' := by
  have w0 := wid_lo f
  have w1 := wid_hi f
  have u0 := uh.1
  have v0 := ul.1
  have Uh := Lib.hid uh
  have Ul := Lib.hid ul
  clear uh ul
  obtain ⟨W, hW⟩ : ∃ W : Nat, wid f = (W : Int) := ⟨(wid f).toNat, by omega⟩
  have eW : (wid f).toNat = W := by omega
  rw [eW]
  have hw : W ≤ 128 := by omega
  have HW := Lib.hid hW
  clear hW eW w0 w1
  obtain ⟨i0, hi, hz0, hz1, hz2⟩ := info_parts Try.info_int
  go_enter Try.func66, Try.ntmps66
  go_wp2_with (go_at_call 51; refine (rwidth_any _ _).mono ?_; rintro e w2 ⟨rfl, rfl⟩; rw [HW.out])
  go_loopw [5, 7] (fun v i wr => ∃ k : Nat, k ≤ W ∧ i = .int .i64 k ∧ wr.ownsRow (w.heap.size + 1) 3 1 v k ((bitList f h l k).map (Value.int .i64)) ∧ Below w.heap.size w wr ∧ wr.cell? ⟨w.heap.size, 0, none⟩ = some (.int .u64 h) ∧ wr.cell? ⟨w.heap.size, 1, none⟩ = some (.int .u64 l) ∧ w.heap.size + 1 ≤ wr.heap.size) (fun _ i _ => W - (intOf i).toNat)
  case atStart => exact ⟨0, Nat.zero_le _, rfl, by simpa [bitList] using World.ownsRow_nil _ _ _ _, (Below.refl _ _).alloc (Nat.le_refl _) _, by simp, by simp, by simp⟩
  case round =>
    obtain ⟨k, hk, rfl, hown, hbel, hc0, hc1, hsz⟩ := hrel
    by_cases hlt : k < W
    · by_cases h64 : 64 ≤ (W : Int) - 1 - k
      · obtain ⟨p, hp⟩ : ∃ p : Int, (2 : Int) ^ ((W : Int) - 1 - k - 64).toNat = p := ⟨_, rfl⟩
        have p1 : 1 ≤ p := by rw [← hp]; have := Int.pow_pos (n := 2) (m := ((W : Int) - 1 - k - 64).toNat) (by omega); omega
        have HX := Lib.hid (show wrap64 ((IntKind.u64.wrap (h.tdiv p)).tmod 2) = bt h l (wid f - 1 - k) by rw [quo_bit _ _ Uh.out p1, ← hp, HW.out]; simp [bt, h64])
        have HP := Lib.hid hp
        clear hp
        go_wp2_with (first | (go_at_call 91; refine (power_call _ _ (by omega) (by omega) p HP.out).mono ?_; rintro e w3 ⟨rfl, rfl⟩) | (at_builtin; refine wpList_append_own _ rfl _ _ 114 rfl (w.heap.size + 1) 3 i0 (.int .i64 0) 1 8 Try.underlying114 hi hz0 hz1 hz2 rfl (by decide) _ _ _ rfl (hown.alloc _) ⟨wr.heap.size, 0, none⟩ 1 1 [.int .i64 (wrap64 ((IntKind.u64.wrap (h.tdiv p)).tmod 2))] rfl rfl ?c1 ?c2 ?c3 ?c4 ?c5 ?_; rotate_left 5; intro v' w1 hown1 hgrow1 _))
        case c1 => exact cell_one_new _ _ _
        case c2 => simp [Value.oneCell']
        case c3 => unfold maxLen; omega
        case c4 => omega
        case c5 => simp; omega
        obtain ⟨g1, g2, g3⟩ := own_step hown hgrow1 hbel hsz
        refine ⟨⟨k + 1, by omega, by go_num, ?_, g1, by rw [g2 _ (Nat.le_refl _)]; exact hc0, by rw [g2 _ (Nat.le_refl _)]; exact hc1, g3⟩, by simp [intOf]; omega⟩
        rw [HX.out] at hown1
        rw [bitList_succ, List.map_append]
        exact hown1
      · obtain ⟨p, hp⟩ : ∃ p : Int, (2 : Int) ^ ((W : Int) - 1 - k).toNat = p := ⟨_, rfl⟩
        have p1 : 1 ≤ p := by rw [← hp]; have := Int.pow_pos (n := 2) (m := ((W : Int) - 1 - k).toNat) (by omega); omega
        have HX := Lib.hid (show wrap64 ((IntKind.u64.wrap (l.tdiv p)).tmod 2) = bt h l (wid f - 1 - k) by rw [quo_bit _ _ Ul.out p1, ← hp, HW.out]; simp [bt, h64])
        have HP := Lib.hid hp
        clear hp
        go_wp2_with (first | (go_at_call 91; refine (power_call _ _ (by omega) (by omega) p HP.out).mono ?_; rintro e w3 ⟨rfl, rfl⟩) | (at_builtin; refine wpList_append_own _ rfl _ _ 114 rfl (w.heap.size + 1) 3 i0 (.int .i64 0) 1 8 Try.underlying114 hi hz0 hz1 hz2 rfl (by decide) _ _ _ rfl (hown.alloc _) ⟨wr.heap.size, 0, none⟩ 1 1 [.int .i64 (wrap64 ((IntKind.u64.wrap (l.tdiv p)).tmod 2))] rfl rfl ?c1 ?c2 ?c3 ?c4 ?c5 ?_; rotate_left 5; intro v' w1 hown1 hgrow1 _))
        case c1 => exact cell_one_new _ _ _
        case c2 => simp [Value.oneCell']
        case c3 => unfold maxLen; omega
        case c4 => omega
        case c5 => simp; omega
        obtain ⟨g1, g2, g3⟩ := own_step hown hgrow1 hbel hsz
        refine ⟨⟨k + 1, by omega, by go_num, ?_, g1, by rw [g2 _ (Nat.le_refl _)]; exact hc0, by rw [g2 _ (Nat.le_refl _)]; exact hc1, g3⟩, by simp [intOf]; omega⟩
        rw [HX.out] at hown1
        rw [bitList_succ, List.map_append]
        exact hown1
    · go_wp2
      go_ret
      have e : k = W := by omega
      subst e
      exact ⟨_, rfl, hown, hbel⟩
end Go.Proofs.Ythfgdgcdicacpaa
