/-
  THE WALK over what is added to bytes.
-/
import Derived.Test.YtafolokkjpbieaaDoorDigD
namespace Go.Proofs.YtafolokkjpbieaaDoor
open Go.RowKit Sha
set_option linter.unusedVariables false
set_option linter.unusedSimpArgs false
theorem be8_at (n j : Nat) (hj : j < 8) : ((8 * (n : Int)) / 2 ^ (56 - 8 * j)) % 256 = (((be8 (8 * n)).getD j 0).toNat : Int) := by
  have h : ((be8 (8 * n)).getD j 0).toNat = 8 * n / 2 ^ (56 - 8 * j) % 256 := by
    obtain rfl | rfl | rfl | rfl | rfl | rfl | rfl | rfl : j = 0 ∨ j = 1 ∨ j = 2 ∨ j = 3 ∨ j = 4 ∨ j = 5 ∨ j = 6 ∨ j = 7 := by omega
    all_goals (unfold be8; simp [UInt8.toNat_ofNat'])
  rw [h, Int.natCast_emod, Int.natCast_ediv, Int.natCast_pow, Int.natCast_mul]
  rfl
theorem be8_len (n : Nat) : (be8 n).length = 8 := rfl
/-- a list of bytes as values -/
def bvals (l : List UInt8) : List Value := l.map fun x => .int .u8 (x.toNat : Int)
theorem bvals_len (l : List UInt8) : (bvals l).length = l.length := by simp [bvals]
theorem bvals_app (a b : List UInt8) : bvals (a ++ b) = bvals a ++ bvals b := by simp [bvals]
/-- the first bytes of an ending -/
def endK (n j : Nat) : List UInt8 := 128 :: (List.replicate ((119 - n % 64) % 64) 0 ++ (be8 (8 * n)).take j)
theorem endK_len (n j : Nat) (hj : j ≤ 8) : (endK n j).length = 1 + (119 - n % 64) % 64 + j := by
  unfold endK
  simp [be8_len]
  omega
theorem endK_step (n j : Nat) (hj : j < 8) : endK n (j + 1) = endK n j ++ [(be8 (8 * n)).getD j 0] := by
  unfold endK
  rw [List.take_succ_eq_append_getElem (by rw [be8_len]; exact hj)]
  have h : (be8 (8 * n))[j]?.getD 0 = (be8 (8 * n))[j]'(by rw [be8_len]; exact hj) := by rw [List.getElem?_eq_getElem]; rfl
  rw [List.getD_eq_getElem?_getD, h]
  simp
theorem endK_all (n : Nat) : endK n 8 = ending n := by
  unfold endK ending
  rw [List.take_of_length_le (by rw [be8_len]; omega)]
theorem own_step' {B : Nat} {w wr w1 : World} {o : Obj} {e size n : Nat} {v : Value} {xs : List Value} (hown : wr.ownsRow B e size v n xs) (hg : (wr.alloc o).grownBy w1 v.ownBlock) (hbel : Below B w wr) (hsz : B ≤ wr.heap.size) :
    Below B w w1 ∧ B ≤ w1.heap.size := by
  have hlt := hown.lt
  have h1 : Below B w (wr.alloc o) := hbel.alloc hsz o
  refine ⟨h1.grown hg (by simp; omega) (fun k hk => (hlt k hk).1), ?_⟩
  have := hg.size
  simp at this
  omega
theorem own_cells1 {w : World} {base : Nat} {e : TypeId} {v : Value} {n : Nat} {xs : List Value} (h : w.ownsRow base e 1 v n xs) (hn : 0 < n) :
    ∃ g cap, v = .slice (some ⟨g, 0, none⟩) n cap ∧ base ≤ g ∧ g < w.heap.size ∧ n ≤ cap ∧ cap ≤ maxLen ∧ ∀ (j : Nat) x, xs[j]? = some x → w.cell? ⟨g, j, none⟩ = some x := by
  obtain ⟨hl, h | ⟨g, cap, cur, rfl, hb, hg, hnc, hcm, hcs, ht⟩⟩ := h
  · omega
  · have hlt : g < w.heap.size := (Array.getElem?_eq_some_iff.1 hg).1
    refine ⟨g, cap, rfl, hb, hlt, hnc, hcm, fun j x hj => ?_⟩
    have hjn : j < n * 1 := by have := (List.getElem?_eq_some_iff.1 hj).1; omega
    have h1 : cur.toList[j]? = some x := by
      have h2 : (cur.toList.take (n * 1))[j]? = cur.toList[j]? := by rw [List.getElem?_take]; rw [if_pos hjn]
      rw [← h2, ht]
      exact hj
    simp only [World.cell?, hg]
    simpa using h1
theorem cells_one (W : World) (x : Value) (t : TypeId) : ∀ (j : Nat) u, [x][j]? = some u → (W.alloc (.cells #[x] t)).cell? ((⟨W.heap.size, 0, none⟩ : Addr).add j) = some u
  | 0, u, h => by
    simp at h
    subst h
    simp [Addr.add]
  | j + 1, u, h => by simp at h
theorem made73 : madeCells (Value.int .u8 0).cells (Int.toNat 73 * 1) = bcells (List.replicate 73 0) := by
  apply Array.ext'
  exact (toList_madeCells_one (.int .u8 0) 73).trans rfl
set_option maxRecDepth 100000 in
set_option maxHeartbeats 4000000 in
theorem ending_any (n : Nat) (hn : n ≤ 1000000) (w : World) :
    Calls Tryd.prog 70 #[.int .u64 (n : Int)] w fun e w' => ∃ v, e = .returned v ∧ w'.ownsRow w.heap.size 5 1 v (ending n).length (bvals (ending n)) ∧ Below w.heap.size w w' := by
  obtain ⟨F, hF⟩ : ∃ F, ending n = F := ⟨_, rfl⟩
  rw [hF]
  have HF := Lib.hid hF
  obtain ⟨L, hL⟩ : ∃ L, 1 + (119 - n % 64) % 64 = L := ⟨_, rfl⟩
  have hL1 : 1 ≤ L := by omega
  have hL2 : L ≤ 64 := by omega
  have hz : 1 + (119 - (n : Int)) % 64 = (L : Int) := by omega
  have hmk : ∀ w, (Instr.makeSlice 42 (.int .u64 (1 + (119 - (n : Int)) % 64)) (.int .i64 73)).run Tryd.prog w = .ok (.slice (some ⟨w.heap.size, 0, none⟩) L 73) (w.alloc (.cells (bcells (List.replicate 73 0)) 5)) := fun w => by
    rw [hz]
    obtain ⟨i0, hi, hz0, hz1, hz2⟩ := info_parts Tryd.info_byte
    have h := run_make (P := Tryd.prog) w 42 5 i0 _ Tryd.underlying42 hi hz0 .u64 .i64 (L : Int) 73 (by omega) (by omega) (by rw [hz2]; decide) (by decide)
    rw [Int.toNat_natCast, hz1, made73] at h
    exact h
  obtain ⟨Z, hZ⟩ : ∃ Z, bcells (List.replicate 73 0) = Z := ⟨_, rfl⟩
  rw [hZ] at hmk
  have HZ := Lib.hid hZ
  have HL := Lib.hid hL
  have HN := Lib.hid hn
  have hn2 : (n : Int) ≤ 1000000 := by omega
  have z0 : Z[0]? = some (.int .u8 0) := by rw [← hZ]; rfl
  clear hF hz hZ hL hn
  go_enter Tryd.func70, Tryd.ntmps70
  go_wp2_with fail
  obtain ⟨A, hA⟩ : ∃ A, w.heap.size = A := ⟨_, rfl⟩
  have hown0 : (w.alloc (.cells (Z.setIfInBounds 0 (.int .u8 128)) 5)).ownsRow A 5 1 (.slice (some ⟨A, 0, none⟩) L 73) L (bvals (endK n 0)) := by
    refine ⟨?_, Or.inr ⟨A, 73, Z.setIfInBounds 0 (.int .u8 128), rfl, Nat.le_refl _, by rw [← hA]; exact heap_alloc_new _ _, by omega, by decide, by rw [← HZ.out]; simp [bcells], ?_⟩⟩
    · rw [bvals_len, endK_len n 0 (by omega), ← HL.out]
      omega
    · rw [← HZ.out, show (Value.int .u8 128) = .int .u8 ((128 : UInt8).toNat : Int) from rfl, bcells_set, ← HL.out]
      unfold bcells bvals endK
      simp only [List.replicate_succ, List.set_cons_zero, List.map_cons, List.toList_toArray, Nat.mul_one]
      rw [Nat.add_comm 1, List.take_succ_cons]
      simp only [← List.replicate_succ, List.map_replicate, List.take_replicate, List.take_zero, List.append_nil]
      congr 2
      omega
  simp only [hA]
  generalize hV : World.alloc w _ = V
  have hbV : Below A w V := by rw [← hV, ← hA]; exact below_new _ _
  have hzV : A < V.heap.size := by rw [← hV, ← hA]; simp
  rw [hV] at hown0
  have HO := Lib.hid hown0
  have HB := Lib.hid hbV
  have HA := Lib.hid hA
  clear hown0 hbV hA hV z0 hmk
  rw [show (119 - (n : Int) % 64) % 64 = (119 - (n : Int)) % 64 by omega]
  go_loopw [4, 5] (fun v i wr => ∃ j : Nat, j ≤ 8 ∧ i = .int .i64 (56 - 8 * (j : Int)) ∧ wr.ownsRow A 5 1 v (L + j) (bvals (endK n j)) ∧ Below A w wr ∧ A < wr.heap.size) (fun _ i _ => (intOf i + 8).toNat)
  case atStart => exact ⟨0, by omega, rfl, HO.out, HB.out, hzV⟩
  case round =>
    obtain ⟨j, hj, rfl, hown, hbel, hlt⟩ := hrel
    clear HO HB hzV
    have HO := Lib.hid hown
    have HB := Lib.hid hbel
    clear hown hbel
    by_cases hj8 : j < 8
    · have hge : 8 * (j : Int) ≤ 56 := by omega
      obtain ⟨i0, hi, hz0, hz1, hz2⟩ := info_parts Tryd.info_byte
      have HE := Lib.hid (be8_at n j hj8)
      go_wp2_with (at_builtin; refine wpList_append_own _ rfl (.tmp 19) (.tmp 25) 42 rfl A 5 i0 (.int .u8 0) 1 1 Tryd.underlying42 hi hz0 hz1 hz2 rfl (by decide) _ _ _ rfl (HO.out.alloc _) ⟨wr.heap.size, 0, none⟩ 1 1 [.int .u8 (8 * (n : Int) / 2 ^ (56 - 8 * j) % 256)] rfl rfl ?c1 ?c2 ?c3 ?c4 ?c5 ?_; rotate_left 5; intro v' w5 hown5 hgrow5 hnil; clear hnil; have HO5 := Lib.hid hown5; have HG5 := Lib.hid hgrow5; clear hown5 hgrow5)
      case c1 => exact cells_one _ _ _
      case c2 => simp [Value.oneCell']
      case c3 => unfold maxLen; omega
      case c4 => omega
      case c5 => simp; omega
      obtain ⟨g1, g2⟩ := own_step' HO.out HG5.out HB.out (Nat.le_of_lt hlt)
      go_roundw
      case rel =>
        refine ⟨j + 1, by omega, by simp; omega, ?_, g1, ?_⟩
        · rw [endK_step n j hj8, bvals_app]
          have h := HO5.out
          rw [HE.out] at h
          exact h
        · have h := HG5.out.size
          simp at h
          omega
      case measure => simp [intOf]; omega
    · have hj0 : j = 8 := by omega
      subst hj0
      have hlt2 : ¬ (8 * ((8 : Nat) : Int) ≤ 56) := by omega
      go_wp2_with fail
      go_ret
      refine ⟨_, rfl, ?_, ?_⟩
      · rw [HA.out]
        have h := HO.out
        rw [endK_all, HF.out] at h
        have hl : F.length = L + 8 := by rw [← HF.out, ← endK_all, endK_len n 8 (by omega), HL.out]
        rw [hl]
        exact h
      · rw [HA.out]
        exact HB.out
end Go.Proofs.YtafolokkjpbieaaDoor
