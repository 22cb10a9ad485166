/-
  THE WALK over the reference's base64.
-/
import Derived.Test.YtjgebpgdiinmbaaDigTxB
namespace Go.Proofs.Ytjgebpgdiinmbaa
open Go.RowKit Sha
set_option linter.unusedVariables false
set_option linter.unusedSimpArgs false
/-- three bytes as a number, those that lack as 0 -/
def vj (l : List UInt8) : Nat → Nat
  | 0 => 0
  | j + 1 => vj l j * 256 + (l.getD j 0).toNat
def n3 (l : List UInt8) : Nat := vj l 3
def pj (N : Nat) : Nat → Nat
  | 0 => N / 262144
  | 1 => N / 4096 % 64
  | 2 => N / 64 % 64
  | _ => N % 64
/-- the characters of a group -/
def gj (l : List UInt8) (j : Nat) : UInt8 := if j ≤ l.length then ch b64L (pj (n3 l) j) else 61
def grp (l : List UInt8) : List UInt8 := [gj l 0, gj l 1, gj l 2, gj l 3]
theorem vj_lt (l : List UInt8) : ∀ j, vj l j < 256 ^ j
  | 0 => by simp [vj]
  | j + 1 => by
    have h1 := vj_lt l j
    have h2 := (l.getD j 0).toNat_lt
    rw [vj, Nat.pow_succ]
    omega
theorem b64S_grp (l : List UInt8) (h : l ≠ []) : b64S l = grp l ++ b64S (l.drop 3) := by
  match l, h with
  | [a], _ =>
    have ha := a.toNat_lt
    have hn : n3 [a] = a.toNat * 65536 := by simp [n3, vj]; omega
    rw [b64S_one]
    simp only [grp, gj, hn, pj, List.length_cons, List.length_nil, Nat.zero_le, if_true, Nat.le_refl, Nat.reduceAdd, Nat.reduceLeDiff, if_false, List.drop_succ_cons, List.drop_nil, b64S_nil, List.append_nil]
    rw [show a.toNat * 65536 / 262144 = a.toNat / 4 by omega, show a.toNat * 65536 / 4096 % 64 = a.toNat % 4 * 16 by omega]
  | [a, b], _ =>
    have ha := a.toNat_lt
    have hb := b.toNat_lt
    have hn : n3 [a, b] = (a.toNat * 256 + b.toNat) * 256 := by simp [n3, vj]
    rw [b64S_two]
    simp only [grp, gj, hn, pj, List.length_cons, List.length_nil, Nat.zero_le, if_true, Nat.le_refl, Nat.reduceAdd, Nat.reduceLeDiff, if_false, List.drop_succ_cons, List.drop_nil, b64S_nil, List.append_nil]
    rw [show (a.toNat * 256 + b.toNat) * 256 / 262144 = a.toNat / 4 by omega, show (a.toNat * 256 + b.toNat) * 256 / 4096 % 64 = (a.toNat * 256 + b.toNat) / 16 % 64 by omega, show (a.toNat * 256 + b.toNat) * 256 / 64 % 64 = b.toNat % 16 * 4 by omega]
  | a :: b :: c :: r, _ =>
    have ha := a.toNat_lt
    have hb := b.toNat_lt
    have hc := c.toNat_lt
    have hn : n3 (a :: b :: c :: r) = a.toNat * 65536 + b.toNat * 256 + c.toNat := by simp [n3, vj]; omega
    rw [b64S_three]
    simp only [grp, gj, hn, pj, List.length_cons, Nat.zero_le, if_true, List.drop_succ_cons, List.drop_zero]
    rw [if_pos (by omega), if_pos (by omega), if_pos (by omega)]
    rfl
theorem pj_lt (N : Nat) (h : N < 16777216) (j : Nat) : pj N j < 64 := by
  unfold pj
  split <;> omega
theorem n3_lt (l : List UInt8) : n3 l < 16777216 := vj_lt l 3
theorem getD_drop (b : List UInt8) (k j : Nat) : (b.drop k).getD j 0 = b.getD (k + j) 0 := by
  rw [List.getD_eq_getElem?_getD, List.getElem?_drop, List.getD_eq_getElem?_getD]
set_option maxRecDepth 100000 in
set_option maxHeartbeats 4000000 in
theorem rb64_any (b : List UInt8) (A : Option Addr) (c : Nat) (hl : b.length ≤ 100000) (hc : b.length ≤ c) (w : World) (hs : SrcAt A b w) :
    Calls Try.prog 11 #[.slice A b.length c] w fun e w' => e = .returned (.string (bs (b64S b))) ∧ Below w.heap.size w w' := by
  obtain ⟨F, hF⟩ : ∃ F, b64S b = F := ⟨_, rfl⟩
  have hFl : F.length ≤ 2 * b.length + 8 := by
    rw [← hF]
    unfold b64S
    rw [List.length_append, List.length_replicate, b64D_len]
    have := dgB_len 6 (by decide) b 0 0 (by omega)
    omega
  obtain ⟨n, hn⟩ : ∃ n, b.length = n := ⟨_, rfl⟩
  rw [hF]
  rw [hn] at hl hc hFl ⊢
  have HN := Lib.hid hn
  have HS := Lib.hid hs
  have HF := Lib.hid hF
  have HFL := Lib.hid hFl
  clear hF hn hs hFl
  go_enter Try.func11, Try.ntmps11
  go_wp2_with fail
  go_loopw [3, 4] (fun o i wr => ∃ (k : Nat) (done : List UInt8) (X : ByteArray), i = .int .i64 (k : Int) ∧ o = .string X ∧ k ≤ n + 2 ∧ X = bs done ∧ F = done ++ b64S (b.drop k) ∧ Below w.heap.size w wr) (fun _ i _ => n + 10 - (intOf i).toNat)
  case atStart => exact ⟨0, [], _, rfl, rfl, by omega, rfl, HF.out.symm, Below.refl _ _⟩
  case round =>
    obtain ⟨k, done, X, rfl, rfl, hk, hX, hd, hbel⟩ := hrel
    have hdl : done.length ≤ 300000 := by
      have h1 := congrArg List.length hd
      rw [List.length_append] at h1
      have h2 := HFL.out
      omega
    have hXs : X.size ≤ 300000 := by rw [hX, bs_size]; exact hdl
    have HB := Lib.hid hbel
    have HD := Lib.hid hd
    have HX := Lib.hid hX
    clear hbel hd hX hdl
    by_cases hlt : k < n
    · obtain ⟨x, hx⟩ : ∃ x, b[k]? = some x := ⟨_, List.getElem?_eq_getElem (by rw [HN.out]; exact hlt)⟩
      have hne : b ≠ [] := by intro e; rw [e] at hx; simp at hx
      obtain ⟨g1, o1, rfl, c1⟩ := HS.out hne
      have hcell : ∀ j y, b[j]? = some y → wr.cell? ⟨g1, o1 + j, none⟩ = some (.int .u8 (y.toNat : Int)) := fun j y hj => by
        have h1 := c1 j y hj
        rw [HB.out.cell (p := ⟨g1, o1 + j, none⟩) (World.block_lt_of_cell? _ _ h1)]
        exact h1
      have HC := Lib.hid hcell
      have hki : (k : Int) < (n : Int) := by omega
      obtain ⟨L, hL⟩ : ∃ L, b.drop k = L := ⟨_, rfl⟩
      have hLl : L.length = n - k := by rw [← hL, List.length_drop, HN.out]
      have hLn : L ≠ [] := by intro e; rw [e] at hLl; simp at hLl; omega
      have hget : ∀ j, L.getD j 0 = b.getD (k + j) 0 := fun j => by rw [← hL]; exact getD_drop b k j
      have hf := b64S_grp L hLn
      have hdr : L.drop 3 = b.drop (k + 3) := by rw [← hL, List.drop_drop]
      rw [hdr] at hf
      have hd2 := HD.out
      rw [hL, hf] at hd2
      have HD2 := Lib.hid hd2
      have HGET := Lib.hid hget
      have HLL := Lib.hid hLl
      have HNN := Lib.hid (n3_lt L)
      clear hcell c1 hx hne HD hL hLl hLn hget hf hdr hd2
      go_wp2_with fail
      go_loopw [5, 6] (fun v i wz => ∃ j : Nat, j ≤ 3 ∧ i = .int .i64 (j : Int) ∧ v = .int .i64 ((vj L j : Nat) : Int) ∧ RowKit.Hid (∀ (j : Nat) (y : UInt8), b[j]? = some y → wz.cell? ⟨g1, o1 + j, none⟩ = some (.int .u8 (y.toNat : Int))) ∧ RowKit.Hid (Below w.heap.size w wz)) (fun _ i _ => 3 - (intOf i).toNat)
      case atStart => exact ⟨0, by omega, rfl, rfl, HC, HB⟩
      case round =>
        clear HB HC
        obtain ⟨j, hj, rfl, rfl, HC, HB⟩ := hrel
        have hvl := vj_lt L j
        have hvl2 : vj L j < 16777216 := Nat.lt_of_lt_of_le hvl (Nat.le_trans (Nat.pow_le_pow_right (by omega) hj) (by decide))
        have hvs : vj L (j + 1) = vj L j * 256 + (L.getD j 0).toNat := rfl
        rw [HGET.out] at hvs
        obtain ⟨V, hV⟩ : ∃ V, vj L j = V := ⟨_, rfl⟩
        rw [hV] at hvl2 hvs
        simp only [hV]
        by_cases hj3 : j < 3
        · by_cases hin : k + j < n
          · obtain ⟨y, hy⟩ : ∃ y, b[k + j]? = some y := ⟨_, List.getElem?_eq_getElem (by rw [HN.out]; exact hin)⟩
            have ej : wr.cell? ⟨g1, o1 + (k + j), none⟩ = some (.int .u8 (y.toNat : Int)) := HC.out (k + j) y hy
            rw [List.getD_eq_getElem?_getD, hy, Option.getD_some] at hvs
            have hy8 : y.toNat < 256 := y.toNat_lt
            have hii : (k : Int) + j < (n : Int) := by omega
            have HVS := Lib.hid hvs
            clear hvs hy hV hvl
            go_wp2_with fail
            refine ⟨⟨j + 1, by omega, by go_num, congrArg (Value.int _) (by rw [HVS.out]; omega), HC, HB⟩, by simp [intOf]; omega⟩
          · have hii : ¬ (k : Int) + j < (n : Int) := by omega
            have hg0 : b.getD (k + j) 0 = 0 := by rw [List.getD_eq_getElem?_getD, List.getElem?_eq_none (by rw [HN.out]; omega)]; rfl
            rw [hg0] at hvs
            have hvs2 : vj L (j + 1) = V * 256 := hvs
            have HVS := Lib.hid hvs2
            clear hvs hvs2 hV hvl hg0
            go_wp2_with fail
            refine ⟨⟨j + 1, by omega, by go_num, congrArg (Value.int _) (by rw [HVS.out]; omega), HC, HB⟩, by simp [intOf]; omega⟩
        · have hjj : j = 3 := by omega
          have hjg : ¬ (j : Int) < 3 := by omega
          have HV3 : RowKit.Hid (n3 L = V) := Lib.hid (by rw [← hV, hjj]; rfl)
          clear hvs hV hvl
          go_wp2_with fail
          obtain ⟨N0, hN0⟩ : ∃ N0, wr.heap.size = N0 := ⟨_, rfl⟩
          have q0 : (V : Int) / 262144 = ((pj V 0 : Nat) : Int) := by simp [pj]
          have q1 : (V : Int) / 4096 % 64 = ((pj V 1 : Nat) : Int) := by simp [pj]
          have q2 : (V : Int) / 64 % 64 = ((pj V 2 : Nat) : Int) := by simp [pj]
          have q3 : (V : Int) % 64 = ((pj V 3 : Nat) : Int) := by simp [pj]
          rw [q0, q1, q2, q3]
          generalize hW4 : World.alloc wr _ = W4
          have hcc : ∀ j, j < 4 → W4.cell? ⟨N0, j, none⟩ = some (.int .i64 ((pj V j : Nat) : Int)) := fun j hj => by
            rw [← hW4, ← hN0]
            obtain rfl | rfl | rfl | rfl : j = 0 ∨ j = 1 ∨ j = 2 ∨ j = 3 := by omega
            all_goals exact (World.cell?_alloc_at _ _ _ _ rfl).trans rfl
          have hb4 : Below w.heap.size w W4 := by rw [← hW4]; exact HB.out.alloc HB.out.size _
          simp only [hN0]
          have HCC := Lib.hid hcc
          have HB4 := Lib.hid hb4
          clear hW4 hN0 q0 q1 q2 q3 hcc hb4 HB HC
          go_loopw [3, 8] (fun o i wz => ∃ (j m : Nat) (Y : ByteArray), j ≤ 4 ∧ i = .int .i64 (j : Int) ∧ o = .string Y ∧ RowKit.Hid (Y = X ++ bs ((grp L).take j)) ∧ RowKit.Hid (wz = W4.drewN m)) (fun _ i _ => 4 - (intOf i).toNat)
          case atStart => exact ⟨0, 0, X, by omega, rfl, rfl, Lib.hid (by rw [List.take_zero]; apply ByteArray.ext; simp [bs]), Lib.hid rfl⟩
          case round =>
            obtain ⟨j2, m, Y, hj2, rfl, rfl, HY, HWZ⟩ := hrel
            have hYs : Y.size ≤ 400000 := by
              rw [HY.out, ByteArray.size_append, bs_size, List.length_take]
              have : Nat.min j2 (grp L).length ≤ j2 := Nat.min_le_left _ _
              omega
            by_cases hj4 : j2 < 4
            · have hji : (j2 : Int) < 4 := by omega
              have htk : (grp L).take (j2 + 1) = (grp L).take j2 ++ [gj L j2] := by
                obtain rfl | rfl | rfl | rfl : j2 = 0 ∨ j2 = 1 ∨ j2 = 2 ∨ j2 = 3 := by omega
                all_goals rfl
              by_cases hin : j2 ≤ L.length
              · have hii : (k : Int) + j2 ≤ (n : Int) := by have := HLL.out; omega
                have hcj : wr.cell? ⟨N0, j2, none⟩ = some (.int .i64 ((pj V j2 : Nat) : Int)) := by rw [HWZ.out]; exact HCC.out j2 hj4
                obtain ⟨p, hp⟩ : ∃ p, pj V j2 = p := ⟨_, rfl⟩
                have hp64 : p < 64 := by rw [← hp, ← HV3.out]; exact pj_lt _ HNN.out _
                have hgj : gj L j2 = ch b64L p := by unfold gj; rw [if_pos hin, HV3.out, hp]
                rw [hp] at hcj
                have hex := b64L_at ⟨p, hp64⟩
                have hnx : X ++ bs ((grp L).take (j2 + 1)) = Y ++ b64L.extract p (p + 1) := by rw [htk, bs_app, HY.out, hgj, hex, ByteArray.append_assoc]
                have HNX := Lib.hid hnx
                clear htk hin hp hgj hex hnx
                go_wp2_with fail
                go_quiet (fail)
                go_wp2_with fail
                refine ⟨⟨j2 + 1, _, _, by omega, by go_num, rfl, Lib.hid ?_, Lib.hid (by rw [HWZ.out, World.drewN_drewN])⟩, by simp [intOf]; omega⟩
                exact HNX.out.symm
              · have hii : ¬ (k : Int) + j2 ≤ (n : Int) := by have := HLL.out; omega
                have hgj : gj L j2 = 61 := by unfold gj; rw [if_neg hin]
                have hnx : X ++ bs ((grp L).take (j2 + 1)) = Y ++ bs [61] := by rw [htk, bs_app, HY.out, hgj, ByteArray.append_assoc]
                have HNX := Lib.hid hnx
                clear htk hin hgj hnx
                go_wp2_with fail
                refine ⟨⟨j2 + 1, _, _, by omega, by go_num, rfl, Lib.hid ?_, HWZ⟩, by simp [intOf]; omega⟩
                exact HNX.out.symm
            · have hjj2 : j2 = 4 := by omega
              have hjg2 : ¬ (j2 : Int) < 4 := by omega
              have HY2 : RowKit.Hid (Y = X ++ bs (grp L)) := Lib.hid (by rw [HY.out, hjj2]; rfl)
              have HB5 : RowKit.Hid (Below w.heap.size w wr) := Lib.hid (by rw [HWZ.out]; exact below_drewN HB4.out _)
              go_wp2_with fail
              refine ⟨⟨k + 3, done ++ grp L, Y, by go_num, rfl, by omega, by rw [HY2.out, HX.out, ← bs_app], by rw [HD2.out, List.append_assoc], HB5.out⟩, by simp [intOf]; omega⟩
    · have hge : ¬ ((k : Int) < (n : Int)) := by omega
      have hfin : F = done := by rw [HD.out, List.drop_of_length_le (by rw [HN.out]; omega), b64S_nil, List.append_nil]
      have HFI := Lib.hid hfin
      clear hfin
      go_wp2_with fail
      go_ret
      refine ⟨?_, HB.out⟩
      rw [HFI.out, ← HX.out]
      rfl
end Go.Proofs.Ytjgebpgdiinmbaa
