import Derived.Test.YthagoafcphaadaaOcRI
import Derived.Test.YthagoafcphaadaaOcRJ
namespace Go.Proofs.Ythagoafcphaadaa
open Go.RowKit Sha Oc
set_option linter.unusedVariables false
set_option linter.unusedSimpArgs false
theorem mk_bytes (n : Nat) (hn : n ≤ 100000) (w : World) : (Instr.makeSlice 22 (.int .i64 (n : Int)) (.int .i64 (n : Int))).run Try.prog w = .ok (.slice (some ⟨w.heap.size, 0, none⟩) n n) (w.alloc (.cells (bcells (List.replicate n 0)) 5)) := by
  obtain ⟨i0, hi, hz0, hz1, hz2⟩ := info_parts Try.info_byte
  have h := run_make (P := Try.prog) w 22 5 i0 _ Try.underlying22 hi hz0 .i64 .i64 (n : Int) (n : Int) (by omega) (by omega) (by rw [hz2]; omega) (by omega)
  have hm : madeCells (Value.int .u8 0).cells (Int.toNat (n : Int) * 1) = bcells (List.replicate n 0) := by
    apply Array.ext'
    refine (toList_madeCells_one (.int .u8 0) _).trans ?_
    rw [Int.toNat_natCast, Nat.mul_one]
    unfold bcells
    simp
  rw [hz1, hm, Int.toNat_natCast] at h
  exact h
def zero3 : Array Value := #[.int .u8 0, .slice none 0 0, .slice none 0 0]
def octZ (n : Nat) : Array Value := madeCells zero3 (n * 3)
theorem mk_octs (n : Nat) (hn : n ≤ 100000) (w : World) : (Instr.makeSlice 26 (.int .i64 (n : Int)) (.int .i64 (n : Int))).run Try.prog w = .ok (.slice (some ⟨w.heap.size, 0, none⟩) n n) (w.alloc (.cells (octZ n) 28)) := by
  obtain ⟨i0, hi, hz0, hz1, hz2⟩ := info_parts Try.info_oct
  have h := run_make (P := Try.prog) w 26 28 i0 _ Try.underlying26 hi hz0 .i64 .i64 (n : Int) (n : Int) (by omega) (by omega) (by rw [hz2]; omega) (by omega)
  rw [hz1, Int.toNat_natCast] at h
  exact h
theorem octZ_get (n j : Nat) (h : j < n * 3) : (octZ n)[j]? = some (zero3[j % 3]!) := by
  unfold octZ madeCells
  rw [Array.getElem?_map, Array.getElem?_range, if_pos h]
  rfl
theorem octZ_at (n k : Nat) (h : k < n) : (octZ n)[k * 3]? = some (.int .u8 0) ∧ (octZ n)[k * 3 + 1]? = some (.slice none 0 0) ∧ (octZ n)[k * 3 + 2]? = some (.slice none 0 0) := by
  refine ⟨?_, ?_, ?_⟩
  · rw [octZ_get n _ (by omega), show k * 3 % 3 = 0 by omega]; rfl
  · rw [octZ_get n _ (by omega), show (k * 3 + 1) % 3 = 1 by omega]; rfl
  · rw [octZ_get n _ (by omega), show (k * 3 + 2) % 3 = 2 by omega]; rfl
/-- a value with nothing in it -/
theorem at_leaf (R : Nat → Prop) (w : World) (t : UInt8) : At R w (.mk t [] []) (.slice none 0 0) (.slice none 0 0) :=
  .mk t [] [] none 0 none 0 0 0 (fun _ => undef) (fun _ => undef) (Nat.le_refl _) (by decide) (fun _ => rfl) (fun h => absurd rfl h) (fun _ _ _ h => absurd rfl h) (Nat.le_refl _) (by decide) (fun _ => rfl) (fun h => absurd rfl h) (fun k o h => by simp at h) (fun k o h => by simp at h) (fun k o h => by simp at h) (fun k o h => by simp at h)
theorem at_zeros (t : UInt8) (n : Nat) (hn : n ≤ 100000) {w : World} {g : Nat} (h : w.heap[g]? = some (.cells (octZ n) 28 (0, 0))) : At (fun _ => True) w (.mk t [] (List.replicate n nilO)) (.slice none 0 0) (.slice (some ⟨g, 0, none⟩) n n) := by
  have hl : (List.replicate n nilO).length = n := List.length_replicate
  have hget : ∀ (k : Nat) (o : Oct), (List.replicate n nilO)[k]? = some o → k < n ∧ o = nilO := fun k o hk => by
    rw [List.getElem?_replicate] at hk
    split at hk
    · rename_i h1; exact ⟨h1, (Option.some.inj hk).symm⟩
    · cases hk
  have hc : ∀ j u, (octZ n)[j]? = some u → w.cell? ⟨g, j, none⟩ = some u := fun j u hj => by rw [cell_of_row _ _ _ _ _ _ h]; exact hj
  have hm := At.mk (R := fun _ => True) (w := w) t [] (List.replicate n nilO) none 0 (some ⟨g, 0, none⟩) n g 0 (fun _ => .slice none 0 0) (fun _ => .slice none 0 0) (Nat.le_refl _) (by decide) (fun _ => rfl) (fun h => absurd rfl h) (fun _ _ _ h => absurd rfl h) (by rw [hl]; exact Nat.le_refl _) (by rw [hl]; omega) (fun e => by cases e) (fun _ => ⟨rfl, trivial⟩)
    (fun k o hk => by obtain ⟨h1, rfl⟩ := hget k o hk; rw [Nat.zero_add]; exact hc _ _ (octZ_at n k h1).1)
    (fun k o hk => by obtain ⟨h1, rfl⟩ := hget k o hk; rw [Nat.zero_add]; exact hc _ _ (octZ_at n k h1).2.1)
    (fun k o hk => by obtain ⟨h1, rfl⟩ := hget k o hk; rw [Nat.zero_add]; exact hc _ _ (octZ_at n k h1).2.2)
    (fun k o hk => by obtain ⟨h1, rfl⟩ := hget k o hk; exact at_leaf _ _ _)
  rw [hl] at hm
  exact hm
/-- bytes that were made, in a value -/
theorem at_made (t : UInt8) (n : Nat) (hn : n ≤ 100000) {w : World} {g : Nat} {T : TypeId} (h : w.heap[g]? = some (.cells (bcells (List.replicate n 0)) T (0, 0))) : At (fun _ => True) w (.mk t (List.replicate n 0) []) (.slice (some ⟨g, 0, none⟩) n n) (.slice none 0 0) := by
  have hl : (List.replicate n (0 : UInt8)).length = n := List.length_replicate
  have := at_bytes (w := w) t (b := List.replicate n 0) (A := some ⟨g, 0, none⟩) (c := n) (by rw [hl]; exact Nat.le_refl _) (by rw [hl]; omega) (fun e => by cases e) (srcAt_row h)
  rw [hl] at this
  exact this
/-! what Check answers -/
theorem cnts_rep (v : Oct) : ∀ n, cnts (List.replicate n v) = n * cnt v
  | 0 => by rw [List.replicate_zero, cnts, Nat.zero_mul]
  | n + 1 => by rw [List.replicate_succ, cnts, cnts_rep v n, Nat.succ_mul, Nat.add_comm]
theorem sizs_rep (v : Oct) : ∀ n, sizs (List.replicate n v) = n * siz v
  | 0 => by rw [List.replicate_zero, sizs, Nat.zero_mul]
  | n + 1 => by rw [List.replicate_succ, sizs, sizs_rep v n, Nat.succ_mul, Nat.add_comm]
theorem tots_rep (v : Oct) : ∀ n, tots (List.replicate n v) = n * tot v
  | 0 => by rw [List.replicate_zero, tots, Nat.zero_mul]
  | n + 1 => by rw [List.replicate_succ, tots, tots_rep v n, Nat.succ_mul, Nat.add_comm]
theorem deps_rep (v : Oct) : ∀ n, deps (List.replicate n v) ≤ dep v
  | 0 => by rw [List.replicate_zero, deps]; exact Nat.zero_le _
  | n + 1 => by rw [List.replicate_succ, deps]; have := deps_rep v n; omega
theorem shps_rep (v : Oct) (h : shp v) : ∀ n, shps (List.replicate n v)
  | 0 => by rw [List.replicate_zero, shps]; trivial
  | n + 1 => by rw [List.replicate_succ, shps]; exact ⟨h, shps_rep v h n⟩
theorem ck_zeros : ckV (.mk 255 [] (List.replicate 4000 nilO)) = 4 := by
  have e1 := cnts_rep nilO 4000
  have h1 : cnt nilO = 1 := by decide
  rw [h1] at e1
  generalize List.replicate 4000 nilO = L at e1 ⊢
  unfold ckV
  exact if_pos (.inl (by rw [cnt, e1]; decide))
theorem ck_wide : ckV (.mk 128 [] (List.replicate 3999 (.mk 1 [] []))) = 0 := by
  refine (ckV_good _).2 ?_
  have h1 : cnt (.mk 1 [] []) = 1 := by decide
  have h2 : dep (.mk 1 [] []) = 1 := by decide
  have h3 : siz (.mk 1 [] []) = 2 := by decide
  have h4 := deps_rep (.mk 1 [] []) 3999
  have e1 := cnts_rep (.mk 1 [] []) 3999
  have e2 := sizs_rep (.mk 1 [] []) 3999
  have e3 := shps_rep (.mk 1 [] []) (by rw [← shpB_iff]; decide) 3999
  generalize List.replicate 3999 (Oct.mk 1 [] []) = L at e1 e2 e3 h4 ⊢
  rw [h1] at e1
  rw [h3] at e2
  refine ⟨by rw [cnt, e1]; decide, by rw [dep]; omega, ?_, ?_⟩
  · rw [shp]
    exact ⟨by decide, fun h => absurd h (by decide), fun _ => rfl, e3⟩
  · rw [← siz_eq, siz, e2]
    have hq : (lenb (([] : List UInt8).length + 3999 * 2)).length ≤ 4 := by rw [lenb_len]; decide
    obtain ⟨q, hq2⟩ : ∃ q, (lenb (([] : List UInt8).length + 3999 * 2)).length = q := ⟨_, rfl⟩
    rw [hq2] at hq ⊢
    exact Nat.le_trans (Nat.add_le_add_right (Nat.add_le_add_left hq 1) _) (by decide)
/-- a value of a tag of its own and bytes -/
theorem ck_bytes (b : List UInt8) : ckV (.mk 5 b []) = if 65536 < 1 + (lenb b.length).length + b.length then 4 else 0 := by
  have hs : shpB (.mk 5 b []) = true := by rw [shpB_iff, shp]; exact ⟨by decide, fun _ => rfl, fun h => absurd h (by decide), by rw [shps]; trivial⟩
  have hc : cnt (.mk 5 b []) = 1 := by rw [cnt, cnts]
  have hd : dep (.mk 5 b []) = 1 := by rw [dep, deps]
  have hz : siz (.mk 5 b []) = 1 + (lenb b.length).length + b.length := by rw [siz, sizs, Nat.add_zero]
  unfold ckV
  rw [hs, hc, hd, hz, if_neg (by omega), if_neg (by simp)]
theorem enc_bytes (b : List UInt8) : enc (.mk 5 b []) = 5 :: (lenb b.length ++ b) := by rw [enc, encs]; simp
theorem enc_len5 (b : List UInt8) : (enc (.mk 5 b [])).length = 1 + (lenb b.length).length + b.length := by rw [enc_bytes]; simp; omega
theorem tot5 (t : UInt8) (b : List UInt8) : tot (.mk t b []) = b.length := by rw [tot, tots, Nat.add_zero]
theorem cnt5 (t : UInt8) (b : List UInt8) : cnt (.mk t b []) = 1 := by rw [cnt, cnts]
def O200 : Oct := .mk 5 (List.replicate 200 0) []
def OMost : Oct := .mk 5 (List.replicate 65532 0) []
def OOver : Oct := .mk 5 (List.replicate 65533 0) []
theorem ck200 : ckV O200 = 0 := by unfold O200; rw [ck_bytes, List.length_replicate]; decide
theorem ckMost : ckV OMost = 0 := by unfold OMost; rw [ck_bytes, List.length_replicate]; decide
theorem ckOver : ckV OOver = 4 := by unfold OOver; rw [ck_bytes, List.length_replicate]; decide
theorem lenb200 : lenb 200 = [129, 200] := by decide
theorem lenbMost : lenb 65532 = [130, 255, 252] := by decide
theorem enc200 : (enc O200).length = 203 ∧ (enc O200)[1]? = some 129 ∧ (enc O200)[2]? = some 200 := by
  unfold O200
  refine ⟨by rw [enc_len5, List.length_replicate, lenb200]; rfl, ?_, ?_⟩ <;> (rw [enc_bytes, List.length_replicate, lenb200]; rfl)
theorem encMost : (enc OMost).length = 65536 ∧ (enc OMost)[1]? = some 130 := by
  unfold OMost
  refine ⟨by rw [enc_len5, List.length_replicate, lenbMost]; rfl, ?_⟩
  rw [enc_bytes, List.length_replicate, lenbMost]
  rfl
/-- a value in a value in a value .. -/
def nst : Nat → Oct
  | 0 => .mk 1 [] []
  | k + 1 => .mk 128 [] [nst k]
end Go.Proofs.Ythagoafcphaadaa
namespace Go.Proofs.Ythagoafcphaadaa
open Go.RowKit Sha Oc
set_option linter.unusedVariables false
set_option linter.unusedSimpArgs false
theorem nst_tag (k : Nat) : (((tagO (nst k)).toNat : Nat) : Int) = if k = 0 then 1 else 128 := by
  cases k <;> rfl
/-- a list of one value -/
theorem at_one8 {R : Nat → Prop} {w : World} {o : Oct} {x y : Value} {g : Nat} (h : At R w o x y) (hg : w.heap[g]? = some (.cells #[.int .u8 ((tagO o).toNat : Int), x, y] 28 (0, 0))) (hR : R g) (t : UInt8) : At R w (.mk t [] [o]) (.slice none 0 0) (.slice (some ⟨g, 0, none⟩) 1 1) := by
  have hc : ∀ j u, (#[.int .u8 ((tagO o).toNat : Int), x, y] : Array Value)[j]? = some u → w.cell? ⟨g, j, none⟩ = some u := fun j u hj => by rw [cell_of_row _ _ _ _ _ _ hg]; exact hj
  refine .mk t [] [o] none 0 (some ⟨g, 0, none⟩) 1 g 0 (fun _ => x) (fun _ => y) (Nat.le_refl _) (by decide) (fun _ => rfl) (fun h => absurd rfl h) (fun _ _ _ h => absurd rfl h) (Nat.le_refl _) (by show 1 ≤ _; decide) (fun e => by cases e) (fun _ => ⟨rfl, hR⟩) (fun k o' hk => ?_) (fun k o' hk => ?_) (fun k o' hk => ?_) (fun k o' hk => ?_) <;> rcases k with _ | k
  all_goals first | (obtain rfl := Option.some.inj hk; exact hc _ _ rfl) | (obtain rfl := Option.some.inj hk; assumption) | (simp at hk)
structure NB (w : World) (N : Nat) (k : Nat) (x y : Value) (V : World) : Prop where
  bl : Below N w V
  r0 : V.heap[N]? = some (.cells #[.int .u8 0, .slice none 0 0, .slice none 0 0] 28 (0, 0))
  r1 : V.heap[N + 1]? = some (.cells #[.int .u8 (if k = 0 then 1 else 128), x, y] 28 (0, 0))
  at_ : At (fun g => N + 1 < g) V (nst k) x y
theorem NB.on {w V V' : World} {N k : Nat} {x y : Value} (h : NB w N k x y V) (hb : Below V.heap.size V V') : NB w N k x y V' :=
  ⟨h.bl.trans (hb.mono (by have := (Array.getElem?_eq_some_iff.1 h.r0).1; omega)), row_on h.r0 hb, row_on h.r1 hb, h.at_.to fun g p u hu hR => ⟨by rw [hb.cell (p := ⟨g, p, none⟩) (World.block_lt_of_cell? _ _ hu)]; exact hu, hR⟩⟩
theorem NB.next {w V : World} {N k : Nat} {x y : Value} (h : NB w N k x y V) (hg : N + 1 < V.heap.size) :
    NB w N (k + 1) (.slice none 0 0) (.slice (some ⟨V.heap.size, 0, none⟩) 1 1) ((V.setCells (N + 1) 0 [.int .u8 128, .slice none 0 0, .slice (some ⟨V.heap.size, 0, none⟩) 1 1]).alloc (.cells #[.int .u8 (if k = 0 then 1 else 128), x, y] 28)) := by
  obtain ⟨U, hU⟩ : ∃ U, V.setCells (N + 1) 0 [.int .u8 128, .slice none 0 0, .slice (some ⟨V.heap.size, 0, none⟩) 1 1] = U := ⟨_, rfl⟩
  have hz : U.heap.size = V.heap.size := by rw [← hU]; simp [World.setCells, World.setCell]
  have q0 : U.heap[N]? = some (.cells #[.int .u8 0, .slice none 0 0, .slice none 0 0] 28 (0, 0)) := by rw [← hU, heap_setCells_other8 _ _ _ (by omega)]; exact h.r0
  have q1 : U.heap[N + 1]? = some (.cells #[.int .u8 128, .slice none 0 0, .slice (some ⟨V.heap.size, 0, none⟩) 1 1] 28 (0, 0)) := by rw [← hU]; exact row_setCells8 h.r1 rfl
  have q2 : At (fun g => N + 1 < g) U (nst k) x y := h.at_.to fun g p u hu hR => ⟨by
    have hne : g ≠ N + 1 := by omega
    have hk := heap_setCells_other8 [.int .u8 128, .slice none 0 0, .slice (some ⟨V.heap.size, 0, none⟩) 1 1] 0 V hne
    rw [hU] at hk
    simp only [World.cell?, hk] at hu ⊢
    exact hu, hR⟩
  have q3 : Below N w U := by rw [← hU]; exact ((h.bl.setCell (Nat.le_succ N) _).setCell (Nat.le_succ N) _).setCell (Nat.le_succ N) _
  rw [hU]
  clear hU
  have hb := below_new U (.cells #[.int .u8 (if k = 0 then 1 else 128), x, y] 28)
  have hnew := heap_alloc_new U (.cells #[.int .u8 (if k = 0 then 1 else 128), x, y] 28)
  have q4 : At (fun g => N + 1 < g) (U.alloc (.cells #[.int .u8 (if k = 0 then 1 else 128), x, y] 28)) (nst k) x y := q2.to fun g p u hu hR => ⟨by rw [hb.cell (p := ⟨g, p, none⟩) (World.block_lt_of_cell? _ _ hu)]; exact hu, hR⟩
  rw [hz] at hnew
  exact ⟨q3.trans (hb.mono (by omega)), row_on q0 hb, row_on q1 hb, at_one8 q4 (by rw [nst_tag]; exact hnew) hg 128⟩
theorem nb_start (w : World) : NB w w.heap.size 0 (.slice none 0 0) (.slice none 0 0) ((w.alloc (.cells #[.int .u8 0, .slice none 0 0, .slice none 0 0] 28)).alloc (.cells #[.int .u8 1, .slice none 0 0, .slice none 0 0] 28)) := by
  have h1 := heap_alloc_new w (.cells #[.int .u8 0, .slice none 0 0, .slice none 0 0] 28)
  have b1 := below_new w (.cells #[.int .u8 0, .slice none 0 0, .slice none 0 0] 28)
  have b2 := below_new (w.alloc (.cells #[.int .u8 0, .slice none 0 0, .slice none 0 0] 28)) (.cells #[.int .u8 1, .slice none 0 0, .slice none 0 0] 28)
  have h2 := heap_alloc_new (w.alloc (.cells #[.int .u8 0, .slice none 0 0, .slice none 0 0] 28)) (.cells #[.int .u8 1, .slice none 0 0, .slice none 0 0] 28)
  rw [World.size_alloc] at h2
  exact ⟨chain b1 b2, row_on h1 b2, h2, at_leaf _ _ _⟩
set_option maxRecDepth 100000 in
set_option maxHeartbeats 4000000 in
theorem nested_any (n : Nat) (hn1 : 1 ≤ n) (hn : n ≤ 1000) (w : World) : Calls Try.prog 6 #[.int .i64 (n : Int)] w (SnPost (nst (n - 1)) w) := by
  have HST := Lib.hid (nb_start w)
  have HN := Lib.hid hn
  clear hn
  go_enter Try.func6, Try.ntmps6
  go_upto_region 2 with (fail)
  generalize World.alloc (World.alloc w _) _ = V0 at HST ⊢
  obtain ⟨N, hN⟩ : ∃ N, w.heap.size = N := ⟨_, rfl⟩
  have HNN := Lib.hid hN
  rw [hN] at HST
  try simp only [hN]
  clear hN
  go_wp2_with fail
  go_loopw [4] (fun i wr => ∃ (k : Nat) (x y : Value), k + 1 ≤ n ∧ i = .int .i64 ((k + 1 : Nat) : Int) ∧ RowKit.Hid (NB w N k x y wr)) (fun i _ => n - (intOf i).toNat)
  case atStart => exact ⟨0, _, _, hn1, by go_num, HST⟩
  case round =>
    obtain ⟨k, x, y, hk, rfl, HB⟩ := hrel
    obtain ⟨V, hV⟩ : ∃ V, V = wr := ⟨_, rfl⟩
    subst hV
    obtain ⟨A1, m1, c1, B1, n1, d1, rfl, rfl⟩ := HB.out.at_.slices
    obtain ⟨tz, htz⟩ : ∃ tz : Int, (if k = 0 then 1 else 128) = tz := ⟨_, rfl⟩
    have HTZ := Lib.hid htz
    have hr := HB.out.r1
    rw [htz] at hr
    have hlt := (Array.getElem?_eq_some_iff.1 hr).1
    obtain ⟨⟨hf0, hf1, hf2⟩, hd0, hd1, hd2⟩ := facts3 hr
    have HNX := Lib.hid (HB.out.next hlt)
    rw [htz] at HNX
    clear htz hr
    by_cases hkn : k + 1 < n
    · have hki : ((k + 1 : Nat) : Int) < (n : Int) := by omega
      have hn2 := HN.out
      go_wp2_with fail
      exact ⟨⟨k + 1, _, _, by omega, by go_num, HNX⟩, by simp [intOf]; omega⟩
    · have hkk : n - 1 = k := by omega
      have hki : ¬ ((k + 1 : Nat) : Int) < (n : Int) := by omega
      obtain ⟨⟨hg0, hg1, hg2⟩, he0, he1, he2⟩ := facts3 HB.out.r0
      have HKK := Lib.hid hkk
      clear hkk
      go_wp2_with fail
      have B := row_setCells8 (x := .int .u8 tz) (y := .slice A1 m1 c1) (z := .slice B1 n1 d1) (cs := #[.int .u8 tz, .slice A1 m1 c1, .slice B1 n1 d1]) HB.out.r0 rfl
      have hb0 : Below N w (V.setCells N 0 [.int .u8 tz, .slice A1 m1 c1, .slice B1 n1 d1]) := ((HB.out.bl.setCell (Nat.le_refl N) _).setCell (Nat.le_refl N) _).setCell (Nat.le_refl N) _
      have ha0 : At (fun _ => True) (V.setCells N 0 [.int .u8 tz, .slice A1 m1 c1, .slice B1 n1 d1]) (nst k) (.slice A1 m1 c1) (.slice B1 n1 d1) := HB.out.at_.to fun g p u hu hR => ⟨by
        have hne : g ≠ N := by omega
        have hk := heap_setCells_other8 [.int .u8 tz, .slice A1 m1 c1, .slice B1 n1 d1] 0 V hne
        simp only [World.cell?, hk] at hu ⊢
        exact hu, trivial⟩
      refine bodyPost_ret (v := .agg #[.int .u8 tz, .slice A1 m1 c1, .slice B1 n1 d1]) (results_cell_row rfl _ _ N 28 _ (0, 0) _ rfl B Try.underlying28 rfl (sz3o _ _ _)) rfl ⟨_, _, ?_, by rw [HKK.out]; exact ha0, by rw [HNN.out]; exact hb0⟩
      rw [HKK.out]
      unfold cell3
      rw [nst_tag, HTZ.out]
end Go.Proofs.Ythagoafcphaadaa
namespace Go.Proofs.Ythagoafcphaadaa
open Go.RowKit Sha Oc
set_option linter.unusedVariables false
set_option linter.unusedSimpArgs false
theorem enc_yes {o : Oct} {n : Nat} (hk : ckV o = 0) (hn : (enc o).length = n) (hp : 0 < n) (hcn : cnt o ≤ 900000) (htt : tot o ≤ 400000) (w : World) (x y : Value) (hat : At (fun _ => True) w o x y) :
    Calls Try.prog 4 #[.agg (cell3 o x y)] w fun e w' => ∃ g c, e = .returned (.tuple #[.slice (some ⟨g, 0, none⟩) n c, .int .i64 0]) ∧ n ≤ c ∧ g < w'.heap.size ∧ (∀ j b, (enc o)[j]? = some b → w'.cell? ⟨g, j, none⟩ = some (.int .u8 (b.toNat : Int))) ∧ Below w.heap.size w w' := by
  refine (encode_any o hcn htt w x y hat).mono ?_
  rintro e w' ⟨hb, ⟨_, v, rfl, hown⟩ | ⟨h0, _⟩⟩
  · obtain ⟨_, ⟨_, h2⟩ | ⟨g, cap, cur, rfl, h3, h4, h5, h6, h7, h8⟩⟩ := hown
    · omega
    · refine ⟨g, cap, by rw [hn], by omega, (Array.getElem?_eq_some_iff.1 h4).1, fun j b hj => ?_, hb⟩
      rw [cell_of_row _ _ _ _ _ _ h4, ← Array.getElem?_toList]
      have hq : (cur.toList.take ((enc o).length * 1))[j]? = some (Value.int .u8 (b.toNat : Int)) := by
        rw [h8]
        unfold bvals
        rw [List.getElem?_map, hj]
        rfl
      rw [List.getElem?_take] at hq
      split at hq
      · exact hq
      · cases hq
  · exact absurd hk h0
theorem enc_no {o : Oct} {q : Int} (hk : ckV o = q) (hq : q ≠ 0) (hcn : cnt o ≤ 900000) (htt : tot o ≤ 400000) (w : World) (x y : Value) (hat : At (fun _ => True) w o x y) :
    Calls Try.prog 4 #[.agg (cell3 o x y)] w fun e w' => e = .returned (.tuple #[.slice none 0 0, .int .i64 q]) ∧ Below w.heap.size w w' := by
  refine (encode_any o hcn htt w x y hat).mono ?_
  rintro e w' ⟨hb, ⟨h0, _⟩ | ⟨_, rfl⟩⟩
  · exact absurd (hk.symm.trans h0) hq
  · exact ⟨by rw [hk], hb⟩
theorem chk_at {o : Oct} {q : Int} (hk : ckV o = q) (hcn : cnt o ≤ 900000) (htt : tot o ≤ 400000) (w : World) (x y : Value) (hat : At (fun _ => True) w o x y) :
    Calls Try.prog 5 #[.agg (cell3 o x y)] w fun e w' => e = .returned (.int .i64 q) ∧ Below w.heap.size w w' := by
  have h := check_any8 o hcn htt w x y hat
  rw [hk] at h
  exact h
theorem okN_nb9 (X : Nat) (hX : X < 256 ^ 8) : okN (nb X) = true ∧ numN (nb X) = X := by
  have h1 := nb_len 8 X hX
  have h2 : okN (nb X) = true := by
    unfold okN
    rw [decide_eq_true h1, Bool.true_and]
    cases hq : nb X with
    | nil => rfl
    | cons c r => simpa using nb_head X c r hq
  exact ⟨h2, by unfold numN; rw [if_pos h2, vl_nb]⟩
theorem rdN_nb9 (t u : UInt8) (X : Nat) (hX : X < 256 ^ 8) (M : Int) : rdN t u (nb X) 0 M = if t = u ∧ (X : Int) ≤ M then ((X : Int), 0) else (0, 12) := by
  obtain ⟨h1, h2⟩ := okN_nb9 X hX
  unfold rdN
  rw [h1, h2]
  simp
theorem rn_at {t tg : UInt8} {b : List UInt8} {M : Int} {r : Int × Int} (h : rdN t tg b 0 M = r) (w : World) (x y : Value) (hat : At (fun _ => True) w (.mk t b []) x y) :
    Calls Try.prog 8 #[.agg (cell3 (.mk t b []) x y), .int .u8 (tg.toNat : Int), .int .u64 M] w fun e w' => e = .returned (.tuple #[.int .u64 r.1, .int .i64 r.2]) ∧ Below w.heap.size w w' := by
  have h2 := readnum_any t b [] tg M w x y hat
  rw [List.length_nil, h] at h2
  exact h2
theorem rs_at {t tg : UInt8} {b : List UInt8} {M : Int} {r : List UInt8 × Int} (h : rdS t tg b 0 M = r) (w : World) (x y : Value) (hat : At (fun _ => True) w (.mk t b []) x y) :
    Calls Try.prog 10 #[.agg (cell3 (.mk t b []) x y), .int .u8 (tg.toNat : Int), .int .i64 M] w fun e w' => e = .returned (.tuple #[.string ⟨r.1.toArray⟩, .int .i64 r.2]) ∧ Below w.heap.size w w' := by
  have h2 := readstr_any t b [] tg M w x y hat
  rw [List.length_nil, h] at h2
  exact h2
/-- ReadSeq: how many are read -/
theorem rq_at {t tg : UInt8} {l : List Oct} {lo hi : Int} {yes : Bool} (h : rdQ t tg 0 l.length lo hi = yes) (hcn : cnt (.mk t [] l) ≤ 5000) (htt : tot (.mk t [] l) ≤ 100000) (w : World) (x y : Value) (hat : At (fun _ => True) w (.mk t [] l) x y) :
    Calls Try.prog 12 #[.agg (cell3 (.mk t [] l) x y), .int .u8 (tg.toNat : Int), .int .i64 lo, .int .i64 hi] w fun e w' => ∃ A c, e = .returned (.tuple #[.slice A (if yes then l else []).length c, .int .i64 (if yes then 0 else 12)]) ∧ Below w.heap.size w w' := by
  have h2 := readseq_any t [] l tg lo hi hcn htt w x y hat
  rw [List.length_nil, h] at h2
  refine h2.mono ?_
  rintro e w' ⟨v, rfl, h3, hb⟩
  generalize (if yes = true then l else []) = L at h3 ⊢
  cases h3 with
  | mk _ _ _ A c B d g off vb vl => exact ⟨B, d, rfl, hb⟩
theorem dec_over (n : Nat) (hn : 65536 < n) (h100 : n ≤ 100000) {w : World} {g : Nat} {T : TypeId} (h : w.heap[g]? = some (.cells (bcells (List.replicate n 0)) T (0, 0))) :
    Calls Try.prog 14 #[.slice (some ⟨g, 0, none⟩) n n] w fun e w' => ∃ A m c B l d, e = .returned (.tuple #[.agg #[.int .u8 0, .slice A m c, .slice B l d], .int .i64 4]) ∧ Below w.heap.size w w' := by
  have hl : (List.replicate n (0 : UInt8)).length = n := List.length_replicate
  have h2 := decode_any (List.replicate n 0) (by rw [hl]; exact h100) (some ⟨g, 0, none⟩) n (by rw [hl]; exact Nat.le_refl _) (fun e => by cases e) w (srcAt_row h)
  rw [hl] at h2
  unfold DecPost at h2
  rw [show decV (List.replicate n 0) = (nilO, 4) by unfold decV; rw [hl, if_pos hn]] at h2
  refine h2.mono ?_
  rintro e w' ⟨hb, x, y, rfl, hat⟩
  obtain ⟨A, m, c, B, l, d, rfl, rfl⟩ := hat.slices
  exact ⟨A, m, c, B, l, d, rfl, hb⟩
theorem ref_at {b : List UInt8} (hd : decV b = (nilO, 12)) (hb : b.length ≤ 1000) {w : World} {g : Nat} {T : TypeId} {n : Nat} (hn : b.length = n) (h : w.heap[g]? = some (.cells (bcells b) T (0, 0))) :
    Calls Try.prog 7 #[.slice (some ⟨g, 0, none⟩) n n] w fun e w' => e = .returned (.bool true) ∧ Below w.heap.size w w' := by
  subst hn
  exact refused_any b hd (by omega) w (some ⟨g, 0, none⟩) b.length (Nat.le_refl _) (fun e => by cases e) (srcAt_row h)
/-- the wide value in the making -/
structure WB (w : World) (M k : Nat) (v : Value) (V : World) : Prop where
  bl : Below w.heap.size w V
  row : V.heap[M]? = some (.cells #[.int .u8 128, .slice none 0 0, v] 28 (0, 0))
  own : V.ownsRow (M + 1) 28 3 v k (rowT (List.replicate k (.mk 1 [] [], .slice none 0 0, .slice none 0 0)))
  sz : M + 1 ≤ V.heap.size
  lM : w.heap.size ≤ M
def leaf1 : Oct × Value × Value := (.mk 1 [] [], .slice none 0 0, .slice none 0 0)
theorem rep_snoc (k : Nat) : rowT (List.replicate (k + 1) leaf1) = rowT (List.replicate k leaf1) ++ [.int .u8 1, .slice none 0 0, .slice none 0 0] := by
  rw [List.replicate_succ', rowT_app]
  rfl
theorem WB.grown {w V V' : World} {M k : Nat} {v v7 : Value} (h : WB w M k v V) (o : V'.ownsRow (M + 1) 28 3 v7 (k + 1) (rowT (List.replicate k leaf1) ++ [.int .u8 1, .slice none 0 0, .slice none 0 0])) (g : (V.alloc (.cells #[.int .u8 1, .slice none 0 0, .slice none 0 0] 28)).grownBy V' v.ownBlock) :
    V'.heap[M]? = some (.cells #[.int .u8 128, .slice none 0 0, v] 28 (0, 0)) ∧ WB w M (k + 1) v7 (V'.setCell ⟨M, 2, none⟩ v7) := by
  have lo : ∀ j, v.ownBlock = some j → M + 1 ≤ j := fun j hj => (h.own.lt j hj).1
  have hb := below_new V (.cells #[.int .u8 1, .slice none 0 0, .slice none 0 0] 28)
  have hr := row_on h.row hb
  have hz := h.sz
  have hM : V'.heap[M]? = some (.cells #[.int .u8 128, .slice none 0 0, v] 28 (0, 0)) := (g.block M (Array.getElem?_eq_some_iff.1 hr).1 (fun e => by have := lo M e.symm; omega)).trans hr
  have hl := h.lM
  have hg := g.size
  rw [World.size_alloc] at hg
  refine ⟨hM, ((chain h.bl hb).grown g (by rw [World.size_alloc]; omega) (fun j hj => by have := lo j hj; omega)).setCell hl _, heap_setCell_same _ _ _ _ _ _ hM, ?_, by simp [World.setCell]; omega, hl⟩
  have o2 : V'.ownsRow (M + 1) 28 3 v7 (k + 1) (rowT (List.replicate (k + 1) leaf1)) := by rw [rep_snoc]; exact o
  exact ownsRow_setCell_other (a := ⟨M, 2, none⟩) o2 (fun e => by have h1 := (o2.lt M e).1; omega) _
theorem WB.done {w V : World} {M k : Nat} {v : Value} (h : WB w M k v V) (hk : k ≤ 5000) : At (fun _ => True) V (.mk 128 [] (List.replicate k (.mk 1 [] []))) (.slice none 0 0) v := by
  have hl : (List.replicate k leaf1).length = k := List.length_replicate
  have ho : V.ownsRow (M + 1) 28 3 v (List.replicate k leaf1).length (rowT (List.replicate k leaf1)) := by rw [hl]; exact h.own
  obtain ⟨B, d, rfl, hat⟩ := at_of_rows 128 (b := []) (A := none) (c := 0) ho (fun u hu => by rw [List.eq_of_mem_replicate hu]; exact at_leaf _ _ _) (by rw [hl]; omega) (Nat.le_refl _) (by decide) (fun _ => rfl) (fun h => absurd rfl h) (fun _ _ _ h => absurd rfl h)
  rw [List.map_replicate] at hat
  exact hat.any
theorem own_slO {w : World} {b n : Nat} {v : Value} {xs : List Value} (h : w.ownsRow b 28 3 v n xs) : ∃ A cap, v = .slice A n cap := by
  obtain ⟨h1, ⟨rfl, rfl⟩ | ⟨g, cap, cur, rfl, h3, h4, _⟩⟩ := h
  · exact ⟨none, 0, rfl⟩
  · exact ⟨_, cap, rfl⟩
theorem wb_start {w V : World} (hb : Below w.heap.size w V) : WB w V.heap.size 0 (.slice none 0 0) (V.alloc (.cells #[.int .u8 128, .slice none 0 0, .slice none 0 0] 28)) :=
  ⟨chain hb (below_new V _), heap_alloc_new V _, ⟨rfl, .inl ⟨rfl, rfl⟩⟩, by simp, hb.size⟩
end Go.Proofs.Ythagoafcphaadaa
