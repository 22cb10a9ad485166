/-
  THE WALKS over the reference of layer 2: what lies in a block, by halves; the list of a span.
-/
import Derived.Test.YtjngfieggacpiaaSpRefC
import Derived.Maps.AppendAt
import Derived.Deep.AppendLies
import Derived.Deep.RegionHeld3
namespace Go.Proofs.Ytjngfieggacpiaa
open Go.RowKit Adr Spn
set_option linter.unusedVariables false
set_option linter.unusedSimpArgs false
section
variable {P : Program} {w w' : World} {base base' : Nat} {e : TypeId} {size n m : Nat} {v u : Value} {xs ys : List Value}
/-- a row of the call's own, behind what is made besides -/
theorem owns_on (h : w.ownsRow base e size v n xs) (hb : Below w.heap.size w w') : w'.ownsRow base e size v n xs := by
  obtain ⟨hl, h | ⟨g, cap, cur, hv, hg, hbl, h1, h2, h3, h4⟩⟩ := h
  · exact ⟨hl, .inl h⟩
  · have hlt : g < w.heap.size := (Array.getElem?_eq_some_iff.1 hbl).1
    exact ⟨hl, .inr ⟨g, cap, cur, hv, hg, (hb.block g hlt).trans hbl, h1, h2, h3, h4⟩⟩
theorem owns_mono (h : w.ownsRow base e size v n xs) (hb : base' ≤ base) : w.ownsRow base' e size v n xs := by
  obtain ⟨hl, h | ⟨g, cap, cur, hv, hg, h1⟩⟩ := h
  · exact ⟨hl, .inl h⟩
  · exact ⟨hl, .inr ⟨g, cap, cur, hv, Nat.le_trans hb hg, h1⟩⟩
/-- two rows of the call's own, one put behind the other -/
theorem run_app_two {i : TypeInfo} {z : Value} {bytes : Nat} {t ty : TypeId} (ht : P.underlying t = some (.slice e)) (hi : P.info? e = some i) (hz : i.zero = some z)
    (hsize : i.size = size) (hby : i.bytes = bytes) (hzs : z.cells.size = size) (hsz : 0 < size)
    (hv : w.ownsRow base e size v n xs) (hu : w.ownsRow base' e size u m ys) (h1 : ∀ y ∈ ys, y.oneCell' = true) (h63 : n + m ≤ maxLen) (hbytes : (n + m) * bytes ≤ 140737488355328) (hbase : base ≤ w.heap.size) :
    ∃ v' w', (Builtin.append_ #[t, t] ty #[v, u]).run P w = .ok v' w' ∧ w'.ownsRow base e size v' (n + m) (xs ++ ys) ∧ w.grownBy w' v.ownBlock ∧ (v' = .slice none 0 0 ↔ v = .slice none 0 0 ∧ m = 0) := by
  obtain ⟨hl, ⟨rfl, rfl⟩ | ⟨g, cap, cur, rfl, hg, hbl, h5, h6, h7, h8⟩⟩ := hu
  · obtain rfl : ys = [] := List.eq_nil_of_length_eq_zero (by simpa using hl)
    refine ⟨v, w, ?_, by simpa using hv, ⟨rfl, rfl, rfl, Nat.le_refl _, fun _ _ _ => rfl⟩, by simp⟩
    obtain ⟨_, ⟨rfl, rfl⟩ | ⟨g, cap, cur, rfl, _, _, hnc, _⟩⟩ := hv
    · simp [Builtin.append_, run_underlying ht, sizeOf, typeInfo, hi, Builtin.lenOf, Builtin.firstCells]
    · simp [Builtin.append_, run_underlying ht, sizeOf, typeInfo, hi, Builtin.lenOf, Builtin.firstCells, hnc, storeCells]
  · have hu : w.ownsRow base' e size (.slice (some ⟨g, 0, none⟩) m cap) m ys := ⟨hl, .inr ⟨g, cap, cur, rfl, hg, hbl, h5, h6, h7, h8⟩⟩
    obtain ⟨v', w', a1, a2, a3, a4, _⟩ := run_append_own_at (P := P) w base t ty e i z size bytes ht hi hz hsize hby hzs hsz v n xs hv ⟨g, 0, none⟩ m cap ys hl (hu.cells (g := g) rfl) h1 h63 hbytes hbase
    exact ⟨v', w', a1, a2, a3, a4⟩
theorem step_app_two {ops : Array Oper} {o : Oper} {a : Act} {K : Act → World → Prop} {Q : Exit → Act → World → Prop} {E : Prop} {i : TypeInfo} {z : Value} {bytes : Nat} (hgd : o.guard = none) (s x : Operand) (t : TypeId)
    (ho : o.op = .call { callee := .builtin .append, args := #[s, x], argTypes := #[t, t] }) (ht : P.underlying t = some (.slice e)) (hi : P.info? e = some i) (hz : i.zero = some z)
    (hsize : i.size = size) (hby : i.bytes = bytes) (hzs : z.cells.size = size) (hsz : 0 < size) (hs : a.eval s = v) (hx : a.eval x = u)
    (hv : w.ownsRow base e size v n xs) (hu : w.ownsRow base' e size u m ys) (h1 : ∀ y ∈ ys, y.oneCell' = true) (h63 : n + m ≤ maxLen) (hbytes : (n + m) * bytes ≤ 140737488355328) (hbase : base ≤ w.heap.size)
    (h : ∀ v' w', w'.ownsRow base e size v' (n + m) (xs ++ ys) → w.grownBy w' v.ownBlock → (v' = .slice none 0 0 ↔ v = .slice none 0 0 ∧ m = 0) → K (a.put o.dst v') w') :
    if Region.wanted o (yielded ops a.tmps) = true then Oper.wp P o a w K Q else E := by
  rw [if_pos (by simp [Region.wanted, hgd])]
  obtain ⟨v', w', hr, h2, h3, h4⟩ := run_app_two (P := P) (ty := o.type) ht hi hz hsize hby hzs hsz hv hu h1 h63 hbytes hbase
  unfold Oper.wp execOp
  simp only [ho, resolve, invoke, builtin, Sem.run_bind, Sem.run_pure, Result.andThen_ok, List.map_toArray, List.map_cons, List.map_nil, hs, hx, hr]
  exact h v' w' h2 h3 h4
end
/-- a list of prefixes of the call's own; none: nil -/
def WinLeft (f : Int) (W : Nat) (xs : List (Nat × Nat)) (w : World) (e : Ending) (w' : World) : Prop :=
  ∃ v, e = .returned v ∧ w'.ownsRow w.heap.size 28 4 v xs.length (pcells f W xs) ∧ (v = .slice none 0 0 ↔ xs.length = 0) ∧ Below w.heap.size w w'
theorem win_len {W A M k P : Nat} (hAM : A ≤ M) (hM : M < 2 ^ W) (hW : 2 ≤ W) (hW2 : W ≤ 128) (hk : k ≤ W) (ha : P % 2 ^ k = 0) (hx : k = W ∨ P % 2 ^ (k + 1) ≠ 0 ∨ ¬ (A ≤ P ∧ P + 2 ^ (k + 1) ≤ M + 1)) : (win A M k P).length ≤ 254 := by
  obtain ⟨t, ht⟩ := steps_ex W (M + 1 - clampN A M (P + 2 ^ k)) (clampN A M (P + 2 ^ k))
  have h := win_steps hAM k P t hk ha hx ht
  have hl := len_all W hW _ _ _ (by unfold clampN; omega) h
  rw [List.length_append] at hl
  omega
theorem pcells_one (f : Int) (W : Nat) (l : List (Nat × Nat)) : ∀ y ∈ pcells f W l, y.oneCell' = true := by
  intro y hy
  unfold pcells at hy
  rw [List.mem_flatMap] at hy
  obtain ⟨p, _, hy⟩ := hy
  simp only [List.mem_cons, List.not_mem_nil, or_false] at hy
  rcases hy with rfl | rfl | rfl | rfl <;> rfl
theorem pcells_app (f : Int) (W : Nat) (l l' : List (Nat × Nat)) : pcells f W (l ++ l') = pcells f W l ++ pcells f W l' := by
  unfold pcells
  rw [List.flatMap_append]
theorem win_top {W A M : Nat} (hAM : A ≤ M) (hM : M < 2 ^ W) : Spn.Steps W A (M + 1 - A) (win A M W 0) := by
  have h := win_steps (W := W) hAM W 0 [] (Nat.le_refl _) (Nat.zero_mod _) (Or.inl rfl) (by
    have : clampN A M (0 + 2 ^ W) = M + 1 := by unfold clampN; omega
    rw [this, Nat.sub_self]
    exact .nil _)
  have e : clampN A M 0 = A := by unfold clampN; omega
  rw [e, List.append_nil] at h
  exact h
theorem rcmp_k (A B : Nat) (k : Int) (hk : cmpN A B = k) (w : World) :
    Calls Try.prog 29 #[.agg #[.int .u64 (aH A), .int .u64 (aL A)], .agg #[.int .u64 (aH B), .int .u64 (aL B)]] w fun e w' => e = .returned (.int .i64 k) ∧ Below w.heap.size w w' := by
  rw [← hk]; exact rcmpN_any A B w
theorem rin_b (A M X : Nat) (b : Bool) (hb : (decide (A ≤ X) && decide (X ≤ M)) = b) (w : World) :
    Calls Try.prog 36 #[.agg #[.int .u64 (aH A), .int .u64 (aL A), .int .u64 (aH M), .int .u64 (aL M)], .agg #[.int .u64 (aH X), .int .u64 (aL X)]] w fun e w' => e = .returned (.bool b) ∧ Below w.heap.size w w' := by
  rw [← hb]; exact rin_any A M X w
theorem cmpN_neg {A B : Nat} (h : A < B) : cmpN A B = -1 := by
  unfold cmpN
  rw [if_neg (by omega), if_pos h]
theorem cmpN_nn {A B : Nat} (h : ¬ A < B) : 0 ≤ cmpN A B := by
  unfold cmpN
  by_cases e : A = B
  · rw [if_pos e]; omega
  · rw [if_neg e, if_neg h]; omega
/-- what the walk reads again: the span and the prefix -/
structure C8 (N : Nat) (z : World) (a b c d f h l n : Int) : Prop where
  lt : N + 1 < z.heap.size
  s0 : z.cell? ⟨N, 0, none⟩ = some (.int .u64 a)
  s1 : z.cell? ⟨N, 1, none⟩ = some (.int .u64 b)
  s2 : z.cell? ⟨N, 2, none⟩ = some (.int .u64 c)
  s3 : z.cell? ⟨N, 3, none⟩ = some (.int .u64 d)
  p0 : z.cell? ⟨N + 1, 0, none⟩ = some (.int .u8 f)
  p1 : z.cell? ⟨N + 1, 1, none⟩ = some (.int .u64 h)
  p2 : z.cell? ⟨N + 1, 2, none⟩ = some (.int .u64 l)
  p3 : z.cell? ⟨N + 1, 3, none⟩ = some (.int .i64 n)
theorem C8.same {N : Nat} {z y : World} {a b c d f h l n : Int} (t : C8 N z a b c d f h l n) (hs : z.heap.size ≤ y.heap.size) (h0 : y.heap[N]? = z.heap[N]?) (h1 : y.heap[N + 1]? = z.heap[N + 1]?) : C8 N y a b c d f h l n :=
  ⟨Nat.lt_of_lt_of_le t.lt hs, (World.cell?_of_block (a := ⟨N, 0, none⟩) h0).trans t.s0, (World.cell?_of_block (a := ⟨N, 1, none⟩) h0).trans t.s1, (World.cell?_of_block (a := ⟨N, 2, none⟩) h0).trans t.s2, (World.cell?_of_block (a := ⟨N, 3, none⟩) h0).trans t.s3,
   (World.cell?_of_block (a := ⟨N + 1, 0, none⟩) h1).trans t.p0, (World.cell?_of_block (a := ⟨N + 1, 1, none⟩) h1).trans t.p1, (World.cell?_of_block (a := ⟨N + 1, 2, none⟩) h1).trans t.p2, (World.cell?_of_block (a := ⟨N + 1, 3, none⟩) h1).trans t.p3⟩
theorem C8.on {N : Nat} {z y : World} {a b c d f h l n : Int} (t : C8 N z a b c d f h l n) (hb : Below z.heap.size z y) : C8 N y a b c d f h l n :=
  t.same hb.size (hb.block N (by have := t.lt; omega)) (hb.block (N + 1) t.lt)
theorem C8.grown {N : Nat} {z y : World} {a b c d f h l n : Int} {row : Option Nat} (t : C8 N z a b c d f h l n) (hg : z.grownBy y row) (hr : ∀ g, row = some g → N + 1 < g) : C8 N y a b c d f h l n :=
  t.same hg.size (hg.block N (by have := t.lt; omega) (fun e => by have := hr _ e.symm; omega)) (hg.block (N + 1) t.lt (fun e => by have := hr _ e.symm; omega))
set_option maxRecDepth 100000 in
set_option maxHeartbeats 4000000 in
theorem within_core (f : Int) (W A M P E k : Nat) (w : World) (xs : List (Nat × Nat))
    (hlast : ∀ w, Calls Try.prog 18 #[.agg #[.int .u8 f, .int .u64 (aH P), .int .u64 (aL P), .int .i64 ((W - k : Nat) : Int)]] w fun e w' => e = .returned (.agg #[.int .u64 (aH E), .int .u64 (aL E)]) ∧ Below w.heap.size w w')
    (hno : E < A ∨ M < P → xs = []) (hone : A ≤ P ∧ E ≤ M → xs = [(P, k)]) (hPE : P ≤ E)
    (htwo : ¬ (E < A ∨ M < P) → ¬ (A ≤ P ∧ E ≤ M) → ∃ n1 h1 l1 h2 l2 xs0 xs1, (∀ w, Calls Try.prog 37 #[.agg #[.int .u8 f, .int .u64 (aH P), .int .u64 (aL P), .int .i64 ((W - k : Nat) : Int)], .int .i64 0] w fun e w' => e = .returned (.agg #[.int .u8 f, .int .u64 h1, .int .u64 l1, .int .i64 n1]) ∧ Below w.heap.size w w') ∧
      (∀ w, Calls Try.prog 37 #[.agg #[.int .u8 f, .int .u64 (aH P), .int .u64 (aL P), .int .i64 ((W - k : Nat) : Int)], .int .i64 1] w fun e w' => e = .returned (.agg #[.int .u8 f, .int .u64 h2, .int .u64 l2, .int .i64 n1]) ∧ Below w.heap.size w w') ∧
      (∀ w, Calls Try.prog 20 #[.agg #[.int .u64 (aH A), .int .u64 (aL A), .int .u64 (aH M), .int .u64 (aL M)], .agg #[.int .u8 f, .int .u64 h1, .int .u64 l1, .int .i64 n1]] w (WinLeft f W xs0 w)) ∧
      (∀ w, Calls Try.prog 20 #[.agg #[.int .u64 (aH A), .int .u64 (aL A), .int .u64 (aH M), .int .u64 (aL M)], .agg #[.int .u8 f, .int .u64 h2, .int .u64 l2, .int .i64 n1]] w (WinLeft f W xs1 w)) ∧ xs = xs0 ++ xs1 ∧ xs0.length ≤ 254 ∧ xs1.length ≤ 254) :
    Calls Try.prog 20 #[.agg #[.int .u64 (aH A), .int .u64 (aL A), .int .u64 (aH M), .int .u64 (aL M)], .agg #[.int .u8 f, .int .u64 (aH P), .int .u64 (aL P), .int .i64 ((W - k : Nat) : Int)]] w (WinLeft f W xs w) := by
  have HL := Lib.hid hlast
  have HNO := Lib.hid hno
  have HONE := Lib.hid hone
  have HTWO := Lib.hid htwo
  have HPE := Lib.hid hPE
  clear hlast hno hone htwo hPE
  obtain ⟨n, hn⟩ : ∃ n : Int, ((W - k : Nat) : Int) = n := ⟨_, rfl⟩
  have HNN := Lib.hid hn
  rw [hn] at HL HTWO ⊢
  clear hn
  go_enter Try.func20, Try.ntmps20
  go_wp2_with fail
  generalize hv : World.alloc (World.alloc _ _) _ = v
  have TS : RowKit.Hid (Sp4 w.heap.size v (aH A) (aL A) (aH M) (aL M)) := Lib.hid (by rw [← hv]; exact (Sp4.new w _ _ _ _ _).on (below_new _ _))
  have TP : RowKit.Hid (Pf4 (w.heap.size + 1) v f (aH P) (aL P) n) := Lib.hid (by
    rw [← hv]
    have := Pf4.new (w.alloc (.cells #[.int .u64 (aH A), .int .u64 (aL A), .int .u64 (aH M), .int .u64 (aL M)] 26)) f (aH P) (aL P) n 28
    simpa using this)
  have HB := Lib.hid (show Below w.heap.size w v by rw [← hv]; exact ((Below.refl _ _).alloc (Nat.le_refl _) _).alloc (by simp) _)
  clear hv
  obtain ⟨p0, p1, p2, p3, _, _, _, _⟩ := TP.out
  go_wp2_with fail
  refine (HL.out v).mono ?_
  rintro e w1 ⟨rfl, hb1⟩
  have TS1 := Lib.hid (TS.out.on hb1)
  have TP1 := Lib.hid (TP.out.on hb1)
  have HB1 := Lib.hid (HB.out.trans (hb1.mono HB.out.size))
  clear hb1 TS TP HB p0 p1 p2 p3
  go_upto_region 2 with fail
  obtain ⟨Q, hQ⟩ : ∃ Q, w1.heap.size = Q := ⟨_, rfl⟩
  generalize hv : World.alloc _ _ = v2
  have TA2 : RowKit.Hid (Ad2 Q v2 (aH E) (aL E)) := Lib.hid (by rw [← hv, ← hQ]; exact Ad2.new w1 _ _ _)
  have TS2 := Lib.hid (show Sp4 w.heap.size v2 (aH A) (aL A) (aH M) (aL M) by rw [← hv]; exact TS1.out.on (below_new _ _))
  have TP2 := Lib.hid (show Pf4 (w.heap.size + 1) v2 f (aH P) (aL P) n by rw [← hv]; exact TP1.out.on (below_new _ _))
  have HB2 := Lib.hid (show Below w.heap.size w v2 by rw [← hv]; exact HB1.out.alloc HB1.out.size _)
  clear hv TS1 TP1 HB1
  try rw [hQ]
  clear hQ
  obtain ⟨s0, s1, s2, s3, _⟩ := TS2.out
  obtain ⟨p0, p1, p2, p3, _, _, _, _⟩ := TP2.out
  obtain ⟨a0, a1, _, _⟩ := TA2.out
  by_cases hEA : E < A
  · obtain rfl : xs = [] := HNO.out (Or.inl hEA)
    have HC1 := Lib.hid (fun w => rcmp_k E A (-1) (cmpN_neg hEA) w)
    clear hEA
    go_wp2_with fail
    refine (HC1.out v2).mono ?_
    rintro e w3 ⟨rfl, hb3⟩
    have HB3 := Lib.hid (HB2.out.trans (hb3.mono HB2.out.size))
    clear hb3 s0 s1 s2 s3 p0 p1 p2 p3 a0 a1
    go_wp2_with fail
    go_ret
    exact ⟨_, rfl, World.ownsRow_nil _ _ _ _, by simp, HB3.out⟩
  · obtain ⟨k1, hk1⟩ : ∃ k1, cmpN E A = k1 := ⟨_, rfl⟩
    have hk1n : ¬ k1 < 0 := by have := cmpN_nn hEA; omega
    have HC1 := Lib.hid (fun w => rcmp_k E A k1 hk1 w)
    have HEA := Lib.hid hEA
    clear hEA hk1
    go_wp2_with fail
    refine (HC1.out v2).mono ?_
    rintro e w3 ⟨rfl, hb3⟩
    have HB3 := Lib.hid (HB2.out.trans (hb3.mono HB2.out.size))
    have TS3 := Lib.hid (TS2.out.on hb3)
    have TP3 := Lib.hid (TP2.out.on hb3)
    have TA3 := Lib.hid (TA2.out.on hb3)
    clear hb3 s0 s1 s2 s3 p0 p1 p2 p3 a0 a1 HB2 TS2 TP2 TA2 HC1
    obtain ⟨s0, s1, s2, s3, _⟩ := TS3.out
    obtain ⟨p0, p1, p2, p3, _, _, _, _⟩ := TP3.out
    obtain ⟨a0, a1, _, _⟩ := TA3.out
    by_cases hMP : M < P
    · obtain rfl : xs = [] := HNO.out (Or.inr hMP)
      have HC2 := Lib.hid (fun w => rcmp_k M P (-1) (cmpN_neg hMP) w)
      clear hMP
      go_wp2_with fail
      refine (HC2.out w3).mono ?_
      rintro e w4 ⟨rfl, hb4⟩
      have HB4 := Lib.hid (HB3.out.trans (hb4.mono HB3.out.size))
      clear hb4 s0 s1 s2 s3 p0 p1 p2 p3 a0 a1
      go_wp2_with fail
      go_ret
      exact ⟨_, rfl, World.ownsRow_nil _ _ _ _, by simp, HB4.out⟩
    · obtain ⟨k2, hk2⟩ : ∃ k2, cmpN M P = k2 := ⟨_, rfl⟩
      have hk2n : ¬ k2 < 0 := by have := cmpN_nn hMP; omega
      have HC2 := Lib.hid (fun w => rcmp_k M P k2 hk2 w)
      have HMP := Lib.hid hMP
      clear hMP hk2
      go_wp2_with fail
      refine (HC2.out w3).mono ?_
      rintro e w4 ⟨rfl, hb4⟩
      have HB4 := Lib.hid (HB3.out.trans (hb4.mono HB3.out.size))
      have TS4 := Lib.hid (TS3.out.on hb4)
      have TP4 := Lib.hid (TP3.out.on hb4)
      have TA4 := Lib.hid (TA3.out.on hb4)
      clear hb4 s0 s1 s2 s3 p0 p1 p2 p3 a0 a1 HB3 TS3 TP3 TA3 HC2
      obtain ⟨s0, s1, s2, s3, _⟩ := TS4.out
      obtain ⟨p0, p1, p2, p3, _, _, _, _⟩ := TP4.out
      obtain ⟨a0, a1, _, _⟩ := TA4.out
      by_cases hin : A ≤ P ∧ E ≤ M
      · obtain rfl : xs = [(P, k)] := HONE.out hin
        have HI1 := Lib.hid (fun w => rin_b A M P true (by have := HPE.out; simp; omega) w)
        have HI2 := Lib.hid (fun w => rin_b A M E true (by have := HPE.out; simp; omega) w)
        clear hin
        go_wp2_with fail
        refine (HI1.out w4).mono ?_
        rintro e w5 ⟨rfl, hb5⟩
        have HB5 := Lib.hid (HB4.out.trans (hb5.mono HB4.out.size))
        have TS5 := Lib.hid (TS4.out.on hb5)
        have TP5 := Lib.hid (TP4.out.on hb5)
        have TA5 := Lib.hid (TA4.out.on hb5)
        clear hb5 s0 s1 s2 s3 p0 p1 p2 p3 a0 a1 HB4 TS4 TP4 TA4
        obtain ⟨s0, s1, s2, s3, _⟩ := TS5.out
        obtain ⟨a0, a1, _, _⟩ := TA5.out
        go_wp2_with fail
        refine (HI2.out w5).mono ?_
        rintro e w6 ⟨rfl, hb6⟩
        have HB6 := Lib.hid (HB5.out.trans (hb6.mono HB5.out.size))
        have TP6 := Lib.hid (TP5.out.on hb6)
        clear hb6 s0 s1 s2 s3 a0 a1 HB5 TS5 TP5 TA5
        obtain ⟨p0, p1, p2, p3, _, _, _, _⟩ := TP6.out
        go_wp2_with fail
        go_ret
        refine ⟨_, rfl, ?_, by simp, HB6.out.alloc HB6.out.size _⟩
        rw [← HNN.out]
        exact ⟨rfl, .inr ⟨w6.heap.size, 1, _, rfl, HB6.out.size, heap_alloc_new w6 _, Nat.le_refl _, by unfold maxLen; omega, rfl, rfl⟩⟩
      · obtain ⟨n1, h1, l1, h2, l2, xs0, xs1, q1, q2, q3, q4, rfl, q6, q7⟩ := HTWO.out (by have := HEA.out; have := HMP.out; omega) hin
        have Q1 := Lib.hid q1
        have Q2 := Lib.hid q2
        have Q3 := Lib.hid q3
        have Q4 := Lib.hid q4
        have L0 := Lib.hid q6
        have L1 := Lib.hid q7
        have HIN := Lib.hid hin
        clear q1 q2 q3 q4 q6 q7 hin
        go_upto_region 4 with fail
        go_cut [29] (fun s29 wx => s29 = .bool false ∧ Below w4.heap.size w4 wx)
        case first =>
          by_cases hAP : A ≤ P
          · have HI1 := Lib.hid (fun w => rin_b A M P true (by have := HMP.out; simp; omega) w)
            have HI2 := Lib.hid (fun w => rin_b A M E false (by have := HIN.out; simp; omega) w)
            clear hAP
            go_wp2_with fail
            refine (HI1.out w4).mono ?_
            rintro e w5 ⟨rfl, hb5⟩
            have HB5 := Lib.hid hb5
            have TS5 := Lib.hid (TS4.out.on hb5)
            have TA5 := Lib.hid (TA4.out.on hb5)
            clear hb5 s0 s1 s2 s3 p0 p1 p2 p3 a0 a1
            obtain ⟨s0, s1, s2, s3, _⟩ := TS5.out
            obtain ⟨a0, a1, _, _⟩ := TA5.out
            go_wp2_with fail
            refine (HI2.out w5).mono ?_
            rintro e w6 ⟨rfl, hb6⟩
            have HB6 := Lib.hid (HB5.out.trans (hb6.mono HB5.out.size))
            clear hb6 s0 s1 s2 s3 a0 a1
            go_wp2_with fail
            go_meet
            exact ⟨rfl, HB6.out⟩
          · have HI1 := Lib.hid (fun w => rin_b A M P false (by simp; omega) w)
            clear hAP
            go_wp2_with fail
            refine (HI1.out w4).mono ?_
            rintro e w5 ⟨rfl, hb5⟩
            have HB5 := Lib.hid hb5
            clear hb5 s0 s1 s2 s3 p0 p1 p2 p3 a0 a1
            go_wp2_with fail
            go_meet
            exact ⟨rfl, HB5.out⟩
        obtain ⟨rfl, hbc⟩ := hcut
        have HBC := Lib.hid (HB4.out.trans (hbc.mono HB4.out.size))
        have C0 : RowKit.Hid (C8 w.heap.size wc (aH A) (aL A) (aH M) (aL M) f (aH P) (aL P) n) := Lib.hid ((C8.mk TP4.out.lt s0 s1 s2 s3 p0 p1 p2 p3).on hbc)
        clear hbc s0 s1 s2 s3 p0 p1 p2 p3 a0 a1 HB4 TS4 TP4 TA4
        obtain ⟨i0, hi, hz0, hz1, hz2⟩ := info_parts Try.info_prefix
        go_upto_region 6 with fail
        go_region_held3 (fun z => z.cell? ⟨w.heap.size, 0, none⟩ = some (.int .u64 (aH A)) ∧ z.cell? ⟨w.heap.size, 1, none⟩ = some (.int .u64 (aL A)) ∧ z.cell? ⟨w.heap.size, 2, none⟩ = some (.int .u64 (aH M)) ∧ z.cell? ⟨w.heap.size, 3, none⟩ = some (.int .u64 (aL M)) ∧ z.cell? ⟨w.heap.size + 1, 0, none⟩ = some (.int .u8 f) ∧ z.cell? ⟨w.heap.size + 1, 1, none⟩ = some (.int .u64 (aH P)) ∧ z.cell? ⟨w.heap.size + 1, 2, none⟩ = some (.int .u64 (aL P)) ∧ z.cell? ⟨w.heap.size + 1, 3, none⟩ = some (.int .i64 n))
          (first | exact ⟨C0.out.s0, C0.out.s1, C0.out.s2, C0.out.s3, C0.out.p0, C0.out.p1, C0.out.p2, C0.out.p3⟩ | exact ⟨Ca.out.s0, Ca.out.s1, Ca.out.s2, Ca.out.s3, Ca.out.p0, Ca.out.p1, Ca.out.p2, Ca.out.p3⟩ | exact ⟨Cb.out.s0, Cb.out.s1, Cb.out.s2, Cb.out.s3, Cb.out.p0, Cb.out.p1, Cb.out.p2, Cb.out.p3⟩ | exact ⟨Cc.out.s0, Cc.out.s1, Cc.out.s2, Cc.out.s3, Cc.out.p0, Cc.out.p1, Cc.out.p2, Cc.out.p3⟩ | exact ⟨Cd.out.s0, Cd.out.s1, Cd.out.s2, Cd.out.s3, Cd.out.p0, Cd.out.p1, Cd.out.p2, Cd.out.p3⟩ | exact ⟨Ce.out.s0, Ce.out.s1, Ce.out.s2, Ce.out.s3, Ce.out.p0, Ce.out.p1, Ce.out.p2, Ce.out.p3⟩)
          (first
            | (go_at_call 37; (with_reducible refine (Q1.out _).mono ?_); rintro e wa ⟨rfl, hba⟩; have HBa := Lib.hid (((Below.refl wc.heap.size wc).drew).trans hba); have Ca := Lib.hid (C0.out.on HBa.out); clear hba)
            | (go_at_call 37; (with_reducible refine (Q2.out _).mono ?_); rintro e wd ⟨rfl, hbd⟩; have HBd := Lib.hid hbd; have Cc := Lib.hid (Cb.out.on hbd); clear hbd)
            | (go_at_call 20; (with_reducible refine (Q3.out _).mono ?_); rintro e wb ⟨v0, rfl, hown0, hnil0, hbb⟩; have HBb := Lib.hid hbb; have HO0 := Lib.hid hown0; have HNil0 := Lib.hid hnil0; have Cb := Lib.hid (Ca.out.on hbb); clear hbb hown0 hnil0)
            | (go_at_call 20; (with_reducible refine (Q4.out _).mono ?_); rintro e we ⟨v1, rfl, hown1, hnil1, hbe⟩; have HBe := Lib.hid hbe; have HO1 := Lib.hid hown1; have HNil1 := Lib.hid hnil1; have Cd := Lib.hid (Cc.out.on hbe); have hle : w.heap.size ≤ wa.heap.size := Nat.le_trans HBC.out.size HBa.out.size; have hle2 : w.heap.size ≤ we.heap.size := Nat.le_trans hle (Nat.le_trans HBb.out.size (Nat.le_trans HBd.out.size hbe.size)); have HV := Lib.hid (owns_mono (owns_on (owns_on HO0.out HBd.out) hbe) hle); have HLE := Lib.hid hle2; clear hbe hown1 hnil1 hle hle2)
            | (refine step_app_two (by rfl) (.tmp 35) (.tmp 39) 34 (by rfl) Try.underlying34 hi hz0 hz1 hz2 rfl (by decide) (by rfl) (by rfl) HV.out HO1.out (pcells_one f W xs1) (by have := L0.out; have := L1.out; unfold maxLen; omega) (by have := L0.out; have := L1.out; omega) HLE.out ?_; intro vf wf hownf hgf hnilf; have HOF := Lib.hid hownf; have HGF := Lib.hid hgf; have HNF := Lib.hid hnilf; have Ce := Lib.hid (Cd.out.grown hgf (fun g hg => Nat.lt_of_lt_of_le Ca.out.lt (HO0.out.lt g hg).1)); clear hownf hgf hnilf))
        go_wp2_with fail
        go_ret
        have hle : w.heap.size ≤ wa.heap.size := Nat.le_trans HBC.out.size HBa.out.size
        refine ⟨vf, rfl, ?_, ?_, ?_⟩
        · rw [pcells_app, List.length_append]
          exact HOF.out
        · have h1 := HNF.out
          have h2 := HNil0.out
          have h3 := HNil1.out
          rw [List.length_append, h1, h2]
          omega
        · refine Below.grown ?_ HGF.out HLE.out (fun g hg => Nat.le_trans hle (HO0.out.lt g hg).1)
          exact (((HBC.out.trans (HBa.out.mono HBC.out.size)).trans (HBb.out.mono hle)).trans (HBd.out.mono (Nat.le_trans hle HBb.out.size))).trans (HBe.out.mono (Nat.le_trans hle (Nat.le_trans HBb.out.size HBd.out.size)))
/-- what lies in a block -/
theorem within_any {f : Int} {W A M : Nat} (hf : Fam f W) (hAM : A ≤ M) (hM : M < 2 ^ W) : ∀ (k P : Nat), k ≤ W → P % 2 ^ k = 0 → P < 2 ^ W → (k = W ∨ P % 2 ^ (k + 1) ≠ 0 ∨ ¬ (A ≤ P ∧ P + 2 ^ (k + 1) ≤ M + 1)) → ∀ w : World,
    Calls Try.prog 20 #[.agg #[.int .u64 (aH A), .int .u64 (aL A), .int .u64 (aH M), .int .u64 (aL M)], .agg #[.int .u8 f, .int .u64 (aH P), .int .u64 (aL P), .int .i64 ((W - k : Nat) : Int)]] w (WinLeft f W (win A M k P) w) := by
  obtain ⟨w1, w2, w3, w4⟩ := hf.wid
  intro k
  induction k with
  | zero =>
    intro P hk ha hP hx w
    have hp : 2 ^ 0 = 1 := rfl
    have hl := fun w => rlast_any hf P (W - 0) (Nat.sub_le _ _) hP (by rw [show W - (W - 0) = 0 by omega]; exact ha) w
    rw [show P + 2 ^ (W - (W - 0)) - 1 = P by rw [show W - (W - 0) = 0 by omega]; omega] at hl
    refine within_core f W A M P P 0 w _ hl (fun h => win_none (by omega)) (fun h => win_one (by omega) (by omega)) (Nat.le_refl _) (fun h1 h2 => ?_)
    exact absurd (show A ≤ P ∧ P ≤ M by omega) h2
  | succ k ih =>
    intro P hk ha hP hx w
    have hp := Nat.two_pow_pos k
    have e2 : 2 ^ (k + 1) = 2 ^ k + 2 ^ k := by rw [Nat.pow_succ]; omega
    have ek : W - (W - (k + 1)) = k + 1 := by omega
    have hl := fun w => rlast_any hf P (W - (k + 1)) (Nat.sub_le _ _) hP (by rw [ek]; exact ha) w
    rw [ek] at hl
    refine within_core f W A M P (P + 2 ^ (k + 1) - 1) (k + 1) w _ hl (fun h => win_none (by omega)) (fun h => win_one (by omega) (by omega)) (by omega) (fun h1 h2 => ?_)
    have hn1 : ¬ (A ≤ P ∧ P + 2 ^ (k + 1) ≤ M + 1) := by omega
    have hd : P % 2 ^ k = 0 := dvd_of_le ha (by omega)
    have hd2 : (P + 2 ^ k) % 2 ^ k = 0 := by rw [Nat.add_mod_right]; exact hd
    have hx2 : (P + 2 ^ k) % 2 ^ (k + 1) ≠ 0 := by
      obtain ⟨q, rfl⟩ := Nat.dvd_of_mod_eq_zero ha
      rw [Nat.mul_add_mod, Nat.mod_eq_of_lt (by omega)]
      omega
    have hblk := blk_le ha hP hk
    have h5 := fun w => rhalf_any hf P (W - (k + 1)) 0 (Or.inl rfl) (by omega) hP (by rw [ek]; exact ha) w
    have h6 := fun w => rhalf_any hf P (W - (k + 1)) 1 (Or.inr rfl) (by omega) hP (by rw [ek]; exact ha) w
    rw [show W - 1 - (W - (k + 1)) = k by omega, show W - (k + 1) + 1 = W - k by omega] at h5 h6
    rw [Nat.zero_mul, Nat.add_zero] at h5
    rw [Nat.one_mul] at h6
    exact ⟨_, _, _, _, _, win A M k P, win A M k (P + 2 ^ k), h5, h6, ih P (by omega) hd hP (Or.inr (Or.inr hn1)), ih (P + 2 ^ k) (by omega) hd2 (by omega) (Or.inr (Or.inl hx2)), win_two hn1 (by omega), win_len hAM hM w3 w4 (by omega) hd (Or.inr (Or.inr hn1)), win_len hAM hM w3 w4 (by omega) hd2 (Or.inr (Or.inl hx2))⟩
end Go.Proofs.Ytjngfieggacpiaa
