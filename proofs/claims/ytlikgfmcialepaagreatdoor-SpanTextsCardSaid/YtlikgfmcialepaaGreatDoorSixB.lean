/-
  THE WALKS over the strings of package number: eight groups, and what is read of them.
-/
import Derived.Test.YtlikgfmcialepaaGreatDoorSixA
namespace Go.Proofs.YtlikgfmcialepaaGreatDoor
open Go.RowKit Adr
set_option linter.unusedVariables false
theorem or16 (a n : Nat) (ha : a < 281474976710656) (hn : n < 65536) : bits BinOp.or IntKind.u64 ((a : Int) * 65536) n = ((a * 65536 + n : Nat) : Int) := by
  have h1 := bits_or_u64_nat (a * 65536) n (by omega) (by omega)
  have h2 : a * 65536 ||| n = a * 65536 + n := by
    have := Nat.shiftLeft_add_eq_or_of_lt (b := n) (i := 16) (by omega) a
    rw [Nat.shiftLeft_eq] at this
    exact this.symm
  rw [h2] at h1
  rw [← h1]
  congr 1
/-- the first k groups of four, one number -/
def uni (g : Nat → Nat) : Nat → Nat
  | 0 => 0
  | k + 1 => uni g k * 65536 + g k
theorem uni_lt (g : Nat → Nat) (h : ∀ j, g j < 65536) : ∀ k, uni g k < 65536 ^ k
  | 0 => by simp [uni]
  | k + 1 => by
    have ih := uni_lt g h k
    have := h k
    unfold uni
    rw [Nat.pow_succ]
    omega
def UniRel (g : Nat → Nat) (w : World) (k : Nat) (wr : World) : Prop :=
  Below w.heap.size w wr ∧ w.heap.size + 2 < wr.heap.size ∧ (∀ j, j < 8 → wr.cell? ⟨w.heap.size, j, none⟩ = some (.int .u16 (g j : Nat))) ∧
    wr.cell? ⟨w.heap.size + 1 + 1, 0, none⟩ = some (.int .u64 (uni g k : Nat)) ∧ wr.cell? ⟨w.heap.size + 1 + 1, 1, none⟩ = some (.int .u64 (uni (fun j => g (4 + j)) k : Nat)) ∧
    (∀ j, wr.frozen? ⟨w.heap.size + 1 + 1, j, none⟩ = false) ∧ (∀ j, wr.frozen? ⟨w.heap.size + 1, j, none⟩ = false) ∧
    wr.cell? ⟨w.heap.size + 1, 0, none⟩ = some (.int .u64 0) ∧ wr.cell? ⟨w.heap.size + 1, 1, none⟩ = some (.int .u64 0)
set_option maxRecDepth 100000 in
set_option maxHeartbeats 2000000 in
theorem unite_any (g : Nat → Nat) (h : ∀ j, g j < 65536) (w : World) :
    Calls Tryz.prog 58 #[.agg #[.int .u16 (g 0 : Nat), .int .u16 (g 1 : Nat), .int .u16 (g 2 : Nat), .int .u16 (g 3 : Nat), .int .u16 (g 4 : Nat), .int .u16 (g 5 : Nat), .int .u16 (g 6 : Nat), .int .u16 (g 7 : Nat)]] w fun e w' => e = .returned (.agg #[.int .u64 (uni g 4 : Nat), .int .u64 (uni (fun j => g (4 + j)) 4 : Nat)]) ∧ Below w.heap.size w w' := by
  have H := Lib.hid h
  clear h
  go_enter Tryz.func58, Tryz.ntmps58
  go_wp2_with fail
  go_loopw [5] (fun i wr => ∃ k : Nat, k ≤ 4 ∧ i = .int .i64 k ∧ UniRel g w k wr) (fun i _ => 4 - (intOf i).toNat)
  case atStart =>
    refine ⟨0, by omega, rfl, (((Below.refl _ _).alloc (Nat.le_refl _) _).alloc (by simp) _).alloc (by simp; omega) _, by simp, fun j hj => ?_, by go_simp; rfl, by go_simp; rfl, fun j => by go_simp, fun j => by go_simp, by go_simp, by go_simp⟩
    have hj0 : j = 0 ∨ j = 1 ∨ j = 2 ∨ j = 3 ∨ j = 4 ∨ j = 5 ∨ j = 6 ∨ j = 7 := by omega
    rcases hj0 with rfl | rfl | rfl | rfl | rfl | rfl | rfl | rfl <;> (go_simp)
  case round =>
    obtain ⟨k, hk, rfl, hrl⟩ := hrel
    have HR := Lib.hid hrl
    clear hrl
    by_cases hlt : k < 4
    · obtain ⟨r1, r2, r3, r4, r5, r6, r7, r8, r9⟩ := HR.out
      have HR1 := Lib.hid r1
      have c0 := r3 k (by omega)
      have c1 := r3 (4 + k) (by omega)
      obtain ⟨x, hx⟩ : ∃ x, g k = x := ⟨_, rfl⟩
      obtain ⟨y, hy⟩ : ∃ y, g (4 + k) = y := ⟨_, rfl⟩
      obtain ⟨a, ha⟩ : ∃ a, uni g k = a := ⟨_, rfl⟩
      obtain ⟨b, hb⟩ : ∃ b, uni (fun j => g (4 + j)) k = b := ⟨_, rfl⟩
      have x65 : x < 65536 := by rw [← hx]; exact H.out k
      have y65 : y < 65536 := by rw [← hy]; exact H.out (4 + k)
      have pk : 65536 ^ k ≤ 281474976710656 := by
        have h2 : 65536 ^ k ≤ 65536 ^ 3 := Nat.pow_le_pow_right (by omega) (by omega)
        have h3 : (65536 : Nat) ^ 3 = 281474976710656 := by decide
        omega
      have a48 : a < 281474976710656 := by have := uni_lt g H.out k; omega
      have b48 : b < 281474976710656 := by have := uni_lt (fun j => g (4 + j)) (fun j => H.out (4 + j)) k; omega
      have ea : uni g (k + 1) = a * 65536 + x := by rw [← ha, ← hx]; rfl
      have eb : uni (fun j => g (4 + j)) (k + 1) = b * 65536 + y := by rw [← hb, ← hy]; rfl
      rw [hx] at c0
      rw [hy] at c1
      rw [ha] at r4
      rw [hb] at r5
      have f0 := r6 0
      have f1 := r6 1
      have or1 := or16 a x a48 x65
      have or2 := or16 b y b48 y65
      have w1 : IntKind.u64.wrap ((a : Int) * 65536) = (a : Int) * 65536 := wrap_u64 ⟨by omega, by omega⟩
      have w2 : IntKind.u64.wrap ((b : Int) * 65536) = (b : Int) * 65536 := wrap_u64 ⟨by omega, by omega⟩
      have w3 : IntKind.u64.wrap (x : Int) = (x : Int) := wrap_u64 ⟨by omega, by omega⟩
      have w4 : IntKind.u64.wrap (y : Int) = (y : Int) := wrap_u64 ⟨by omega, by omega⟩
      have HEA := Lib.hid ea
      have HEB := Lib.hid eb
      have HR3 := Lib.hid r3
      have HR6 := Lib.hid r6
      have HR7 := Lib.hid r7
      clear ea eb r3 r6 r7 pk ha hb hx hy r1
      go_wp2_with fail
      go_region
      all_goals
        go_wp2_with fail
        go_region
        all_goals
          go_wp2_with fail
          go_roundw
          case rel =>
            refine ⟨k + 1, by omega, by go_num, ?_, ?_, fun j hj => ?_, ?_, ?_, fun j => ?_, fun j => ?_, ?_, ?_⟩
            · exact ((HR1.out.setCell (by simp; omega) _).setCell (by simp; omega) _).drew.drew
            · simpa using r2
            · exact cell_far (cell_far (HR3.out j hj) (by simp)) (by simp)
            · rw [HEA.out]
              exact (two_set r4 r5).1
            · rw [HEB.out]
              exact (two_set r4 r5).2
            · simpa using HR6.out j
            · simpa using HR7.out j
            · exact cell_far (cell_far r8 (by simp)) (by simp)
            · exact cell_far (cell_far r9 (by simp)) (by simp)
          case measure => simp [intOf]; omega
    · have ek : k = 4 := by omega
      subst ek
      obtain ⟨r1, r2, r3, r4, r5, r6, r7, r8, r9⟩ := HR.out
      have R1 := Lib.hid r1
      have f0 := r7 0
      have f1 := r7 1
      clear r1 r3 r6 r7
      go_wp2_with fail
      refine bodyPost_ret (v := .agg #[.int .u64 (uni g 4 : Nat), .int .u64 (uni (fun j => g (4 + j)) 4 : Nat)]) (by simp [results, Tryz.results58, go_sem, r8, r9]) rfl ⟨rfl, (R1.out.setCell (by simp) _).setCell (by simp) _⟩
/-- what readSix leaves: the two numbers of eight groups, or none -/
def six (s : ByteArray) : Option (Nat × Nat) := (sixR s).map fun g => (uni (fun j => g.getD j 0) 4, uni (fun j => g.getD (4 + j) 0) 4)
theorem cut6_small (s : ByteArray) : (cut6A s).size ≤ s.size ∧ (cut6B s).size ≤ s.size := by
  have hs : s.data.toList.length = s.size := by simp
  unfold cut6A cut6B Lib.cut
  split
  · constructor
    · show (List.take _ _).toArray.size ≤ _
      rw [List.size_toArray, List.length_take]
      omega
    · show (List.drop _ _).toArray.size ≤ _
      rw [List.size_toArray, List.length_drop]
      omega
  · constructor
    · show (s.data.toList).toArray.size ≤ _
      rw [List.size_toArray]
      omega
    · show ([] : List UInt8).toArray.size ≤ _
      simp
theorem grpR_len {s : ByteArray} {l : List Nat} (h : grpR s = some l) : l.length ≤ s.size + 1 := by
  unfold grpR at h
  split at h
  · have : l = [] := by simpa using h.symm
    subst this
    simp
  · rw [(hexAll_le _ _ h).2]
    exact countB_small 58 s
/-- a row, opened as far as its length -/
theorem RowIs.slice {n : Nat} {w : World} {v : Value} {l : List Nat} (h : RowIs n w v l) : ∃ p cap, v = .slice p l.length cap ∧
    RowKit.Hid (0 < l.length → ∃ g, p = some ⟨g, 0, none⟩ ∧ n ≤ g ∧ g < w.heap.size ∧ ∀ (j x : Nat), l[j]? = some x → w.cell? ⟨g, j, none⟩ = some (.int .u16 x)) := by
  rcases h with ⟨rfl, rfl⟩ | ⟨g, cap, rfl, h2, h3, h4, h5, h6, h7⟩
  · exact ⟨none, 0, rfl, Lib.hid (fun h => by simp at h)⟩
  · exact ⟨_, cap, rfl, Lib.hid (fun _ => ⟨g, rfl, h3, h4, h7⟩)⟩
def SixLeft (r : Option (Nat × Nat)) (w : World) (e : Ending) (w' : World) : Prop :=
  e = .returned (.tuple #[.agg #[.int .u64 ((r.map (·.1)).getD 0 : Nat), .int .u64 ((r.map (·.2)).getD 0 : Nat)], .bool r.isSome]) ∧ Below w.heap.size w w'
set_option maxHeartbeats 2000000 in
/-- what is no address -/
theorem six_no (s : ByteArray) (w : World) (env : Env true w) (hs : s.size ≤ 1000) (ra rb : Option (List Nat)) (F : Bool) (ha : grpR (cut6A s) = ra) (hb : grpR (cut6B s) = rb) (hf : cut6F s = F)
    (hno : ra = none ∨ rb = none ∨ 8 < (ra.getD []).length + (rb.getD []).length ∨ F = false ∧ (ra.getD []).length + (rb.getD []).length ≠ 8) :
    Calls Tryz.prog 31 #[.string s] w (SixLeft none w) := by
  obtain ⟨m, hm⟩ := env.mx
  have hG := env.big
  have HE := Lib.hid env
  have hcut := Tryz.strings_Cut s ⟨#[58, 58]⟩ m (w.alloc (.cells #[.int .u64 0, .int .u64 0] 24)) (by omega) ((World.cell?_alloc_past _ _ _ (by omega)).trans hm)
  rw [show (Lib.cut s.data.toList (⟨#[58, 58]⟩ : ByteArray).data.toList).2.2 = F from hf] at hcut
  have HCUT := Lib.hid hcut
  obtain ⟨la, hla⟩ : ∃ la, (ra.getD []).length = la := ⟨_, rfl⟩
  obtain ⟨lb, hlb⟩ : ∃ lb, (rb.getD []).length = lb := ⟨_, rfl⟩
  have ba : la ≤ 1001 := by
    rw [← hla]
    cases ra with
    | none => simp
    | some l => have := grpR_len ha; have := (cut6_small s).1; simp only [Option.getD_some]; omega
  have bb : lb ≤ 1001 := by
    rw [← hlb]
    cases rb with
    | none => simp
    | some l => have := grpR_len hb; have := (cut6_small s).2; simp only [Option.getD_some]; omega
  rw [hla, hlb] at hno
  have GA := Lib.hid (fun w env => grp_any (cut6A s) w env (by have := (cut6_small s).1; omega))
  have GB := Lib.hid (fun w env => grp_any (cut6B s) w env (by have := (cut6_small s).2; omega))
  rw [ha] at GA
  rw [hb] at GB
  have HLA := Lib.hid hla
  have HLB := Lib.hid hlb
  have HNO := Lib.hid hno
  have HSUM : IntKind.i64.wrap ((la : Int) + (lb : Int)) = (la : Int) + (lb : Int) := IntWalk.i64_in _ (by omega)
  clear hcut env hs hm ha hb hla hlb hno hf
  have fin : ∀ (w' : World), Below w.heap.size w w' → Below w.heap.size w ((w'.setCell ⟨w.heap.size, 0, none⟩ (.int .u64 0)).setCell ⟨w.heap.size, 1, none⟩ (.int .u64 0)) := fun w' h => two_below h (Nat.le_refl _)
  have FIN := Lib.hid fin
  clear fin
  go_enter Tryz.func31, Tryz.ntmps31
  go_wp2_with fail
  refine HCUT.out.mono ?_
  rintro e w1 ⟨rfl, nq, rfl⟩
  go_wp2_with fail
  have HB1 := Lib.hid (show Below w.heap.size w ((w.alloc (.cells #[.int .u64 0, .int .u64 0] 24)).drewN nq) from below_drewN ((Below.refl _ _).alloc (Nat.le_refl _) _) _)
  obtain ⟨w1, hw1⟩ : ∃ w1 : World, (w.alloc (.cells #[.int .u64 0, .int .u64 0] 24)).drewN nq = w1 := ⟨_, rfl⟩
  have x0 : w1.cell? ⟨w.heap.size, 0, none⟩ = some (.int .u64 0) := by rw [← hw1]; simp
  have x1 : w1.cell? ⟨w.heap.size, 1, none⟩ = some (.int .u64 0) := by rw [← hw1]; simp
  have y0 : w1.frozen? ⟨w.heap.size, 0, none⟩ = false := by rw [← hw1]; simp
  have y1 : w1.frozen? ⟨w.heap.size, 1, none⟩ = false := by rw [← hw1]; simp
  have z1 : w.heap.size < w1.heap.size := World.block_lt_of_cell? _ _ x0
  rw [hw1] at HB1 ⊢
  clear hw1
  refine (GA.out w1 (HE.out.below HB1.out hG)).mono ?_
  rintro e w2 ⟨va, rfl, hra, hb2⟩
  obtain ⟨pa, ca, rfl, hra'⟩ := hra.slice
  rw [HLA.out]
  have x0' := (hb2.cell (p := ⟨w.heap.size, 0, none⟩) z1).trans x0
  have x1' := (hb2.cell (p := ⟨w.heap.size, 1, none⟩) z1).trans x1
  have y0' := (hb2.frozen (p := ⟨w.heap.size, 0, none⟩) z1).trans y0
  have y1' := (hb2.frozen (p := ⟨w.heap.size, 1, none⟩) z1).trans y1
  have HB2 := Lib.hid (HB1.out.trans (hb2.mono (by omega)))
  have z2 : w.heap.size < w2.heap.size := World.block_lt_of_cell? _ _ x0'
  clear hb2 hra x0 x1 y0 y1 z1 HB1
  go_wp2_with fail
  refine (GB.out w2 (HE.out.below HB2.out hG)).mono ?_
  rintro e w3 ⟨vb, rfl, hrb, hb3⟩
  obtain ⟨pb, cb, rfl, hrb'⟩ := hrb.slice
  rw [HLB.out]
  have p0 := (hb3.cell (p := ⟨w.heap.size, 0, none⟩) z2).trans x0'
  have p1 := (hb3.cell (p := ⟨w.heap.size, 1, none⟩) z2).trans x1'
  have q0 := (hb3.frozen (p := ⟨w.heap.size, 0, none⟩) z2).trans y0'
  have q1 := (hb3.frozen (p := ⟨w.heap.size, 1, none⟩) z2).trans y1'
  have HB3 := Lib.hid (HB2.out.trans (hb3.mono (by omega)))
  clear hb3 hrb x0' x1' y0' y1' z2 HB2
  have TS := Lib.hid (fun (v0 v1 : Value) => two_set (v0 := v0) (v1 := v1) p0 p1)
  rcases ra with _ | la'
  · go_wp2_with fail
    have A := TS.out (.int .u64 0) (.int .u64 0)
    refine bodyPost_ret (v := .tuple #[.agg #[.int .u64 0, .int .u64 0], .bool false]) (by simp [results, Tryz.results31, go_sem, A.1, A.2]) rfl ⟨rfl, FIN.out _ HB3.out⟩
  · rcases rb with _ | lb'
    · go_wp2_with fail
      have A := TS.out (.int .u64 0) (.int .u64 0)
      refine bodyPost_ret (v := .tuple #[.agg #[.int .u64 0, .int .u64 0], .bool false]) (by simp [results, Tryz.results31, go_sem, A.1, A.2]) rfl ⟨rfl, FIN.out _ HB3.out⟩
    · by_cases h8 : (8 : Int) < (la : Int) + (lb : Int)
      · go_wp2_with fail
        have A := TS.out (.int .u64 0) (.int .u64 0)
        refine bodyPost_ret (v := .tuple #[.agg #[.int .u64 0, .int .u64 0], .bool false]) (by simp [results, Tryz.results31, go_sem, A.1, A.2]) rfl ⟨rfl, FIN.out _ HB3.out⟩
      · have hq : F = false ∧ la + lb ≠ 8 := by
          rcases HNO.out with h | h | h | h
          · cases h
          · cases h
          · omega
          · exact h
        obtain ⟨rfl, hne⟩ := hq
        have h9 : ((la : Int) + (lb : Int) != 8) = true := by rw [bne_iff_ne]; omega
        clear hne
        go_wp2_with fail
        have A := TS.out (.int .u64 0) (.int .u64 0)
        refine bodyPost_ret (v := .tuple #[.agg #[.int .u64 0, .int .u64 0], .bool false]) (by simp [results, Tryz.results31, go_sem, A.1, A.2]) rfl ⟨rfl, FIN.out _ HB3.out⟩
end Go.Proofs.YtlikgfmcialepaaGreatDoor
