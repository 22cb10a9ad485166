/-
  THE WALKS over the strings of package number: eight groups out of two rows.
-/
import Derived.Test.YtlikgfmcialepaaGreatDoorSixB
import Derived.Laws.CopyOwn
namespace Go.Proofs.YtlikgfmcialepaaGreatDoor
open Go.RowKit Adr
set_option linter.unusedVariables false
abbrev z8 : List Value := List.replicate 8 (.int .u16 0)
def u16s (l : List Nat) : List Value := l.map fun x : Nat => Value.int .u16 (x : Int)
theorem splice_fill (a b : List Nat) (h : a.length + b.length ≤ 8) : splice (splice z8 0 (u16s a)) (8 - b.length) (u16s b) = u16s (fill8 a b) := by
  have e0 : splice z8 0 (u16s a) = u16s (a ++ List.replicate (8 - a.length) 0) := by
    simp only [splice, u16s, z8, List.take_zero, List.nil_append, Nat.zero_add, List.length_map, List.map_append, List.map_replicate, List.drop_replicate]
    rfl
  rw [e0]
  unfold splice fill8 u16s
  rw [← List.map_take, ← List.map_drop]
  rw [List.length_map]
  have e1 : List.drop (8 - b.length + b.length) (a ++ List.replicate (8 - a.length) 0) = [] := by
    apply List.drop_of_length_le
    simp
    omega
  have e2 : List.take (8 - b.length) (a ++ List.replicate (8 - a.length) 0) = a ++ List.replicate (8 - (a.length + b.length)) 0 := by
    rw [List.take_append, List.take_of_length_le (by omega), List.take_replicate]
    congr 2
    omega
  rw [e1, e2]
  simp
theorem row_cell {w : World} {B : Nat} {l : List Nat} {t : TypeId} (h : w.heap[B]? = some (.cells (u16s l).toArray t (0, 0))) (j : Nat) (hj : j < l.length) : w.cell? ⟨B, j, none⟩ = some (.int .u16 (l.getD j 0 : Nat)) := by
  simp only [World.cell?, h]
  simp [u16s, List.getElem?_eq_getElem hj]
theorem six_vals (g : List Nat) (hg : ∀ z ∈ g, z < 65536) : ∀ j, g.getD j 0 < 65536 := fun j => by
  by_cases h : j < g.length
  · have : g.getD j 0 ∈ g := by simp [List.getD, List.getElem?_eq_getElem h]
    exact hg _ this
  · simp [List.getD, List.getElem?_eq_none (Nat.le_of_not_lt h)]
theorem fill8_le {a b : List Nat} (ha : ∀ z ∈ a, z < 65536) (hb : ∀ z ∈ b, z < 65536) : ∀ z ∈ fill8 a b, z < 65536 := fun z hz => by
  unfold fill8 at hz
  rcases List.mem_append.1 hz with hz | hz
  · rcases List.mem_append.1 hz with hz | hz
    · exact ha z hz
    · have := (List.mem_replicate.1 hz).2; omega
  · exact hb z hz
theorem add_off (g j : Nat) : Addr.add ⟨g, 0, none⟩ j = ⟨g, j, none⟩ := by
  by_cases h : j = 0
  · subst h; rfl
  · simp [Addr.add, h]
theorem slice8 (B lb : Nat) (h : lb ≤ 8) : ∃ dp : Addr, (∀ w, (Instr.sliceAt 63 (.pointer (some ⟨B, 0, none⟩)) (some (.int .i64 (8 - (lb : Int)))) none none).run Tryz.prog w = .ok (.slice (some dp) lb lb) w) ∧ (0 < lb → dp = ⟨B, 8 - lb, none⟩) := by
  have hl : Tryz.prog.arrayLen 63 = 8 := by kernel_rfl
  have hu : Tryz.prog.underlying 63 = some (.array (Tryz.prog.arrayLen 63) (Tryz.prog.elem 63)) := by kernel_rfl
  have hsz : ∀ w, (sizeOf (Tryz.prog.elem 63)).run Tryz.prog w = .ok 1 w := fun w => by kernel_rfl
  refine ⟨if 8 = 8 - lb then ⟨B, 0, none⟩ else ⟨B, 8 - lb, none⟩, fun w => ?_, fun h0 => by rw [if_neg (by omega)]⟩
  rw [run_sliceAt_array_l w _ _ hu .i64 _ (by omega) (by rw [hl]; omega), hsz]
  have e : (8 - (lb : Int)).toNat = 8 - lb := by omega
  simp only [Result.andThen, slicedAt, hl, e]
  rw [show 8 - (8 - lb) = lb by omega]
  by_cases h8 : 8 = 8 - lb
  · rw [if_pos h8, if_pos h8]
  · rw [if_neg h8, if_neg h8]
    simp only [Addr.add, Nat.zero_add, Nat.mul_one]
    by_cases h9 : 8 - lb = 0
    · rw [if_pos h9, h9]
    · rw [if_neg h9]
set_option maxRecDepth 100000 in
set_option maxHeartbeats 4000000 in
theorem six_yes (s : ByteArray) (w : World) (env : Env true w) (hs : s.size ≤ 1000) (a b : List Nat) (F : Bool) (ha : grpR (cut6A s) = some a) (hb : grpR (cut6B s) = some b) (hf : cut6F s = F) (h8 : a.length + b.length ≤ 8)
    (hyes : F = true ∨ a.length + b.length = 8) :
    Calls Tryz.prog 31 #[.string s] w (SixLeft (some (uni (fun j => (fill8 a b).getD j 0) 4, uni (fun j => (fill8 a b).getD (4 + j) 0) 4)) w) := by
  obtain ⟨m, hm⟩ := env.mx
  have hG := env.big
  have HE := Lib.hid env
  have hcut := Tryz.strings_Cut s ⟨#[58, 58]⟩ m (w.alloc (.cells #[.int .u64 0, .int .u64 0] 24)) (by omega) ((World.cell?_alloc_past _ _ _ (by omega)).trans hm)
  rw [show (Lib.cut s.data.toList (⟨#[58, 58]⟩ : ByteArray).data.toList).2.2 = F from hf] at hcut
  have HCUT := Lib.hid hcut
  obtain ⟨g, hgd⟩ : ∃ g : Nat → Nat, (fun j => (fill8 a b).getD j 0) = g := ⟨_, rfl⟩
  have hg : ∀ j, g j < 65536 := by rw [← hgd]; exact six_vals _ (fill8_le (grpR_le ha) (grpR_le hb))
  have hgj : ∀ j, (fill8 a b).getD j 0 = g j := fun j => by rw [← hgd]
  rw [show (fun j => (fill8 a b).getD (4 + j) 0) = fun j => g (4 + j) by funext j; exact hgj _]
  have HU := Lib.hid (unite_any g hg)
  have GA := Lib.hid (fun w env => grp_any (cut6A s) w env (by have := (cut6_small s).1; omega))
  have GB := Lib.hid (fun w env => grp_any (cut6B s) w env (by have := (cut6_small s).2; omega))
  rw [ha] at GA
  rw [hb] at GB
  rw [hgd]
  have HGJ := Lib.hid hgj
  have HL := Lib.hid (show (fill8 a b).length = 8 by unfold fill8; simp; omega)
  have HSP := Lib.hid (splice_fill a b h8)
  obtain ⟨la, hla⟩ : ∃ la, a.length = la := ⟨_, rfl⟩
  obtain ⟨lb, hlb⟩ : ∃ lb, b.length = lb := ⟨_, rfl⟩
  have HLA := Lib.hid hla
  have HLB := Lib.hid hlb
  rw [hla, hlb] at h8 hyes
  have HYES := Lib.hid hyes
  have HSUM : IntKind.i64.wrap ((la : Int) + (lb : Int)) = (la : Int) + (lb : Int) := IntWalk.i64_in _ (by omega)
  have HSUB : IntKind.i64.wrap (8 - (lb : Int)) = 8 - (lb : Int) := IntWalk.i64_in _ (by omega)
  clear hcut env hs hm ha hb hla hlb hf hg hgj hgd hyes
  go_enter Tryz.func31, Tryz.ntmps31
  go_wp2_with fail
  refine HCUT.out.mono ?_
  rintro e w1 ⟨rfl, nq, rfl⟩
  go_wp2_with fail
  have HB1 := Lib.hid (show Below w.heap.size w ((w.alloc (.cells #[.int .u64 0, .int .u64 0] 24)).drewN nq) from below_drewN ((Below.refl _ _).alloc (Nat.le_refl _) _) _)
  obtain ⟨w1, hw1⟩ : ∃ w1 : World, (w.alloc (.cells #[.int .u64 0, .int .u64 0] 24)).drewN nq = w1 := ⟨_, rfl⟩
  have x0 : w1.cell? ⟨w.heap.size, 0, none⟩ = some (.int .u64 0) := by rw [← hw1]; simp
  have x1 : w1.cell? ⟨w.heap.size, 1, none⟩ = some (.int .u64 0) := by rw [← hw1]; simp
  have y0 : w1.frozen? ⟨w.heap.size, 0, none⟩ = false := by rw [← hw1]; simp
  have y1 : w1.frozen? ⟨w.heap.size, 1, none⟩ = false := by rw [← hw1]; simp
  have z1 : w.heap.size < w1.heap.size := World.block_lt_of_cell? _ _ x0
  rw [hw1] at HB1 ⊢
  clear hw1
  refine (GA.out w1 (HE.out.below HB1.out hG)).mono ?_
  rintro e w2 ⟨va, rfl, hra, hb2⟩
  have hra1 := hra
  obtain ⟨pa, ca, rfl, hra'⟩ := hra.slice
  rw [Option.getD_some, HLA.out]
  have x0' := (hb2.cell (p := ⟨w.heap.size, 0, none⟩) z1).trans x0
  have x1' := (hb2.cell (p := ⟨w.heap.size, 1, none⟩) z1).trans x1
  have y0' := (hb2.frozen (p := ⟨w.heap.size, 0, none⟩) z1).trans y0
  have y1' := (hb2.frozen (p := ⟨w.heap.size, 1, none⟩) z1).trans y1
  have HB2 := Lib.hid (HB1.out.trans (hb2.mono (by omega)))
  have z2 : w.heap.size < w2.heap.size := World.block_lt_of_cell? _ _ x0'
  clear hb2 hra hra1 x0 x1 y0 y1 z1 HB1
  go_wp2_with fail
  refine (GB.out w2 (HE.out.below HB2.out hG)).mono ?_
  rintro e w3 ⟨vb, rfl, hrb, hb3⟩
  obtain ⟨pb, cb, rfl, hrb'⟩ := hrb.slice
  rw [Option.getD_some, HLB.out]
  have p0 := (hb3.cell (p := ⟨w.heap.size, 0, none⟩) z2).trans x0'
  have p1 := (hb3.cell (p := ⟨w.heap.size, 1, none⟩) z2).trans x1'
  have q0 := (hb3.frozen (p := ⟨w.heap.size, 0, none⟩) z2).trans y0'
  have q1 := (hb3.frozen (p := ⟨w.heap.size, 1, none⟩) z2).trans y1'
  have SA := Lib.hid (fun (hp : 0 < a.length) => by
    obtain ⟨g, h1, h2, h3, h4⟩ := hra'.out hp
    exact (show ∃ g, pa = some ⟨g, 0, none⟩ ∧ g < w3.heap.size ∧ ∀ (j x : Nat), a[j]? = some x → w3.cell? ⟨g, j, none⟩ = some (.int .u16 x) from ⟨g, h1, by have := hb3.size; omega, fun j x hx => (hb3.cell (p := ⟨g, j, none⟩) h3).trans (h4 j x hx)⟩))
  have SB := Lib.hid (fun (hp : 0 < b.length) => by
    obtain ⟨g, h1, h2, h3, h4⟩ := hrb'.out hp
    exact (show ∃ g, pb = some ⟨g, 0, none⟩ ∧ g < w3.heap.size ∧ ∀ (j x : Nat), b[j]? = some x → w3.cell? ⟨g, j, none⟩ = some (.int .u16 x) from ⟨g, h1, h3, h4⟩))
  have HB3 := Lib.hid (HB2.out.trans (hb3.mono (by omega)))
  have z3 : w.heap.size < w3.heap.size := World.block_lt_of_cell? _ _ p0
  clear hb3 hrb x0' x1' y0' y1' z2 HB2 hra' hrb'
  have hn8 : ¬ (8 : Int) < (la : Int) + (lb : Int) := by omega
  have go : (F = true ∨ ((la : Int) + (lb : Int) != 8) = false) := by
    rcases HYES.out with h | h
    · exact Or.inl h
    · right; rw [bne_eq_false_iff_eq]; omega
  have HGO := Lib.hid go
  clear go
  obtain ⟨dp, hdp, hdpe⟩ := slice8 w3.heap.size lb (by omega)
  have HDP := Lib.hid hdpe
  clear hdpe
  cases F
  · obtain hE : ((la : Int) + (lb : Int) != 8) = false := by
      rcases HGO.out with h | h
      · cases h
      · exact h
    go_wp2_with (first | (with_reducible refine wpList_copy_splice rfl (.tmp 53) (.tmp 54) 110 110 rfl 61 Tryz.underlying110 ?c0 (some ⟨w3.heap.size, 0, none⟩) pa 8 8 la ca ?c1 ?c9 w3.heap.size 0 z8 63 ?c2 (u16s a) ?c3 ?c4 ?c5 ?c6 w3.heap.size w3 ?c7 ?c8 ?_; rotate_left 10; intro w4 hg4 hb4; have HB4 := Lib.hid hb4; clear hb4) | (with_reducible refine wpList_copy_splice rfl (.tmp 59) (.tmp 60) 110 110 rfl 61 Tryz.underlying110 ?d0 (some dp) pb lb lb lb cb ?d1 ?d9 w3.heap.size (8 - b.length) (splice z8 0 (u16s a)) 63 ?d2 (u16s b) ?d3 ?d4 ?d5 ?d6 w3.heap.size w3 ?d7 ?d8 ?_; rotate_left 10; intro w5 hg5 hb5; have hrow := hg5.out; rw [HSP.out] at hrow; have t0 := row_cell hrow 0 (by rw [HL.out]; decide); have t1 := row_cell hrow 1 (by rw [HL.out]; decide); have t2 := row_cell hrow 2 (by rw [HL.out]; decide); have t3 := row_cell hrow 3 (by rw [HL.out]; decide); have t4 := row_cell hrow 4 (by rw [HL.out]; decide); have t5 := row_cell hrow 5 (by rw [HL.out]; decide); have t6 := row_cell hrow 6 (by rw [HL.out]; decide); have t7 := row_cell hrow 7 (by rw [HL.out]; decide); rw [HGJ.out] at t0 t1 t2 t3 t4 t5 t6 t7; have p0' := (hb5.cell (p := ⟨w.heap.size, 0, none⟩) z3).trans p0; have p1' := (hb5.cell (p := ⟨w.heap.size, 1, none⟩) z3).trans p1; have q0' := (hb5.frozen (p := ⟨w.heap.size, 0, none⟩) z3).trans q0; have q1' := (hb5.frozen (p := ⟨w.heap.size, 1, none⟩) z3).trans q1; have HB5 := Lib.hid (HB3.out.trans (hb5.mono (by omega))); have z5 : w.heap.size < w5.heap.size := World.block_lt_of_cell? _ _ p0'; clear hb5 hrow))
    refine (HU.out w5).mono ?_
    rintro e w6 ⟨rfl, hb6⟩
    have P0 := (hb6.cell (p := ⟨w.heap.size, 0, none⟩) z5).trans p0'
    have P1 := (hb6.cell (p := ⟨w.heap.size, 1, none⟩) z5).trans p1'
    have Q0 := (hb6.frozen (p := ⟨w.heap.size, 0, none⟩) z5).trans q0'
    have Q1 := (hb6.frozen (p := ⟨w.heap.size, 1, none⟩) z5).trans q1'
    have HB6 := Lib.hid (HB5.out.trans (hb6.mono (by omega)))
    clear hb6 p0' p1' q0' q1' t0 t1 t2 t3 t4 t5 t6 t7
    go_wp2_with fail
    have A := two_set (v0 := .int .u64 (uni g 4 : Nat)) (v1 := .int .u64 (uni (fun j => g (4 + j)) 4 : Nat)) P0 P1
    refine bodyPost_ret (v := .tuple #[.agg #[.int .u64 (uni g 4 : Nat), .int .u64 (uni (fun j => g (4 + j)) 4 : Nat)], .bool true]) (by simp [results, Tryz.results31, go_sem, A.1, A.2]) rfl ⟨rfl, two_below HB6.out (Nat.le_refl _)⟩
    case c0 => kernel_rfl
    case d0 => kernel_rfl
    case c1 => rfl
    case c9 => rfl
    case d1 => rfl
    case d9 => rfl
    case c2 => exact heap_alloc_new _ _
    case d2 => exact hg4.out
    case c3 => rw [u16s, List.length_map, HLA.out]; exact (Nat.min_eq_left (by omega)).symm
    case d3 => rw [u16s, List.length_map, HLB.out]; exact (Nat.min_self _).symm
    case c4 =>
      intro h0
      rw [u16s, List.length_map] at h0
      obtain ⟨ga, h1, h2, h3⟩ := SA.out h0
      refine ⟨_, h1, fun j v hv => ?_⟩
      rw [u16s, List.getElem?_map] at hv
      cases hx : a[j]? with
      | none => rw [hx] at hv; cases hv
      | some x =>
        rw [hx] at hv
        rw [← Option.some.inj hv]
        have := h3 j x hx
        refine Eq.trans ?_ this
        rw [add_off]
        exact World.cell?_alloc_past _ _ _ h2
    case d4 =>
      intro h0
      rw [u16s, List.length_map] at h0
      obtain ⟨gb, h1, h2, h3⟩ := SB.out h0
      refine ⟨by rw [HDP.out (by have := HLB.out; omega), HLB.out], _, h1, fun j v hv => ?_⟩
      rw [u16s, List.getElem?_map] at hv
      cases hx : b[j]? with
      | none => rw [hx] at hv; cases hv
      | some x =>
        rw [hx] at hv
        rw [← Option.some.inj hv]
        have := h3 j x hx
        refine Eq.trans ?_ this
        rw [add_off]
        exact HB4.out.cell (p := ⟨gb, j, none⟩) h2
    case c5 => rw [u16s, List.length_map, HLA.out]; simp; omega
    case d5 => rw [length_splice _ _ _ (by rw [u16s, List.length_map, HLA.out]; simp; omega), u16s, List.length_map, HLB.out]; simp; omega
    case c6 =>
      intro v hv
      obtain ⟨x, _, rfl⟩ := List.mem_map.1 hv
      rfl
    case d6 =>
      intro v hv
      obtain ⟨x, _, rfl⟩ := List.mem_map.1 hv
      rfl
    case c7 => exact (Below.refl _ _).alloc (Nat.le_refl _) _
    case c8 => exact Nat.le_refl _
    case d7 => exact HB4.out
    case d8 => exact Nat.le_refl _
  · have hE : True := trivial
    go_wp2_with (first | (with_reducible refine wpList_copy_splice rfl (.tmp 53) (.tmp 54) 110 110 rfl 61 Tryz.underlying110 ?c0 (some ⟨w3.heap.size, 0, none⟩) pa 8 8 la ca ?c1 ?c9 w3.heap.size 0 z8 63 ?c2 (u16s a) ?c3 ?c4 ?c5 ?c6 w3.heap.size w3 ?c7 ?c8 ?_; rotate_left 10; intro w4 hg4 hb4; have HB4 := Lib.hid hb4; clear hb4) | (with_reducible refine wpList_copy_splice rfl (.tmp 59) (.tmp 60) 110 110 rfl 61 Tryz.underlying110 ?d0 (some dp) pb lb lb lb cb ?d1 ?d9 w3.heap.size (8 - b.length) (splice z8 0 (u16s a)) 63 ?d2 (u16s b) ?d3 ?d4 ?d5 ?d6 w3.heap.size w3 ?d7 ?d8 ?_; rotate_left 10; intro w5 hg5 hb5; have hrow := hg5.out; rw [HSP.out] at hrow; have t0 := row_cell hrow 0 (by rw [HL.out]; decide); have t1 := row_cell hrow 1 (by rw [HL.out]; decide); have t2 := row_cell hrow 2 (by rw [HL.out]; decide); have t3 := row_cell hrow 3 (by rw [HL.out]; decide); have t4 := row_cell hrow 4 (by rw [HL.out]; decide); have t5 := row_cell hrow 5 (by rw [HL.out]; decide); have t6 := row_cell hrow 6 (by rw [HL.out]; decide); have t7 := row_cell hrow 7 (by rw [HL.out]; decide); rw [HGJ.out] at t0 t1 t2 t3 t4 t5 t6 t7; have p0' := (hb5.cell (p := ⟨w.heap.size, 0, none⟩) z3).trans p0; have p1' := (hb5.cell (p := ⟨w.heap.size, 1, none⟩) z3).trans p1; have q0' := (hb5.frozen (p := ⟨w.heap.size, 0, none⟩) z3).trans q0; have q1' := (hb5.frozen (p := ⟨w.heap.size, 1, none⟩) z3).trans q1; have HB5 := Lib.hid (HB3.out.trans (hb5.mono (by omega))); have z5 : w.heap.size < w5.heap.size := World.block_lt_of_cell? _ _ p0'; clear hb5 hrow))
    refine (HU.out w5).mono ?_
    rintro e w6 ⟨rfl, hb6⟩
    have P0 := (hb6.cell (p := ⟨w.heap.size, 0, none⟩) z5).trans p0'
    have P1 := (hb6.cell (p := ⟨w.heap.size, 1, none⟩) z5).trans p1'
    have Q0 := (hb6.frozen (p := ⟨w.heap.size, 0, none⟩) z5).trans q0'
    have Q1 := (hb6.frozen (p := ⟨w.heap.size, 1, none⟩) z5).trans q1'
    have HB6 := Lib.hid (HB5.out.trans (hb6.mono (by omega)))
    clear hb6 p0' p1' q0' q1' t0 t1 t2 t3 t4 t5 t6 t7
    go_wp2_with fail
    have A := two_set (v0 := .int .u64 (uni g 4 : Nat)) (v1 := .int .u64 (uni (fun j => g (4 + j)) 4 : Nat)) P0 P1
    refine bodyPost_ret (v := .tuple #[.agg #[.int .u64 (uni g 4 : Nat), .int .u64 (uni (fun j => g (4 + j)) 4 : Nat)], .bool true]) (by simp [results, Tryz.results31, go_sem, A.1, A.2]) rfl ⟨rfl, two_below HB6.out (Nat.le_refl _)⟩
    case c0 => kernel_rfl
    case d0 => kernel_rfl
    case c1 => rfl
    case c9 => rfl
    case d1 => rfl
    case d9 => rfl
    case c2 => exact heap_alloc_new _ _
    case d2 => exact hg4.out
    case c3 => rw [u16s, List.length_map, HLA.out]; exact (Nat.min_eq_left (by omega)).symm
    case d3 => rw [u16s, List.length_map, HLB.out]; exact (Nat.min_self _).symm
    case c4 =>
      intro h0
      rw [u16s, List.length_map] at h0
      obtain ⟨ga, h1, h2, h3⟩ := SA.out h0
      refine ⟨_, h1, fun j v hv => ?_⟩
      rw [u16s, List.getElem?_map] at hv
      cases hx : a[j]? with
      | none => rw [hx] at hv; cases hv
      | some x =>
        rw [hx] at hv
        rw [← Option.some.inj hv]
        have := h3 j x hx
        refine Eq.trans ?_ this
        rw [add_off]
        exact World.cell?_alloc_past _ _ _ h2
    case d4 =>
      intro h0
      rw [u16s, List.length_map] at h0
      obtain ⟨gb, h1, h2, h3⟩ := SB.out h0
      refine ⟨by rw [HDP.out (by have := HLB.out; omega), HLB.out], _, h1, fun j v hv => ?_⟩
      rw [u16s, List.getElem?_map] at hv
      cases hx : b[j]? with
      | none => rw [hx] at hv; cases hv
      | some x =>
        rw [hx] at hv
        rw [← Option.some.inj hv]
        have := h3 j x hx
        refine Eq.trans ?_ this
        rw [add_off]
        exact HB4.out.cell (p := ⟨gb, j, none⟩) h2
    case c5 => rw [u16s, List.length_map, HLA.out]; simp; omega
    case d5 => rw [length_splice _ _ _ (by rw [u16s, List.length_map, HLA.out]; simp; omega), u16s, List.length_map, HLB.out]; simp; omega
    case c6 =>
      intro v hv
      obtain ⟨x, _, rfl⟩ := List.mem_map.1 hv
      rfl
    case d6 =>
      intro v hv
      obtain ⟨x, _, rfl⟩ := List.mem_map.1 hv
      rfl
    case c7 => exact (Below.refl _ _).alloc (Nat.le_refl _) _
    case c8 => exact Nat.le_refl _
    case d7 => exact HB4.out
    case d8 => exact Nat.le_refl _
theorem rsix_any (s : ByteArray) (w : World) (env : Env true w) (hs : s.size ≤ 1000) :
    Calls Tryz.prog 31 #[.string s] w (SixLeft ((sixR s).map fun g => (uni (fun j => g.getD j 0) 4, uni (fun j => g.getD (4 + j) 0) 4)) w) := by
  unfold sixR
  cases ha : grpR (cut6A s) with
  | none => exact six_no s w env hs none (grpR (cut6B s)) (cut6F s) ha rfl rfl (Or.inl rfl)
  | some a =>
    cases hb : grpR (cut6B s) with
    | none => exact six_no s w env hs (some a) none (cut6F s) ha hb rfl (Or.inr (Or.inl rfl))
    | some b =>
      simp only
      by_cases hc : 8 < a.length + b.length ∨ cut6F s = false ∧ a.length + b.length ≠ 8
      · rw [if_pos hc]
        exact six_no s w env hs (some a) (some b) (cut6F s) ha hb rfl (Or.inr (Or.inr hc))
      · rw [if_neg hc]
        refine six_yes s w env hs a b (cut6F s) ha hb rfl (by omega) ?_
        cases hf : cut6F s
        · right
          by_cases h8 : a.length + b.length = 8
          · exact h8
          · exact absurd (Or.inr ⟨hf, h8⟩) hc
        · exact Or.inl rfl
end Go.Proofs.YtlikgfmcialepaaGreatDoor
