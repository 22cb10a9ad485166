/-
  SPOIL: what a copy's holder may write. Written by wip/gen-sgk.py.
-/
import Derived.Test.YtganaidlpnnajaaSgH
namespace Go.Proofs.Ytganaidlpnnajaa
namespace Sg
open Go.RowKit Sha
set_option linter.unusedVariables false
set_option linter.unusedSimpArgs false
/-- while spoil writes: M: its box; the lists' blocks lie from N on -/
structure SpW (N M : Nat) (w : World) (row : Array Value) (SA CA : Option Addr) (nx nc : Nat) (z : World) : Prop where
  b : Below N w z
  l : N ≤ z.heap.size
  r : z.heap[M]? = some (.cells row 30 (0, 0))
  sa : ∀ i, i < nx → ∃ g o x cur, SA = some ⟨g, o, none⟩ ∧ z.heap[g]? = some (.cells cur 22 (0, 0)) ∧ cur[o + i]? = some (.int .u64 x) ∧ N ≤ g
  ca : ∀ i, i < nc → ∃ g o x cur, CA = some ⟨g, o, none⟩ ∧ z.heap[g]? = some (.cells cur 58 (0, 0)) ∧ cur[o + i * 16]? = some (.int .u8 x) ∧ N ≤ g
theorem below_ext {N : Nat} {w z U : World} (h : Below N w z) (hz : N ≤ z.heap.size) (hb : Below z.heap.size z U) : Below N w U := h.trans ⟨hb.os, hb.tape, hb.output, hb.size, fun k hk => hb.block k (by omega)⟩
theorem SpW.on {N M : Nat} {w : World} {row : Array Value} {SA CA : Option Addr} {nx nc : Nat} {z U : World} (h : SpW N M w row SA CA nx nc z) (hb : Below z.heap.size z U) : SpW N M w row SA CA nx nc U :=
  ⟨below_ext h.b h.l hb, Nat.le_trans h.l hb.size, row_on h.r hb, fun i hi => by
    obtain ⟨g, o, x, cur, e, h1, h2, h3⟩ := h.sa i hi
    exact ⟨g, o, x, cur, e, row_on h1 hb, h2, h3⟩, fun i hi => by
    obtain ⟨g, o, x, cur, e, h1, h2, h3⟩ := h.ca i hi
    exact ⟨g, o, x, cur, e, row_on h1 hb, h2, h3⟩⟩
theorem ne_types : (22 : TypeId) ≠ 58 ∧ (22 : TypeId) ≠ 30 ∧ (58 : TypeId) ≠ 30 := by decide
theorem row_ne {z : World} {g h : Nat} {c d : Array Value} {S T : TypeId} (h1 : z.heap[g]? = some (.cells c S (0, 0))) (h2 : z.heap[h]? = some (.cells d T (0, 0))) (hne : S ≠ T) : g ≠ h := fun e => by
  subst e
  rw [h1] at h2
  injection h2 with h3
  injection h3 with _ h4
  exact hne h4
theorem SpW.saAt {N M : Nat} {w : World} {row : Array Value} {g o : Nat} {CA : Option Addr} {nx nc : Nat} {z : World} (h : SpW N M w row (some ⟨g, o, none⟩) CA nx nc z) {i : Nat} (hi : i < nx) : (∃ x : Int, z.cell? ⟨g, o + i, none⟩ = some (.int .u64 x)) ∧ z.frozen? ⟨g, o + i, none⟩ = false := by
  obtain ⟨_, _, x, cur, e, h1, h2, h3⟩ := h.sa i hi
  obtain ⟨rfl, rfl, _⟩ := Addr.mk.inj (Option.some.inj e)
  exact ⟨⟨x, by rw [cell_of_row _ _ _ _ _ _ h1]; exact h2⟩, frozen_of_row _ _ _ _ _ h1⟩
theorem SpW.caAt {N M : Nat} {w : World} {row : Array Value} {g o : Nat} {SA : Option Addr} {nx nc : Nat} {z : World} (h : SpW N M w row SA (some ⟨g, o, none⟩) nx nc z) {i : Nat} (hi : i < nc) : (∃ x : Int, z.cell? ⟨g, o + i * 16, none⟩ = some (.int .u8 x)) ∧ z.frozen? ⟨g, o + i * 16, none⟩ = false := by
  obtain ⟨_, _, x, cur, e, h1, h2, h3⟩ := h.ca i hi
  obtain ⟨rfl, rfl, _⟩ := Addr.mk.inj (Option.some.inj e)
  exact ⟨⟨x, by rw [cell_of_row _ _ _ _ _ _ h1]; exact h2⟩, frozen_of_row _ _ _ _ _ h1⟩
theorem SpW.setU {N M : Nat} {w : World} {row : Array Value} {g o : Nat} {CA : Option Addr} {nx nc : Nat} {z : World} (h : SpW N M w row (some ⟨g, o, none⟩) CA nx nc z) {i : Nat} (hi : i < nx) (y : Int) : SpW N M w row (some ⟨g, o, none⟩) CA nx nc (z.setCell ⟨g, o + i, none⟩ (.int .u64 y)) := by
  obtain ⟨g', o', x, cur, e, h1, h2, h3⟩ := h.sa i hi
  obtain ⟨rfl, rfl, _⟩ := Addr.mk.inj (Option.some.inj e)
  have hs := heap_setCell_same z g (o + i) cur _ (.int .u64 y) h1
  have ho := fun (b : Nat) (hb : b ≠ g) => Below.heap_setCell z ⟨g, o + i, none⟩ (.int .u64 y) b hb
  refine ⟨below_setCell h.b h3, by simpa [World.setCell] using h.l, (ho M (row_ne h.r h1 ne_types.2.1.symm)).trans h.r, fun j hj => ?_, fun j hj => ?_⟩
  · obtain ⟨g2, o2, x2, cur2, e2, k1, k2, k3⟩ := h.sa j hj
    obtain ⟨rfl, rfl, _⟩ := Addr.mk.inj (Option.some.inj e2)
    rw [h1] at k1
    injection k1 with k1
    injection k1 with k1 _
    subst k1
    by_cases hji : j = i
    · subst hji
      exact ⟨g, o, y, _, rfl, hs, by rw [Array.getElem?_setIfInBounds, if_pos rfl, if_pos (Array.getElem?_eq_some_iff.1 h2).1], h3⟩
    · exact ⟨g, o, x2, _, rfl, hs, by rw [Array.getElem?_setIfInBounds, if_neg (by omega)]; exact k2, h3⟩
  · obtain ⟨g2, o2, x2, cur2, e2, k1, k2, k3⟩ := h.ca j hj
    exact ⟨g2, o2, x2, cur2, e2, (ho g2 (row_ne k1 h1 ne_types.1.symm)).trans k1, k2, k3⟩
theorem SpW.setB {N M : Nat} {w : World} {row : Array Value} {g o : Nat} {SA : Option Addr} {nx nc : Nat} {z : World} (h : SpW N M w row SA (some ⟨g, o, none⟩) nx nc z) {i : Nat} (hi : i < nc) (y : Int) : SpW N M w row SA (some ⟨g, o, none⟩) nx nc (z.setCell ⟨g, o + i * 16, none⟩ (.int .u8 y)) := by
  obtain ⟨g', o', x, cur, e, h1, h2, h3⟩ := h.ca i hi
  obtain ⟨rfl, rfl, _⟩ := Addr.mk.inj (Option.some.inj e)
  have hs := heap_setCell_same z g (o + i * 16) cur _ (.int .u8 y) h1
  have ho := fun (b : Nat) (hb : b ≠ g) => Below.heap_setCell z ⟨g, o + i * 16, none⟩ (.int .u8 y) b hb
  refine ⟨below_setCell h.b h3, by simpa [World.setCell] using h.l, (ho M (row_ne h.r h1 ne_types.2.2.symm)).trans h.r, fun j hj => ?_, fun j hj => ?_⟩
  · obtain ⟨g2, o2, x2, cur2, e2, k1, k2, k3⟩ := h.sa j hj
    exact ⟨g2, o2, x2, cur2, e2, (ho g2 (row_ne k1 h1 ne_types.1)).trans k1, k2, k3⟩
  · obtain ⟨g2, o2, x2, cur2, e2, k1, k2, k3⟩ := h.ca j hj
    obtain ⟨rfl, rfl, _⟩ := Addr.mk.inj (Option.some.inj e2)
    rw [h1] at k1
    injection k1 with k1
    injection k1 with k1 _
    subst k1
    by_cases hji : j = i
    · subst hji
      exact ⟨g, o, y, _, rfl, hs, by rw [Array.getElem?_setIfInBounds, if_pos rfl, if_pos (Array.getElem?_eq_some_iff.1 h2).1], h3⟩
    · exact ⟨g, o, x2, _, rfl, hs, by rw [Array.getElem?_setIfInBounds, if_neg (by omega)]; exact k2, h3⟩
set_option maxRecDepth 100000 in
set_option maxHeartbeats 4000000 in
theorem spoil_any (N : Nat) (l : Rl) (p : Mp) (w : World) (hN : N ≤ w.heap.size) (h1 : RlAt l p w) (h2 : OwnRow N p.SA 22 w) (h3 : OwnRow N p.CA 58 w) :
    Calls Try.prog 15 #[.agg (rlC l p)] w fun e w' => e = .returned (.tuple #[]) ∧ Below N w w' := by
  obtain ⟨iss, num, fr, tt, xs, n, cs, ps⟩ := l
  obtain ⟨SA, sc, CA, cc, PA, pc⟩ := p
  have hsa : ∀ i, i < xs.length → ∃ g o x cur, SA = some ⟨g, o, none⟩ ∧ w.heap[g]? = some (.cells cur 22 (0, 0)) ∧ cur[o + i]? = some (.int .u64 x) ∧ N ≤ g := fun i hi => by
    obtain ⟨g, o, e, hc⟩ := h1.ser.row i xs[i] (List.getElem?_eq_getElem hi)
    obtain ⟨k1, cur, k2⟩ := h2 g o e
    rw [cell_of_row _ _ _ _ _ _ k2] at hc
    exact ⟨g, o, xs[i], cur, e, k2, hc, k1⟩
  have hca : ∀ i, i < cs.length → ∃ g o x cur, CA = some ⟨g, o, none⟩ ∧ w.heap[g]? = some (.cells cur 58 (0, 0)) ∧ cur[o + i * 16]? = some (.int .u8 x) ∧ N ≤ g := fun i hi => by
    have hi2 : cs[i]? = some cs[i] := List.getElem?_eq_getElem hi
    obtain ⟨g, o, e, hc⟩ := h1.cs.row i cs[i] hi2
    have h16 := h1.cs.len cs[i] (List.mem_of_getElem? hi2)
    have hc0 := hc 0 (.int .u8 ((cs[i][0]'(by omega)).toNat : Int)) (by unfold bvals; rw [List.getElem?_map, List.getElem?_eq_getElem (by omega)]; rfl)
    obtain ⟨k1, cur, k2⟩ := h3 g o e
    rw [cell_of_row _ _ _ _ _ _ k2, Nat.add_zero, Nat.mul_comm] at hc0
    exact ⟨g, o, _, cur, e, k2, hc0, k1⟩
  unfold rlC
  have jx := h1.ls
  have jc := h1.lc
  simp only at jx jc ⊢
  clear h1 h2 h3
  generalize xs.length = nx at hsa jx ⊢
  generalize cs.length = nc at hca jc ⊢
  generalize ps.length = np
  have hb0 := below_new w (.cells #[.string iss, .int .u64 num, .int .i64 fr, .int .i64 tt, .slice SA nx sc, .int .i64 n, .slice CA nc cc, .slice PA np pc] 30)
  have HW0 := Lib.hid (show SpW N w.heap.size w (#[.string iss, .int .u64 num, .int .i64 fr, .int .i64 tt, .slice SA nx sc, .int .i64 n, .slice CA nc cc, .slice PA np pc]) SA CA nx nc (w.alloc (.cells #[.string iss, .int .u64 num, .int .i64 fr, .int .i64 tt, .slice SA nx sc, .int .i64 n, .slice CA nc cc, .slice PA np pc] 30)) from ⟨⟨hb0.os, hb0.tape, hb0.output, hb0.size, fun k hk => hb0.block k (by omega)⟩, Nat.le_trans hN hb0.size, heap_alloc_new _ _, fun i hi => by
    obtain ⟨g, o, x, cur, e, k1, k2, k3⟩ := hsa i hi
    exact ⟨g, o, x, cur, e, row_on k1 hb0, k2, k3⟩, fun i hi => by
    obtain ⟨g, o, x, cur, e, k1, k2, k3⟩ := hca i hi
    exact ⟨g, o, x, cur, e, row_on k1 hb0, k2, k3⟩⟩)
  clear hb0 hsa hca hN
  go_enter Try.func15, Try.ntmps15
  go_upto_region 2 with (fail)
  generalize World.alloc w _ = w0 at HW0 ⊢
  go_loopw [2] (fun i wr => ∃ k : Nat, k ≤ nx ∧ i = .int .i64 (k : Int) ∧ RowKit.Hid (SpW N w.heap.size w (#[.string iss, .int .u64 num, .int .i64 fr, .int .i64 tt, .slice SA nx sc, .int .i64 n, .slice CA nc cc, .slice PA np pc]) SA CA nx nc wr)) (fun i _ => nx - (intOf i).toNat)
  case atStart => exact ⟨0, Nat.zero_le _, rfl, HW0⟩
  case round =>
    clear HW0
    obtain ⟨k, hk, rfl, HW⟩ := hrel
    obtain ⟨V, hV⟩ : ∃ V, V = wr := ⟨_, rfl⟩
    subst hV
    obtain ⟨v0, a0, a1, a2, a3, a4, a5, a6, a7⟩ := facts8 HW.out.r
    by_cases hlt : k < nx
    · have hki : (k : Int) < (nx : Int) := by omega
      obtain ⟨g, o, _, _, rfl, _⟩ := HW.out.sa k hlt
      obtain ⟨⟨x, hc⟩, hfz⟩ := HW.out.saAt hlt
      go_wp2_with fail
      exact ⟨⟨k + 1, by omega, by go_num, Lib.hid (HW.out.setU hlt _)⟩, by simp [intOf]; omega⟩
    · have hki : ¬ (k : Int) < (nx : Int) := by omega
      go_upto_region 6 with (fail)
      have HV := HW
      clear v0 a0 a1 a2 a3 a4 a5 a6 a7 HW hki hlt hk
      go_loopw [3] (fun i wr => ∃ k : Nat, k ≤ nc ∧ i = .int .i64 (k : Int) ∧ RowKit.Hid (SpW N w.heap.size w (#[.string iss, .int .u64 num, .int .i64 fr, .int .i64 tt, .slice SA nx sc, .int .i64 n, .slice CA nc cc, .slice PA np pc]) SA CA nx nc wr)) (fun i _ => nc - (intOf i).toNat)
      case atStart => exact ⟨0, Nat.zero_le _, rfl, HV⟩
      case round =>
        clear HV
        obtain ⟨k, hk, rfl, HW⟩ := hrel
        obtain ⟨V2, hV⟩ : ∃ V, V = wr := ⟨_, rfl⟩
        subst hV
        obtain ⟨v0, a0, a1, a2, a3, a4, a5, a6, a7⟩ := facts8 HW.out.r
        by_cases hlt : k < nc
        · have hki : (k : Int) < (nc : Int) := by omega
          obtain ⟨g, o, _, _, rfl, _⟩ := HW.out.ca k hlt
          go_upto_region 8 with (fail)
          clear v0 a0 a1 a2 a3 a4 a5 a6 a7
          refine wp_region_held_drew (S := fun z => z.cell? ⟨w.heap.size, 6, none⟩ = some (.slice (some ⟨g, o, none⟩) nc cc)) (by kernel_rfl) (facts8 HW.out.r).2.2.2.2.2.2.2.1 (fun hHeld => ?_)
          generalize hU : World.drew V2 = U at hHeld ⊢
          have HWU := Lib.hid (show SpW N w.heap.size w (#[.string iss, .int .u64 num, .int .i64 fr, .int .i64 tt, .slice SA nx sc, .int .i64 n, .slice (some ⟨g, o, none⟩) nc cc, .slice PA np pc]) SA (some ⟨g, o, none⟩) nx nc U by rw [← hU]; exact HW.out.on ((Below.refl _ _).drew))
          obtain ⟨⟨x, hc⟩, hfz⟩ := HWU.out.caAt hlt
          clear hU
          refine wpAnyH_take (i := 0) (oi := { dst := Option.some 26, op := Go.Op.fieldAddr 30 (Go.Operand.tmp 1) 4, type := 0, pos := "law.go:19", after := #[], guard := Option.none }) (v := ?_) rfl (by kernel_rfl) (by kernel_rfl) (by kernel_rfl) (fun _ _ _ h => h) (Or.inl ⟨by rfl, ?_⟩) hHeld ?_
          rotate_left
          · intro w hSw
            clear hSw
            go_simp
            try with_reducible rfl
          try simp only [Act.put, List.setIfInBounds_toArray, List.set_cons_zero, List.set_cons_succ]
          refine wpAnyH_take (i := 1) (oi := { dst := Option.some 27, op := Go.Op.fieldAddr 28 (Go.Operand.tmp 26) 1, type := 0, pos := "law.go:19", after := #[{ on := 0, ground := Go.Ground.data }], guard := Option.none }) (v := ?_) rfl (by kernel_rfl) (by kernel_rfl) (by kernel_rfl) (fun _ _ _ h => h) (Or.inl ⟨by rfl, ?_⟩) hHeld ?_
          rotate_left
          · intro w hSw
            clear hSw
            go_simp
            try with_reducible rfl
          try simp only [Act.put, List.setIfInBounds_toArray, List.set_cons_zero, List.set_cons_succ]
          refine wpAnyH_take (i := 2) (oi := { dst := Option.some 28, op := Go.Op.load 26 (Go.Operand.tmp 27), type := 26, pos := "law.go:19", after := #[{ on := 1, ground := Go.Ground.data }], guard := Option.none }) (v := ?_) rfl (by kernel_rfl) (by kernel_rfl) (by kernel_rfl) (fun _ _ _ h => h) (Or.inl ⟨by rfl, ?_⟩) hHeld ?_
          rotate_left
          · intro w hSw
            have hfc0 := hSw
            clear hSw
            go_simp
            try with_reducible rfl
          try simp only [Act.put, List.setIfInBounds_toArray, List.set_cons_zero, List.set_cons_succ]
          refine wpAnyH_take (i := 3) (oi := { dst := Option.some 29, op := Go.Op.move (Go.Operand.tmp 3), type := 3, pos := "law.go:19", after := #[], guard := Option.none }) (v := ?_) rfl (by kernel_rfl) (by kernel_rfl) (by kernel_rfl) (fun _ _ _ h => h) (Or.inl ⟨by rfl, ?_⟩) hHeld ?_
          rotate_left
          · intro w hSw
            clear hSw
            go_simp
            try with_reducible rfl
          try simp only [Act.put, List.setIfInBounds_toArray, List.set_cons_zero, List.set_cons_succ]
          refine wpAnyH_take (i := 4) (oi := { dst := Option.some 30, op := Go.Op.indexAddr 26 (Go.Operand.tmp 28) (Go.Operand.tmp 29), type := 0, pos := "law.go:19", after := #[{ on := 2, ground := Go.Ground.data }, { on := 3, ground := Go.Ground.data }], guard := Option.none }) (v := ?_) rfl (by kernel_rfl) (by kernel_rfl) (by kernel_rfl) (fun _ _ _ h => h) (Or.inl ⟨by rfl, ?_⟩) hHeld ?_
          rotate_left
          · intro w hSw
            clear hSw
            go_simp
            try with_reducible rfl
          try simp only [Act.put, List.setIfInBounds_toArray, List.set_cons_zero, List.set_cons_succ]
          refine wpAnyH_take (i := 5) (oi := { dst := Option.some 31, op := Go.Op.indexAddr 58 (Go.Operand.tmp 30) (Go.Operand.const (Go.Value.int Go.IntKind.i64 0)), type := 0, pos := "law.go:19", after := #[{ on := 4, ground := Go.Ground.data }], guard := Option.none }) (v := ?_) rfl (by kernel_rfl) (by kernel_rfl) (by kernel_rfl) (fun _ _ _ h => h) (Or.inl ⟨by rfl, ?_⟩) hHeld ?_
          rotate_left
          · intro w hSw
            clear hSw
            go_simp
            try with_reducible rfl
          try simp only [Act.put, List.setIfInBounds_toArray, List.set_cons_zero, List.set_cons_succ]
          refine wpAnyH_take (i := 8) (oi := { dst := Option.some 34, op := Go.Op.indexAddr 26 (Go.Operand.tmp 28) (Go.Operand.tmp 29), type := 0, pos := "law.go:19", after := #[{ on := 2, ground := Go.Ground.data }, { on := 3, ground := Go.Ground.data }], guard := Option.none }) (v := ?_) rfl (by kernel_rfl) (by kernel_rfl) (by kernel_rfl) (fun _ _ _ h => h) (Or.inl ⟨by rfl, ?_⟩) hHeld ?_
          rotate_left
          · intro w hSw
            clear hSw
            go_simp
            try with_reducible rfl
          try simp only [Act.put, List.setIfInBounds_toArray, List.set_cons_zero, List.set_cons_succ]
          refine wpAnyH_ready (rs := [6]) (by kernel_rfl) (by simp) (AllReadyH.cons (o := { dst := Option.some 32, op := Go.Op.load 5 (Go.Operand.tmp 31), type := 5, pos := "law.go:19", after := #[{ on := 5, ground := Go.Ground.data }], guard := Option.none }) rfl (fun K hK => ?_) AllReadyH.nil)
          go_simp
          refine hK.out _ _ ((facts8 HWU.out.r).2.2.2.2.2.2.2.1) (fun hHeld2 => ?_)
          clear hK K hHeld
          have hHeld := hHeld2
          clear hHeld2
          try simp only [Act.put, List.setIfInBounds_toArray, List.set_cons_zero, List.set_cons_succ]
          refine wpAnyH_take (i := 7) (oi := { dst := Option.some 33, op := Go.Op.binOp Go.BinOp.add 5 (Go.Operand.tmp 32) (Go.Operand.const (Go.Value.int Go.IntKind.u8 1)) 5, type := 5, pos := "law.go:19", after := #[{ on := 6, ground := Go.Ground.data }], guard := Option.none }) (v := ?_) rfl (by kernel_rfl) (by kernel_rfl) (by kernel_rfl) (fun _ _ _ h => h) (Or.inl ⟨by rfl, ?_⟩) hHeld ?_
          rotate_left
          · intro w hSw
            clear hSw
            go_simp
            try with_reducible rfl
          try simp only [Act.put, List.setIfInBounds_toArray, List.set_cons_zero, List.set_cons_succ]
          refine wpAnyH_take (i := 9) (oi := { dst := Option.some 35, op := Go.Op.indexAddr 58 (Go.Operand.tmp 34) (Go.Operand.const (Go.Value.int Go.IntKind.i64 0)), type := 0, pos := "law.go:19", after := #[{ on := 8, ground := Go.Ground.data }, { on := 0, ground := Go.Ground.phase }, { on := 1, ground := Go.Ground.phase }, { on := 2, ground := Go.Ground.phase }, { on := 3, ground := Go.Ground.phase }, { on := 4, ground := Go.Ground.phase }, { on := 5, ground := Go.Ground.phase }, { on := 6, ground := Go.Ground.phase }, { on := 7, ground := Go.Ground.phase }], guard := Option.none }) (v := ?_) rfl (by kernel_rfl) (by kernel_rfl) (by kernel_rfl) (fun _ _ _ h => h) (Or.inl ⟨by rfl, ?_⟩) hHeld ?_
          rotate_left
          · intro w hSw
            clear hSw
            go_simp
            try with_reducible rfl
          try simp only [Act.put, List.setIfInBounds_toArray, List.set_cons_zero, List.set_cons_succ]
          refine wpAnyH_ready (rs := [10]) (by kernel_rfl) (by simp) (AllReadyH.cons (o := { dst := Option.none, op := Go.Op.store 5 (Go.Operand.tmp 35) (Go.Operand.tmp 33), type := 0, pos := "law.go:19", after := #[{ on := 9, ground := Go.Ground.data }, { on := 7, ground := Go.Ground.data }, { on := 0, ground := Go.Ground.phase }, { on := 1, ground := Go.Ground.phase }, { on := 2, ground := Go.Ground.phase }, { on := 3, ground := Go.Ground.phase }, { on := 4, ground := Go.Ground.phase }, { on := 5, ground := Go.Ground.phase }, { on := 6, ground := Go.Ground.phase }, { on := 7, ground := Go.Ground.phase }], guard := Option.none }) rfl (fun K hK => ?_) AllReadyH.nil)
          go_simp
          refine hK.out _ _ (facts8 (HWU.out.setB hlt _).r).2.2.2.2.2.2.2.1 (fun hHeld2 => ?_)
          clear hK K hHeld hHeld2
          try simp only [Act.put, List.setIfInBounds_toArray, List.set_cons_zero, List.set_cons_succ]
          refine wpAnyH_done (by kernel_rfl) ?_ _
          go_wp2_with fail
          exact ⟨⟨k + 1, by omega, by go_num, Lib.hid (HWU.out.setB hlt _)⟩, by simp [intOf]; omega⟩

        · have hki : ¬ (k : Int) < (nc : Int) := by omega
          go_wp2_with fail
          exact bodyPost_end (v := .tuple #[]) (results_none rfl _ _ _) rfl ⟨rfl, HW.out.b⟩
end Sg
end Go.Proofs.Ytganaidlpnnajaa
