/-
  TWIN of a revocation list, the program's. Written by wip/gen-sgh.py.
-/
import Derived.Test.YtganaidlpnnajaaSgG
import Derived.Deep.RegionHeld3
namespace Go.Proofs.Ytganaidlpnnajaa
namespace Sg
open Go.RowKit Sha
set_option linter.unusedVariables false
set_option linter.unusedSimpArgs false
/-- a list's block is a whole block of the list's own -/
def OwnRow (lo : Nat) (A : Option Addr) (E : TypeId) (w : World) : Prop := ∀ g o, A = some ⟨g, o, none⟩ → lo ≤ g ∧ ∃ cur, w.heap[g]? = some (.cells cur E (0, 0))
theorem OwnRow.on {lo : Nat} {A : Option Addr} {E : TypeId} {w V : World} (h : OwnRow lo A E w) (hb : Below w.heap.size w V) : OwnRow lo A E V := fun g o e => by
  obtain ⟨h1, cur, h2⟩ := h g o e
  exact ⟨h1, cur, row_on h2 hb⟩
theorem OwnRow.keep {lo X : Nat} {A : Option Addr} {E : TypeId} {w V : World} (h : OwnRow lo A E w) (hX : X < lo) (ho : ∀ b, b ≠ X → V.heap[b]? = w.heap[b]?) : OwnRow lo A E V := fun g o e => by
  obtain ⟨h1, cur, h2⟩ := h g o e
  exact ⟨h1, cur, (ho g (by omega)).trans h2⟩
structure OwnN (lo : Nat) (A : Option Addr) (xs : List Int) (w : World) : Prop where
  nums : Nums A xs w
  own : OwnRow lo A 22 w
structure OwnS (lo : Nat) (A : Option Addr) (ls : List (List UInt8)) (w : World) : Prop where
  shs : Shs A ls w
  own : OwnRow lo A 58 w
theorem OwnN.on {lo : Nat} {A : Option Addr} {xs : List Int} {w V : World} (h : OwnN lo A xs w) (hb : Below w.heap.size w V) : OwnN lo A xs V := ⟨h.nums.on hb, h.own.on hb⟩
theorem OwnS.on {lo : Nat} {A : Option Addr} {xs : List (List UInt8)} {w V : World} (h : OwnS lo A xs w) (hb : Below w.heap.size w V) : OwnS lo A xs V := ⟨h.shs.on hb, h.own.on hb⟩
theorem OwnN.lt {lo : Nat} {A : Option Addr} {xs : List Int} {w : World} (h : OwnN lo A xs w) {g o : Nat} (e : A = some ⟨g, o, none⟩) : g < w.heap.size := by
  obtain ⟨_, cur, h2⟩ := h.own g o e
  exact (Array.getElem?_eq_some_iff.1 h2).1
theorem OwnN.keep {lo X : Nat} {A : Option Addr} {xs : List Int} {w V : World} (h : OwnN lo A xs w) (hX : X < lo) (ho : ∀ b, b ≠ X → V.heap[b]? = w.heap[b]?) : OwnN lo A xs V := ⟨nums_keep h.nums (fun g o e => by have := (h.own g o e).1; omega) ho, h.own.keep hX ho⟩
theorem OwnS.keep {lo X : Nat} {A : Option Addr} {xs : List (List UInt8)} {w V : World} (h : OwnS lo A xs w) (hX : X < lo) (ho : ∀ b, b ≠ X → V.heap[b]? = w.heap[b]?) : OwnS lo A xs V :=
  ⟨⟨fun i l hi => by
    obtain ⟨g, o, e, hl⟩ := h.shs.row i l hi
    refine ⟨g, o, e, fun j v hj => ?_⟩
    have h1 := hl j v hj
    have h2 := (h.own g o e).1
    simp only [World.cell?] at h1 ⊢
    rw [ho g (by omega)]
    exact h1, h.shs.len⟩, h.own.keep hX ho⟩
/-- what Twin's own lists keep to -/
structure TwW (N : Nat) (w : World) (A1 A2 A3 : Option Addr) (xs : List Int) (cs ps : List (List UInt8)) (z : World) : Prop where
  n : OwnN (N + 2) A1 xs z
  s : OwnS (N + 2) A2 cs z
  t : OwnS (N + 2) A3 ps z
  b : Below N w z
  ap : ∀ g o h q, A1 = some ⟨g, o, none⟩ → A2 = some ⟨h, q, none⟩ → g ≠ h
theorem TwW.keep {N : Nat} {w : World} {A1 A2 A3 : Option Addr} {xs : List Int} {cs ps : List (List UInt8)} {z V : World} (h : TwW N w A1 A2 A3 xs cs ps z) (ho : ∀ b, b ≠ N + 1 → V.heap[b]? = z.heap[b]?) (hb : Below N w V) : TwW N w A1 A2 A3 xs cs ps V :=
  ⟨h.n.keep (by omega) ho, h.s.keep (by omega) ho, h.t.keep (by omega) ho, hb, h.ap⟩
theorem TwW.keep0 {N : Nat} {w : World} {A1 A2 A3 : Option Addr} {xs : List Int} {cs ps : List (List UInt8)} {z V : World} (h : TwW N w A1 A2 A3 xs cs ps z) (ho : ∀ b, b ≠ N → V.heap[b]? = z.heap[b]?) (hb : Below N w V) : TwW N w A1 A2 A3 xs cs ps V :=
  ⟨h.n.keep (by omega) ho, h.s.keep (by omega) ho, h.t.keep (by omega) ho, hb, h.ap⟩
def PTwin (l : Rl) (w : World) (e : Ending) (w' : World) : Prop := ∃ m, e = .returned (.agg (rlC l m)) ∧ RlAt l m w' ∧ Below w.heap.size w w' ∧ OwnRow w.heap.size m.SA 22 w' ∧ OwnRow w.heap.size m.CA 58 w' ∧ (∀ g o h q, m.SA = some ⟨g, o, none⟩ → m.CA = some ⟨h, q, none⟩ → g ≠ h)
set_option maxRecDepth 100000 in
set_option maxHeartbeats 8000000 in
theorem rtwin_any (l : Rl) (p : Mp) (w : World) (h1 : RlAt l p w) (h2 : Caps p) :
    Calls Try.prog 10 #[.agg (rlC l p)] w (PTwin l w) := by
  obtain ⟨iss, num, fr, tt, xs, n, cs, ps⟩ := l
  obtain ⟨SA, sc, CA, cc, PA, pc⟩ := p
  obtain ⟨h2s, h2c, h2p⟩ := h2
  have j1 := h1.ls
  have j2 := h1.lc
  have j3 := h1.lp
  have HC1 := Lib.hid (fun (V : World) (hb : Below w.heap.size w V) => clone_u SA xs sc h2s j1 V (h1.ser.on hb))
  have HC2 := Lib.hid (fun (V : World) (hb : Below w.heap.size w V) => clone_s CA cs cc h2c j2 V (h1.cs.on hb))
  have HC3 := Lib.hid (fun (V : World) (hb : Below w.heap.size w V) => clone_s PA ps pc h2p j3 V (h1.ps.on hb))
  have J1 := Lib.hid j1
  have J2 := Lib.hid j2
  have J3 := Lib.hid j3
  unfold rlC
  simp only at HC1 HC2 HC3 J1 J2 J3 ⊢
  clear h1 h2s h2c h2p j1 j2 j3
  go_enter Try.func10, Try.ntmps10
  go_upto_region 1 with (fail)
  generalize hV : World.alloc (World.alloc w _) _ = V
  have HB0 := Lib.hid (show Below w.heap.size w V by rw [← hV]; exact (below_new _ _).alloc (by simp) _)
  have HR0 := Lib.hid (show V.heap[w.heap.size]? = some (.cells #[.string iss, .int .u64 num, .int .i64 fr, .int .i64 tt, .slice SA xs.length sc, .int .i64 n, .slice CA cs.length cc, .slice PA ps.length pc] 30 (0, 0)) by rw [← hV]; exact heap_alloc2_old _ _ _)
  have HR1 := Lib.hid (show V.heap[w.heap.size + 1]? = some (.cells #[.string "".toUTF8, .int .u64 0, .int .i64 0, .int .i64 0, .slice none 0 0, .int .i64 0, .slice none 0 0, .slice none 0 0] 30 (0, 0)) by rw [← hV]; exact (heap_alloc2_new _ _ _).trans rfl)
  have HVS := Lib.hid (show w.heap.size + 2 ≤ V.heap.size by rw [← hV]; simp)
  clear hV
  obtain ⟨v0, a0, a1, a2, a3, a4, a5, a6, a7⟩ := facts8 HR0.out
  go_wp2_with fail
  refine (HC1.out V HB0.out).mono ?_
  rintro e w1 ⟨A1, c1, rfl, s1, l1, hb⟩
  have HR01 := Lib.hid (row_on HR0.out hb)
  have HR11 := Lib.hid (row_on HR1.out hb)
  have HB1 := Lib.hid (chain HB0.out hb)
  have HON := Lib.hid (OwnN.mk s1 (fun g o e => ⟨Nat.le_trans HVS.out (l1 g o e).1, (l1 g o e).2⟩ : OwnRow (w.heap.size + 2) A1 22 w1))
  have HSZ1 : RowKit.Hid (w.heap.size + 2 ≤ w1.heap.size) := Lib.hid (Nat.le_trans HVS.out hb.size)
  clear v0 a0 a1 a2 a3 a4 a5 a6 a7 s1 l1 hb HR0 HR1 HB0 HVS
  obtain ⟨v0, a0, a1, a2, a3, a4, a5, a6, a7⟩ := facts8 HR01.out
  have hfz := frozen_of_row w1 _ 4 _ _ HR01.out
  go_upto_region 2 with (fail)
  have HR2 := Lib.hid (heap_setCell_same _ _ 4 _ _ (.slice A1 xs.length c1) HR01.out)
  have HO := Lib.hid (fun (b : Nat) (h : b ≠ w.heap.size) => Below.heap_setCell w1 ⟨w.heap.size, 4, none⟩ (.slice A1 xs.length c1) b h)
  have HR12 := Lib.hid ((HO.out (w.heap.size + 1) (by omega)).trans HR11.out)
  have HN2 := Lib.hid (HON.out.keep (show w.heap.size < w.heap.size + 2 by omega) HO.out)
  have HB2 := Lib.hid (below_setCell (v := .slice A1 xs.length c1) (o := 4) HB1.out (Nat.le_refl w.heap.size))
  have HSZ2 : RowKit.Hid (w.heap.size + 2 ≤ (w1.setCell ⟨w.heap.size, 4, none⟩ (.slice A1 xs.length c1)).heap.size) := Lib.hid (by have := HSZ1.out; simpa [World.setCell] using this)
  clear v0 a0 a1 a2 a3 a4 a5 a6 a7 hfz HO
  generalize World.setCell w1 _ _ = W2 at HR2 HR12 HN2 HB2 HSZ2 ⊢
  have HR2' := Lib.hid (show W2.heap[w.heap.size]? = some (.cells #[.string iss, .int .u64 num, .int .i64 fr, .int .i64 tt, .slice A1 xs.length c1, .int .i64 n, .slice CA cs.length cc, .slice PA ps.length pc] 30 (0, 0)) from HR2.out)
  clear HR2 HR01 HR11 HON HB1 HC1 HSZ1
  refine wp_region_held_drew (S := fun _ => True) (by kernel_rfl) trivial (fun hHeld => ?_)
  generalize hU : World.drew W2 = U at hHeld ⊢
  have hbU : Below W2.heap.size W2 U := by rw [← hU]; exact (Below.refl _ _).drew
  have HR_U := Lib.hid (row_on HR2'.out hbU)
  have HZ_U := Lib.hid (row_on HR12.out hbU)
  have HN_U := Lib.hid (HN2.out.on hbU)
  have HB_U := Lib.hid (chain HB2.out hbU)
  have HSZ_U : RowKit.Hid (w.heap.size + 2 ≤ U.heap.size) := Lib.hid (Nat.le_trans HSZ2.out hbU.size)
  clear hU hbU HR2' HR12 HN2 HB2 HSZ2
  refine wpAnyH_take (i := 0) (oi := { dst := Option.some 7, op := Go.Op.fieldAddr 30 (Go.Operand.tmp 1) 4, type := 0, pos := "revoke.go:120", after := #[], guard := Option.none }) (v := ?_) rfl (by kernel_rfl) (by kernel_rfl) (by kernel_rfl) (fun _ _ _ h => h) (Or.inl ⟨by rfl, ?_⟩) hHeld ?_
  rotate_left
  · intro w hSw
    clear hSw
    go_simp
    try with_reducible rfl
  try simp only [Act.put, List.setIfInBounds_toArray, List.set_cons_zero, List.set_cons_succ]
  refine wpAnyH_take (i := 1) (oi := { dst := Option.some 8, op := Go.Op.fieldAddr 28 (Go.Operand.tmp 7) 1, type := 0, pos := "revoke.go:120", after := #[{ on := 0, ground := Go.Ground.data }], guard := Option.none }) (v := ?_) rfl (by kernel_rfl) (by kernel_rfl) (by kernel_rfl) (fun _ _ _ h => h) (Or.inl ⟨by rfl, ?_⟩) hHeld ?_
  rotate_left
  · intro w hSw
    clear hSw
    go_simp
    try with_reducible rfl
  try simp only [Act.put, List.setIfInBounds_toArray, List.set_cons_zero, List.set_cons_succ]
  refine wpAnyH_take (i := 4) (oi := { dst := Option.some 11, op := Go.Op.fieldAddr 30 (Go.Operand.tmp 1) 4, type := 0, pos := "revoke.go:120", after := #[], guard := Option.none }) (v := ?_) rfl (by kernel_rfl) (by kernel_rfl) (by kernel_rfl) (fun _ _ _ h => h) (Or.inl ⟨by rfl, ?_⟩) hHeld ?_
  rotate_left
  · intro w hSw
    clear hSw
    go_simp
    try with_reducible rfl
  try simp only [Act.put, List.setIfInBounds_toArray, List.set_cons_zero, List.set_cons_succ]
  refine wpAnyH_take (i := 5) (oi := { dst := Option.some 12, op := Go.Op.fieldAddr 28 (Go.Operand.tmp 11) 2, type := 0, pos := "revoke.go:120", after := #[{ on := 4, ground := Go.Ground.data }], guard := Option.none }) (v := ?_) rfl (by kernel_rfl) (by kernel_rfl) (by kernel_rfl) (fun _ _ _ h => h) (Or.inl ⟨by rfl, ?_⟩) hHeld ?_
  rotate_left
  · intro w hSw
    clear hSw
    go_simp
    try with_reducible rfl
  try simp only [Act.put, List.setIfInBounds_toArray, List.set_cons_zero, List.set_cons_succ]
  refine wpAnyH_ready (rs := [2, 6]) (by kernel_rfl) (by simp) (AllReadyH.cons (o := { dst := Option.some 9, op := Go.Op.load 26 (Go.Operand.tmp 8), type := 26, pos := "revoke.go:120", after := #[{ on := 1, ground := Go.Ground.data }], guard := Option.none }) rfl (fun K hK => ?_) (AllReadyH.cons (o := { dst := Option.some 13, op := Go.Op.load 26 (Go.Operand.tmp 12), type := 26, pos := "revoke.go:120", after := #[{ on := 5, ground := Go.Ground.data }], guard := Option.none }) rfl (fun K hK => ?_) AllReadyH.nil))
  · obtain ⟨v0, a0, a1, a2, a3, a4, a5, a6, a7⟩ := facts8 HR_U.out
    go_simp
    clear v0 a0 a1 a2 a3 a4 a5 a6 a7
    refine hK.out _ _ trivial (fun hHeld2 => ?_)
    clear hK K hHeld
    have hHeld := hHeld2
    clear hHeld2
    try simp only [Act.put, List.setIfInBounds_toArray, List.set_cons_zero, List.set_cons_succ]
    refine wpAnyH_ready (rs := [3, 6]) (by kernel_rfl) (by simp) (AllReadyH.cons (o := { dst := Option.some 10, op := Go.Op.call { callee := Go.Callee.value (Go.Operand.func 25), args := #[Go.Operand.tmp 9], argTypes := #[26] }, type := 26, pos := "revoke.go:120", after := #[{ on := 2, ground := Go.Ground.data }], guard := Option.none }) rfl (fun K hK => ?_) (AllReadyH.cons (o := { dst := Option.some 13, op := Go.Op.load 26 (Go.Operand.tmp 12), type := 26, pos := "revoke.go:120", after := #[{ on := 5, ground := Go.Ground.data }], guard := Option.none }) rfl (fun K hK => ?_) AllReadyH.nil))
    · go_simp
      refine (HC2.out U HB_U.out).mono ?_
      rintro e y3 ⟨A2, c2, rfl, s2, l2, hb⟩
      have HR_y3 := Lib.hid (row_on HR_U.out hb)
      have HZ_y3 := Lib.hid (row_on HZ_U.out hb)
      have HN_y3 := Lib.hid (HN_U.out.on hb)
      have HB_y3 := Lib.hid (chain HB_U.out hb)
      have HS_y3 := Lib.hid (OwnS.mk s2 (fun g o e => ⟨Nat.le_trans HSZ_U.out (l2 g o e).1, (l2 g o e).2⟩ : OwnRow (w.heap.size + 2) _ 58 _))
      have HSZ_y3 : RowKit.Hid (w.heap.size + 2 ≤ y3.heap.size) := Lib.hid (Nat.le_trans HSZ_U.out hb.size)
      have HAP : RowKit.Hid (∀ g o h q, A1 = some ⟨g, o, none⟩ → A2 = some ⟨h, q, none⟩ → g ≠ h) := Lib.hid (fun g o h q e1 e2 => by have h1 := HN_U.out.lt e1; have h2 := (l2 h q e2).1; omega)
      clear s2 l2 hb
      go_simp
      refine hK.out _ _ trivial (fun hHeld2 => ?_)
      clear hK K hHeld
      have hHeld := hHeld2
      clear hHeld2
      try simp only [Act.put, List.setIfInBounds_toArray, List.set_cons_zero, List.set_cons_succ]
      refine wpAnyH_ready (rs := [6]) (by kernel_rfl) (by simp) (AllReadyH.cons (o := { dst := Option.some 13, op := Go.Op.load 26 (Go.Operand.tmp 12), type := 26, pos := "revoke.go:120", after := #[{ on := 5, ground := Go.Ground.data }], guard := Option.none }) rfl (fun K hK => ?_) AllReadyH.nil)
      obtain ⟨v0, a0, a1, a2, a3, a4, a5, a6, a7⟩ := facts8 HR_y3.out
      go_simp
      clear v0 a0 a1 a2 a3 a4 a5 a6 a7
      refine hK.out _ _ trivial (fun hHeld2 => ?_)
      clear hK K hHeld
      have hHeld := hHeld2
      clear hHeld2
      try simp only [Act.put, List.setIfInBounds_toArray, List.set_cons_zero, List.set_cons_succ]
      refine wpAnyH_take (i := 8) (oi := { dst := Option.some 15, op := Go.Op.fieldAddr 30 (Go.Operand.tmp 1) 4, type := 0, pos := "revoke.go:120", after := #[{ on := 0, ground := Go.Ground.phase }, { on := 1, ground := Go.Ground.phase }, { on := 2, ground := Go.Ground.phase }, { on := 3, ground := Go.Ground.phase }, { on := 4, ground := Go.Ground.phase }, { on := 5, ground := Go.Ground.phase }, { on := 6, ground := Go.Ground.phase }, { on := 7, ground := Go.Ground.textOnly Go.Departure.lateStoresUnsure }], guard := Option.none }) (v := ?_) rfl (by kernel_rfl) (by kernel_rfl) (by kernel_rfl) (fun _ _ _ h => h) (Or.inl ⟨by rfl, ?_⟩) hHeld ?_
      rotate_left
      · intro w hSw
        clear hSw
        go_simp
        try with_reducible rfl
      try simp only [Act.put, List.setIfInBounds_toArray, List.set_cons_zero, List.set_cons_succ]
      refine wpAnyH_take (i := 9) (oi := { dst := Option.some 16, op := Go.Op.fieldAddr 28 (Go.Operand.tmp 15) 1, type := 0, pos := "revoke.go:120", after := #[{ on := 8, ground := Go.Ground.data }, { on := 0, ground := Go.Ground.phase }, { on := 1, ground := Go.Ground.phase }, { on := 2, ground := Go.Ground.phase }, { on := 3, ground := Go.Ground.phase }, { on := 4, ground := Go.Ground.phase }, { on := 5, ground := Go.Ground.phase }, { on := 6, ground := Go.Ground.phase }, { on := 7, ground := Go.Ground.textOnly Go.Departure.lateStoresUnsure }], guard := Option.none }) (v := ?_) rfl (by kernel_rfl) (by kernel_rfl) (by kernel_rfl) (fun _ _ _ h => h) (Or.inl ⟨by rfl, ?_⟩) hHeld ?_
      rotate_left
      · intro w hSw
        clear hSw
        go_simp
        try with_reducible rfl
      try simp only [Act.put, List.setIfInBounds_toArray, List.set_cons_zero, List.set_cons_succ]
      refine wpAnyH_ready (rs := [7]) (by kernel_rfl) (by simp) (AllReadyH.cons (o := { dst := Option.some 14, op := Go.Op.call { callee := Go.Callee.value (Go.Operand.func 25), args := #[Go.Operand.tmp 13], argTypes := #[26] }, type := 26, pos := "revoke.go:120", after := #[{ on := 6, ground := Go.Ground.data }, { on := 3, ground := Go.Ground.chain }], guard := Option.none }) rfl (fun K hK => ?_) AllReadyH.nil)
      go_simp
      refine (HC3.out y3 HB_y3.out).mono ?_
      rintro e y7 ⟨A3, c3, rfl, s2, l2, hb⟩
      have HR_y7 := Lib.hid (row_on HR_y3.out hb)
      have HZ_y7 := Lib.hid (row_on HZ_y3.out hb)
      have HN_y7 := Lib.hid (HN_y3.out.on hb)
      have HB_y7 := Lib.hid (chain HB_y3.out hb)
      have HT_y7 := Lib.hid (OwnS.mk s2 (fun g o e => ⟨Nat.le_trans HSZ_y3.out (l2 g o e).1, (l2 g o e).2⟩ : OwnRow (w.heap.size + 2) _ 58 _))
      have HSZ_y7 : RowKit.Hid (w.heap.size + 2 ≤ y7.heap.size) := Lib.hid (Nat.le_trans HSZ_y3.out hb.size)
      have HS_y7 := Lib.hid (HS_y3.out.on hb)
      have HW_y7 := Lib.hid (TwW.mk HN_y7.out HS_y7.out HT_y7.out HB_y7.out HAP.out)
      clear HAP
      clear s2 l2 hb
      go_simp
      refine hK.out _ _ trivial (fun hHeld2 => ?_)
      clear hK K hHeld
      have hHeld := hHeld2
      clear hHeld2
      try simp only [Act.put, List.setIfInBounds_toArray, List.set_cons_zero, List.set_cons_succ]
      refine wpAnyH_ready (rs := [10]) (by kernel_rfl) (by simp) (AllReadyH.cons (o := { dst := Option.none, op := Go.Op.store 26 (Go.Operand.tmp 16) (Go.Operand.tmp 10), type := 0, pos := "revoke.go:120", after := #[{ on := 9, ground := Go.Ground.data }, { on := 3, ground := Go.Ground.data }, { on := 7, ground := Go.Ground.chain }, { on := 0, ground := Go.Ground.phase }, { on := 1, ground := Go.Ground.phase }, { on := 2, ground := Go.Ground.phase }, { on := 3, ground := Go.Ground.phase }, { on := 4, ground := Go.Ground.phase }, { on := 5, ground := Go.Ground.phase }, { on := 6, ground := Go.Ground.phase }, { on := 7, ground := Go.Ground.textOnly Go.Departure.lateStoresUnsure }], guard := Option.none }) rfl (fun K hK => ?_) AllReadyH.nil)
      have HR_y10 := Lib.hid (heap_setCell_same _ _ 6 _ _ (.slice A2 cs.length c2) HR_y7.out)
      have HO := Lib.hid (fun (b : Nat) (h : b ≠ w.heap.size) => Below.heap_setCell y7 ⟨w.heap.size, 6, none⟩ (.slice A2 cs.length c2) b h)
      have HZ_y10 := Lib.hid ((HO.out (w.heap.size + 1) (by omega)).trans HZ_y7.out)
      have HW_y10 := Lib.hid (HW_y7.out.keep0 HO.out (below_setCell (v := .slice A2 cs.length c2) (o := 6) HB_y7.out (Nat.le_refl w.heap.size)))
      have hfz := frozen_of_row y7 _ 6 _ _ HR_y7.out
      obtain ⟨v0, a0, a1, a2, a3, a4, a5, a6, a7⟩ := facts8 HR_y7.out
      go_simp
      clear v0 a0 a1 a2 a3 a4 a5 a6 a7
      clear hfz HO
      generalize World.setCell y7 _ _ = y10 at HR_y10 HZ_y10 HW_y10 ⊢
      have HR_y10 := Lib.hid (show y10.heap[w.heap.size]? = some (.cells #[.string iss, .int .u64 num, .int .i64 fr, .int .i64 tt, .slice A1 xs.length c1, .int .i64 n, .slice A2 cs.length c2, .slice PA ps.length pc] 30 (0, 0)) from HR_y10.out)
      have HB_y10 := Lib.hid HW_y10.out.b
      refine hK.out _ _ trivial (fun hHeld2 => ?_)
      clear hK K hHeld
      have hHeld := hHeld2
      clear hHeld2
      try simp only [Act.put, List.setIfInBounds_toArray, List.set_cons_zero, List.set_cons_succ]
      refine wpAnyH_take (i := 11) (oi := { dst := Option.some 17, op := Go.Op.fieldAddr 30 (Go.Operand.tmp 1) 4, type := 0, pos := "revoke.go:120", after := #[{ on := 0, ground := Go.Ground.phase }, { on := 1, ground := Go.Ground.phase }, { on := 2, ground := Go.Ground.phase }, { on := 3, ground := Go.Ground.phase }, { on := 4, ground := Go.Ground.phase }, { on := 5, ground := Go.Ground.phase }, { on := 6, ground := Go.Ground.phase }, { on := 7, ground := Go.Ground.phase }, { on := 8, ground := Go.Ground.phase }, { on := 9, ground := Go.Ground.phase }, { on := 10, ground := Go.Ground.phase }], guard := Option.none }) (v := ?_) rfl (by kernel_rfl) (by kernel_rfl) (by kernel_rfl) (fun _ _ _ h => h) (Or.inl ⟨by rfl, ?_⟩) hHeld ?_
      rotate_left
      · intro w hSw
        clear hSw
        go_simp
        try with_reducible rfl
      try simp only [Act.put, List.setIfInBounds_toArray, List.set_cons_zero, List.set_cons_succ]
      refine wpAnyH_take (i := 12) (oi := { dst := Option.some 18, op := Go.Op.fieldAddr 28 (Go.Operand.tmp 17) 2, type := 0, pos := "revoke.go:120", after := #[{ on := 11, ground := Go.Ground.data }, { on := 0, ground := Go.Ground.phase }, { on := 1, ground := Go.Ground.phase }, { on := 2, ground := Go.Ground.phase }, { on := 3, ground := Go.Ground.phase }, { on := 4, ground := Go.Ground.phase }, { on := 5, ground := Go.Ground.phase }, { on := 6, ground := Go.Ground.phase }, { on := 7, ground := Go.Ground.phase }, { on := 8, ground := Go.Ground.phase }, { on := 9, ground := Go.Ground.phase }, { on := 10, ground := Go.Ground.phase }], guard := Option.none }) (v := ?_) rfl (by kernel_rfl) (by kernel_rfl) (by kernel_rfl) (fun _ _ _ h => h) (Or.inl ⟨by rfl, ?_⟩) hHeld ?_
      rotate_left
      · intro w hSw
        clear hSw
        go_simp
        try with_reducible rfl
      try simp only [Act.put, List.setIfInBounds_toArray, List.set_cons_zero, List.set_cons_succ]
      refine wpAnyH_ready (rs := [13]) (by kernel_rfl) (by simp) (AllReadyH.cons (o := { dst := Option.none, op := Go.Op.store 26 (Go.Operand.tmp 18) (Go.Operand.tmp 14), type := 0, pos := "revoke.go:120", after := #[{ on := 12, ground := Go.Ground.data }, { on := 7, ground := Go.Ground.data }, { on := 10, ground := Go.Ground.chain }, { on := 0, ground := Go.Ground.phase }, { on := 1, ground := Go.Ground.phase }, { on := 2, ground := Go.Ground.phase }, { on := 3, ground := Go.Ground.phase }, { on := 4, ground := Go.Ground.phase }, { on := 5, ground := Go.Ground.phase }, { on := 6, ground := Go.Ground.phase }, { on := 7, ground := Go.Ground.phase }, { on := 8, ground := Go.Ground.phase }, { on := 9, ground := Go.Ground.phase }, { on := 10, ground := Go.Ground.phase }], guard := Option.none }) rfl (fun K hK => ?_) AllReadyH.nil)
      have HR_y13 := Lib.hid (heap_setCell_same _ _ 7 _ _ (.slice A3 ps.length c3) HR_y10.out)
      have HO := Lib.hid (fun (b : Nat) (h : b ≠ w.heap.size) => Below.heap_setCell y10 ⟨w.heap.size, 7, none⟩ (.slice A3 ps.length c3) b h)
      have HZ_y13 := Lib.hid ((HO.out (w.heap.size + 1) (by omega)).trans HZ_y10.out)
      have HW_y13 := Lib.hid (HW_y10.out.keep0 HO.out (below_setCell (v := .slice A3 ps.length c3) (o := 7) HB_y10.out (Nat.le_refl w.heap.size)))
      have hfz := frozen_of_row y10 _ 7 _ _ HR_y10.out
      obtain ⟨v0, a0, a1, a2, a3, a4, a5, a6, a7⟩ := facts8 HR_y10.out
      go_simp
      clear v0 a0 a1 a2 a3 a4 a5 a6 a7
      clear hfz HO
      generalize World.setCell y10 _ _ = y13 at HR_y13 HZ_y13 HW_y13 ⊢
      have HR_y13 := Lib.hid (show y13.heap[w.heap.size]? = some (.cells #[.string iss, .int .u64 num, .int .i64 fr, .int .i64 tt, .slice A1 xs.length c1, .int .i64 n, .slice A2 cs.length c2, .slice A3 ps.length c3] 30 (0, 0)) from HR_y13.out)
      have HB_y13 := Lib.hid HW_y13.out.b
      refine hK.out _ _ trivial (fun hHeld2 => ?_)
      clear hK K hHeld
      have hHeld := hHeld2
      clear hHeld2
      try simp only [Act.put, List.setIfInBounds_toArray, List.set_cons_zero, List.set_cons_succ]
      refine wpAnyH_done (by kernel_rfl) ?_ _
      go_wp2_with (first | (refine wpList_load_row rfl 30 (.tmp 1) rfl w.heap.size rfl 30 #[.string iss, .int .u64 num, .int .i64 fr, .int .i64 tt, .slice A1 xs.length c1, .int .i64 n, .slice A2 cs.length c2, .slice A3 ps.length c3] (0, 0) _ HR_y13.out Try.underlying30 rfl (sz8 _ rfl) ?_) | (refine wpList_store_mid rfl 30 (.tmp 2) (.tmp 19) rfl (w.heap.size + 1) 0 #[.string iss, .int .u64 num, .int .i64 fr, .int .i64 tt, .slice A1 xs.length c1, .int .i64 n, .slice A2 cs.length c2, .slice A3 ps.length c3] rfl rfl (there_row HZ_y13.out 8 (show 8 ≤ 8 by decide)) (sz8 _ rfl) (by simp [Value.oneCell']) ?_))
      have HR5 := Lib.hid (row_setCells HZ_y13.out (cs := #[.string iss, .int .u64 num, .int .i64 fr, .int .i64 tt, .slice A1 xs.length c1, .int .i64 n, .slice A2 cs.length c2, .slice A3 ps.length c3]) rfl)
      have HO := Lib.hid (fun (b : Nat) (h : b ≠ w.heap.size + 1) => heap_setCells_other [.string iss, .int .u64 num, .int .i64 fr, .int .i64 tt, .slice A1 xs.length c1, .int .i64 n, .slice A2 cs.length c2, .slice A3 ps.length c3] 0 y13 h)
      have HW5 := Lib.hid (HW_y13.out.keep HO.out (below_setCells [.string iss, .int .u64 num, .int .i64 fr, .int .i64 tt, .slice A1 xs.length c1, .int .i64 n, .slice A2 cs.length c2, .slice A3 ps.length c3] 0 y13 HB_y13.out (show w.heap.size ≤ w.heap.size + 1 by omega)))
      clear HO
      generalize World.setCells y13 _ _ _ = W5 at HR5 HW5 ⊢
      refine bodyPost_ret (v := .agg #[.string iss, .int .u64 num, .int .i64 fr, .int .i64 tt, .slice A1 xs.length c1, .int .i64 n, .slice A2 cs.length c2, .slice A3 ps.length c3]) (results_cell_row rfl _ _ (w.heap.size + 1) 30 _ (0, 0) _ rfl HR5.out Try.underlying30 rfl (sz8 _ rfl)) rfl ⟨⟨A1, c1, A2, c2, A3, c3⟩, rfl, ⟨HW5.out.n.nums, HW5.out.s.shs, HW5.out.t.shs, J1.out, J2.out, J3.out⟩, HW5.out.b, fun g o e => ⟨by have := (HW5.out.n.own g o e).1; omega, (HW5.out.n.own g o e).2⟩, fun g o e => ⟨by have := (HW5.out.s.own g o e).1; omega, (HW5.out.s.own g o e).2⟩, HW5.out.ap⟩
    · obtain ⟨v0, a0, a1, a2, a3, a4, a5, a6, a7⟩ := facts8 HR_U.out
      go_simp
      clear v0 a0 a1 a2 a3 a4 a5 a6 a7
      refine hK.out _ _ trivial (fun hHeld2 => ?_)
      clear hK K hHeld
      have hHeld := hHeld2
      clear hHeld2
      try simp only [Act.put, List.setIfInBounds_toArray, List.set_cons_zero, List.set_cons_succ]
      refine wpAnyH_ready (rs := [3]) (by kernel_rfl) (by simp) (AllReadyH.cons (o := { dst := Option.some 10, op := Go.Op.call { callee := Go.Callee.value (Go.Operand.func 25), args := #[Go.Operand.tmp 9], argTypes := #[26] }, type := 26, pos := "revoke.go:120", after := #[{ on := 2, ground := Go.Ground.data }], guard := Option.none }) rfl (fun K hK => ?_) AllReadyH.nil)
      go_simp
      refine (HC2.out U HB_U.out).mono ?_
      rintro e y3 ⟨A2, c2, rfl, s2, l2, hb⟩
      have HR_y3 := Lib.hid (row_on HR_U.out hb)
      have HZ_y3 := Lib.hid (row_on HZ_U.out hb)
      have HN_y3 := Lib.hid (HN_U.out.on hb)
      have HB_y3 := Lib.hid (chain HB_U.out hb)
      have HS_y3 := Lib.hid (OwnS.mk s2 (fun g o e => ⟨Nat.le_trans HSZ_U.out (l2 g o e).1, (l2 g o e).2⟩ : OwnRow (w.heap.size + 2) _ 58 _))
      have HSZ_y3 : RowKit.Hid (w.heap.size + 2 ≤ y3.heap.size) := Lib.hid (Nat.le_trans HSZ_U.out hb.size)
      have HAP : RowKit.Hid (∀ g o h q, A1 = some ⟨g, o, none⟩ → A2 = some ⟨h, q, none⟩ → g ≠ h) := Lib.hid (fun g o h q e1 e2 => by have h1 := HN_U.out.lt e1; have h2 := (l2 h q e2).1; omega)
      clear s2 l2 hb
      go_simp
      refine hK.out _ _ trivial (fun hHeld2 => ?_)
      clear hK K hHeld
      have hHeld := hHeld2
      clear hHeld2
      try simp only [Act.put, List.setIfInBounds_toArray, List.set_cons_zero, List.set_cons_succ]
      refine wpAnyH_take (i := 8) (oi := { dst := Option.some 15, op := Go.Op.fieldAddr 30 (Go.Operand.tmp 1) 4, type := 0, pos := "revoke.go:120", after := #[{ on := 0, ground := Go.Ground.phase }, { on := 1, ground := Go.Ground.phase }, { on := 2, ground := Go.Ground.phase }, { on := 3, ground := Go.Ground.phase }, { on := 4, ground := Go.Ground.phase }, { on := 5, ground := Go.Ground.phase }, { on := 6, ground := Go.Ground.phase }, { on := 7, ground := Go.Ground.textOnly Go.Departure.lateStoresUnsure }], guard := Option.none }) (v := ?_) rfl (by kernel_rfl) (by kernel_rfl) (by kernel_rfl) (fun _ _ _ h => h) (Or.inl ⟨by rfl, ?_⟩) hHeld ?_
      rotate_left
      · intro w hSw
        clear hSw
        go_simp
        try with_reducible rfl
      try simp only [Act.put, List.setIfInBounds_toArray, List.set_cons_zero, List.set_cons_succ]
      refine wpAnyH_take (i := 9) (oi := { dst := Option.some 16, op := Go.Op.fieldAddr 28 (Go.Operand.tmp 15) 1, type := 0, pos := "revoke.go:120", after := #[{ on := 8, ground := Go.Ground.data }, { on := 0, ground := Go.Ground.phase }, { on := 1, ground := Go.Ground.phase }, { on := 2, ground := Go.Ground.phase }, { on := 3, ground := Go.Ground.phase }, { on := 4, ground := Go.Ground.phase }, { on := 5, ground := Go.Ground.phase }, { on := 6, ground := Go.Ground.phase }, { on := 7, ground := Go.Ground.textOnly Go.Departure.lateStoresUnsure }], guard := Option.none }) (v := ?_) rfl (by kernel_rfl) (by kernel_rfl) (by kernel_rfl) (fun _ _ _ h => h) (Or.inl ⟨by rfl, ?_⟩) hHeld ?_
      rotate_left
      · intro w hSw
        clear hSw
        go_simp
        try with_reducible rfl
      try simp only [Act.put, List.setIfInBounds_toArray, List.set_cons_zero, List.set_cons_succ]
      refine wpAnyH_ready (rs := [7]) (by kernel_rfl) (by simp) (AllReadyH.cons (o := { dst := Option.some 14, op := Go.Op.call { callee := Go.Callee.value (Go.Operand.func 25), args := #[Go.Operand.tmp 13], argTypes := #[26] }, type := 26, pos := "revoke.go:120", after := #[{ on := 6, ground := Go.Ground.data }, { on := 3, ground := Go.Ground.chain }], guard := Option.none }) rfl (fun K hK => ?_) AllReadyH.nil)
      go_simp
      refine (HC3.out y3 HB_y3.out).mono ?_
      rintro e y7 ⟨A3, c3, rfl, s2, l2, hb⟩
      have HR_y7 := Lib.hid (row_on HR_y3.out hb)
      have HZ_y7 := Lib.hid (row_on HZ_y3.out hb)
      have HN_y7 := Lib.hid (HN_y3.out.on hb)
      have HB_y7 := Lib.hid (chain HB_y3.out hb)
      have HT_y7 := Lib.hid (OwnS.mk s2 (fun g o e => ⟨Nat.le_trans HSZ_y3.out (l2 g o e).1, (l2 g o e).2⟩ : OwnRow (w.heap.size + 2) _ 58 _))
      have HSZ_y7 : RowKit.Hid (w.heap.size + 2 ≤ y7.heap.size) := Lib.hid (Nat.le_trans HSZ_y3.out hb.size)
      have HS_y7 := Lib.hid (HS_y3.out.on hb)
      have HW_y7 := Lib.hid (TwW.mk HN_y7.out HS_y7.out HT_y7.out HB_y7.out HAP.out)
      clear HAP
      clear s2 l2 hb
      go_simp
      refine hK.out _ _ trivial (fun hHeld2 => ?_)
      clear hK K hHeld
      have hHeld := hHeld2
      clear hHeld2
      try simp only [Act.put, List.setIfInBounds_toArray, List.set_cons_zero, List.set_cons_succ]
      refine wpAnyH_ready (rs := [10]) (by kernel_rfl) (by simp) (AllReadyH.cons (o := { dst := Option.none, op := Go.Op.store 26 (Go.Operand.tmp 16) (Go.Operand.tmp 10), type := 0, pos := "revoke.go:120", after := #[{ on := 9, ground := Go.Ground.data }, { on := 3, ground := Go.Ground.data }, { on := 7, ground := Go.Ground.chain }, { on := 0, ground := Go.Ground.phase }, { on := 1, ground := Go.Ground.phase }, { on := 2, ground := Go.Ground.phase }, { on := 3, ground := Go.Ground.phase }, { on := 4, ground := Go.Ground.phase }, { on := 5, ground := Go.Ground.phase }, { on := 6, ground := Go.Ground.phase }, { on := 7, ground := Go.Ground.textOnly Go.Departure.lateStoresUnsure }], guard := Option.none }) rfl (fun K hK => ?_) AllReadyH.nil)
      have HR_y10 := Lib.hid (heap_setCell_same _ _ 6 _ _ (.slice A2 cs.length c2) HR_y7.out)
      have HO := Lib.hid (fun (b : Nat) (h : b ≠ w.heap.size) => Below.heap_setCell y7 ⟨w.heap.size, 6, none⟩ (.slice A2 cs.length c2) b h)
      have HZ_y10 := Lib.hid ((HO.out (w.heap.size + 1) (by omega)).trans HZ_y7.out)
      have HW_y10 := Lib.hid (HW_y7.out.keep0 HO.out (below_setCell (v := .slice A2 cs.length c2) (o := 6) HB_y7.out (Nat.le_refl w.heap.size)))
      have hfz := frozen_of_row y7 _ 6 _ _ HR_y7.out
      obtain ⟨v0, a0, a1, a2, a3, a4, a5, a6, a7⟩ := facts8 HR_y7.out
      go_simp
      clear v0 a0 a1 a2 a3 a4 a5 a6 a7
      clear hfz HO
      generalize World.setCell y7 _ _ = y10 at HR_y10 HZ_y10 HW_y10 ⊢
      have HR_y10 := Lib.hid (show y10.heap[w.heap.size]? = some (.cells #[.string iss, .int .u64 num, .int .i64 fr, .int .i64 tt, .slice A1 xs.length c1, .int .i64 n, .slice A2 cs.length c2, .slice PA ps.length pc] 30 (0, 0)) from HR_y10.out)
      have HB_y10 := Lib.hid HW_y10.out.b
      refine hK.out _ _ trivial (fun hHeld2 => ?_)
      clear hK K hHeld
      have hHeld := hHeld2
      clear hHeld2
      try simp only [Act.put, List.setIfInBounds_toArray, List.set_cons_zero, List.set_cons_succ]
      refine wpAnyH_take (i := 11) (oi := { dst := Option.some 17, op := Go.Op.fieldAddr 30 (Go.Operand.tmp 1) 4, type := 0, pos := "revoke.go:120", after := #[{ on := 0, ground := Go.Ground.phase }, { on := 1, ground := Go.Ground.phase }, { on := 2, ground := Go.Ground.phase }, { on := 3, ground := Go.Ground.phase }, { on := 4, ground := Go.Ground.phase }, { on := 5, ground := Go.Ground.phase }, { on := 6, ground := Go.Ground.phase }, { on := 7, ground := Go.Ground.phase }, { on := 8, ground := Go.Ground.phase }, { on := 9, ground := Go.Ground.phase }, { on := 10, ground := Go.Ground.phase }], guard := Option.none }) (v := ?_) rfl (by kernel_rfl) (by kernel_rfl) (by kernel_rfl) (fun _ _ _ h => h) (Or.inl ⟨by rfl, ?_⟩) hHeld ?_
      rotate_left
      · intro w hSw
        clear hSw
        go_simp
        try with_reducible rfl
      try simp only [Act.put, List.setIfInBounds_toArray, List.set_cons_zero, List.set_cons_succ]
      refine wpAnyH_take (i := 12) (oi := { dst := Option.some 18, op := Go.Op.fieldAddr 28 (Go.Operand.tmp 17) 2, type := 0, pos := "revoke.go:120", after := #[{ on := 11, ground := Go.Ground.data }, { on := 0, ground := Go.Ground.phase }, { on := 1, ground := Go.Ground.phase }, { on := 2, ground := Go.Ground.phase }, { on := 3, ground := Go.Ground.phase }, { on := 4, ground := Go.Ground.phase }, { on := 5, ground := Go.Ground.phase }, { on := 6, ground := Go.Ground.phase }, { on := 7, ground := Go.Ground.phase }, { on := 8, ground := Go.Ground.phase }, { on := 9, ground := Go.Ground.phase }, { on := 10, ground := Go.Ground.phase }], guard := Option.none }) (v := ?_) rfl (by kernel_rfl) (by kernel_rfl) (by kernel_rfl) (fun _ _ _ h => h) (Or.inl ⟨by rfl, ?_⟩) hHeld ?_
      rotate_left
      · intro w hSw
        clear hSw
        go_simp
        try with_reducible rfl
      try simp only [Act.put, List.setIfInBounds_toArray, List.set_cons_zero, List.set_cons_succ]
      refine wpAnyH_ready (rs := [13]) (by kernel_rfl) (by simp) (AllReadyH.cons (o := { dst := Option.none, op := Go.Op.store 26 (Go.Operand.tmp 18) (Go.Operand.tmp 14), type := 0, pos := "revoke.go:120", after := #[{ on := 12, ground := Go.Ground.data }, { on := 7, ground := Go.Ground.data }, { on := 10, ground := Go.Ground.chain }, { on := 0, ground := Go.Ground.phase }, { on := 1, ground := Go.Ground.phase }, { on := 2, ground := Go.Ground.phase }, { on := 3, ground := Go.Ground.phase }, { on := 4, ground := Go.Ground.phase }, { on := 5, ground := Go.Ground.phase }, { on := 6, ground := Go.Ground.phase }, { on := 7, ground := Go.Ground.phase }, { on := 8, ground := Go.Ground.phase }, { on := 9, ground := Go.Ground.phase }, { on := 10, ground := Go.Ground.phase }], guard := Option.none }) rfl (fun K hK => ?_) AllReadyH.nil)
      have HR_y13 := Lib.hid (heap_setCell_same _ _ 7 _ _ (.slice A3 ps.length c3) HR_y10.out)
      have HO := Lib.hid (fun (b : Nat) (h : b ≠ w.heap.size) => Below.heap_setCell y10 ⟨w.heap.size, 7, none⟩ (.slice A3 ps.length c3) b h)
      have HZ_y13 := Lib.hid ((HO.out (w.heap.size + 1) (by omega)).trans HZ_y10.out)
      have HW_y13 := Lib.hid (HW_y10.out.keep0 HO.out (below_setCell (v := .slice A3 ps.length c3) (o := 7) HB_y10.out (Nat.le_refl w.heap.size)))
      have hfz := frozen_of_row y10 _ 7 _ _ HR_y10.out
      obtain ⟨v0, a0, a1, a2, a3, a4, a5, a6, a7⟩ := facts8 HR_y10.out
      go_simp
      clear v0 a0 a1 a2 a3 a4 a5 a6 a7
      clear hfz HO
      generalize World.setCell y10 _ _ = y13 at HR_y13 HZ_y13 HW_y13 ⊢
      have HR_y13 := Lib.hid (show y13.heap[w.heap.size]? = some (.cells #[.string iss, .int .u64 num, .int .i64 fr, .int .i64 tt, .slice A1 xs.length c1, .int .i64 n, .slice A2 cs.length c2, .slice A3 ps.length c3] 30 (0, 0)) from HR_y13.out)
      have HB_y13 := Lib.hid HW_y13.out.b
      refine hK.out _ _ trivial (fun hHeld2 => ?_)
      clear hK K hHeld
      have hHeld := hHeld2
      clear hHeld2
      try simp only [Act.put, List.setIfInBounds_toArray, List.set_cons_zero, List.set_cons_succ]
      refine wpAnyH_done (by kernel_rfl) ?_ _
      go_wp2_with (first | (refine wpList_load_row rfl 30 (.tmp 1) rfl w.heap.size rfl 30 #[.string iss, .int .u64 num, .int .i64 fr, .int .i64 tt, .slice A1 xs.length c1, .int .i64 n, .slice A2 cs.length c2, .slice A3 ps.length c3] (0, 0) _ HR_y13.out Try.underlying30 rfl (sz8 _ rfl) ?_) | (refine wpList_store_mid rfl 30 (.tmp 2) (.tmp 19) rfl (w.heap.size + 1) 0 #[.string iss, .int .u64 num, .int .i64 fr, .int .i64 tt, .slice A1 xs.length c1, .int .i64 n, .slice A2 cs.length c2, .slice A3 ps.length c3] rfl rfl (there_row HZ_y13.out 8 (show 8 ≤ 8 by decide)) (sz8 _ rfl) (by simp [Value.oneCell']) ?_))
      have HR5 := Lib.hid (row_setCells HZ_y13.out (cs := #[.string iss, .int .u64 num, .int .i64 fr, .int .i64 tt, .slice A1 xs.length c1, .int .i64 n, .slice A2 cs.length c2, .slice A3 ps.length c3]) rfl)
      have HO := Lib.hid (fun (b : Nat) (h : b ≠ w.heap.size + 1) => heap_setCells_other [.string iss, .int .u64 num, .int .i64 fr, .int .i64 tt, .slice A1 xs.length c1, .int .i64 n, .slice A2 cs.length c2, .slice A3 ps.length c3] 0 y13 h)
      have HW5 := Lib.hid (HW_y13.out.keep HO.out (below_setCells [.string iss, .int .u64 num, .int .i64 fr, .int .i64 tt, .slice A1 xs.length c1, .int .i64 n, .slice A2 cs.length c2, .slice A3 ps.length c3] 0 y13 HB_y13.out (show w.heap.size ≤ w.heap.size + 1 by omega)))
      clear HO
      generalize World.setCells y13 _ _ _ = W5 at HR5 HW5 ⊢
      refine bodyPost_ret (v := .agg #[.string iss, .int .u64 num, .int .i64 fr, .int .i64 tt, .slice A1 xs.length c1, .int .i64 n, .slice A2 cs.length c2, .slice A3 ps.length c3]) (results_cell_row rfl _ _ (w.heap.size + 1) 30 _ (0, 0) _ rfl HR5.out Try.underlying30 rfl (sz8 _ rfl)) rfl ⟨⟨A1, c1, A2, c2, A3, c3⟩, rfl, ⟨HW5.out.n.nums, HW5.out.s.shs, HW5.out.t.shs, J1.out, J2.out, J3.out⟩, HW5.out.b, fun g o e => ⟨by have := (HW5.out.n.own g o e).1; omega, (HW5.out.n.own g o e).2⟩, fun g o e => ⟨by have := (HW5.out.s.own g o e).1; omega, (HW5.out.s.own g o e).2⟩, HW5.out.ap⟩
  · obtain ⟨v0, a0, a1, a2, a3, a4, a5, a6, a7⟩ := facts8 HR_U.out
    go_simp
    clear v0 a0 a1 a2 a3 a4 a5 a6 a7
    refine hK.out _ _ trivial (fun hHeld2 => ?_)
    clear hK K hHeld
    have hHeld := hHeld2
    clear hHeld2
    try simp only [Act.put, List.setIfInBounds_toArray, List.set_cons_zero, List.set_cons_succ]
    refine wpAnyH_ready (rs := [2]) (by kernel_rfl) (by simp) (AllReadyH.cons (o := { dst := Option.some 9, op := Go.Op.load 26 (Go.Operand.tmp 8), type := 26, pos := "revoke.go:120", after := #[{ on := 1, ground := Go.Ground.data }], guard := Option.none }) rfl (fun K hK => ?_) AllReadyH.nil)
    obtain ⟨v0, a0, a1, a2, a3, a4, a5, a6, a7⟩ := facts8 HR_U.out
    go_simp
    clear v0 a0 a1 a2 a3 a4 a5 a6 a7
    refine hK.out _ _ trivial (fun hHeld2 => ?_)
    clear hK K hHeld
    have hHeld := hHeld2
    clear hHeld2
    try simp only [Act.put, List.setIfInBounds_toArray, List.set_cons_zero, List.set_cons_succ]
    refine wpAnyH_ready (rs := [3]) (by kernel_rfl) (by simp) (AllReadyH.cons (o := { dst := Option.some 10, op := Go.Op.call { callee := Go.Callee.value (Go.Operand.func 25), args := #[Go.Operand.tmp 9], argTypes := #[26] }, type := 26, pos := "revoke.go:120", after := #[{ on := 2, ground := Go.Ground.data }], guard := Option.none }) rfl (fun K hK => ?_) AllReadyH.nil)
    go_simp
    refine (HC2.out U HB_U.out).mono ?_
    rintro e y3 ⟨A2, c2, rfl, s2, l2, hb⟩
    have HR_y3 := Lib.hid (row_on HR_U.out hb)
    have HZ_y3 := Lib.hid (row_on HZ_U.out hb)
    have HN_y3 := Lib.hid (HN_U.out.on hb)
    have HB_y3 := Lib.hid (chain HB_U.out hb)
    have HS_y3 := Lib.hid (OwnS.mk s2 (fun g o e => ⟨Nat.le_trans HSZ_U.out (l2 g o e).1, (l2 g o e).2⟩ : OwnRow (w.heap.size + 2) _ 58 _))
    have HSZ_y3 : RowKit.Hid (w.heap.size + 2 ≤ y3.heap.size) := Lib.hid (Nat.le_trans HSZ_U.out hb.size)
    have HAP : RowKit.Hid (∀ g o h q, A1 = some ⟨g, o, none⟩ → A2 = some ⟨h, q, none⟩ → g ≠ h) := Lib.hid (fun g o h q e1 e2 => by have h1 := HN_U.out.lt e1; have h2 := (l2 h q e2).1; omega)
    clear s2 l2 hb
    go_simp
    refine hK.out _ _ trivial (fun hHeld2 => ?_)
    clear hK K hHeld
    have hHeld := hHeld2
    clear hHeld2
    try simp only [Act.put, List.setIfInBounds_toArray, List.set_cons_zero, List.set_cons_succ]
    refine wpAnyH_take (i := 8) (oi := { dst := Option.some 15, op := Go.Op.fieldAddr 30 (Go.Operand.tmp 1) 4, type := 0, pos := "revoke.go:120", after := #[{ on := 0, ground := Go.Ground.phase }, { on := 1, ground := Go.Ground.phase }, { on := 2, ground := Go.Ground.phase }, { on := 3, ground := Go.Ground.phase }, { on := 4, ground := Go.Ground.phase }, { on := 5, ground := Go.Ground.phase }, { on := 6, ground := Go.Ground.phase }, { on := 7, ground := Go.Ground.textOnly Go.Departure.lateStoresUnsure }], guard := Option.none }) (v := ?_) rfl (by kernel_rfl) (by kernel_rfl) (by kernel_rfl) (fun _ _ _ h => h) (Or.inl ⟨by rfl, ?_⟩) hHeld ?_
    rotate_left
    · intro w hSw
      clear hSw
      go_simp
      try with_reducible rfl
    try simp only [Act.put, List.setIfInBounds_toArray, List.set_cons_zero, List.set_cons_succ]
    refine wpAnyH_take (i := 9) (oi := { dst := Option.some 16, op := Go.Op.fieldAddr 28 (Go.Operand.tmp 15) 1, type := 0, pos := "revoke.go:120", after := #[{ on := 8, ground := Go.Ground.data }, { on := 0, ground := Go.Ground.phase }, { on := 1, ground := Go.Ground.phase }, { on := 2, ground := Go.Ground.phase }, { on := 3, ground := Go.Ground.phase }, { on := 4, ground := Go.Ground.phase }, { on := 5, ground := Go.Ground.phase }, { on := 6, ground := Go.Ground.phase }, { on := 7, ground := Go.Ground.textOnly Go.Departure.lateStoresUnsure }], guard := Option.none }) (v := ?_) rfl (by kernel_rfl) (by kernel_rfl) (by kernel_rfl) (fun _ _ _ h => h) (Or.inl ⟨by rfl, ?_⟩) hHeld ?_
    rotate_left
    · intro w hSw
      clear hSw
      go_simp
      try with_reducible rfl
    try simp only [Act.put, List.setIfInBounds_toArray, List.set_cons_zero, List.set_cons_succ]
    refine wpAnyH_ready (rs := [7]) (by kernel_rfl) (by simp) (AllReadyH.cons (o := { dst := Option.some 14, op := Go.Op.call { callee := Go.Callee.value (Go.Operand.func 25), args := #[Go.Operand.tmp 13], argTypes := #[26] }, type := 26, pos := "revoke.go:120", after := #[{ on := 6, ground := Go.Ground.data }, { on := 3, ground := Go.Ground.chain }], guard := Option.none }) rfl (fun K hK => ?_) AllReadyH.nil)
    go_simp
    refine (HC3.out y3 HB_y3.out).mono ?_
    rintro e y7 ⟨A3, c3, rfl, s2, l2, hb⟩
    have HR_y7 := Lib.hid (row_on HR_y3.out hb)
    have HZ_y7 := Lib.hid (row_on HZ_y3.out hb)
    have HN_y7 := Lib.hid (HN_y3.out.on hb)
    have HB_y7 := Lib.hid (chain HB_y3.out hb)
    have HT_y7 := Lib.hid (OwnS.mk s2 (fun g o e => ⟨Nat.le_trans HSZ_y3.out (l2 g o e).1, (l2 g o e).2⟩ : OwnRow (w.heap.size + 2) _ 58 _))
    have HSZ_y7 : RowKit.Hid (w.heap.size + 2 ≤ y7.heap.size) := Lib.hid (Nat.le_trans HSZ_y3.out hb.size)
    have HS_y7 := Lib.hid (HS_y3.out.on hb)
    have HW_y7 := Lib.hid (TwW.mk HN_y7.out HS_y7.out HT_y7.out HB_y7.out HAP.out)
    clear HAP
    clear s2 l2 hb
    go_simp
    refine hK.out _ _ trivial (fun hHeld2 => ?_)
    clear hK K hHeld
    have hHeld := hHeld2
    clear hHeld2
    try simp only [Act.put, List.setIfInBounds_toArray, List.set_cons_zero, List.set_cons_succ]
    refine wpAnyH_ready (rs := [10]) (by kernel_rfl) (by simp) (AllReadyH.cons (o := { dst := Option.none, op := Go.Op.store 26 (Go.Operand.tmp 16) (Go.Operand.tmp 10), type := 0, pos := "revoke.go:120", after := #[{ on := 9, ground := Go.Ground.data }, { on := 3, ground := Go.Ground.data }, { on := 7, ground := Go.Ground.chain }, { on := 0, ground := Go.Ground.phase }, { on := 1, ground := Go.Ground.phase }, { on := 2, ground := Go.Ground.phase }, { on := 3, ground := Go.Ground.phase }, { on := 4, ground := Go.Ground.phase }, { on := 5, ground := Go.Ground.phase }, { on := 6, ground := Go.Ground.phase }, { on := 7, ground := Go.Ground.textOnly Go.Departure.lateStoresUnsure }], guard := Option.none }) rfl (fun K hK => ?_) AllReadyH.nil)
    have HR_y10 := Lib.hid (heap_setCell_same _ _ 6 _ _ (.slice A2 cs.length c2) HR_y7.out)
    have HO := Lib.hid (fun (b : Nat) (h : b ≠ w.heap.size) => Below.heap_setCell y7 ⟨w.heap.size, 6, none⟩ (.slice A2 cs.length c2) b h)
    have HZ_y10 := Lib.hid ((HO.out (w.heap.size + 1) (by omega)).trans HZ_y7.out)
    have HW_y10 := Lib.hid (HW_y7.out.keep0 HO.out (below_setCell (v := .slice A2 cs.length c2) (o := 6) HB_y7.out (Nat.le_refl w.heap.size)))
    have hfz := frozen_of_row y7 _ 6 _ _ HR_y7.out
    obtain ⟨v0, a0, a1, a2, a3, a4, a5, a6, a7⟩ := facts8 HR_y7.out
    go_simp
    clear v0 a0 a1 a2 a3 a4 a5 a6 a7
    clear hfz HO
    generalize World.setCell y7 _ _ = y10 at HR_y10 HZ_y10 HW_y10 ⊢
    have HR_y10 := Lib.hid (show y10.heap[w.heap.size]? = some (.cells #[.string iss, .int .u64 num, .int .i64 fr, .int .i64 tt, .slice A1 xs.length c1, .int .i64 n, .slice A2 cs.length c2, .slice PA ps.length pc] 30 (0, 0)) from HR_y10.out)
    have HB_y10 := Lib.hid HW_y10.out.b
    refine hK.out _ _ trivial (fun hHeld2 => ?_)
    clear hK K hHeld
    have hHeld := hHeld2
    clear hHeld2
    try simp only [Act.put, List.setIfInBounds_toArray, List.set_cons_zero, List.set_cons_succ]
    refine wpAnyH_take (i := 11) (oi := { dst := Option.some 17, op := Go.Op.fieldAddr 30 (Go.Operand.tmp 1) 4, type := 0, pos := "revoke.go:120", after := #[{ on := 0, ground := Go.Ground.phase }, { on := 1, ground := Go.Ground.phase }, { on := 2, ground := Go.Ground.phase }, { on := 3, ground := Go.Ground.phase }, { on := 4, ground := Go.Ground.phase }, { on := 5, ground := Go.Ground.phase }, { on := 6, ground := Go.Ground.phase }, { on := 7, ground := Go.Ground.phase }, { on := 8, ground := Go.Ground.phase }, { on := 9, ground := Go.Ground.phase }, { on := 10, ground := Go.Ground.phase }], guard := Option.none }) (v := ?_) rfl (by kernel_rfl) (by kernel_rfl) (by kernel_rfl) (fun _ _ _ h => h) (Or.inl ⟨by rfl, ?_⟩) hHeld ?_
    rotate_left
    · intro w hSw
      clear hSw
      go_simp
      try with_reducible rfl
    try simp only [Act.put, List.setIfInBounds_toArray, List.set_cons_zero, List.set_cons_succ]
    refine wpAnyH_take (i := 12) (oi := { dst := Option.some 18, op := Go.Op.fieldAddr 28 (Go.Operand.tmp 17) 2, type := 0, pos := "revoke.go:120", after := #[{ on := 11, ground := Go.Ground.data }, { on := 0, ground := Go.Ground.phase }, { on := 1, ground := Go.Ground.phase }, { on := 2, ground := Go.Ground.phase }, { on := 3, ground := Go.Ground.phase }, { on := 4, ground := Go.Ground.phase }, { on := 5, ground := Go.Ground.phase }, { on := 6, ground := Go.Ground.phase }, { on := 7, ground := Go.Ground.phase }, { on := 8, ground := Go.Ground.phase }, { on := 9, ground := Go.Ground.phase }, { on := 10, ground := Go.Ground.phase }], guard := Option.none }) (v := ?_) rfl (by kernel_rfl) (by kernel_rfl) (by kernel_rfl) (fun _ _ _ h => h) (Or.inl ⟨by rfl, ?_⟩) hHeld ?_
    rotate_left
    · intro w hSw
      clear hSw
      go_simp
      try with_reducible rfl
    try simp only [Act.put, List.setIfInBounds_toArray, List.set_cons_zero, List.set_cons_succ]
    refine wpAnyH_ready (rs := [13]) (by kernel_rfl) (by simp) (AllReadyH.cons (o := { dst := Option.none, op := Go.Op.store 26 (Go.Operand.tmp 18) (Go.Operand.tmp 14), type := 0, pos := "revoke.go:120", after := #[{ on := 12, ground := Go.Ground.data }, { on := 7, ground := Go.Ground.data }, { on := 10, ground := Go.Ground.chain }, { on := 0, ground := Go.Ground.phase }, { on := 1, ground := Go.Ground.phase }, { on := 2, ground := Go.Ground.phase }, { on := 3, ground := Go.Ground.phase }, { on := 4, ground := Go.Ground.phase }, { on := 5, ground := Go.Ground.phase }, { on := 6, ground := Go.Ground.phase }, { on := 7, ground := Go.Ground.phase }, { on := 8, ground := Go.Ground.phase }, { on := 9, ground := Go.Ground.phase }, { on := 10, ground := Go.Ground.phase }], guard := Option.none }) rfl (fun K hK => ?_) AllReadyH.nil)
    have HR_y13 := Lib.hid (heap_setCell_same _ _ 7 _ _ (.slice A3 ps.length c3) HR_y10.out)
    have HO := Lib.hid (fun (b : Nat) (h : b ≠ w.heap.size) => Below.heap_setCell y10 ⟨w.heap.size, 7, none⟩ (.slice A3 ps.length c3) b h)
    have HZ_y13 := Lib.hid ((HO.out (w.heap.size + 1) (by omega)).trans HZ_y10.out)
    have HW_y13 := Lib.hid (HW_y10.out.keep0 HO.out (below_setCell (v := .slice A3 ps.length c3) (o := 7) HB_y10.out (Nat.le_refl w.heap.size)))
    have hfz := frozen_of_row y10 _ 7 _ _ HR_y10.out
    obtain ⟨v0, a0, a1, a2, a3, a4, a5, a6, a7⟩ := facts8 HR_y10.out
    go_simp
    clear v0 a0 a1 a2 a3 a4 a5 a6 a7
    clear hfz HO
    generalize World.setCell y10 _ _ = y13 at HR_y13 HZ_y13 HW_y13 ⊢
    have HR_y13 := Lib.hid (show y13.heap[w.heap.size]? = some (.cells #[.string iss, .int .u64 num, .int .i64 fr, .int .i64 tt, .slice A1 xs.length c1, .int .i64 n, .slice A2 cs.length c2, .slice A3 ps.length c3] 30 (0, 0)) from HR_y13.out)
    have HB_y13 := Lib.hid HW_y13.out.b
    refine hK.out _ _ trivial (fun hHeld2 => ?_)
    clear hK K hHeld
    have hHeld := hHeld2
    clear hHeld2
    try simp only [Act.put, List.setIfInBounds_toArray, List.set_cons_zero, List.set_cons_succ]
    refine wpAnyH_done (by kernel_rfl) ?_ _
    go_wp2_with (first | (refine wpList_load_row rfl 30 (.tmp 1) rfl w.heap.size rfl 30 #[.string iss, .int .u64 num, .int .i64 fr, .int .i64 tt, .slice A1 xs.length c1, .int .i64 n, .slice A2 cs.length c2, .slice A3 ps.length c3] (0, 0) _ HR_y13.out Try.underlying30 rfl (sz8 _ rfl) ?_) | (refine wpList_store_mid rfl 30 (.tmp 2) (.tmp 19) rfl (w.heap.size + 1) 0 #[.string iss, .int .u64 num, .int .i64 fr, .int .i64 tt, .slice A1 xs.length c1, .int .i64 n, .slice A2 cs.length c2, .slice A3 ps.length c3] rfl rfl (there_row HZ_y13.out 8 (show 8 ≤ 8 by decide)) (sz8 _ rfl) (by simp [Value.oneCell']) ?_))
    have HR5 := Lib.hid (row_setCells HZ_y13.out (cs := #[.string iss, .int .u64 num, .int .i64 fr, .int .i64 tt, .slice A1 xs.length c1, .int .i64 n, .slice A2 cs.length c2, .slice A3 ps.length c3]) rfl)
    have HO := Lib.hid (fun (b : Nat) (h : b ≠ w.heap.size + 1) => heap_setCells_other [.string iss, .int .u64 num, .int .i64 fr, .int .i64 tt, .slice A1 xs.length c1, .int .i64 n, .slice A2 cs.length c2, .slice A3 ps.length c3] 0 y13 h)
    have HW5 := Lib.hid (HW_y13.out.keep HO.out (below_setCells [.string iss, .int .u64 num, .int .i64 fr, .int .i64 tt, .slice A1 xs.length c1, .int .i64 n, .slice A2 cs.length c2, .slice A3 ps.length c3] 0 y13 HB_y13.out (show w.heap.size ≤ w.heap.size + 1 by omega)))
    clear HO
    generalize World.setCells y13 _ _ _ = W5 at HR5 HW5 ⊢
    refine bodyPost_ret (v := .agg #[.string iss, .int .u64 num, .int .i64 fr, .int .i64 tt, .slice A1 xs.length c1, .int .i64 n, .slice A2 cs.length c2, .slice A3 ps.length c3]) (results_cell_row rfl _ _ (w.heap.size + 1) 30 _ (0, 0) _ rfl HR5.out Try.underlying30 rfl (sz8 _ rfl)) rfl ⟨⟨A1, c1, A2, c2, A3, c3⟩, rfl, ⟨HW5.out.n.nums, HW5.out.s.shs, HW5.out.t.shs, J1.out, J2.out, J3.out⟩, HW5.out.b, fun g o e => ⟨by have := (HW5.out.n.own g o e).1; omega, (HW5.out.n.own g o e).2⟩, fun g o e => ⟨by have := (HW5.out.s.own g o e).1; omega, (HW5.out.s.own g o e).2⟩, HW5.out.ap⟩
end Sg
end Go.Proofs.Ytganaidlpnnajaa
