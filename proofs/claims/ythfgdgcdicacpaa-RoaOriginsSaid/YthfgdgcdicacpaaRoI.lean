import Derived.Test.YthfgdgcdicacpaaRoH
import Derived.Test.YthfgdgcdicacpaaOcRAC
namespace Go.Proofs.Ythfgdgcdicacpaa
namespace Ro
open Go.RowKit Sha Oc En Adr
set_option linter.unusedVariables false
set_option linter.unusedSimpArgs false
theorem sz3l (a b c : Value) : (Try.prog.info? 63).map (·.size) = some ([a, b, c] : List Value).length := by
 show _ = some 3
 kernel_rfl
theorem c10 {V : World} {M : Nat} {a : Value} {T : TypeId} (H : V.heap[M]? = some (.cells #[a] T (0, 0))) : V.cell? ⟨M, 0, none⟩ = some a := cell_of_row _ _ _ _ _ _ H
theorem f10 {V : World} {M : Nat} {a : Value} {T : TypeId} (H : V.heap[M]? = some (.cells #[a] T (0, 0))) : V.frozen? ⟨M, 0, none⟩ = false := frozen_of_row _ _ _ _ _ H
theorem below_low14 {n N : Nat} {w z V : World} (h : Below n w z) (hn : n ≤ N) (hb : Below N z V) : Below n w V := h.trans ⟨hb.os, hb.tape, hb.output, hb.size, fun k hk => hb.block k (by omega)⟩
structure Rst (N : Nat) (W0 : World) (E EB VB AT : Nat) (val : Value) (k : Nat) (e : Int) (V : World) : Prop where
 bel : Below N W0 V
 rE : V.heap[E]? = some (.cells #[.int .i64 e] 28 (0, 0))
 rEB : V.heap[EB]? = some (.cells #[.pointer (some ⟨E, 0, none⟩)] 104 (0, 0))
 rVB : V.heap[VB]? = some (.cells #[val] 61 (0, 0))
 rAT : V.heap[AT]? = some (.cells #[.int .i64 (k : Int)] 3 (0, 0))
 nE : N ≤ E
 nA : N ≤ AT
 d1 : E ≠ EB
 d2 : E ≠ VB
 d3 : E ≠ AT
 d4 : AT ≠ EB
 d5 : AT ≠ VB
theorem Rst.on {N : Nat} {W0 : World} {E EB VB AT : Nat} {val : Value} {k : Nat} {e : Int} {V U : World} (h : Rst N W0 E EB VB AT val k e V) (hN : N ≤ V.heap.size) (hb : Below V.heap.size V U) : Rst N W0 E EB VB AT val k e U :=
 ⟨h.bel.trans (hb.mono hN), row_on h.rE hb, row_on h.rEB hb, row_on h.rVB hb, row_on h.rAT hb, h.nE, h.nA, h.d1, h.d2, h.d3, h.d4, h.d5⟩
theorem Rst.setE {N : Nat} {W0 : World} {E EB VB AT : Nat} {val : Value} {k : Nat} {e : Int} {V : World} (h : Rst N W0 E EB VB AT val k e V) (e' : Int) : Rst N W0 E EB VB AT val k e' (V.setCell ⟨E, 0, none⟩ (.int .i64 e')) :=
 ⟨h.bel.setCell h.nE _, heap_setCell_same _ _ _ _ _ _ h.rE, (Below.heap_setCell _ _ _ _ (Ne.symm h.d1)).trans h.rEB, (Below.heap_setCell _ _ _ _ (Ne.symm h.d2)).trans h.rVB, (Below.heap_setCell _ _ _ _ (Ne.symm h.d3)).trans h.rAT, h.nE, h.nA, h.d1, h.d2, h.d3, h.d4, h.d5⟩
theorem Rst.setA {N : Nat} {W0 : World} {E EB VB AT : Nat} {val : Value} {k : Nat} {e : Int} {V : World} (h : Rst N W0 E EB VB AT val k e V) (k' : Nat) : Rst N W0 E EB VB AT val k' e (V.setCell ⟨AT, 0, none⟩ (.int .i64 (k' : Int))) :=
 ⟨h.bel.setCell h.nA _, (Below.heap_setCell _ _ _ _ h.d3).trans h.rE, (Below.heap_setCell _ _ _ _ (Ne.symm h.d4)).trans h.rEB, (Below.heap_setCell _ _ _ _ (Ne.symm h.d5)).trans h.rVB, heap_setCell_same _ _ _ _ _ _ h.rAT, h.nE, h.nA, h.d1, h.d2, h.d3, h.d4, h.d5⟩
theorem range_set {V : World} {g o E : Nat} {cs : List Value} (h : V.rangeAt g o cs) (hne : g ≠ E) (v : Value) : (V.setCell ⟨E, 0, none⟩ v).rangeAt g o cs := fun j u hj => by
 have h1 := h j u hj
 have hk : (V.setCell ⟨E, 0, none⟩ v).heap[g]? = V.heap[g]? := Below.heap_setCell _ _ _ _ hne
 simp only [World.cell?, hk] at h1 ⊢
 exact h1
abbrev rN (v : Oct) (tg : UInt8) (M : Int) : Int × Int := rdN (tagO v) tg (bytO v) (kids v).length M
theorem rnum_any (v : Oct) (tg : UInt8) (M : Int) (w : World) (x y : Value) (hat : At (fun _ => True) w v x y) :
  Calls Try.prog 84 #[.agg (cell3 v x y), .int .u8 (tg.toNat : Int), .int .u64 M] w fun e w' => e = .returned (.tuple #[.int .u64 (rN v tg M).1, .int .i64 (rN v tg M).2]) ∧ Below w.heap.size w w' := by
 obtain ⟨t, b, l⟩ := v
 exact readnum_any t b l tg M w x y hat
def NxP (N : Nat) (W0 : World) (E EB VB AT : Nat) (val : Value) (k' : Nat) (x e' : Int) (en : Ending) (V' : World) : Prop := en = .returned (.int .u64 x) ∧ Rst N W0 E EB VB AT val k' e' V'
set_option maxRecDepth 100000 in
set_option maxHeartbeats 4000000 in
theorem next_err (M : Int) {N : Nat} {W0 : World} {E EB VB AT : Nat} {val : Value} {k : Nat} {e : Int} {V : World} (hS : Rst N W0 E EB VB AT val k e V) (he : e ≠ 0) :
  Calls Try.prog 83 #[.int .u64 M, .pointer (some ⟨EB, 0, none⟩), .pointer (some ⟨VB, 0, none⟩), .pointer (some ⟨AT, 0, none⟩)] V (NxP N W0 E EB VB AT val k 0 e) := by
 have hcB := c10 hS.rEB
 have hcE := c10 hS.rE
 have i1 : (e != 0) = true := by rw [bne_iff_ne]; exact he
 have HS := Lib.hid hS
 have hl1 := (Array.getElem?_eq_some_iff.1 hS.rE).1
 have hl2 := (Array.getElem?_eq_some_iff.1 hS.rEB).1
 clear hS he
 unfold NxP
 go_enter Try.func83, Try.ntmps83
 go_wp2_with fail
 go_ret
 exact ⟨rfl, HS.out⟩
set_option maxRecDepth 100000 in
set_option maxHeartbeats 4000000 in
theorem next_ok (M : Int) {N : Nat} {W0 : World} {E EB VB AT : Nat} {B : Option Addr} {n c : Nat} {l : List Oct} (hn : l.length = n) {g off : Nat} {vb vl : Nat → Value} (he : ElsR (fun g => g < N) W0 B l g off vb vl) {k : Nat} {V : World} (hS : Rst N W0 E EB VB AT (.slice B n c) k 0 V) (hk : k < n) (hk2 : k < 200) (hNV : N ≤ V.heap.size) {o : Oct} (ho : l[k]? = some o) :
  Calls Try.prog 83 #[.int .u64 M, .pointer (some ⟨EB, 0, none⟩), .pointer (some ⟨VB, 0, none⟩), .pointer (some ⟨AT, 0, none⟩)] V (NxP N W0 E EB VB AT (.slice B n c) (k + 1) (rN o (UInt8.ofNat (k + 1)) M).1 (rN o (UInt8.ofNat (k + 1)) M).2) := by
 have hne : l ≠ [] := fun e => by rw [e] at ho; simp at ho
 have hV := he.low hS.bel
 have hB := hV.hB hne
 have hBB := hB.1
 subst hBB
 have e0 := hV.h0 k o ho
 have e1 := hV.h1 k o ho
 have e2 := hV.h2 k o ho
 have hat := hV.hr k o ho
 obtain ⟨A1, m1, c1, B1, n1, d1, u1, u2⟩ := hat.slices
 rw [u1] at e1 hat
 rw [u2] at e2 hat
 have hrg : V.rangeAt g (off + k * 3) [.int .u8 ((tagO o).toNat : Int), .slice A1 m1 c1, .slice B1 n1 d1] := fun j v hj => by
  rcases j with _ | _ | _ | j
  ·
   obtain rfl := Option.some.inj hj; exact e0
  ·
   obtain rfl := Option.some.inj hj; exact e1
  ·
   obtain rfl := Option.some.inj hj; exact e2
  ·
   simp at hj
 have HRG := Lib.hid hrg
 have HGN := Lib.hid (show g < N from hB.2)
 have htg : ((UInt8.ofNat (k + 1)).toNat : Int) = (k : Int) + 1 := by
  rw [UInt8.toNat_ofNat']
  omega
 have hrn := fun (z : World) (hz : Below V.heap.size V z) => rnum_any o (UInt8.ofNat (k + 1)) M z _ _ (hat.any.on hz)
 rw [htg] at hrn
 unfold cell3 at hrn
 have hw1 : IntKind.u8.wrap ((k : Int) + 1) = (k : Int) + 1 := by
  simp [IntKind.wrap, IntKind.bits, IntKind.signed]
  omega
 have hw0 : IntKind.i64.wrap ((k : Int) + 1) = (k : Int) + 1 := by
  simp [IntKind.wrap, IntKind.bits, IntKind.signed]
  omega
 generalize (rN o (UInt8.ofNat (k + 1)) M).1 = X at hrn ⊢
 generalize (rN o (UInt8.ofNat (k + 1)) M).2 = EE at hrn ⊢
 generalize ((tagO o).toNat : Int) = t1 at HRG hrn
 have HRN := Lib.hid hrn
 have HS0 := Lib.hid hS
 have HNV := Lib.hid hNV
 have hki : (k : Int) < (n : Int) := by omega
 have hk5 : (k : Int) ≤ 1000 := by omega
 have mkS : ∀ z, Below V.heap.size V z → (fun (z : World) => z.cell? ⟨EB, 0, none⟩ = some (.pointer (some ⟨E, 0, none⟩)) ∧ z.cell? ⟨VB, 0, none⟩ = some (.slice (some ⟨g, off, none⟩) n c) ∧ z.cell? ⟨AT, 0, none⟩ = some (.int .i64 (k : Int)) ∧ z.rangeAt g (off + k * 3) [.int .u8 t1, .slice A1 m1 c1, .slice B1 n1 d1]) z := fun z hz => ⟨c10 (row_on HS0.out.rEB hz), c10 (row_on HS0.out.rVB hz), c10 (row_on HS0.out.rAT hz), rangeAt_on HRG.out hz⟩
 have hcB := c10 hS.rEB
 have hcE := c10 hS.rE
 have hl1 := (Array.getElem?_eq_some_iff.1 hS.rE).1
 have hl2 := (Array.getElem?_eq_some_iff.1 hS.rEB).1
 clear hS hk hk2 hNV ho hne hV hB e0 e1 e2 hat u1 u2 hrg htg hrn he hn
 unfold NxP
 go_enter Try.func83, Try.ntmps83
 go_wp2_with fail
 clear hcB hcE hl1 hl2
 refine wp_region_held_drew (S := fun (z : World) => z.cell? ⟨EB, 0, none⟩ = some (.pointer (some ⟨E, 0, none⟩)) ∧ z.cell? ⟨VB, 0, none⟩ = some (.slice (some ⟨g, off, none⟩) n c) ∧ z.cell? ⟨AT, 0, none⟩ = some (.int .i64 (k : Int)) ∧ z.rangeAt g (off + k * 3) [.int .u8 t1, .slice A1 m1 c1, .slice B1 n1 d1]) (by kernel_rfl) (mkS _ (Below.refl _ _).drew) (fun hHeld => ?_)
 generalize hU : World.drew V = U at hHeld ⊢
 have HBC := Lib.hid (show Below V.heap.size V U by rw [← hU]; exact (Below.refl _ _).drew)
 clear hU
 refine wpAnyH_take (i := 0) (oi := { dst := some 11, op := .load 104 (.tmp 1), type := 104, pos := "code.go:68", after := #[{ on := 13, ground := .gcOnly .lateStores }], guard := none }) (v := ?_) rfl (by kernel_rfl) (by kernel_rfl) (by kernel_rfl) (fun _ _ _ h => h) (Or.inl ⟨by rfl, ?_⟩) hHeld ?_
 rotate_left
 ·
  intro w hSw
  have hfc0 := hSw.1
  clear hSw
  go_simp
  try with_reducible rfl
 try simp only [Act.put, List.setIfInBounds_toArray, List.set_cons_zero, List.set_cons_succ]
 refine wpAnyH_take (i := 1) (oi := { dst := some 12, op := .load 61 (.tmp 2), type := 61, pos := "code.go:68", after := #[], guard := none }) (v := ?_) rfl (by kernel_rfl) (by kernel_rfl) (by kernel_rfl) (fun _ _ _ h => h) (Or.inl ⟨by rfl, ?_⟩) hHeld ?_
 rotate_left
 ·
  intro w hSw
  have hfc0 := hSw.2.1
  clear hSw
  go_simp
  try with_reducible rfl
 try simp only [Act.put, List.setIfInBounds_toArray, List.set_cons_zero, List.set_cons_succ]
 refine wpAnyH_take (i := 2) (oi := { dst := some 13, op := .load 3 (.tmp 3), type := 3, pos := "code.go:68", after := #[], guard := none }) (v := ?_) rfl (by kernel_rfl) (by kernel_rfl) (by kernel_rfl) (fun _ _ _ h => h) (Or.inl ⟨by rfl, ?_⟩) hHeld ?_
 rotate_left
 ·
  intro w hSw
  have hfc0 := hSw.2.2.1
  clear hSw
  go_simp
  try with_reducible rfl
 try simp only [Act.put, List.setIfInBounds_toArray, List.set_cons_zero, List.set_cons_succ]
 refine wpAnyH_take (i := 3) (oi := { dst := some 14, op := .indexAddr 61 (.tmp 12) (.tmp 13), type := 0, pos := "code.go:68", after := #[{ on := 1, ground := .data }, { on := 2, ground := .data }], guard := none }) (v := ?_) rfl (by kernel_rfl) (by kernel_rfl) (by kernel_rfl) (fun _ _ _ h => h) (Or.inl ⟨by rfl, ?_⟩) hHeld ?_
 rotate_left
 ·
  intro w hSw
  clear hSw
  go_simp
  try with_reducible rfl
 try simp only [Act.put, List.setIfInBounds_toArray, List.set_cons_zero, List.set_cons_succ]
 refine wpAnyH_take (i := 4) (oi := { dst := some 15, op := .load 63 (.tmp 14), type := 63, pos := "code.go:68", after := #[{ on := 3, ground := .data }], guard := none }) (v := .agg ([.int .u8 t1, .slice A1 m1 c1, .slice B1 n1 d1]).toArray) rfl (by kernel_rfl) (by kernel_rfl) (by kernel_rfl) (fun _ _ _ h => h) (yieldsIf_load_mid (by rfl) _ _ rfl _ _ rfl ([.int .u8 t1, .slice A1 m1 c1, .slice B1 n1 d1]) _ (fun w hSw => hSw.2.2.2) Try.underlying63 rfl (sz3l _ _ _)) hHeld ?_
 try simp only [Act.put, List.setIfInBounds_toArray, List.set_cons_zero, List.set_cons_succ]
 refine wpAnyH_take (i := 5) (oi := { dst := some 16, op := .load 3 (.tmp 3), type := 3, pos := "code.go:68", after := #[], guard := none }) (v := ?_) rfl (by kernel_rfl) (by kernel_rfl) (by kernel_rfl) (fun _ _ _ h => h) (Or.inl ⟨by rfl, ?_⟩) hHeld ?_
 rotate_left
 ·
  intro w hSw
  have hfc0 := hSw.2.2.1
  clear hSw
  go_simp
  try with_reducible rfl
 try simp only [Act.put, List.setIfInBounds_toArray, List.set_cons_zero, List.set_cons_succ]
 refine wpAnyH_take (i := 6) (oi := { dst := some 17, op := .binOp .add 3 (.tmp 16) (.const (.int .i64 1)) 3, type := 3, pos := "code.go:68", after := #[{ on := 5, ground := .data }], guard := none }) (v := ?_) rfl (by kernel_rfl) (by kernel_rfl) (by kernel_rfl) (fun _ _ _ h => h) (Or.inl ⟨by rfl, ?_⟩) hHeld ?_
 rotate_left
 ·
  intro w hSw
  clear hSw
  go_simp
  try with_reducible rfl
 try simp only [Act.put, List.setIfInBounds_toArray, List.set_cons_zero, List.set_cons_succ]
 refine wpAnyH_take (i := 7) (oi := { dst := some 18, op := .convert 3 5 (.tmp 17), type := 5, pos := "code.go:68", after := #[{ on := 6, ground := .data }], guard := none }) (v := .int .u8 ((k : Int) + 1)) rfl (by kernel_rfl) (by kernel_rfl) (by kernel_rfl) (fun _ _ _ h => h) (Or.inl ⟨by rfl, ?_⟩) hHeld ?_
 ·
  intro w hSw
  clear hSw
  go_simp
  try rw [hw0, hw1]
 try simp only [Act.put, List.setIfInBounds_toArray, List.set_cons_zero, List.set_cons_succ]
 refine wpAnyH_take (i := 8) (oi := { dst := some 19, op := .move (.tmp 0), type := 40, pos := "code.go:68", after := #[], guard := none }) (v := ?_) rfl (by kernel_rfl) (by kernel_rfl) (by kernel_rfl) (fun _ _ _ h => h) (Or.inl ⟨by rfl, ?_⟩) hHeld ?_
 rotate_left
 ·
  intro w hSw
  clear hSw
  go_simp
  try with_reducible rfl
 try simp only [Act.put, List.setIfInBounds_toArray, List.set_cons_zero, List.set_cons_succ]
 refine wpAnyH_ready (rs := [9]) (by kernel_rfl) (by simp) (AllReadyH.cons (o := { dst := some 20, op := .call { callee := .value (.func 84), args := #[.tmp 15, .tmp 18, .tmp 19], argTypes := #[63, 5, 40] }, type := 131, pos := "code.go:68", after := #[{ on := 4, ground := .data }, { on := 7, ground := .data }, { on := 8, ground := .data }], guard := none }) rfl (fun K hK => ?_) AllReadyH.nil)
 go_simp
 refine (HRN.out U HBC.out).mono ?_
 rintro e z9 ⟨rfl, hb⟩
 have HBC := Lib.hid (chain HBC.out hb)
 clear hb 
 go_simp
 refine hK.out _ _ (mkS _ HBC.out) (fun hHeld2 => ?_)
 clear hK K hHeld
 have hHeld := hHeld2
 clear hHeld2
 try simp only [Act.put, List.setIfInBounds_toArray, List.set_cons_zero, List.set_cons_succ]
 refine wpAnyH_take (i := 10) (oi := { dst := some 10, op := .move (.tmp 20), type := 131, pos := "code.go:68", after := #[{ on := 9, ground := .data }], guard := none }) (v := ?_) rfl (by kernel_rfl) (by kernel_rfl) (by kernel_rfl) (fun _ _ _ h => h) (Or.inl ⟨by rfl, ?_⟩) hHeld ?_
 rotate_left
 ·
  intro w hSw
  clear hSw
  go_simp
  try with_reducible rfl
 try simp only [Act.put, List.setIfInBounds_toArray, List.set_cons_zero, List.set_cons_succ]
 refine wpAnyH_take (i := 11) (oi := { dst := some 21, op := .extract (.tmp 10) 0, type := 40, pos := "code.go:68", after := #[{ on := 10, ground := .data }], guard := none }) (v := ?_) rfl (by kernel_rfl) (by kernel_rfl) (by kernel_rfl) (fun _ _ _ h => h) (Or.inl ⟨by rfl, ?_⟩) hHeld ?_
 rotate_left
 ·
  intro w hSw
  clear hSw
  go_simp
  try with_reducible rfl
 try simp only [Act.put, List.setIfInBounds_toArray, List.set_cons_zero, List.set_cons_succ]
 refine wpAnyH_take (i := 12) (oi := { dst := some 22, op := .extract (.tmp 10) 1, type := 28, pos := "code.go:68", after := #[{ on := 10, ground := .data }, { on := 13, ground := .gcOnly .lateStores }], guard := none }) (v := ?_) rfl (by kernel_rfl) (by kernel_rfl) (by kernel_rfl) (fun _ _ _ h => h) (Or.inl ⟨by rfl, ?_⟩) hHeld ?_
 rotate_left
 ·
  intro w hSw
  clear hSw
  go_simp
  try with_reducible rfl
 try simp only [Act.put, List.setIfInBounds_toArray, List.set_cons_zero, List.set_cons_succ]
 refine wpAnyH_take (i := 13) (oi := { dst := some 5, op := .assign (.tmp 21), type := 40, pos := "code.go:68", after := #[{ on := 11, ground := .data }, { on := 9, ground := .chain }, { on := 0, ground := .textOnly .lateStores }, { on := 1, ground := .phase }, { on := 2, ground := .phase }, { on := 3, ground := .phase }, { on := 4, ground := .phase }, { on := 5, ground := .phase }, { on := 6, ground := .phase }, { on := 7, ground := .phase }, { on := 8, ground := .phase }, { on := 9, ground := .phase }, { on := 10, ground := .phase }, { on := 11, ground := .phase }, { on := 12, ground := .textOnly .lateStores }], guard := none }) (v := ?_) rfl (by kernel_rfl) (by kernel_rfl) (by kernel_rfl) (fun _ _ _ h => h) (Or.inl ⟨by rfl, ?_⟩) hHeld ?_
 rotate_left
 ·
  intro w hSw
  clear hSw
  go_simp
  try with_reducible rfl
 try simp only [Act.put, List.setIfInBounds_toArray, List.set_cons_zero, List.set_cons_succ]
 refine wpAnyH_take (i := 14) (oi := { dst := some 23, op := .nilCheck (.tmp 11), type := 0, pos := "code.go:68", after := #[{ on := 0, ground := .data }, { on := 0, ground := .phase }, { on := 1, ground := .phase }, { on := 2, ground := .phase }, { on := 3, ground := .phase }, { on := 4, ground := .phase }, { on := 5, ground := .phase }, { on := 6, ground := .phase }, { on := 7, ground := .phase }, { on := 8, ground := .phase }, { on := 9, ground := .phase }, { on := 10, ground := .phase }, { on := 11, ground := .phase }, { on := 12, ground := .phase }, { on := 13, ground := .phase }], guard := none }) (v := ?_) rfl (by kernel_rfl) (by kernel_rfl) (by kernel_rfl) (fun _ _ _ h => h) (Or.inl ⟨by rfl, ?_⟩) hHeld ?_
 rotate_left
 ·
  intro w hSw
  clear hSw
  go_simp
  try with_reducible rfl
 try simp only [Act.put, List.setIfInBounds_toArray, List.set_cons_zero, List.set_cons_succ]
 refine wpAnyH_ready (rs := [15]) (by kernel_rfl) (by simp) (AllReadyH.cons (o := { dst := none, op := .store 28 (.tmp 23) (.tmp 22), type := 0, pos := "code.go:68", after := #[{ on := 14, ground := .data }, { on := 12, ground := .data }, { on := 13, ground := .chain }, { on := 0, ground := .phase }, { on := 1, ground := .phase }, { on := 2, ground := .phase }, { on := 3, ground := .phase }, { on := 4, ground := .phase }, { on := 5, ground := .phase }, { on := 6, ground := .phase }, { on := 7, ground := .phase }, { on := 8, ground := .phase }, { on := 9, ground := .phase }, { on := 10, ground := .phase }, { on := 11, ground := .phase }, { on := 12, ground := .phase }, { on := 13, ground := .phase }], guard := none }) rfl (fun K hK => ?_) AllReadyH.nil)
 try rw [if_pos (by rfl)]
 have HS9 := Lib.hid (HS0.out.on HNV.out HBC.out)
 have HG9 := Lib.hid (rangeAt_on HRG.out HBC.out)
 have hcE := c10 HS9.out.rE
 have hfE := f10 HS9.out.rE
 have hlE := (Array.getElem?_eq_some_iff.1 HS9.out.rE).1
 go_simp
 have HS5 := Lib.hid (HS9.out.setE EE)
 have HG5 := Lib.hid (range_set HG9.out (E := E) (by have := HGN.out; have := HS9.out.nE; omega) (.int .i64 EE))
 clear hcE hfE hlE
 generalize World.setCell z9 _ _ = W5 at HS5 HG5 ⊢
 refine hK.out _ _ ⟨c10 HS5.out.rEB, c10 HS5.out.rVB, c10 HS5.out.rAT, HG5.out⟩ (fun hHeld2 => ?_)
 clear hK K hHeld hHeld2
 try simp only [Act.put, List.setIfInBounds_toArray, List.set_cons_zero, List.set_cons_succ]
 refine wpAnyH_done (by kernel_rfl) ?_ _
 have hcA := c10 HS5.out.rAT
 have hfA := f10 HS5.out.rAT
 have hlA := (Array.getElem?_eq_some_iff.1 HS5.out.rAT).1
 go_wp2_with fail
 go_ret
 exact ⟨rfl, HS5.out.setA (k + 1)⟩
end Ro
end Go.Proofs.Ythfgdgcdicacpaa
