import Derived.Test.YtebldfobpbijgaaRvQ
import Derived.Test.YtebldfobpbijgaaRvE
import Derived.Test.YtebldfobpbijgaaOcRK
import Derived.Deep.RegionHeld3
import Derived.Test.YtebldfobpbijgaaSgJP
import Derived.Test.YtebldfobpbijgaaLawKit
import Derived.OpenShut
import Derived.Deep.Slices
import Derived.Deep.Strs
import Derived.Lib.SmallJoins
import Derived.Test.YtebldfobpbijgaaOcRFJ
namespace Go.Proofs.Ytebldfobpbijgaa
namespace Sg
open Go.RowKit Sha Oc
set_option linter.unusedVariables false
set_option linter.unusedSimpArgs false
theorem bytes_own {w : World} {base : Nat} {v : Value} {L : List UInt8} (h : w.ownsRow base 5 1 v L.length (bvals L)) : ∃ A c, v = .slice A L.length c ∧ L.length ≤ c ∧ (A = none → c = 0) ∧ c ≤ maxLen ∧ SrcAt A L w := by
  obtain ⟨hl', hh | ⟨g, cap, cur, hv, hb, hg, hnc, hcm, hcs, ht⟩⟩ := h
  · obtain ⟨rfl, h2⟩ := hh
    have : L = [] := List.length_eq_zero_iff.1 h2
    subst this
    exact ⟨none, 0, rfl, Nat.le_refl _, fun _ => rfl, Nat.zero_le _, fun hne => absurd rfl hne⟩
  · refine ⟨some ⟨g, 0, none⟩, cap, hv, hnc, (fun e => by cases e), hcm, fun _ => ⟨g, 0, rfl, fun j x hj => ?_⟩⟩
    rw [Nat.zero_add, cell_of_row w g j cur _ _ hg, ← Array.getElem?_toList]
    have h2 : (cur.toList.take (L.length * 1))[j]? = some (.int .u8 (x.toNat : Int)) := by
      rw [ht]
      unfold bvals
      rw [List.getElem?_map, hj]
      rfl
    rw [List.getElem?_take] at h2
    split at h2
    · exact h2
    · cases h2
theorem srcAt_on {A : Option Addr} {L : List UInt8} {w V : World} (h : SrcAt A L w) (hb : Below w.heap.size w V) : SrcAt A L V := fun hne => by
  obtain ⟨g, o, e, k⟩ := h hne
  exact ⟨g, o, e, fun j x hx => by rw [hb.cell (p := ⟨g, o + j, none⟩) (World.block_lt_of_cell? _ _ (k j x hx))]; exact k j x hx⟩
def exL : Rl := ⟨⟨#[97]⟩, 2, 0, 9, [5, 7], ⟨0, [], []⟩⟩
theorem exL_wf : Wf exL := ⟨by decide, by decide, by decide, by decide⟩
theorem exL_ok : rvC exL = 0 := by decide
theorem exL_five : rvB exL 5 = true := by decide
theorem exL_six : rvB exL 6 = false := by decide
def exB : List UInt8 := [134, 19, 1, 1, 97, 2, 1, 2, 3, 0, 4, 1, 9, 129, 6, 5, 1, 5, 5, 1, 7]
theorem exL_body : enc (rbv (rbOf exL)) = exB := by kernel_rfl
set_option maxRecDepth 100000 in
set_option maxHeartbeats 2000000 in
theorem example_any (w : World) : Calls Try.prog 15 #[] w fun e w' => ∃ m, e = .returned (.agg (rlC exL m)) ∧ RlAt exL m w' ∧ Below w.heap.size w w' := by
  go_enter Try.func15, Try.ntmps15
  go_wp2_with fail
  obtain ⟨h1, h2, h3⟩ := two_rows w (.cells #[.string ⟨#[97]⟩, .int .u64 2, .int .i64 0, .int .i64 9, .slice (some ⟨w.heap.size + 1, 0, none⟩) 2 2, .int .i64 0, .slice none 0 0, .slice none 0 0] 30) (.cells #[.int .u64 5, .int .u64 7] 22)
  generalize hV : World.alloc (World.alloc w _) _ = V at h1 h2 h3 ⊢
  clear hV
  refine bodyPost_ret (v := .agg (rlC exL ⟨some ⟨w.heap.size + 1, 0, none⟩, 2, none, 0, none, 0⟩)) ?res rfl ⟨_, rfl, ?_, h1⟩
  case res =>
    obtain ⟨_, f0, f1, f2, f3, f4, f5, f6, f7⟩ := facts8 h2
    simp [results, Try.results15, go_sem, f0, f1, f2, f3, f4, f5, f6, f7]
    try rfl
  · refine ⟨⟨fun i x hi => ⟨_, _, rfl, ?_⟩⟩, shs_nil rfl _ _, shs_nil rfl _ _, by decide, by decide, by decide⟩
    match i, hi with
    | 0, hi => obtain rfl := Option.some.inj hi; exact cell_of_row _ _ _ _ _ _ h3
    | 1, hi => obtain rfl := Option.some.inj hi; exact cell_of_row _ _ _ _ _ _ h3
    | i + 2, hi => exact absurd hi (by simp [exL])
theorem ebpost_ok {o : Oct} {w : World} {e : Ending} {w' : World} (h : EbPost o 0 w e w') : ∃ A c, e = .returned (.tuple #[.slice A (enc o).length c, .int .i64 0]) ∧ (enc o).length ≤ c ∧ (A = none → c = 0) ∧ SrcAt A (enc o) w' ∧ Below w.heap.size w w' := by
  obtain ⟨hb, ⟨_, v, rfl, hown⟩ | ⟨h, _⟩⟩ := h
  · obtain ⟨A, c, rfl, h1, h2, h3, h4⟩ := bytes_own hown
    exact ⟨A, c, rfl, h1, h2, h4, hb⟩
  · exact absurd rfl h
def SlPost (L : List UInt8) (w : World) (e : Ending) (w' : World) : Prop := ∃ A c, e = .returned (.tuple #[.slice A L.length c, .int .i64 0]) ∧ L.length ≤ c ∧ (A = none → c = 0) ∧ SrcAt A L w' ∧ Below w.heap.size w w'
theorem src_row {w : World} {g : Nat} {l : List UInt8} {cs : Array Value} {T : TypeId} {fr : Nat × Nat} (h : w.heap[g]? = some (.cells cs T fr)) (hc : cs.toList = bvals l) : SrcAt (some ⟨g, 0, none⟩) l w := fun _ => ⟨g, 0, rfl, fun j x hx => by
  rw [Nat.zero_add, cell_of_row _ _ _ _ _ _ h, ← Array.getElem?_toList, hc]
  unfold bvals
  rw [List.getElem?_map, hx]
  rfl⟩
set_option maxRecDepth 100000 in
set_option maxHeartbeats 4000000 in
theorem alive11_any (w : World) : Calls Try.prog 5 #[] w fun e w' => e = .returned (.bool true) ∧ Below w.heap.size w w' := by
  have hfit := exL_wf.fit exL_ok
  have hck := fit_ck hfit
  have hz : exL.iss.size ≤ maxLen := by decide
  have hbd := fun (V : World) (m : Mp) (h : RlAt exL m V) => (show Calls Try.prog 12 #[.agg (rlC exL m)] V (SlPost exB V) from (body_any exL m hz exL_wf V h).mono fun e z k => by
    rw [exL_ok] at k
    have := ebpost_ok k
    rw [exL_body] at this
    exact this)
  have hen := fun (V : World) (m : Mp) (h : RlAt exL m V) => (show Calls Try.prog 7 #[.agg (rlC exL m)] V (SlPost (enc (rlV exL)) V) from (encode_rev exL m hz exL_wf V h).mono fun e z k => by
    rw [exL_ok] at k
    exact ebpost_ok k)
  have hde := fun (V : World) (A : Option Addr) (c : Nat) (hc : (enc (rlV exL)).length ≤ c) (hA : A = none → c = 0) (h : SrcAt A (enc (rlV exL)) V) => (show Calls Try.prog 8 #[.slice A (enc (rlV exL)).length c] V (RvdPost (exL, 0) V) from by
    have k := rdecode_any (enc (rlV exL)) (by omega) A c hc hA V h
    rw [rvD_enc hfit exL_ok hck.2.1] at k
    exact k)
  have hr5 := fun (V : World) (m : Mp) (h : RlAt exL m V) => (show Calls Try.prog 16 #[.agg (rlC exL m), .int .u64 5] V (fun e w' => e = .returned (.tuple #[.bool true, .int .i64 0]) ∧ Below V.heap.size V w') from by
    have k := revoked_any exL m 5 hz V h
    rw [exL_five, exL_ok] at k
    exact k)
  have hr6 := fun (V : World) (m : Mp) (h : RlAt exL m V) => (show Calls Try.prog 16 #[.agg (rlC exL m), .int .u64 6] V (fun e w' => e = .returned (.tuple #[.bool false, .int .i64 0]) ∧ Below V.heap.size V w') from by
    have k := revoked_any exL m 6 hz V h
    rw [exL_six, exL_ok] at k
    exact k)
  have hsm := fun (V : World) (m m' : Mp) (h : RlAt exL m V) (h' : RlAt exL m' V) => (show Calls Try.prog 9 #[.agg (rlC exL m), .agg (rlC exL m')] V (fun e w' => e = .returned (.bool true) ∧ Below V.heap.size V w') from by
    have k := revsame_ref exL exL m m' V h h'
    rw [decide_eq_true (rfl : exL = exL)] at k
    exact k)
  have hsb := fun (V : World) (A A' : Option Addr) (c c' : Nat) (h : SrcAt A exB V) (h' : SrcAt A' exB V) => (show Calls Try.prog 11 #[.slice A 21 c, .slice A' 21 c'] V (fun e w' => e = .returned (.bool true) ∧ Below V.heap.size V w') from by
    have k := samebytes_any exB exB A A' c c' (by decide) (by decide) V h h'
    rw [decide_eq_true (rfl : exB = exB)] at k
    exact k)
  have hex := fun (V : World) => example_any V
  have hlen : exB.length = 21 := rfl
  unfold SlPost at hbd hen
  rw [hlen] at hbd
  obtain ⟨B, hB⟩ : ∃ B, exB = B := ⟨_, rfl⟩
  obtain ⟨L, hL⟩ : ∃ L, exL = L := ⟨_, rfl⟩
  obtain ⟨D, hD⟩ : ∃ D, enc (rlV L) = D := ⟨_, rfl⟩
  obtain ⟨n, hn⟩ : ∃ n, D.length = n := ⟨_, rfl⟩
  rw [hL] at hbd hen hde hr5 hr6 hsm hex
  rw [hB] at hbd hsb
  rw [hD] at hen hde
  rw [hn] at hen hde
  have HBD := Lib.hid hbd
  have HEN := Lib.hid hen
  have HDE := Lib.hid hde
  have HR5 := Lib.hid hr5
  have HR6 := Lib.hid hr6
  have HSM := Lib.hid hsm
  have HSB := Lib.hid hsb
  have HEX := Lib.hid hex
  have HBB := Lib.hid hB
  clear hbd hen hde hr5 hr6 hsm hsb hex hL hD hn hB hlen hz hfit hck
  go_enter Try.func5, Try.ntmps5
  go_wp2_with fail
  refine (HEX.out w).mono ?_
  rintro e w1 ⟨m1, rfl, hl, hb⟩
  have HL1 := Lib.hid hl
  have HW1 := Lib.hid hb
  clear hl hb
  have h := HBD.out w1 m1 HL1.out
  unfold rlC at h ⊢
  go_wp2_with fail
  refine h.mono ?_
  clear h
  rintro e w2 ⟨A2, c2, rfl, k1, k2, hs, hb⟩
  have HS2 := Lib.hid hs
  have HW2 := Lib.hid (chain HW1.out hb)
  clear hs hb k1 k2 HL1 HW1
  go_wp2_with fail
  refine (HEX.out w2).mono ?_
  rintro e w3 ⟨m3, rfl, hl, hb⟩
  have HL3 := Lib.hid hl
  have HW3 := Lib.hid (chain HW2.out hb)
  have HS3 := Lib.hid (srcAt_on HS2.out hb)
  clear hl hb HW2 HS2
  have h := HEN.out w3 m3 HL3.out
  unfold rlC at h ⊢
  go_wp2_with fail
  refine h.mono ?_
  clear h
  rintro e w4 ⟨A4, c4, rfl, k1, k2, hs, hb⟩
  have HW4 := Lib.hid (chain HW3.out hb)
  have HS4 := Lib.hid (srcAt_on HS3.out hb)
  have HDE4 := Lib.hid (HDE.out w4 A4 c4 k1 k2 hs)
  clear hs hb k1 k2 HL3 HW3 HS3
  go_wp2_with fail
  refine HDE4.out.mono ?_
  rintro e w5 ⟨m5, rfl, hl, hb⟩
  have HL5 := Lib.hid hl
  have HW5 := Lib.hid (chain HW4.out hb)
  have HS5 := Lib.hid (srcAt_on HS4.out hb)
  clear hl hb HW4 HS4 HDE4
  unfold rlC
  dsimp only
  go_upto_region 4 with (fail)
  have HM := Lib.hid (heap_alloc_new w5 (.cells #[Value.string L.iss, .int .u64 L.num, .int .i64 L.fr, .int .i64 L.tt, .slice m5.SA L.ser.length m5.sc, .int .i64 L.sg.idx, .slice m5.CA L.sg.cs.length m5.cc, .slice m5.PA L.sg.ps.length m5.pc] 30))
  obtain ⟨M, hM⟩ : ∃ M, w5.heap.size = M := ⟨_, rfl⟩
  rw [hM] at HM ⊢
  generalize hV6 : World.alloc w5 _ = w6 at HM ⊢
  have hb : Below w5.heap.size w5 w6 := by rw [← hV6]; exact below_new _ _
  have HL6 := Lib.hid (HL5.out.on hb)
  have HW6 := Lib.hid (chain HW5.out hb)
  have HS6 := Lib.hid (srcAt_on HS5.out hb)
  clear hb hV6 hM HL5 HW5 HS5
  go_wp2_with fail
  refine (HEX.out w6).mono ?_
  rintro e w7 ⟨m7, rfl, hl, hb⟩
  have HL7 := Lib.hid hl
  have HW7 := Lib.hid (chain HW6.out hb)
  have HS7 := Lib.hid (srcAt_on HS6.out hb)
  have HM7 := Lib.hid (row_on HM.out hb)
  have HLL7 := Lib.hid (HL6.out.on hb)
  clear hl hb HW6 HS6 HM HL6
  have h := HR5.out w7 m7 HL7.out
  unfold rlC at h ⊢
  go_wp2_with fail
  refine h.mono ?_
  clear h
  rintro e w8 ⟨rfl, hb⟩
  have HW8 := Lib.hid (chain HW7.out hb)
  have HS8 := Lib.hid (srcAt_on HS7.out hb)
  have HM8 := Lib.hid (row_on HM7.out hb)
  have HLL8 := Lib.hid (HLL7.out.on hb)
  clear hb HL7 HW7 HS7 HM7 HLL7
  go_wp2_with fail
  refine (HEX.out w8).mono ?_
  rintro e w9 ⟨m9, rfl, hl, hb⟩
  have HL9 := Lib.hid hl
  have HW9 := Lib.hid (chain HW8.out hb)
  have HS9 := Lib.hid (srcAt_on HS8.out hb)
  have HM9 := Lib.hid (row_on HM8.out hb)
  have HLL9 := Lib.hid (HLL8.out.on hb)
  clear hl hb HW8 HS8 HM8 HLL8
  have h := HR6.out w9 m9 HL9.out
  unfold rlC at h ⊢
  go_wp2_with fail
  refine h.mono ?_
  clear h
  rintro e wA ⟨rfl, hb⟩
  have HWA := Lib.hid (chain HW9.out hb)
  have HSA := Lib.hid (srcAt_on HS9.out hb)
  have HMA := Lib.hid (row_on HM9.out hb)
  have HLLA := Lib.hid (HLL9.out.on hb)
  clear hb HL9 HW9 HS9 HM9 HLL9
  go_upto_region 6 with (fail)
  refine wp_region_held_drew (S := fun z => z.rangeAt M 0 [Value.string L.iss, .int .u64 L.num, .int .i64 L.fr, .int .i64 L.tt, .slice m5.SA L.ser.length m5.sc, .int .i64 L.sg.idx, .slice m5.CA L.sg.cs.length m5.cc, .slice m5.PA L.sg.ps.length m5.pc]) (by kernel_rfl) (row_range (cs := [Value.string L.iss, .int .u64 L.num, .int .i64 L.fr, .int .i64 L.tt, .slice m5.SA L.ser.length m5.sc, .int .i64 L.sg.idx, .slice m5.CA L.sg.cs.length m5.cc, .slice m5.PA L.sg.ps.length m5.pc]) HMA.out) (fun hHeld => ?_)
  generalize hUU : World.drew wA = wU at hHeld ⊢
  have hb : Below wA.heap.size wA wU := by rw [← hUU]; exact (Below.refl _ _).drew
  clear hUU
  have HMU := Lib.hid (row_on HMA.out hb)
  have HLLU := Lib.hid (HLLA.out.on hb)
  have HSU := Lib.hid (srcAt_on HSA.out hb)
  have HWU := Lib.hid (chain HWA.out hb)
  clear HMA HLLA HSA HWA
  clear hb
  refine wpAnyH_take (i := 0) (oi := { dst := Option.some 36, op := Go.Op.move (Go.Operand.tmp 2), type := 34, pos := "law.go:79", after := #[], guard := Option.none }) (v := ?_) rfl (by kernel_rfl) (by kernel_rfl) (by kernel_rfl) (fun _ _ _ h => h) (Or.inl ⟨by rfl, ?_⟩) hHeld ?_
  rotate_left
  · intro w hSw
    clear hSw
    go_simp
    try with_reducible rfl
  try simp only [Act.put, List.setIfInBounds_toArray, List.set_cons_zero, List.set_cons_succ]
  refine wpAnyH_take (i := 1) (oi := { dst := Option.some 37, op := Go.Op.binOp Go.BinOp.eql 34 (Go.Operand.tmp 36) (Go.Operand.const (Go.Value.int Go.IntKind.i64 0)) 34, type := 4, pos := "law.go:79", after := #[{ on := 0, ground := Go.Ground.data }], guard := Option.none }) (v := ?_) rfl (by kernel_rfl) (by kernel_rfl) (by kernel_rfl) (fun _ _ _ h => h) (Or.inl ⟨by rfl, ?_⟩) hHeld ?_
  rotate_left
  · intro w hSw
    clear hSw
    go_simp
    try with_reducible rfl
  try simp only [Act.put, List.setIfInBounds_toArray, List.set_cons_zero, List.set_cons_succ]
  refine wpAnyH_take (i := 2) (oi := { dst := Option.some 38, op := Go.Op.move (Go.Operand.tmp 37), type := 4, pos := "law.go:79", after := #[{ on := 1, ground := Go.Ground.data }], guard := Option.none }) (v := ?_) rfl (by kernel_rfl) (by kernel_rfl) (by kernel_rfl) (fun _ _ _ h => h) (Or.inl ⟨by rfl, ?_⟩) hHeld ?_
  rotate_left
  · intro w hSw
    clear hSw
    go_simp
    try with_reducible rfl
  try simp only [Act.put, List.setIfInBounds_toArray, List.set_cons_zero, List.set_cons_succ]
  refine wpAnyH_take (i := 3) (oi := { dst := Option.some 39, op := Go.Op.move (Go.Operand.tmp 4), type := 34, pos := "law.go:79", after := #[{ on := 2, ground := Go.Ground.guard }], guard := Option.some (2, Bool.true) }) (v := ?_) rfl (by kernel_rfl) (by kernel_rfl) (by kernel_rfl) (fun _ _ _ h => h) (Or.inl ⟨by rfl, ?_⟩) hHeld ?_
  rotate_left
  · intro w hSw
    clear hSw
    go_simp
    try with_reducible rfl
  try simp only [Act.put, List.setIfInBounds_toArray, List.set_cons_zero, List.set_cons_succ]
  refine wpAnyH_take (i := 4) (oi := { dst := Option.some 40, op := Go.Op.binOp Go.BinOp.eql 34 (Go.Operand.tmp 39) (Go.Operand.const (Go.Value.int Go.IntKind.i64 0)) 34, type := 4, pos := "law.go:79", after := #[{ on := 3, ground := Go.Ground.data }, { on := 2, ground := Go.Ground.guard }], guard := Option.some (2, Bool.true) }) (v := ?_) rfl (by kernel_rfl) (by kernel_rfl) (by kernel_rfl) (fun _ _ _ h => h) (Or.inl ⟨by rfl, ?_⟩) hHeld ?_
  rotate_left
  · intro w hSw
    clear hSw
    go_simp
    try with_reducible rfl
  try simp only [Act.put, List.setIfInBounds_toArray, List.set_cons_zero, List.set_cons_succ]
  refine wpAnyH_take (i := 5) (oi := { dst := Option.some 41, op := Go.Op.pick (Go.Operand.tmp 38) (Go.Operand.tmp 40) (Go.Operand.const (Go.Value.bool Bool.false)), type := 4, pos := "law.go:79", after := #[{ on := 2, ground := Go.Ground.data }, { on := 4, ground := Go.Ground.data }], guard := Option.none }) (v := ?_) rfl (by kernel_rfl) (by kernel_rfl) (by kernel_rfl) (fun _ _ _ h => h) (Or.inl ⟨by rfl, ?_⟩) hHeld ?_
  rotate_left
  · intro w hSw
    clear hSw
    go_simp
    try with_reducible rfl
  try simp only [Act.put, List.setIfInBounds_toArray, List.set_cons_zero, List.set_cons_succ]
  refine wpAnyH_take (i := 6) (oi := { dst := Option.some 42, op := Go.Op.move (Go.Operand.tmp 41), type := 4, pos := "law.go:79", after := #[{ on := 5, ground := Go.Ground.data }, { on := 2, ground := Go.Ground.chain }], guard := Option.none }) (v := ?_) rfl (by kernel_rfl) (by kernel_rfl) (by kernel_rfl) (fun _ _ _ h => h) (Or.inl ⟨by rfl, ?_⟩) hHeld ?_
  rotate_left
  · intro w hSw
    clear hSw
    go_simp
    try with_reducible rfl
  try simp only [Act.put, List.setIfInBounds_toArray, List.set_cons_zero, List.set_cons_succ]
  refine wpAnyH_take (i := 7) (oi := { dst := Option.some 43, op := Go.Op.move (Go.Operand.tmp 6), type := 34, pos := "law.go:79", after := #[{ on := 6, ground := Go.Ground.guard }], guard := Option.some (6, Bool.true) }) (v := ?_) rfl (by kernel_rfl) (by kernel_rfl) (by kernel_rfl) (fun _ _ _ h => h) (Or.inl ⟨by rfl, ?_⟩) hHeld ?_
  rotate_left
  · intro w hSw
    clear hSw
    go_simp
    try with_reducible rfl
  try simp only [Act.put, List.setIfInBounds_toArray, List.set_cons_zero, List.set_cons_succ]
  refine wpAnyH_take (i := 8) (oi := { dst := Option.some 44, op := Go.Op.binOp Go.BinOp.eql 34 (Go.Operand.tmp 43) (Go.Operand.const (Go.Value.int Go.IntKind.i64 0)) 34, type := 4, pos := "law.go:79", after := #[{ on := 7, ground := Go.Ground.data }, { on := 6, ground := Go.Ground.guard }], guard := Option.some (6, Bool.true) }) (v := ?_) rfl (by kernel_rfl) (by kernel_rfl) (by kernel_rfl) (fun _ _ _ h => h) (Or.inl ⟨by rfl, ?_⟩) hHeld ?_
  rotate_left
  · intro w hSw
    clear hSw
    go_simp
    try with_reducible rfl
  try simp only [Act.put, List.setIfInBounds_toArray, List.set_cons_zero, List.set_cons_succ]
  refine wpAnyH_take (i := 9) (oi := { dst := Option.some 45, op := Go.Op.pick (Go.Operand.tmp 42) (Go.Operand.tmp 44) (Go.Operand.const (Go.Value.bool Bool.false)), type := 4, pos := "law.go:79", after := #[{ on := 6, ground := Go.Ground.data }, { on := 8, ground := Go.Ground.data }], guard := Option.none }) (v := ?_) rfl (by kernel_rfl) (by kernel_rfl) (by kernel_rfl) (fun _ _ _ h => h) (Or.inl ⟨by rfl, ?_⟩) hHeld ?_
  rotate_left
  · intro w hSw
    clear hSw
    go_simp
    try with_reducible rfl
  try simp only [Act.put, List.setIfInBounds_toArray, List.set_cons_zero, List.set_cons_succ]
  refine wpAnyH_take (i := 10) (oi := { dst := Option.some 46, op := Go.Op.move (Go.Operand.tmp 45), type := 4, pos := "law.go:79", after := #[{ on := 9, ground := Go.Ground.data }, { on := 6, ground := Go.Ground.chain }], guard := Option.none }) (v := ?_) rfl (by kernel_rfl) (by kernel_rfl) (by kernel_rfl) (fun _ _ _ h => h) (Or.inl ⟨by rfl, ?_⟩) hHeld ?_
  rotate_left
  · intro w hSw
    clear hSw
    go_simp
    try with_reducible rfl
  try simp only [Act.put, List.setIfInBounds_toArray, List.set_cons_zero, List.set_cons_succ]
  refine wpAnyH_take (i := 11) (oi := { dst := Option.some 47, op := Go.Op.move (Go.Operand.tmp 8), type := 34, pos := "law.go:79", after := #[{ on := 10, ground := Go.Ground.guard }], guard := Option.some (10, Bool.true) }) (v := ?_) rfl (by kernel_rfl) (by kernel_rfl) (by kernel_rfl) (fun _ _ _ h => h) (Or.inl ⟨by rfl, ?_⟩) hHeld ?_
  rotate_left
  · intro w hSw
    clear hSw
    go_simp
    try with_reducible rfl
  try simp only [Act.put, List.setIfInBounds_toArray, List.set_cons_zero, List.set_cons_succ]
  refine wpAnyH_take (i := 12) (oi := { dst := Option.some 48, op := Go.Op.binOp Go.BinOp.eql 34 (Go.Operand.tmp 47) (Go.Operand.const (Go.Value.int Go.IntKind.i64 0)) 34, type := 4, pos := "law.go:79", after := #[{ on := 11, ground := Go.Ground.data }, { on := 10, ground := Go.Ground.guard }], guard := Option.some (10, Bool.true) }) (v := ?_) rfl (by kernel_rfl) (by kernel_rfl) (by kernel_rfl) (fun _ _ _ h => h) (Or.inl ⟨by rfl, ?_⟩) hHeld ?_
  rotate_left
  · intro w hSw
    clear hSw
    go_simp
    try with_reducible rfl
  try simp only [Act.put, List.setIfInBounds_toArray, List.set_cons_zero, List.set_cons_succ]
  refine wpAnyH_take (i := 13) (oi := { dst := Option.some 49, op := Go.Op.pick (Go.Operand.tmp 46) (Go.Operand.tmp 48) (Go.Operand.const (Go.Value.bool Bool.false)), type := 4, pos := "law.go:79", after := #[{ on := 10, ground := Go.Ground.data }, { on := 12, ground := Go.Ground.data }], guard := Option.none }) (v := ?_) rfl (by kernel_rfl) (by kernel_rfl) (by kernel_rfl) (fun _ _ _ h => h) (Or.inl ⟨by rfl, ?_⟩) hHeld ?_
  rotate_left
  · intro w hSw
    clear hSw
    go_simp
    try with_reducible rfl
  try simp only [Act.put, List.setIfInBounds_toArray, List.set_cons_zero, List.set_cons_succ]
  refine wpAnyH_take (i := 14) (oi := { dst := Option.some 50, op := Go.Op.move (Go.Operand.tmp 49), type := 4, pos := "law.go:79", after := #[{ on := 13, ground := Go.Ground.data }, { on := 10, ground := Go.Ground.chain }], guard := Option.none }) (v := ?_) rfl (by kernel_rfl) (by kernel_rfl) (by kernel_rfl) (fun _ _ _ h => h) (Or.inl ⟨by rfl, ?_⟩) hHeld ?_
  rotate_left
  · intro w hSw
    clear hSw
    go_simp
    try with_reducible rfl
  try simp only [Act.put, List.setIfInBounds_toArray, List.set_cons_zero, List.set_cons_succ]
  refine wpAnyH_take (i := 15) (oi := { dst := Option.some 51, op := Go.Op.move (Go.Operand.tmp 10), type := 34, pos := "law.go:79", after := #[{ on := 14, ground := Go.Ground.guard }], guard := Option.some (14, Bool.true) }) (v := ?_) rfl (by kernel_rfl) (by kernel_rfl) (by kernel_rfl) (fun _ _ _ h => h) (Or.inl ⟨by rfl, ?_⟩) hHeld ?_
  rotate_left
  · intro w hSw
    clear hSw
    go_simp
    try with_reducible rfl
  try simp only [Act.put, List.setIfInBounds_toArray, List.set_cons_zero, List.set_cons_succ]
  refine wpAnyH_take (i := 16) (oi := { dst := Option.some 52, op := Go.Op.binOp Go.BinOp.eql 34 (Go.Operand.tmp 51) (Go.Operand.const (Go.Value.int Go.IntKind.i64 0)) 34, type := 4, pos := "law.go:79", after := #[{ on := 15, ground := Go.Ground.data }, { on := 14, ground := Go.Ground.guard }], guard := Option.some (14, Bool.true) }) (v := ?_) rfl (by kernel_rfl) (by kernel_rfl) (by kernel_rfl) (fun _ _ _ h => h) (Or.inl ⟨by rfl, ?_⟩) hHeld ?_
  rotate_left
  · intro w hSw
    clear hSw
    go_simp
    try with_reducible rfl
  try simp only [Act.put, List.setIfInBounds_toArray, List.set_cons_zero, List.set_cons_succ]
  refine wpAnyH_take (i := 17) (oi := { dst := Option.some 53, op := Go.Op.pick (Go.Operand.tmp 50) (Go.Operand.tmp 52) (Go.Operand.const (Go.Value.bool Bool.false)), type := 4, pos := "law.go:79", after := #[{ on := 14, ground := Go.Ground.data }, { on := 16, ground := Go.Ground.data }], guard := Option.none }) (v := ?_) rfl (by kernel_rfl) (by kernel_rfl) (by kernel_rfl) (fun _ _ _ h => h) (Or.inl ⟨by rfl, ?_⟩) hHeld ?_
  rotate_left
  · intro w hSw
    clear hSw
    go_simp
    try with_reducible rfl
  try simp only [Act.put, List.setIfInBounds_toArray, List.set_cons_zero, List.set_cons_succ]
  refine wpAnyH_take (i := 18) (oi := { dst := Option.some 54, op := Go.Op.move (Go.Operand.tmp 53), type := 4, pos := "law.go:79", after := #[{ on := 17, ground := Go.Ground.data }, { on := 14, ground := Go.Ground.chain }], guard := Option.none }) (v := ?_) rfl (by kernel_rfl) (by kernel_rfl) (by kernel_rfl) (fun _ _ _ h => h) (Or.inl ⟨by rfl, ?_⟩) hHeld ?_
  rotate_left
  · intro w hSw
    clear hSw
    go_simp
    try with_reducible rfl
  try simp only [Act.put, List.setIfInBounds_toArray, List.set_cons_zero, List.set_cons_succ]
  refine wpAnyH_take (i := 19) (oi := { dst := Option.some 55, op := Go.Op.move (Go.Operand.tmp 7), type := 4, pos := "law.go:79", after := #[{ on := 18, ground := Go.Ground.guard }], guard := Option.some (18, Bool.true) }) (v := ?_) rfl (by kernel_rfl) (by kernel_rfl) (by kernel_rfl) (fun _ _ _ h => h) (Or.inl ⟨by rfl, ?_⟩) hHeld ?_
  rotate_left
  · intro w hSw
    clear hSw
    go_simp
    try with_reducible rfl
  try simp only [Act.put, List.setIfInBounds_toArray, List.set_cons_zero, List.set_cons_succ]
  refine wpAnyH_take (i := 20) (oi := { dst := Option.some 56, op := Go.Op.pick (Go.Operand.tmp 54) (Go.Operand.tmp 55) (Go.Operand.const (Go.Value.bool Bool.false)), type := 4, pos := "law.go:79", after := #[{ on := 18, ground := Go.Ground.data }, { on := 19, ground := Go.Ground.data }], guard := Option.none }) (v := ?_) rfl (by kernel_rfl) (by kernel_rfl) (by kernel_rfl) (fun _ _ _ h => h) (Or.inl ⟨by rfl, ?_⟩) hHeld ?_
  rotate_left
  · intro w hSw
    clear hSw
    go_simp
    try with_reducible rfl
  try simp only [Act.put, List.setIfInBounds_toArray, List.set_cons_zero, List.set_cons_succ]
  refine wpAnyH_take (i := 21) (oi := { dst := Option.some 57, op := Go.Op.move (Go.Operand.tmp 56), type := 4, pos := "law.go:79", after := #[{ on := 20, ground := Go.Ground.data }, { on := 18, ground := Go.Ground.chain }], guard := Option.none }) (v := ?_) rfl (by kernel_rfl) (by kernel_rfl) (by kernel_rfl) (fun _ _ _ h => h) (Or.inl ⟨by rfl, ?_⟩) hHeld ?_
  rotate_left
  · intro w hSw
    clear hSw
    go_simp
    try with_reducible rfl
  try simp only [Act.put, List.setIfInBounds_toArray, List.set_cons_zero, List.set_cons_succ]
  refine wpAnyH_take (i := 22) (oi := { dst := Option.some 58, op := Go.Op.move (Go.Operand.tmp 9), type := 4, pos := "law.go:79", after := #[{ on := 21, ground := Go.Ground.guard }], guard := Option.some (21, Bool.true) }) (v := ?_) rfl (by kernel_rfl) (by kernel_rfl) (by kernel_rfl) (fun _ _ _ h => h) (Or.inl ⟨by rfl, ?_⟩) hHeld ?_
  rotate_left
  · intro w hSw
    clear hSw
    go_simp
    try with_reducible rfl
  try simp only [Act.put, List.setIfInBounds_toArray, List.set_cons_zero, List.set_cons_succ]
  refine wpAnyH_take (i := 23) (oi := { dst := Option.some 59, op := Go.Op.unOp Go.UnOp.not 4 (Go.Operand.tmp 58), type := 4, pos := "law.go:79", after := #[{ on := 22, ground := Go.Ground.data }, { on := 21, ground := Go.Ground.guard }], guard := Option.some (21, Bool.true) }) (v := ?_) rfl (by kernel_rfl) (by kernel_rfl) (by kernel_rfl) (fun _ _ _ h => h) (Or.inl ⟨by rfl, ?_⟩) hHeld ?_
  rotate_left
  · intro w hSw
    clear hSw
    go_simp
    try with_reducible rfl
  try simp only [Act.put, List.setIfInBounds_toArray, List.set_cons_zero, List.set_cons_succ]
  refine wpAnyH_take (i := 24) (oi := { dst := Option.some 60, op := Go.Op.pick (Go.Operand.tmp 57) (Go.Operand.tmp 59) (Go.Operand.const (Go.Value.bool Bool.false)), type := 4, pos := "law.go:79", after := #[{ on := 21, ground := Go.Ground.data }, { on := 23, ground := Go.Ground.data }], guard := Option.none }) (v := ?_) rfl (by kernel_rfl) (by kernel_rfl) (by kernel_rfl) (fun _ _ _ h => h) (Or.inl ⟨by rfl, ?_⟩) hHeld ?_
  rotate_left
  · intro w hSw
    clear hSw
    go_simp
    try with_reducible rfl
  try simp only [Act.put, List.setIfInBounds_toArray, List.set_cons_zero, List.set_cons_succ]
  refine wpAnyH_take (i := 25) (oi := { dst := Option.some 61, op := Go.Op.move (Go.Operand.tmp 60), type := 4, pos := "law.go:79", after := #[{ on := 24, ground := Go.Ground.data }, { on := 21, ground := Go.Ground.chain }], guard := Option.none }) (v := ?_) rfl (by kernel_rfl) (by kernel_rfl) (by kernel_rfl) (fun _ _ _ h => h) (Or.inl ⟨by rfl, ?_⟩) hHeld ?_
  rotate_left
  · intro w hSw
    clear hSw
    go_simp
    try with_reducible rfl
  try simp only [Act.put, List.setIfInBounds_toArray, List.set_cons_zero, List.set_cons_succ]
  refine wpAnyH_take (i := 26) (oi := { dst := Option.some 62, op := Go.Op.load 30 (Go.Operand.tmp 5), type := 30, pos := "law.go:79", after := #[{ on := 25, ground := Go.Ground.guard }], guard := Option.some (25, Bool.true) }) (v := .agg ([Value.string L.iss, .int .u64 L.num, .int .i64 L.fr, .int .i64 L.tt, .slice m5.SA L.ser.length m5.sc, .int .i64 L.sg.idx, .slice m5.CA L.sg.cs.length m5.cc, .slice m5.PA L.sg.ps.length m5.pc]).toArray) rfl (by kernel_rfl) (by kernel_rfl) (by kernel_rfl) (fun _ _ _ h => h) (yieldsIf_load_mid (by rfl) _ _ rfl _ _ rfl [Value.string L.iss, .int .u64 L.num, .int .i64 L.fr, .int .i64 L.tt, .slice m5.SA L.ser.length m5.sc, .int .i64 L.sg.idx, .slice m5.CA L.sg.cs.length m5.cc, .slice m5.PA L.sg.ps.length m5.pc] _ (fun w hSw => hSw) Try.underlying30 rfl (sz8l _ rfl)) hHeld ?_
  try simp only [Act.put, List.setIfInBounds_toArray, List.set_cons_zero, List.set_cons_succ]
  refine wpAnyH_ready (rs := [27]) (by kernel_rfl) (by simp) (AllReadyH.cons (o := { dst := Option.some 63, op := Go.Op.call { callee := Go.Callee.value (Go.Operand.func 15), args := #[], argTypes := #[] }, type := 30, pos := "law.go:79", after := #[{ on := 25, ground := Go.Ground.chain }, { on := 25, ground := Go.Ground.guard }], guard := Option.some (25, Bool.true) }) rfl (fun K hK => ?_) AllReadyH.nil)
  go_simp
  refine (HEX.out wU).mono ?_
  rintro e z27 ⟨mE, rfl, hl, hb⟩
  have HLE := Lib.hid hl
  clear hl
  unfold rlC
  have HMR27 := Lib.hid (row_on HMU.out hb)
  have HLLR27 := Lib.hid (HLLU.out.on hb)
  have HSR27 := Lib.hid (srcAt_on HSU.out hb)
  have HWR27 := Lib.hid (chain HWU.out hb)
  clear HMU HLLU HSU HWU
  clear hb
  go_simp
  refine hK.out _ _ (row_range (cs := [Value.string L.iss, .int .u64 L.num, .int .i64 L.fr, .int .i64 L.tt, .slice m5.SA L.ser.length m5.sc, .int .i64 L.sg.idx, .slice m5.CA L.sg.cs.length m5.cc, .slice m5.PA L.sg.ps.length m5.pc]) HMR27.out) (fun hHeld2 => ?_)
  clear hK K hHeld
  have hHeld := hHeld2
  clear hHeld2
  try simp only [Act.put, List.setIfInBounds_toArray, List.set_cons_zero, List.set_cons_succ]
  refine wpAnyH_ready (rs := [28]) (by kernel_rfl) (by simp) (AllReadyH.cons (o := { dst := Option.some 64, op := Go.Op.call { callee := Go.Callee.value (Go.Operand.func 9), args := #[Go.Operand.tmp 62, Go.Operand.tmp 63], argTypes := #[30, 30] }, type := 4, pos := "law.go:79", after := #[{ on := 26, ground := Go.Ground.data }, { on := 27, ground := Go.Ground.data }, { on := 27, ground := Go.Ground.chain }, { on := 25, ground := Go.Ground.guard }], guard := Option.some (25, Bool.true) }) rfl (fun K hK => ?_) AllReadyH.nil)
  go_simp
  have h := HSM.out z27 m5 mE HLLR27.out HLE.out
  unfold rlC at h
  refine h.mono ?_
  clear h
  rintro e z28 ⟨rfl, hb⟩
  have HMR28 := Lib.hid (row_on HMR27.out hb)
  have HLLR28 := Lib.hid (HLLR27.out.on hb)
  have HSR28 := Lib.hid (srcAt_on HSR27.out hb)
  have HWR28 := Lib.hid (chain HWR27.out hb)
  clear HMR27 HLLR27 HSR27 HWR27
  clear hb
  go_simp
  refine hK.out _ _ (row_range (cs := [Value.string L.iss, .int .u64 L.num, .int .i64 L.fr, .int .i64 L.tt, .slice m5.SA L.ser.length m5.sc, .int .i64 L.sg.idx, .slice m5.CA L.sg.cs.length m5.cc, .slice m5.PA L.sg.ps.length m5.pc]) HMR28.out) (fun hHeld2 => ?_)
  clear hK K hHeld
  have hHeld := hHeld2
  clear hHeld2
  try simp only [Act.put, List.setIfInBounds_toArray, List.set_cons_zero, List.set_cons_succ]
  refine wpAnyH_take (i := 29) (oi := { dst := Option.some 65, op := Go.Op.pick (Go.Operand.tmp 61) (Go.Operand.tmp 64) (Go.Operand.const (Go.Value.bool Bool.false)), type := 4, pos := "law.go:79", after := #[{ on := 25, ground := Go.Ground.data }, { on := 28, ground := Go.Ground.data }], guard := Option.none }) (v := ?_) rfl (by kernel_rfl) (by kernel_rfl) (by kernel_rfl) (fun _ _ _ h => h) (Or.inl ⟨by rfl, ?_⟩) hHeld ?_
  rotate_left
  · intro w hSw
    clear hSw
    go_simp
    try with_reducible rfl
  try simp only [Act.put, List.setIfInBounds_toArray, List.set_cons_zero, List.set_cons_succ]
  refine wpAnyH_take (i := 30) (oi := { dst := Option.some 66, op := Go.Op.move (Go.Operand.tmp 65), type := 4, pos := "law.go:79", after := #[{ on := 29, ground := Go.Ground.data }, { on := 28, ground := Go.Ground.chain }], guard := Option.none }) (v := ?_) rfl (by kernel_rfl) (by kernel_rfl) (by kernel_rfl) (fun _ _ _ h => h) (Or.inl ⟨by rfl, ?_⟩) hHeld ?_
  rotate_left
  · intro w hSw
    clear hSw
    go_simp
    try with_reducible rfl
  try simp only [Act.put, List.setIfInBounds_toArray, List.set_cons_zero, List.set_cons_succ]
  refine wpAnyH_take (i := 31) (oi := { dst := Option.some 67, op := Go.Op.move (Go.Operand.tmp 1), type := 31, pos := "law.go:79", after := #[{ on := 30, ground := Go.Ground.guard }], guard := Option.some (30, Bool.true) }) (v := ?_) rfl (by kernel_rfl) (by kernel_rfl) (by kernel_rfl) (fun _ _ _ h => h) (Or.inl ⟨by rfl, ?_⟩) hHeld ?_
  rotate_left
  · intro w hSw
    clear hSw
    go_simp
    try with_reducible rfl
  try simp only [Act.put, List.setIfInBounds_toArray, List.set_cons_zero, List.set_cons_succ]
  refine wpAnyH_ready (rs := [32]) (by kernel_rfl) (by simp) (AllReadyH.cons (o := { dst := Option.some 68, op := Go.Op.buildSlice 31 21 #[(0, Go.Operand.const (Go.Value.int Go.IntKind.u8 134)), (1, Go.Operand.const (Go.Value.int Go.IntKind.u8 19)), (2, Go.Operand.const (Go.Value.int Go.IntKind.u8 1)), (3, Go.Operand.const (Go.Value.int Go.IntKind.u8 1)), (4, Go.Operand.const (Go.Value.int Go.IntKind.u8 97)), (5, Go.Operand.const (Go.Value.int Go.IntKind.u8 2)), (6, Go.Operand.const (Go.Value.int Go.IntKind.u8 1)), (7, Go.Operand.const (Go.Value.int Go.IntKind.u8 2)), (8, Go.Operand.const (Go.Value.int Go.IntKind.u8 3)), (9, Go.Operand.const (Go.Value.int Go.IntKind.u8 0)), (10, Go.Operand.const (Go.Value.int Go.IntKind.u8 4)), (11, Go.Operand.const (Go.Value.int Go.IntKind.u8 1)), (12, Go.Operand.const (Go.Value.int Go.IntKind.u8 9)), (13, Go.Operand.const (Go.Value.int Go.IntKind.u8 129)), (14, Go.Operand.const (Go.Value.int Go.IntKind.u8 6)), (15, Go.Operand.const (Go.Value.int Go.IntKind.u8 5)), (16, Go.Operand.const (Go.Value.int Go.IntKind.u8 1)), (17, Go.Operand.const (Go.Value.int Go.IntKind.u8 5)), (18, Go.Operand.const (Go.Value.int Go.IntKind.u8 5)), (19, Go.Operand.const (Go.Value.int Go.IntKind.u8 1)), (20, Go.Operand.const (Go.Value.int Go.IntKind.u8 7))], type := 31, pos := "law.go:79", after := #[{ on := 30, ground := Go.Ground.guard }], guard := Option.some (30, Bool.true) }) rfl (fun K hK => ?_) AllReadyH.nil)
  go_simp
  generalize hV : World.alloc z28 _ = z32
  have hb : Below z28.heap.size z28 z32 := by rw [← hV]; exact below_new _ _
  have HSB2 := Lib.hid (show SrcAt (some ⟨z28.heap.size, 0, none⟩) B z32 by
    rw [← HBB.out]
    refine src_row (cs := (bvals exB).toArray) (T := 5) (fr := (0, 0)) ?_ rfl
    rw [← hV]
    exact heap_alloc_new _ _)
  clear hV
  have HMR32 := Lib.hid (row_on HMR28.out hb)
  have HLLR32 := Lib.hid (HLLR28.out.on hb)
  have HSR32 := Lib.hid (srcAt_on HSR28.out hb)
  have HWR32 := Lib.hid (chain HWR28.out hb)
  clear HMR28 HLLR28 HSR28 HWR28
  clear hb
  refine hK.out _ _ (row_range (cs := [Value.string L.iss, .int .u64 L.num, .int .i64 L.fr, .int .i64 L.tt, .slice m5.SA L.ser.length m5.sc, .int .i64 L.sg.idx, .slice m5.CA L.sg.cs.length m5.cc, .slice m5.PA L.sg.ps.length m5.pc]) HMR32.out) (fun hHeld2 => ?_)
  clear hK K hHeld
  have hHeld := hHeld2
  clear hHeld2
  try simp only [Act.put, List.setIfInBounds_toArray, List.set_cons_zero, List.set_cons_succ]
  refine wpAnyH_ready (rs := [33]) (by kernel_rfl) (by simp) (AllReadyH.cons (o := { dst := Option.some 69, op := Go.Op.call { callee := Go.Callee.value (Go.Operand.func 11), args := #[Go.Operand.tmp 67, Go.Operand.tmp 68], argTypes := #[31, 31] }, type := 4, pos := "law.go:79", after := #[{ on := 31, ground := Go.Ground.data }, { on := 32, ground := Go.Ground.data }, { on := 30, ground := Go.Ground.chain }, { on := 30, ground := Go.Ground.guard }], guard := Option.some (30, Bool.true) }) rfl (fun K hK => ?_) AllReadyH.nil)
  go_simp
  refine (HSB.out z32 _ _ _ _ HSR32.out HSB2.out).mono ?_
  rintro e z33 ⟨rfl, hb⟩
  have HMR33 := Lib.hid (row_on HMR32.out hb)
  have HLLR33 := Lib.hid (HLLR32.out.on hb)
  have HSR33 := Lib.hid (srcAt_on HSR32.out hb)
  have HWR33 := Lib.hid (chain HWR32.out hb)
  clear HMR32 HLLR32 HSR32 HWR32
  clear hb
  go_simp
  refine hK.out _ _ (row_range (cs := [Value.string L.iss, .int .u64 L.num, .int .i64 L.fr, .int .i64 L.tt, .slice m5.SA L.ser.length m5.sc, .int .i64 L.sg.idx, .slice m5.CA L.sg.cs.length m5.cc, .slice m5.PA L.sg.ps.length m5.pc]) HMR33.out) (fun hHeld2 => ?_)
  clear hK K hHeld
  have hHeld := hHeld2
  clear hHeld2
  try simp only [Act.put, List.setIfInBounds_toArray, List.set_cons_zero, List.set_cons_succ]
  refine wpAnyH_take (i := 34) (oi := { dst := Option.some 70, op := Go.Op.pick (Go.Operand.tmp 66) (Go.Operand.tmp 69) (Go.Operand.const (Go.Value.bool Bool.false)), type := 4, pos := "law.go:79", after := #[{ on := 30, ground := Go.Ground.data }, { on := 33, ground := Go.Ground.data }], guard := Option.none }) (v := ?_) rfl (by kernel_rfl) (by kernel_rfl) (by kernel_rfl) (fun _ _ _ h => h) (Or.inl ⟨by rfl, ?_⟩) hHeld ?_
  rotate_left
  · intro w hSw
    clear hSw
    go_simp
    try with_reducible rfl
  try simp only [Act.put, List.setIfInBounds_toArray, List.set_cons_zero, List.set_cons_succ]
  refine wpAnyH_take (i := 35) (oi := { dst := Option.some 0, op := Go.Op.assign (Go.Operand.tmp 70), type := 4, pos := "law.go:79", after := #[{ on := 34, ground := Go.Ground.data }, { on := 33, ground := Go.Ground.chain }, { on := 0, ground := Go.Ground.phase }, { on := 1, ground := Go.Ground.phase }, { on := 2, ground := Go.Ground.phase }, { on := 3, ground := Go.Ground.phase }, { on := 4, ground := Go.Ground.phase }, { on := 5, ground := Go.Ground.phase }, { on := 6, ground := Go.Ground.phase }, { on := 7, ground := Go.Ground.phase }, { on := 8, ground := Go.Ground.phase }, { on := 9, ground := Go.Ground.phase }, { on := 10, ground := Go.Ground.phase }, { on := 11, ground := Go.Ground.phase }, { on := 12, ground := Go.Ground.phase }, { on := 13, ground := Go.Ground.phase }, { on := 14, ground := Go.Ground.phase }, { on := 15, ground := Go.Ground.phase }, { on := 16, ground := Go.Ground.phase }, { on := 17, ground := Go.Ground.phase }, { on := 18, ground := Go.Ground.phase }, { on := 19, ground := Go.Ground.phase }, { on := 20, ground := Go.Ground.phase }, { on := 21, ground := Go.Ground.phase }, { on := 22, ground := Go.Ground.phase }, { on := 23, ground := Go.Ground.phase }, { on := 24, ground := Go.Ground.phase }, { on := 25, ground := Go.Ground.phase }, { on := 26, ground := Go.Ground.phase }, { on := 27, ground := Go.Ground.phase }, { on := 28, ground := Go.Ground.phase }, { on := 29, ground := Go.Ground.phase }, { on := 30, ground := Go.Ground.phase }, { on := 31, ground := Go.Ground.phase }, { on := 32, ground := Go.Ground.phase }, { on := 33, ground := Go.Ground.phase }, { on := 34, ground := Go.Ground.phase }], guard := Option.none }) (v := ?_) rfl (by kernel_rfl) (by kernel_rfl) (by kernel_rfl) (fun _ _ _ h => h) (Or.inl ⟨by rfl, ?_⟩) hHeld ?_
  rotate_left
  · intro w hSw
    clear hSw
    go_simp
    try with_reducible rfl
  try simp only [Act.put, List.setIfInBounds_toArray, List.set_cons_zero, List.set_cons_succ]
  refine wpAnyH_done (by kernel_rfl) ?_ _
  go_wp2_with fail
  refine bodyPost_ret (v := .bool true) (by simp [results, Try.results5, go_sem]) rfl ⟨rfl, HWR33.out⟩
end Sg
end Go.Proofs.Ytebldfobpbijgaa
namespace Go.Proofs.Ytebldfobpbijgaa
namespace Sg
open Go.RowKit Sha Oc
set_option linter.unusedVariables false
set_option linter.unusedSimpArgs false
theorem wf_rlO {v : Oct} (h : WholeG v) : Wf (rlO v) := by
  obtain ⟨h0, ⟨b0, b1, b2, b3, b4, s0, s1⟩, c0, c1, c2, c3⟩ := h
  have hp : (256 : Nat) ^ 8 = 18446744073709551616 := by decide
  have n2 := (num_of b2).2.2.1
  refine ⟨⟨?_, ?_⟩, fun x hx => ?_, (chO_back _ c2.2).1, (chO_back _ c3.2).1⟩
  · show (0 : Int) ≤ (numX (kid (kid v 0) 1) : Int)
    omega
  · show (numX (kid (kid v 0) 1) : Int) < 18446744073709551616
    omega
  · have hx' : x ∈ (kids (kid (kid v 0) 4)).map fun o => (numX o : Int) := hx
    obtain ⟨o, ho, rfl⟩ := List.mem_map.1 hx'
    have := (num_of (s1 o ho)).2.2.1
    omega
theorem iss_small {l : Rl} (h : Fit l) : l.iss.size ≤ maxLen := by
  have := h.iss
  unfold maxLen
  omega
set_option maxRecDepth 100000 in
set_option maxHeartbeats 8000000 in
theorem back_any (l : Rl) (p : Mp) (hwf : Wf l) (b : List UInt8) (A : Option Addr) (c : Nat) (hc : b.length ≤ c) (hA : A = none → c = 0) (w : World) (a1 : Nums p.SA l.ser w) (a2 : Shs p.CA l.sg.cs w) (a3 : Shs p.PA l.sg.ps w) (hs : SrcAt A b w) :
    Calls Try.prog 3 #[.agg (rlC l p), .slice A b.length c] w fun e w' => e = .returned (.bool true) ∧ Below w.heap.size w w' := by
  have HAL := Lib.hid (fun (V : World) => alive11_any V)
  have hgr := fun (V : World) => great_any l p V
  have HA : RowKit.Hid (grB l = false → RlAt l p w ∧ l.iss.size ≤ maxLen) := Lib.hid (fun h => by
    unfold grB at h
    rw [decide_eq_false_iff_not] at h
    exact ⟨⟨a1, a2, a3, by omega, by omega, by omega⟩, by unfold maxLen; omega⟩)
  have hen := fun (hz : l.iss.size ≤ maxLen) (V : World) (h : RlAt l p V) => encode_rev l p hz hwf V h
  have hck := fun (hz : l.iss.size ≤ maxLen) (V : World) (h : RlAt l p V) => lchk_any l p V hz h.ser
  have hd1 := fun (h0 : rvC l = 0) (V : World) (A' : Option Addr) (c' : Nat) (hc' : (enc (rlV l)).length ≤ c') (hA' : A' = none → c' = 0) (h : SrcAt A' (enc (rlV l)) V) => (show Calls Try.prog 8 #[.slice A' (enc (rlV l)).length c'] V (RvdPost (l, 0) V) from by
    have hfit := hwf.fit h0
    have hk := fit_ck hfit
    have k := rdecode_any (enc (rlV l)) (by have := hk.2.2.2; omega) A' c' hc' hA' V h
    rw [rvD_enc hfit h0 hk.2.1] at k
    exact k)
  have hsm := fun (V : World) (q : Mp) (h : RlAt l p V) (h' : RlAt l q V) => (show Calls Try.prog 9 #[.agg (rlC l p), .agg (rlC l q)] V (fun e w' => e = .returned (.bool true) ∧ Below V.heap.size V w') from by
    have k := revsame_ref l l p q V h h'
    rw [decide_eq_true (rfl : l = l)] at k
    exact k)
  have hsb := fun (hb : b.length ≤ 20000) (V : World) (A' : Option Addr) (c' : Nat) (hB : Below w.heap.size w V) (h' : SrcAt A' b V) => (show Calls Try.prog 11 #[.slice A b.length c, .slice A' b.length c'] V (fun e w' => e = .returned (.bool true) ∧ Below V.heap.size V w') from by
    have k := samebytes_any b b A A' c c' (by omega) (by omega) V (srcAt_on hs hB) h'
    rw [decide_eq_true (rfl : b = b)] at k
    exact k)
  have hdb : b.length ≤ 20000 → (∃ k : Rl, RowKit.Hid (∀ (V : World) (m : Mp), RlAt k m V → Calls Try.prog 7 #[.agg (rlC k m)] V (fun e w' => ∃ A' c', e = .returned (.tuple #[.slice A' b.length c', .int .i64 0]) ∧ b.length ≤ c' ∧ (A' = none → c' = 0) ∧ SrcAt A' b w' ∧ Below V.heap.size V w')) ∧ RowKit.Hid (∀ (V : World), Below w.heap.size w V → Calls Try.prog 8 #[.slice A b.length c] V (RvdPost (k, 0) V))) ∨
      (∃ k : Rl, RowKit.Hid (∀ (V : World) (m : Mp), RlAt k m V → Calls Try.prog 9 #[.agg (rlC k m), .agg #[.string ⟨#[]⟩, .int .u64 0, .int .i64 0, .int .i64 0, .slice none 0 0, .int .i64 0, .slice none 0 0, .slice none 0 0]] V (fun e w' => e = .returned (.bool true) ∧ Below V.heap.size V w')) ∧ RowKit.Hid (∀ (V : World), Below w.heap.size w V → Calls Try.prog 8 #[.slice A b.length c] V (RvdPost (k, 12) V))) := fun hb => by
    have hd := fun (V : World) (hB : Below w.heap.size w V) => rdecode_any b (by omega) A c hc hA V (srcAt_on hs hB)
    rcases rvD_err b with h0 | h12
    · obtain ⟨q1, q2, q3, v, q4, q5⟩ := rvD_of h0
      have e : rvD b = ((rvD b).1, 0) := Prod.ext rfl h0
      have hw : Wf (rvD b).1 := by rw [q5]; exact wf_rlO q4
      refine .inl ⟨(rvD b).1, Lib.hid (fun V m h => ?_), Lib.hid (fun V hB => ?_)⟩
      · refine (encode_rev _ m (iss_small (hw.fit q2)) hw V h).mono fun e9 z k => ?_
        rw [q2] at k
        have k2 := ebpost_ok k
        rw [q1] at k2
        exact k2
      · rw [← e]
        exact hd V hB
    · refine .inr ⟨rl0, Lib.hid (fun V m h => ?_), Lib.hid (fun V hB => ?_)⟩
      · have k := revsame_ref rl0 rl0 m mp0 V h (rl0_at V)
        rw [decide_eq_true (rfl : rl0 = rl0)] at k
        exact k
      · rw [← h12]
        exact hd V hB
  obtain ⟨n, hn⟩ : ∃ n, b.length = n := ⟨_, rfl⟩
  obtain ⟨G, hG⟩ : ∃ G, grB l = G := ⟨_, rfl⟩
  obtain ⟨E, hE⟩ : ∃ E, rvC l = E := ⟨_, rfl⟩
  obtain ⟨D, hD⟩ : ∃ D, enc (rlV l) = D := ⟨_, rfl⟩
  obtain ⟨d, hd⟩ : ∃ d, D.length = d := ⟨_, rfl⟩
  rw [hG] at HA hgr
  rw [hE] at hen hck hd1
  rw [hD, hd] at hd1
  rw [hn] at hsb hdb ⊢
  have HEO := Lib.hid (fun (h0 : E = 0) (hz : l.iss.size ≤ maxLen) (V : World) (h : RlAt l p V) => (show Calls Try.prog 7 #[.agg (rlC l p)] V (fun e w' => ∃ A' c', e = .returned (.tuple #[.slice A' d c', .int .i64 0]) ∧ d ≤ c' ∧ (A' = none → c' = 0) ∧ SrcAt A' D w' ∧ Below V.heap.size V w') from (hen hz V h).mono fun e9 z k => by
    subst h0
    have k2 := ebpost_ok k
    rw [hD, hd] at k2
    exact k2))
  have HEE := Lib.hid (fun (h0 : E ≠ 0) (hz : l.iss.size ≤ maxLen) (V : World) (h : RlAt l p V) => (show Calls Try.prog 7 #[.agg (rlC l p)] V (fun e w' => e = .returned (.tuple #[.slice none 0 0, .int .i64 E]) ∧ Below V.heap.size V w') from (hen hz V h).mono fun e9 z k => by
    obtain ⟨hb, ⟨h, _⟩ | ⟨_, k⟩⟩ := k
    · exact absurd h h0
    · exact ⟨k, hb⟩))
  have HGR := Lib.hid hgr
  have HCK := Lib.hid hck
  have HD1 := Lib.hid hd1
  have HSM := Lib.hid hsm
  have HSB0 := Lib.hid hsb
  have HDB0 := Lib.hid hdb
  have HR0 := Lib.hid (heap_alloc_new w (.cells #[Value.string l.iss, .int .u64 l.num, .int .i64 l.fr, .int .i64 l.tt, .slice p.SA l.ser.length p.sc, .int .i64 l.sg.idx, .slice p.CA l.sg.cs.length p.cc, .slice p.PA l.sg.ps.length p.pc] 30))
  have HB0 := Lib.hid (below_new w (.cells #[Value.string l.iss, .int .u64 l.num, .int .i64 l.fr, .int .i64 l.tt, .slice p.SA l.ser.length p.sc, .int .i64 l.sg.idx, .slice p.CA l.sg.cs.length p.cc, .slice p.PA l.sg.ps.length p.pc] 30))
  clear hgr hen hck hd1 hsm hsb hdb hn hG hE hD hd hwf hc hA a1 a2 a3 hs
  unfold rlC at HGR HEO HEE HCK HSM ⊢
  go_enter Try.func3, Try.ntmps3
  go_upto_region 1 with (fail)
  generalize hV0 : World.alloc w _ = V0 at HR0 HB0 ⊢
  clear hV0
  go_wp2_with fail
  refine (HAL.out V0).mono ?_
  rintro e V1 ⟨rfl, hb⟩
  have HR1 := Lib.hid (row_on HR0.out hb)
  have HB1 := Lib.hid (chain HB0.out hb)
  clear hb HR0 HB0 HAL
  obtain ⟨hl0, f0, f1, f2, f3, f4, f5, f6, f7⟩ := facts8 HR1.out
  go_wp2_with fail
  refine (HGR.out V1).mono ?_
  rintro e V2 ⟨rfl, hb⟩
  have HR2 := Lib.hid (row_on HR1.out hb)
  have HB2 := Lib.hid (chain HB1.out hb)
  clear hb HR1 HB1 HGR hl0 f0 f1 f2 f3 f4 f5 f6 f7
  cases G with
  | true =>
    go_wp2_with fail
    refine bodyPost_ret (v := .bool true) (by simp [results, Try.results3, go_sem]) rfl ⟨rfl, HB2.out⟩
  | false =>
    by_cases hbig : 20000 < n
    · have hbig' : (20000 : Int) < (n : Int) := by omega
      go_wp2_with fail
      refine bodyPost_ret (v := .bool true) (by simp [results, Try.results3, go_sem]) rfl ⟨rfl, HB2.out⟩
    · have hbig' : ¬ (20000 : Int) < (n : Int) := by omega
      obtain ⟨ha, hz⟩ := HA.out rfl
      have HSB := Lib.hid (HSB0.out (by omega))
      have HDB := Lib.hid (HDB0.out (by omega))
      have HCK1 := Lib.hid (HCK.out hz)
      have HEO1 := Lib.hid (fun h => HEO.out h hz)
      have HEE1 := Lib.hid (fun h => HEE.out h hz)
      have HAT := Lib.hid ha
      clear ha hz HSB0 HDB0 HCK HEO HEE HA
      obtain ⟨hl0, f0, f1, f2, f3, f4, f5, f6, f7⟩ := facts8 HR2.out
      go_upto_region 4 with (fail)
      clear hbig hbig'
      go_wp2_with fail
      by_cases h0 : E = 0
      · refine (HEO1.out h0 V2 (HAT.out.on HB2.out)).mono ?_
        rintro e V3 ⟨A3, c3, rfl, k1, k2, hs3, hb⟩
        have HR3 := Lib.hid (row_on HR2.out hb)
        have HB3 := Lib.hid (chain HB2.out hb)
        have HD13 := Lib.hid (HD1.out h0 V3 A3 c3 k1 k2 hs3)
        clear hb hs3 k1 k2 HR2 HB2 HEE1 HEO1 HD1 HCK1 hl0 f0 f1 f2 f3 f4 f5 f6 f7 h0
        go_wp2_with fail
        refine HD13.out.mono ?_
        rintro e V4 ⟨m4, rfl, hl, hb⟩
        have HL4 := Lib.hid hl
        have HB4 := Lib.hid (chain HB3.out hb)
        have HR4 := Lib.hid (row_on HR3.out hb)
        clear hl hb HD13 HR3 HB3
        unfold rlC
        dsimp only
        go_upto_region 7 with (fail)
        have HM := Lib.hid (heap_alloc_new V4 (.cells #[Value.string l.iss, .int .u64 l.num, .int .i64 l.fr, .int .i64 l.tt, .slice m4.SA l.ser.length m4.sc, .int .i64 l.sg.idx, .slice m4.CA l.sg.cs.length m4.cc, .slice m4.PA l.sg.ps.length m4.pc] 30))
        obtain ⟨M, hM⟩ : ∃ M, V4.heap.size = M := ⟨_, rfl⟩
        rw [hM] at HM ⊢
        generalize hV6 : World.alloc V4 _ = V5 at HM ⊢
        have hb : Below V4.heap.size V4 V5 := by rw [← hV6]; exact below_new _ _
        have HL42 := Lib.hid (HL4.out.on hb)
        have HB5 := Lib.hid (chain HB4.out hb)
        have HR5 := Lib.hid (row_on HR4.out hb)
        clear hb hV6 hM
        obtain ⟨hl9, q0, q1, q2, q3, q4, q5, q6, q7⟩ := facts8 HM.out
        obtain ⟨hl0, f0, f1, f2, f3, f4, f5, f6, f7⟩ := facts8 HR5.out
        go_wp2_with fail
        have h := HSM.out V5 m4 (HAT.out.on HB5.out) HL42.out
        refine h.mono ?_
        clear h
        rintro e V6 ⟨rfl, hb⟩
        have HB6 := Lib.hid (chain HB5.out hb)
        clear hb hl0 f0 f1 f2 f3 f4 f5 f6 f7 hl9 q0 q1 q2 q3 q4 q5 q6 q7 HM HR5 HR4 HB4 HL4 HL42 HB5
        go_wp2_with fail
        rcases HDB.out with hok | her
        · obtain ⟨k, HEK, hd⟩ := hok
          refine (hd.out V6 HB6.out).mono ?_
          rintro e y1 ⟨m1, rfl, hl, hb⟩
          have HY := Lib.hid hl
          have HB1 := Lib.hid (chain HB6.out hb)
          clear hl hb
          unfold rlC
          dsimp only
          go_upto_region 12 with (fail)
          have HM := Lib.hid (heap_alloc_new y1 (.cells #[Value.string k.iss, .int .u64 k.num, .int .i64 k.fr, .int .i64 k.tt, .slice m1.SA k.ser.length m1.sc, .int .i64 k.sg.idx, .slice m1.CA k.sg.cs.length m1.cc, .slice m1.PA k.sg.ps.length m1.pc] 30))
          obtain ⟨M, hM⟩ : ∃ M, y1.heap.size = M := ⟨_, rfl⟩
          rw [hM] at HM ⊢
          generalize hV6 : World.alloc y1 _ = y2 at HM ⊢
          have hb : Below y1.heap.size y1 y2 := by rw [← hV6]; exact below_new _ _
          have HY2 := Lib.hid (HY.out.on hb)
          have HB2 := Lib.hid (chain HB1.out hb)
          clear hb hV6 hM
          obtain ⟨hl9, q0, q1, q2, q3, q4, q5, q6, q7⟩ := facts8 HM.out
          go_wp2_with fail
          have h := HEK.out y2 m1 HY2.out
          unfold rlC at h
          refine h.mono ?_
          clear h
          rintro e y3 ⟨A3, c3, rfl, k1, k2, hs3, hb⟩
          have HB3 := Lib.hid (chain HB2.out hb)
          have HS3 := Lib.hid hs3
          clear hs3 hb k1 k2 hl9 q0 q1 q2 q3 q4 q5 q6 q7
          go_wp2_with fail
          refine (HSB.out y3 A3 c3 HB3.out HS3.out).mono ?_
          rintro e y4 ⟨rfl, hb⟩
          have HB4 := Lib.hid (chain HB3.out hb)
          clear hb
          go_wp2_with fail
          refine bodyPost_ret (v := .bool true) (by simp [results, Try.results3, go_sem]) rfl ⟨rfl, HB4.out⟩
        · obtain ⟨k, HEK, hd⟩ := her
          refine (hd.out V6 HB6.out).mono ?_
          rintro e y1 ⟨m1, rfl, hl, hb⟩
          have HY := Lib.hid hl
          have HB1 := Lib.hid (chain HB6.out hb)
          clear hl hb
          unfold rlC
          dsimp only
          go_upto_region 12 with (fail)
          have HM := Lib.hid (heap_alloc_new y1 (.cells #[Value.string k.iss, .int .u64 k.num, .int .i64 k.fr, .int .i64 k.tt, .slice m1.SA k.ser.length m1.sc, .int .i64 k.sg.idx, .slice m1.CA k.sg.cs.length m1.cc, .slice m1.PA k.sg.ps.length m1.pc] 30))
          obtain ⟨M, hM⟩ : ∃ M, y1.heap.size = M := ⟨_, rfl⟩
          rw [hM] at HM ⊢
          generalize hV6 : World.alloc y1 _ = y2 at HM ⊢
          have hb : Below y1.heap.size y1 y2 := by rw [← hV6]; exact below_new _ _
          have HY2 := Lib.hid (HY.out.on hb)
          have HB2 := Lib.hid (chain HB1.out hb)
          clear hb hV6 hM
          obtain ⟨hl9, q0, q1, q2, q3, q4, q5, q6, q7⟩ := facts8 HM.out
          go_wp2_with fail
          have h := HEK.out y2 m1 HY2.out
          unfold rlC at h
          refine h.mono ?_
          clear h
          rintro e y3 ⟨rfl, hb⟩
          have HB3 := Lib.hid (chain HB2.out hb)
          clear hb hl9 q0 q1 q2 q3 q4 q5 q6 q7
          go_wp2_with fail
          refine bodyPost_ret (v := .bool true) (by simp [results, Try.results3, go_sem]) rfl ⟨rfl, HB3.out⟩
      · refine (HEE1.out h0 V2 (HAT.out.on HB2.out)).mono ?_
        rintro e V3 ⟨rfl, hb⟩
        have HR3 := Lib.hid (row_on HR2.out hb)
        have HB3 := Lib.hid (chain HB2.out hb)
        clear hb HR2 HB2 HEE1 HEO1 HD1 hl0 f0 f1 f2 f3 f4 f5 f6 f7
        obtain ⟨hl0, f0, f1, f2, f3, f4, f5, f6, f7⟩ := facts8 HR3.out
        go_wp2_with fail
        refine (HCK1.out V3 (HAT.out.on HB3.out)).mono ?_
        rintro e V4 ⟨rfl, hb⟩
        have HB4 := Lib.hid (chain HB3.out hb)
        clear hb hl0 f0 f1 f2 f3 f4 f5 f6 f7 HR3 HB3 HCK1
        go_wp2_with fail
        rcases HDB.out with hok | her
        · obtain ⟨k, HEK, hd⟩ := hok
          refine (hd.out V4 HB4.out).mono ?_
          rintro e y1 ⟨m1, rfl, hl, hb⟩
          have HY := Lib.hid hl
          have HB1 := Lib.hid (chain HB4.out hb)
          clear hl hb
          unfold rlC
          dsimp only
          go_upto_region 12 with (fail)
          have HM := Lib.hid (heap_alloc_new y1 (.cells #[Value.string k.iss, .int .u64 k.num, .int .i64 k.fr, .int .i64 k.tt, .slice m1.SA k.ser.length m1.sc, .int .i64 k.sg.idx, .slice m1.CA k.sg.cs.length m1.cc, .slice m1.PA k.sg.ps.length m1.pc] 30))
          obtain ⟨M, hM⟩ : ∃ M, y1.heap.size = M := ⟨_, rfl⟩
          rw [hM] at HM ⊢
          generalize hV6 : World.alloc y1 _ = y2 at HM ⊢
          have hb : Below y1.heap.size y1 y2 := by rw [← hV6]; exact below_new _ _
          have HY2 := Lib.hid (HY.out.on hb)
          have HB2 := Lib.hid (chain HB1.out hb)
          clear hb hV6 hM
          obtain ⟨hl9, q0, q1, q2, q3, q4, q5, q6, q7⟩ := facts8 HM.out
          go_wp2_with fail
          have h := HEK.out y2 m1 HY2.out
          unfold rlC at h
          refine h.mono ?_
          clear h
          rintro e y3 ⟨A3, c3, rfl, k1, k2, hs3, hb⟩
          have HB3 := Lib.hid (chain HB2.out hb)
          have HS3 := Lib.hid hs3
          clear hs3 hb k1 k2 hl9 q0 q1 q2 q3 q4 q5 q6 q7
          go_wp2_with fail
          refine (HSB.out y3 A3 c3 HB3.out HS3.out).mono ?_
          rintro e y4 ⟨rfl, hb⟩
          have HB4 := Lib.hid (chain HB3.out hb)
          clear hb
          go_wp2_with fail
          refine bodyPost_ret (v := .bool true) (by simp [results, Try.results3, go_sem]) rfl ⟨rfl, HB4.out⟩
        · obtain ⟨k, HEK, hd⟩ := her
          refine (hd.out V4 HB4.out).mono ?_
          rintro e y1 ⟨m1, rfl, hl, hb⟩
          have HY := Lib.hid hl
          have HB1 := Lib.hid (chain HB4.out hb)
          clear hl hb
          unfold rlC
          dsimp only
          go_upto_region 12 with (fail)
          have HM := Lib.hid (heap_alloc_new y1 (.cells #[Value.string k.iss, .int .u64 k.num, .int .i64 k.fr, .int .i64 k.tt, .slice m1.SA k.ser.length m1.sc, .int .i64 k.sg.idx, .slice m1.CA k.sg.cs.length m1.cc, .slice m1.PA k.sg.ps.length m1.pc] 30))
          obtain ⟨M, hM⟩ : ∃ M, y1.heap.size = M := ⟨_, rfl⟩
          rw [hM] at HM ⊢
          generalize hV6 : World.alloc y1 _ = y2 at HM ⊢
          have hb : Below y1.heap.size y1 y2 := by rw [← hV6]; exact below_new _ _
          have HY2 := Lib.hid (HY.out.on hb)
          have HB2 := Lib.hid (chain HB1.out hb)
          clear hb hV6 hM
          obtain ⟨hl9, q0, q1, q2, q3, q4, q5, q6, q7⟩ := facts8 HM.out
          go_wp2_with fail
          have h := HEK.out y2 m1 HY2.out
          unfold rlC at h
          refine h.mono ?_
          clear h
          rintro e y3 ⟨rfl, hb⟩
          have HB3 := Lib.hid (chain HB2.out hb)
          clear hb hl9 q0 q1 q2 q3 q4 q5 q6 q7
          go_wp2_with fail
          refine bodyPost_ret (v := .bool true) (by simp [results, Try.results3, go_sem]) rfl ⟨rfl, HB3.out⟩
end Sg
end Go.Proofs.Ytebldfobpbijgaa
namespace Go.Proofs.Ytebldfobpbijgaa
namespace Sg
open Go.ChangeShapes Go.WideShapes Go.ChangeAt Go.RowKit Go.Joins Sha
set_option linter.unusedVariables false
set_option linter.unusedSimpArgs false
set_option maxRecDepth 100000
theorem cShort : Try.prog.cellsOf 99 = 16 := by kernel_rfl
theorem cByte : Try.prog.cellsOf 5 = 1 := by kernel_rfl
theorem cU64 : Try.prog.cellsOf 22 = 1 := by kernel_rfl
theorem cI64 : Try.prog.cellsOf 2 = 1 := by kernel_rfl
theorem cInt : Try.prog.cellsOf 3 = 1 := by kernel_rfl
theorem cStr : Try.prog.cellsOf 9 = 1 := by kernel_rfl
theorem cNums : Try.prog.cellsOf 25 = 1 := by kernel_rfl
theorem cShorts : Try.prog.cellsOf 26 = 1 := by kernel_rfl
theorem cWin : Try.prog.cellsOf 24 = 2 := by kernel_rfl
theorem cSig : Try.prog.cellsOf 28 = 3 := by kernel_rfl
theorem cRev : Try.prog.cellsOf 30 = 8 := by kernel_rfl
def u8of : Value → UInt8
  | .int _ n => UInt8.ofNat n.toNat
  | _ => 0
section
variable {H : Type} {enc : TypeId × Value → H} {w : World}
theorem row_of_trod {base : Nat} {spare : Nat → Bool} {held : Bool} {fuel : Nat} {cs : List Value} {x : DataW H × List MemPlace} (h : DataW.trod enc Try.prog w base spare held fuel 99 cs = some x) : ∃ l : List UInt8, l.length = 16 ∧ cs = bvals l := by
  obtain ⟨xs, m, _, _, hl, hxl, hx⟩ := DataW.trod_array Try.underlying99 h
  rw [cShort] at hl
  have hat : ∀ i, i < 16 → ∃ n, cs[i]? = some (.int .u8 n) ∧ 0 ≤ n ∧ n ≤ 255 := fun i hi => by
    have h1 := hx i hi
    rw [cByte, Nat.mul_one, List.getElem?_eq_getElem (by omega : i < xs.length)] at h1
    obtain ⟨n, h2, _, h3⟩ := DataW.trod_int Try.underlying5 h1
    refine ⟨n, ?_, bounds_u8 h3⟩
    have h4 := congrArg (fun l => l[0]?) h2
    simp only [List.getElem?_take, List.getElem?_drop] at h4
    simpa using h4
  refine ⟨cs.map u8of, by rw [List.length_map, hl], ?_⟩
  apply List.ext_getElem?
  intro i
  unfold bvals
  rw [List.getElem?_map, List.getElem?_map]
  by_cases hi : i < 16
  · obtain ⟨n, h1, h2, h3⟩ := hat i hi
    rw [h1]
    show some (Value.int .u8 n) = some (Value.int .u8 (((UInt8.ofNat n.toNat).toNat : Nat) : Int))
    rw [UInt8.toNat_ofNat']
    congr 2
    omega
  · rw [List.getElem?_eq_none (by omega)]
    rfl
theorem shorts_of_trod {fuel : Nat} {v : Value} {x : DataW H × List MemPlace} (hf : DataW.trod enc Try.prog w 0 (fun _ => true) true fuel 26 [v] = some x) :
    ∃ (A : Option Addr) (ls : List (List UInt8)) (c : Nat), v = .slice A ls.length c ∧ ls.length ≤ c ∧ c ≤ maxLen ∧ (A = none → c = 0) ∧ Shs A ls w := by
  rcases Go.Deep.open_slice Try.underlying26 hf with ⟨hcs, _⟩ | ⟨a, len, cap, m, n, D, Pl, hcs, hb, hl, hm, hmm, _, hx⟩
  · simp at hcs
    subst hcs
    exact ⟨none, [], 0, rfl, Nat.le_refl _, Nat.zero_le _, fun _ => rfl, fun i l hi => by simp at hi, fun l hl => by simp at hl⟩
  · simp at hcs
    subst hcs
    simp only [if_true] at hmm
    subst hmm
    have each : ∀ i, i < m → ∃ l : List UInt8, l.length = 16 ∧ ∀ j, j < 16 → w.cell? ((a.add (i * 16)).add j) = (bvals l)[j]? := fun i hi => by
      obtain ⟨cs', h1, h2⟩ := hx i hi
      rw [cShort] at h1
      obtain ⟨_, hlen, hcell⟩ := World.cells?_some h1
      obtain ⟨l, h3, h4⟩ := row_of_trod h2
      refine ⟨l, h3, fun j hj => ?_⟩
      have h5 := hcell j (by omega)
      rw [h5, h4]
    obtain ⟨f, hf2⟩ := Go.Deep.choose_lt each
    refine ⟨some a, (List.range len).map f, m, by rw [List.length_map, List.length_range], by rw [List.length_map, List.length_range]; exact hl, hm, (fun e => by cases e), fun i l hi => ?_, fun l hl2 => ?_⟩
    · rw [List.getElem?_map] at hi
      obtain ⟨k, hk, rfl⟩ := Option.map_eq_some_iff.1 hi
      obtain ⟨h1, h2⟩ := List.getElem?_eq_some_iff.1 hk
      simp at h1 h2
      subst h2
      obtain ⟨h3, h4⟩ := hf2 i (by omega)
      obtain ⟨b, off, spot⟩ := a
      obtain ⟨h30, h40⟩ := hf2 0 (by omega)
      have h5 := h40 0 (by decide)
      rw [List.getElem?_eq_getElem (by rw [bvals_len, h30]; decide)] at h5
      have hsp : spot = none := by simpa [Addr.add] using World.cell?_spot h5
      subst hsp
      refine ⟨b, off, rfl, fun j v hj => ?_⟩
      have hj16 : j < 16 := by
        have := (List.getElem?_eq_some_iff.1 hj).1
        rw [bvals_len, h3] at this
        exact this
      have h6 := h4 j hj16
      rw [add_eq, add_eq, hj, Nat.mul_comm] at h6
      exact h6
    · obtain ⟨k, hk, rfl⟩ := List.mem_map.1 hl2
      exact (hf2 k (by have := List.mem_range.1 hk; omega)).1
theorem nums_of_trod {fuel : Nat} {v : Value} {x : DataW H × List MemPlace} (hf : DataW.trod enc Try.prog w 0 (fun _ => true) true fuel 25 [v] = some x) :
    ∃ (A : Option Addr) (xs : List Int) (c : Nat), v = .slice A xs.length c ∧ (A = none → c = 0) ∧ Nums A xs w := by
  rcases open_ints Try.underlying25 Try.underlying22 cU64 hf with ⟨hcs, hx⟩ | ⟨a, len, cap, zs, hcs, _, hl, hm, hz, hx, hcell, hwz⟩
  · simp at hcs
    subst hcs
    exact ⟨none, [], 0, rfl, fun _ => rfl, ⟨fun i l hi => by simp at hi⟩⟩
  · simp at hcs
    subst hcs
    simp only [if_true] at hz
    have hlt : (zs.take len).length = len := by simp; omega
    refine ⟨some a, zs.take len, cap, by rw [hlt], (fun e => by cases e), ⟨fun i y hi => ?_⟩⟩
    have hil := (List.getElem?_eq_some_iff.1 hi).1
    rw [hlt] at hil
    obtain ⟨b, off, spot⟩ := a
    have hspot : spot = none := by simpa [Addr.add] using World.cell?_spot (hcell 0 (by omega))
    subst hspot
    refine ⟨b, off, rfl, ?_⟩
    have := hcell i (by omega)
    rw [add_eq] at this
    rw [this]
    rw [List.getElem?_take, if_pos hil] at hi
    simp [hi]
theorem eight_of {cs : List Value} {a b c d e f g h : Value} (hl : cs.length = 8) (h0 : (cs.drop 0).take 1 = [a]) (h1 : (cs.drop 1).take 1 = [b]) (h2 : (cs.drop 2).take 2 = [c, d]) (h3 : (cs.drop 4).take 1 = [e]) (h4 : (cs.drop 5).take 3 = [f, g, h]) : cs = [a, b, c, d, e, f, g, h] := by
  match cs, hl with
  | [x, y, z, u, v, p, q, r], _ =>
    simp at h0 h1 h2 h3 h4
    rw [h0, h1, h2.1, h2.2, h3, h4.1, h4.2.1, h4.2.2]
theorem two_of {cs : List Value} {a b : Value} (hl : cs.length = 2) (h0 : (cs.drop 0).take 1 = [a]) (h1 : (cs.drop 1).take 1 = [b]) : cs = [a, b] := by
  match cs, hl with
  | [x, y], _ =>
    simp at h0 h1
    rw [h0, h1]
theorem three_of {cs : List Value} (hl : cs.length = 3) : ∃ a b c, cs = [a, b, c] ∧ (cs.drop 0).take 1 = [a] ∧ (cs.drop 1).take 1 = [b] ∧ (cs.drop 2).take 1 = [c] := by
  match cs, hl with
  | [x, y, z], _ => exact ⟨x, y, z, rfl, rfl, rfl, rfl⟩
/-- a revocation list that came in -/
theorem open_rev {r : Reach} {b0 : Nat} {v : Value} {d : DataW H} {p : List MemPlace} (hv : Value.okWide Try.prog w r b0 30 v) (h : DataW.Trod enc Try.prog w 0 (fun _ => true) true 30 v d p) :
    ∃ (l : Rl) (m : Mp), v = .agg (rlC l m) ∧ Caps m ∧ Nums m.SA l.ser w ∧ Shs m.CA l.sg.cs w ∧ Shs m.PA l.sg.ps w := by
  obtain ⟨cs, rfl, hsz⟩ := okWide_struct Try.underlying30 hv
  obtain ⟨fuel, hf⟩ := h
  obtain ⟨xs, n, _, hx, hl, hlen, hfi⟩ := DataW.trod_struct Try.underlying30 hf
  have h5 : xs.length = 5 := hlen
  match xs, h5, hfi with
  | [x0, x1, x2, x3, x4], _, hfi =>
    have g0 := hfi 0 _ rfl
    have g1 := hfi 1 _ rfl
    have g2 := hfi 2 _ rfl
    have g3 := hfi 3 _ rfl
    have g4 := hfi 4 _ rfl
    simp only [List.getElem?_cons_zero, List.getElem?_cons_succ, cStr, cU64, cWin, cNums, cSig] at g0 g1 g2 g3 g4
    rw [cRev] at hl
    obtain ⟨s, k0, _, _⟩ := DataW.trod_string Try.underlying9 g0
    obtain ⟨num, k1, _, _⟩ := DataW.trod_int Try.underlying22 g1
    obtain ⟨y0, y1, n2, _, l2, w0, w1⟩ := trod_struct2 Try.underlying24 g2
    simp only [cI64] at w0 w1
    rw [cWin] at l2
    obtain ⟨fr, q0, _, _⟩ := DataW.trod_int Try.underlying2 w0
    obtain ⟨tt, q1, _, _⟩ := DataW.trod_int Try.underlying2 w1
    have k2 := two_of l2 q0 q1
    obtain ⟨v3, e3⟩ : ∃ v3, ((cs.toList.drop 4).take 1) = [v3] := by
      match hq : cs.toList, hl with
      | [a, b, c, d, e, f, g, h], _ => exact ⟨e, rfl⟩
    have g3' : DataW.trod enc Try.prog w 0 (fun _ => true) true n 25 [v3] = some x3 := by rw [← e3]; exact g3
    obtain ⟨SA, xs2, sc, rfl, hcs, hns⟩ := nums_of_trod g3'
    obtain ⟨z0, z1, z2, n4, _, l4, u0, u1, u2⟩ := Go.Deep.trod_struct3 Try.underlying28 g4
    rw [cSig] at l4
    obtain ⟨a0, a1, a2, ea, t0, t1, t2⟩ := three_of l4
    simp only [cInt, cShorts] at u0 u1 u2
    have u1' : DataW.trod enc Try.prog w 0 (fun _ => true) true n4 26 [a1] = some z1 := by rw [← t1]; exact u1
    have u2' : DataW.trod enc Try.prog w 0 (fun _ => true) true n4 26 [a2] = some z2 := by rw [← t2]; exact u2
    obtain ⟨idx, r0, _, _⟩ := DataW.trod_int Try.underlying3 u0
    have r1 := t0.symm.trans r0
    simp at r1
    subst r1
    obtain ⟨CA, cs2, cc, rfl, _, _, hcc, hss⟩ := shorts_of_trod u1'
    obtain ⟨PA, ps2, pc, rfl, _, _, hpc, hps⟩ := shorts_of_trod u2'
    have e := eight_of hl k0 k1 k2 e3 ea
    refine ⟨⟨s, num, fr, tt, xs2, ⟨idx, cs2, ps2⟩⟩, ⟨SA, sc, CA, cc, PA, pc⟩, ?_, ⟨hcs, hcc, hpc⟩, hns, hss, hps⟩
    have e2 : cs = #[.string s, .int .u64 num, .int .i64 fr, .int .i64 tt, .slice SA xs2.length sc, .int .i64 idx, .slice CA cs2.length cc, .slice PA ps2.length pc] := by
      apply Array.ext'
      exact e
    rw [e2]
    rfl
end
end Sg
end Go.Proofs.Ytebldfobpbijgaa
namespace Go.Proofs.Ytebldfobpbijgaa
namespace Sg
open Go.ChangeShapes Go.WideShapes Go.ChangeAt Go.RowKit Go.Joins Sha
set_option linter.unusedVariables false
set_option linter.unusedSimpArgs false
set_option maxRecDepth 100000
theorem wf_64 {x : Int} (h : (Lit.int .u64 x).wf = true) : 0 ≤ x ∧ x < 18446744073709551616 := by
  unfold Lit.wf at h
  simp only [Bool.and_eq_true, decide_eq_true_eq] at h
  obtain ⟨h1, h2⟩ := h
  have e1 : IntKind.u64.min = 0 := by decide
  have e2 : IntKind.u64.max = 18446744073709551615 := by decide
  rw [e1] at h1
  rw [e2] at h2
  exact ⟨h1, by omega⟩
section
variable {H : Type} {enc : TypeId × Value → H} {w : World}
theorem nums_of_trod2 {fuel : Nat} {v : Value} {x : DataW H × List MemPlace} (hf : DataW.trod enc Try.prog w 0 (fun _ => true) true fuel 25 [v] = some x) :
    ∃ (A : Option Addr) (xs : List Int) (c : Nat), v = .slice A xs.length c ∧ (A = none → c = 0) ∧ Nums A xs w ∧ ∀ x ∈ xs, x < 18446744073709551616 := by
  rcases open_ints Try.underlying25 Try.underlying22 cU64 hf with ⟨hcs, hx⟩ | ⟨a, len, cap, zs, hcs, _, hl, hm, hz, hx, hcell, hwz⟩
  · simp at hcs
    subst hcs
    exact ⟨none, [], 0, rfl, fun _ => rfl, ⟨fun i l hi => by simp at hi⟩, fun x hx => by cases hx⟩
  · simp at hcs
    subst hcs
    simp only [if_true] at hz
    have hlt : (zs.take len).length = len := by simp; omega
    refine ⟨some a, zs.take len, cap, by rw [hlt], (fun e => by cases e), ⟨fun i y hi => ?_⟩, fun x hx => (wf_64 (hwz x (List.mem_of_mem_take hx))).2⟩
    have hil := (List.getElem?_eq_some_iff.1 hi).1
    rw [hlt] at hil
    obtain ⟨b, off, spot⟩ := a
    have hspot : spot = none := by simpa [Addr.add] using World.cell?_spot (hcell 0 (by omega))
    subst hspot
    refine ⟨b, off, rfl, ?_⟩
    have := hcell i (by omega)
    rw [add_eq] at this
    rw [this]
    rw [List.getElem?_take, if_pos hil] at hi
    simp [hi]
/-- a revocation list that came in -/
theorem open_rev2 {r : Reach} {b0 : Nat} {v : Value} {d : DataW H} {p : List MemPlace} (hv : Value.okWide Try.prog w r b0 30 v) (h : DataW.Trod enc Try.prog w 0 (fun _ => true) true 30 v d p) :
    ∃ (l : Rl) (m : Mp), v = .agg (rlC l m) ∧ Caps m ∧ Nums m.SA l.ser w ∧ Shs m.CA l.sg.cs w ∧ Shs m.PA l.sg.ps w ∧ Wf l := by
  obtain ⟨cs, rfl, hsz⟩ := okWide_struct Try.underlying30 hv
  obtain ⟨fuel, hf⟩ := h
  obtain ⟨xs, n, _, hx, hl, hlen, hfi⟩ := DataW.trod_struct Try.underlying30 hf
  have h5 : xs.length = 5 := hlen
  match xs, h5, hfi with
  | [x0, x1, x2, x3, x4], _, hfi =>
    have g0 := hfi 0 _ rfl
    have g1 := hfi 1 _ rfl
    have g2 := hfi 2 _ rfl
    have g3 := hfi 3 _ rfl
    have g4 := hfi 4 _ rfl
    simp only [List.getElem?_cons_zero, List.getElem?_cons_succ, cStr, cU64, cWin, cNums, cSig] at g0 g1 g2 g3 g4
    rw [cRev] at hl
    obtain ⟨s, k0, _, _⟩ := DataW.trod_string Try.underlying9 g0
    obtain ⟨num, k1, _, hnw⟩ := DataW.trod_int Try.underlying22 g1
    obtain ⟨y0, y1, n2, _, l2, w0, w1⟩ := trod_struct2 Try.underlying24 g2
    simp only [cI64] at w0 w1
    rw [cWin] at l2
    obtain ⟨fr, q0, _, _⟩ := DataW.trod_int Try.underlying2 w0
    obtain ⟨tt, q1, _, _⟩ := DataW.trod_int Try.underlying2 w1
    have k2 := two_of l2 q0 q1
    obtain ⟨v3, e3⟩ : ∃ v3, ((cs.toList.drop 4).take 1) = [v3] := by
      match hq : cs.toList, hl with
      | [a, b, c, d, e, f, g, h], _ => exact ⟨e, rfl⟩
    have g3' : DataW.trod enc Try.prog w 0 (fun _ => true) true n 25 [v3] = some x3 := by rw [← e3]; exact g3
    obtain ⟨SA, xs2, sc, rfl, hcs, hns, hsw⟩ := nums_of_trod2 g3'
    obtain ⟨z0, z1, z2, n4, _, l4, u0, u1, u2⟩ := Go.Deep.trod_struct3 Try.underlying28 g4
    rw [cSig] at l4
    obtain ⟨a0, a1, a2, ea, t0, t1, t2⟩ := three_of l4
    simp only [cInt, cShorts] at u0 u1 u2
    have u1' : DataW.trod enc Try.prog w 0 (fun _ => true) true n4 26 [a1] = some z1 := by rw [← t1]; exact u1
    have u2' : DataW.trod enc Try.prog w 0 (fun _ => true) true n4 26 [a2] = some z2 := by rw [← t2]; exact u2
    obtain ⟨idx, r0, _, _⟩ := DataW.trod_int Try.underlying3 u0
    have r1 := t0.symm.trans r0
    simp at r1
    subst r1
    obtain ⟨CA, cs2, cc, rfl, _, _, hcc, hss⟩ := shorts_of_trod u1'
    obtain ⟨PA, ps2, pc, rfl, _, _, hpc, hps⟩ := shorts_of_trod u2'
    have e := eight_of hl k0 k1 k2 e3 ea
    refine ⟨⟨s, num, fr, tt, xs2, ⟨idx, cs2, ps2⟩⟩, ⟨SA, sc, CA, cc, PA, pc⟩, ?_, ⟨hcs, hcc, hpc⟩, hns, hss, hps, ⟨wf_64 hnw, hsw, hss.len, hps.len⟩⟩
    have e2 : cs = #[.string s, .int .u64 num, .int .i64 fr, .int .i64 tt, .slice SA xs2.length sc, .int .i64 idx, .slice CA cs2.length cc, .slice PA ps2.length pc] := by
      apply Array.ext'
      exact e
    rw [e2]
    rfl
end
end Sg
end Go.Proofs.Ytebldfobpbijgaa
namespace Go.Proofs.Ytebldfobpbijgaa
namespace Sg
open Go.RowKit Sha Oc
set_option linter.unusedVariables false
set_option linter.unusedSimpArgs false
theorem toNat_map_inj : ∀ (l k : List Int), (∀ x ∈ l, 0 ≤ x) → (∀ x ∈ k, 0 ≤ x) → l.map Int.toNat = k.map Int.toNat → l = k
  | [], [], _, _, _ => rfl
  | [], y :: s, _, _, h => by cases h
  | x :: r, [], _, _, h => by cases h
  | x :: r, y :: s, h1, h2, h => by
    injection h with h3 h4
    have e1 := h1 x (List.mem_cons_self ..)
    have e2 := h2 y (List.mem_cons_self ..)
    rw [toNat_map_inj r s (fun z hz => h1 z (List.mem_cons_of_mem _ hz)) (fun z hz => h2 z (List.mem_cons_of_mem _ hz)) h4]
    congr 1
    omega
theorem same_body {l k : Rl} (hl : Fit l) (hk : Fit k) : enc (rbv (rbOf l)) = enc (rbv (rbOf k)) ↔ { l with sg := k.sg } = k := by
  constructor
  · intro h
    have h2 := rb_enc_inj _ _ (fits_of hl) (fits_of hk) h
    obtain ⟨i1, n1, f1, t1, s1, g1⟩ := l
    obtain ⟨i2, n2, f2, t2, s2, g2⟩ := k
    unfold rbOf at h2
    dsimp only at h2
    injection h2 with e1 e2 e3 e4 e5
    have a1 := hl.num
    have a2 := hk.num
    have a3 := hl.fr
    have a4 := hk.fr
    have a5 := hl.tt
    have a6 := hk.tt
    dsimp only at a1 a2 a3 a4 a5 a6
    have b1 : i1 = i2 := by
      cases i1; cases i2
      congr 1
      exact Array.ext' e1
    have b2 : n1 = n2 := by omega
    have b3 : f1 = f2 := by omega
    have b4 : t1 = t2 := by omega
    have b5 : s1 = s2 := toNat_map_inj _ _ (fun x hx => (hl.ser x hx).1) (fun x hx => (hk.ser x hx).1) e5
    subst b1 b2 b3 b4 b5
    rfl
  · intro h
    have e : rbOf k = rbOf l := by rw [← h]; rfl
    rw [e]
/-- what Body answers, of either kind -/
def BdPost (D : List UInt8) (E : Int) (w : World) (e : Ending) (w' : World) : Prop := ∃ A c n, e = .returned (.tuple #[.slice A n c, .int .i64 E]) ∧ (E = 0 → n = D.length ∧ SrcAt A D w') ∧ Below w.heap.size w w'
theorem bdpost_of {o : Oct} {E : Int} {w : World} {e : Ending} {w' : World} (h : EbPost o E w e w') : BdPost (enc o) E w e w' := by
  obtain ⟨hb, ⟨h0, v, rfl, hown⟩ | ⟨h0, rfl⟩⟩ := h
  · obtain ⟨A, c, rfl, h1, h2, h3, h4⟩ := bytes_own hown
    exact ⟨A, c, _, by rw [h0], fun _ => ⟨rfl, h4⟩, hb⟩
  · exact ⟨none, 0, 0, rfl, fun h => absurd h h0, hb⟩
set_option maxRecDepth 100000 in
set_option maxHeartbeats 8000000 in
theorem bodies_any (l k : Rl) (p q : Mp) (hcp : Caps p) (hcq : Caps q) (hwl : Wf l) (hwk : Wf k) (w : World) (a1 : Nums p.SA l.ser w) (a2 : Shs p.CA l.sg.cs w) (a3 : Shs p.PA l.sg.ps w) (b1 : Nums q.SA k.ser w) (b2 : Shs q.CA k.sg.cs w) (b3 : Shs q.PA k.sg.ps w) :
    Calls Try.prog 4 #[.agg (rlC l p), .agg (rlC k q)] w fun e w' => e = .returned (.bool true) ∧ Below w.heap.size w w' := by
  have HAL := Lib.hid (fun (V : World) => alive11_any V)
  have HG1 := Lib.hid (fun (V : World) => great_any l p V)
  have HG2 := Lib.hid (fun (V : World) => great_any k q V)
  have HA : RowKit.Hid (grB l = false → RlAt l p w ∧ l.iss.size ≤ maxLen) := Lib.hid (fun h => by
    unfold grB at h
    rw [decide_eq_false_iff_not] at h
    exact ⟨⟨a1, a2, a3, by omega, by omega, by omega⟩, by unfold maxLen; omega⟩)
  have HB : RowKit.Hid (grB k = false → RlAt k q w ∧ k.iss.size ≤ maxLen) := Lib.hid (fun h => by
    unfold grB at h
    rw [decide_eq_false_iff_not] at h
    exact ⟨⟨b1, b2, b3, by omega, by omega, by omega⟩, by unfold maxLen; omega⟩)
  have hbl := fun (hz : l.iss.size ≤ maxLen) (V : World) (h : RlAt l p V) => (body_any l p hz hwl V h).mono fun e z k => bdpost_of k
  have hbk := fun (hz : k.iss.size ≤ maxLen) (V : World) (h : RlAt k q V) => (body_any k q hz hwk V h).mono fun e z k => bdpost_of k
  have hsb := fun (h1 : rvC l = 0) (h2 : rvC k = 0) (V : World) (A A' : Option Addr) (c c' : Nat) (h : SrcAt A (enc (rbv (rbOf l))) V) (h' : SrcAt A' (enc (rbv (rbOf k))) V) =>
    samebytes_any _ _ A A' c c' (by have := (fit_ck (hwl.fit h1)).2.2.1; omega) (by have := (fit_ck (hwk.fit h2)).2.2.1; omega) V h h'
  have hbb := fun (h1 : rvC l = 0) (h2 : rvC k = 0) => (show decide (enc (rbv (rbOf l)) = enc (rbv (rbOf k))) = decide ({ l with sg := k.sg } = k) from decide_eq_decide.2 (same_body (hwl.fit h1) (hwk.fit h2)))
  obtain ⟨G1, hG1⟩ : ∃ G, grB l = G := ⟨_, rfl⟩
  obtain ⟨G2, hG2⟩ : ∃ G, grB k = G := ⟨_, rfl⟩
  obtain ⟨E1, hE1⟩ : ∃ E, rvC l = E := ⟨_, rfl⟩
  obtain ⟨E2, hE2⟩ : ∃ E, rvC k = E := ⟨_, rfl⟩
  obtain ⟨D1, hD1⟩ : ∃ D, enc (rbv (rbOf l)) = D := ⟨_, rfl⟩
  obtain ⟨D2, hD2⟩ : ∃ D, enc (rbv (rbOf k)) = D := ⟨_, rfl⟩
  rw [hG1] at HA HG1
  rw [hG2] at HB HG2
  rw [hE1] at hbl hsb hbb
  rw [hE2] at hbk hsb hbb
  rw [hD1] at hbl hsb hbb
  rw [hD2] at hbk hsb hbb
  unfold BdPost at hbl hbk
  obtain ⟨b0, hb0⟩ : ∃ b0, decide (D1 = D2) = b0 := ⟨_, rfl⟩
  rw [hb0] at hsb hbb
  have HSB := Lib.hid hsb
  have HSM := Lib.hid (fun (h1 : E1 = 0) (h2 : E2 = 0) (hz : RlAt k q w) (V : World) (mo : Mp) (hB : Below w.heap.size w V) (h : RlAt { l with sg := k.sg } mo V) => (show Calls Try.prog 9 #[.agg (rlC { l with sg := k.sg } mo), .agg (rlC k q)] V (fun e w' => e = .returned (.bool b0) ∧ Below V.heap.size V w') from by
    have h9 := revsame_ref { l with sg := k.sg } k mo q V h (hz.on hB)
    rw [← hbb h1 h2] at h9
    exact h9))
  have HTW0 := Lib.hid (fun (h : RlAt l p w) (V : World) (hB : Below w.heap.size w V) => rtwin_ref l p V (h.on hB) hcp)
  have HTS0 := Lib.hid (fun (h : RlAt k q w) (V : World) (hB : Below w.heap.size w V) => twin_ref k.sg.idx q.CA q.PA k.sg.cs k.sg.ps q.cc q.pc hcq.c hcq.p ⟨h.lc, h.lp⟩ V (h.on hB).cs (h.on hB).ps)
  have HBL := Lib.hid hbl
  have HBK := Lib.hid hbk
  obtain ⟨hw0, hra, hrb⟩ := two_rows w (.cells #[Value.string l.iss, .int .u64 l.num, .int .i64 l.fr, .int .i64 l.tt, .slice p.SA l.ser.length p.sc, .int .i64 l.sg.idx, .slice p.CA l.sg.cs.length p.cc, .slice p.PA l.sg.ps.length p.pc] 30) (.cells #[Value.string k.iss, .int .u64 k.num, .int .i64 k.fr, .int .i64 k.tt, .slice q.SA k.ser.length q.sc, .int .i64 k.sg.idx, .slice q.CA k.sg.cs.length q.cc, .slice q.PA k.sg.ps.length q.pc] 30)
  have HB0 := Lib.hid hw0
  have HRa := Lib.hid hra
  have HRb := Lib.hid hrb
  clear hbl hbk hsb hbb hb0 hG1 hG2 hE1 hE2 hD1 hD2 hwl hwk hcp hcq a1 a2 a3 b1 b2 b3 hw0 hra hrb
  unfold rlC at HG1 HG2 HBL HBK HTW0 ⊢
  go_enter Try.func4, Try.ntmps4
  go_upto_region 1 with (fail)
  generalize World.alloc (World.alloc w _) _ = V0 at HB0 HRa HRb ⊢
  go_wp2_with fail
  refine (HAL.out V0).mono ?_
  rintro e V1 ⟨rfl, hb⟩
  have HRa1 := Lib.hid (row_on HRa.out hb)
  have HRb1 := Lib.hid (row_on HRb.out hb)
  have HB1 := Lib.hid (chain HB0.out hb)
  clear hb HRa HRb HB0 HAL
  obtain ⟨hl0, f0, f1, f2, f3, f4, f5, f6, f7⟩ := facts8 HRa1.out
  go_wp2_with fail
  refine (HG1.out V1).mono ?_
  rintro e V2 ⟨rfl, hb⟩
  have HRa2 := Lib.hid (row_on HRa1.out hb)
  have HRb2 := Lib.hid (row_on HRb1.out hb)
  have HB2 := Lib.hid (chain HB1.out hb)
  clear hb HRa1 HRb1 HB1 HG1 hl0 f0 f1 f2 f3 f4 f5 f6 f7
  cases G1 with
  | true =>
    go_wp2_with fail
    refine bodyPost_ret (v := .bool true) (by simp [results, Try.results4, go_sem]) rfl ⟨rfl, HB2.out⟩
  | false =>
    obtain ⟨ha, hz⟩ := HA.out rfl
    have HAT := Lib.hid ha
    have HTW := Lib.hid (HTW0.out ha)
    have HBL1 := Lib.hid (HBL.out hz)
    clear ha hz HA HBL HTW0
    obtain ⟨hl0, f0, f1, f2, f3, f4, f5, f6, f7⟩ := facts8 HRb2.out
    go_wp2_with fail
    refine (HG2.out V2).mono ?_
    rintro e V3 ⟨rfl, hb⟩
    have HRa3 := Lib.hid (row_on HRa2.out hb)
    have HRb3 := Lib.hid (row_on HRb2.out hb)
    have HB3 := Lib.hid (chain HB2.out hb)
    clear hb HRa2 HRb2 HB2 HG2 hl0 f0 f1 f2 f3 f4 f5 f6 f7
    cases G2 with
    | true =>
      go_wp2_with fail
      refine bodyPost_ret (v := .bool true) (by simp [results, Try.results4, go_sem]) rfl ⟨rfl, HB3.out⟩
    | false =>
      obtain ⟨hk, hz⟩ := HB.out rfl
      have HAK := Lib.hid hk
      have HTS := Lib.hid (HTS0.out hk)
      have HBK1 := Lib.hid (HBK.out hz)
      have HLK := Lib.hid (show k.sg.cs.length ≤ 100000 ∧ k.sg.ps.length ≤ 100000 from ⟨hk.lc, hk.lp⟩)
      have HSMK := Lib.hid (fun h1 h2 => HSM.out h1 h2 hk)
      clear hk hz HB HBK HTS0 HSM
      obtain ⟨hl0, f0, f1, f2, f3, f4, f5, f6, f7⟩ := facts8 HRa3.out
      go_wp2_with fail
      refine (HBL1.out V3 (HAT.out.on HB3.out)).mono ?_
      rintro e V4 ⟨A1, c1, n1, rfl, hs, hb⟩
      have HS14 := Lib.hid hs
      have HRa4 := Lib.hid (row_on HRa3.out hb)
      have HRb4 := Lib.hid (row_on HRb3.out hb)
      have HB4 := Lib.hid (chain HB3.out hb)
      clear hs hb HRa3 HRb3 HB3 HBL1 hl0 f0 f1 f2 f3 f4 f5 f6 f7
      obtain ⟨hl0, f0, f1, f2, f3, f4, f5, f6, f7⟩ := facts8 HRb4.out
      go_wp2_with fail
      refine (HBK1.out V4 (HAK.out.on HB4.out)).mono ?_
      rintro e V5 ⟨A2, c2, n2, rfl, hs, hb⟩
      have HS0_2 := Lib.hid hs
      have HS0_1 := Lib.hid (fun h => (show n1 = D1.length ∧ SrcAt A1 D1 V5 from ⟨(HS14.out h).1, srcAt_on (HS14.out h).2 hb⟩))
      have HRa5 := Lib.hid (row_on HRa4.out hb)
      have HRb5 := Lib.hid (row_on HRb4.out hb)
      have HB5 := Lib.hid (chain HB4.out hb)
      clear hs hb HRa4 HRb4 HB4 HBK1 HS14 hl0 f0 f1 f2 f3 f4 f5 f6 f7
      by_cases h1 : E1 = 0
      · by_cases h2 : E2 = 0
        · obtain ⟨g1, hs1⟩ := HS0_1.out h1
          obtain ⟨g2, hs2⟩ := HS0_2.out h2
          have HSBX := Lib.hid (fun V A A' c c' h h' => HSB.out h1 h2 V A A' c c' h h')
          have HSM := Lib.hid (HSMK.out h1 h2)
          rw [← g1, ← g2] at HSBX
          have HS15 := Lib.hid hs1
          have HS25 := Lib.hid hs2
          clear g1 g2 hs1 hs2 HSB HSMK HS0_1 HS0_2
          subst h1 h2
          obtain ⟨hl0, f0, f1, f2, f3, f4, f5, f6, f7⟩ := facts8 HRa5.out
          go_wp2_with fail
          have hm1 := HTW.out V5 HB5.out
          unfold RTwin at hm1
          refine hm1.mono ?_
          clear hm1
          rintro e V6 ⟨m1, rfl, hl, hb⟩
          have HTL := Lib.hid hl
          have HRb6 := Lib.hid (row_on HRb5.out hb)
          have HB6 := Lib.hid (chain HB5.out hb)
          have HS16 := Lib.hid (srcAt_on HS15.out hb)
          have HS26 := Lib.hid (srcAt_on HS25.out hb)
          clear hl hb HRb5 HRa5 HB5 HS15 HS25 hl0 f0 f1 f2 f3 f4 f5 f6 f7
          unfold rlC
          dsimp only
          go_upto_region 9 with (fail)
          have HM := Lib.hid (heap_alloc_new V6 (.cells #[Value.string l.iss, .int .u64 l.num, .int .i64 l.fr, .int .i64 l.tt, .slice m1.SA l.ser.length m1.sc, .int .i64 l.sg.idx, .slice m1.CA l.sg.cs.length m1.cc, .slice m1.PA l.sg.ps.length m1.pc] 30))
          obtain ⟨M, hM⟩ : ∃ M, V6.heap.size = M := ⟨_, rfl⟩
          rw [hM] at HM ⊢
          generalize hV7 : World.alloc V6 _ = V7 at HM ⊢
          have hb : Below V6.heap.size V6 V7 := by rw [← hV7]; exact below_new _ _
          have HRb7 := Lib.hid (row_on HRb6.out hb)
          have HB7 := Lib.hid (chain HB6.out hb)
          have HN7 := Lib.hid (HTL.out.ser.on hb)
          have HLM := Lib.hid (show V6.heap.size ≤ M by omega)
          have HWM := Lib.hid (show w.heap.size ≤ M by have := HB6.out.size; omega)
          have HMB := Lib.hid (show w.heap.size + 1 ≠ M by have := (Array.getElem?_eq_some_iff.1 HRb6.out).1; omega)
          have HV67 := Lib.hid hb
          clear hb hV7 HRb6 HB6
          obtain ⟨hl0, f0, f1, f2, f3, f4, f5, f6, f7⟩ := facts8 HRb7.out
          have hrg := range3 HRb7.out
          go_wp2_with fail
          have h := HTS.out V7 HB7.out
          unfold TwinPost at h
          refine h.mono ?_
          clear h
          rintro e V8 ⟨A5, A6, c5, c6, rfl, hs5, hs6, hb, _, _⟩
          have HM8 := Lib.hid (row_on HM.out hb)
          have HRb8 := Lib.hid (row_on HRb7.out hb)
          have HB8 := Lib.hid (chain HB7.out hb)
          have HV68 := Lib.hid (HV67.out.trans (hb.mono HV67.out.size))
          have HS5 := Lib.hid hs5
          have HS6 := Lib.hid hs6
          clear hb hs5 hs6 hl0 f0 f1 f2 f3 f4 f5 f6 f7 hrg HM HRb7 HB7 HV67 HN7
          obtain ⟨hl0, f0, f1, f2, f3, f4, f5, f6, f7⟩ := facts8 HM8.out
          obtain ⟨z0, z1, z2, z3, z4, z5, z6, z7⟩ := free8 HM8.out
          go_upto_region 10 with (fail)
          generalize hV9 : World.setCell _ _ _ = V9
          have hV9' : V8.setCells M 5 [.int .i64 k.sg.idx, .slice A5 k.sg.cs.length c5, .slice A6 k.sg.ps.length c6] = V9 := hV9
          clear hV9 hl0 f0 f1 f2 f3 f4 f5 f6 f7 z0 z1 z2 z3 z4 z5 z6 z7
          have HM9 := Lib.hid (show V9.heap[M]? = some (.cells #[Value.string l.iss, .int .u64 l.num, .int .i64 l.fr, .int .i64 l.tt, .slice m1.SA l.ser.length m1.sc, .int .i64 k.sg.idx, .slice A5 k.sg.cs.length c5, .slice A6 k.sg.ps.length c6] 30 (0, 0)) by rw [← hV9']; exact heap_set3 HM8.out)
          have ho : ∀ b, b ≠ M → V9.heap[b]? = V8.heap[b]? := fun b hb => by rw [← hV9']; exact heap_setCells_other _ _ _ hb
          have HB9 := Lib.hid (show Below w.heap.size w V9 by rw [← hV9']; exact below_setCells _ _ _ HB8.out HWM.out)
          have hb9 : Below M V8 V9 := by rw [← hV9']; exact below_setCells _ _ _ (Below.refl _ _) (Nat.le_refl _)
          have HRb9 := Lib.hid ((ho _ HMB.out).trans HRb8.out)
          have hb69 : Below V6.heap.size V6 V9 := by rw [← hV9']; exact below_setCells _ _ _ HV68.out HLM.out
          have hN : Nums m1.SA l.ser V9 := HTL.out.ser.on hb69
          have HAO9 := Lib.hid (show RlAt { l with sg := k.sg } ⟨m1.SA, m1.sc, A5, c5, A6, c6⟩ V9 from ⟨hN, shs_keep HS5.out HM8.out (show 8 < 16 by decide) ho, shs_keep HS6.out HM8.out (show 8 < 16 by decide) ho, HTL.out.ls, HLK.out.1, HLK.out.2⟩)
          have HS19 := Lib.hid (srcAt_on HS16.out hb69)
          have HS29 := Lib.hid (srcAt_on HS26.out hb69)
          clear hN hb9 hb69 ho hV9' HM8 HRb8 HB8 HS16 HS26 HS5 HS6
          refine wp_region_held_drew (S := fun z => z.rangeAt M 0 [Value.string l.iss, .int .u64 l.num, .int .i64 l.fr, .int .i64 l.tt, .slice m1.SA l.ser.length m1.sc, .int .i64 k.sg.idx, .slice A5 k.sg.cs.length c5, .slice A6 k.sg.ps.length c6] ∧ z.rangeAt (w.heap.size + 1) 0 [Value.string k.iss, .int .u64 k.num, .int .i64 k.fr, .int .i64 k.tt, .slice q.SA k.ser.length q.sc, .int .i64 k.sg.idx, .slice q.CA k.sg.cs.length q.cc, .slice q.PA k.sg.ps.length q.pc]) (by kernel_rfl) ⟨row_range (cs := [Value.string l.iss, .int .u64 l.num, .int .i64 l.fr, .int .i64 l.tt, .slice m1.SA l.ser.length m1.sc, .int .i64 k.sg.idx, .slice A5 k.sg.cs.length c5, .slice A6 k.sg.ps.length c6]) HM9.out, row_range (cs := [Value.string k.iss, .int .u64 k.num, .int .i64 k.fr, .int .i64 k.tt, .slice q.SA k.ser.length q.sc, .int .i64 k.sg.idx, .slice q.CA k.sg.cs.length q.cc, .slice q.PA k.sg.ps.length q.pc]) HRb9.out⟩ (fun hHeld => ?_)
          generalize hUU : World.drew V9 = VU at hHeld ⊢
          have hb : Below V9.heap.size V9 VU := by rw [← hUU]; exact (Below.refl _ _).drew
          clear hUU
          have HMU := Lib.hid (row_on HM9.out hb)
          have HRbU := Lib.hid (row_on HRb9.out hb)
          have HAOU := Lib.hid (HAO9.out.on hb)
          have HBU := Lib.hid (chain HB9.out hb)
          have HS1U := Lib.hid (srcAt_on HS19.out hb)
          have HS2U := Lib.hid (srcAt_on HS29.out hb)
          clear HM9 HRb9 HAO9 HB9 HS19 HS29 hb
          refine wpAnyH_take (i := 0) (oi := { dst := Option.some 46, op := Go.Op.move (Go.Operand.tmp 5), type := 4, pos := "law.go:209", after := #[], guard := Option.none }) (v := ?_) rfl (by kernel_rfl) (by kernel_rfl) (by kernel_rfl) (fun _ _ _ h => h) (Or.inl ⟨by rfl, ?_⟩) hHeld ?_
          rotate_left
          · intro w hSw
            clear hSw
            go_simp
            try with_reducible rfl
          try simp only [Act.put, List.setIfInBounds_toArray, List.set_cons_zero, List.set_cons_succ]
          refine wpAnyH_take (i := 1) (oi := { dst := Option.some 47, op := Go.Op.move (Go.Operand.tmp 46), type := 4, pos := "law.go:209", after := #[{ on := 0, ground := Go.Ground.data }], guard := Option.none }) (v := ?_) rfl (by kernel_rfl) (by kernel_rfl) (by kernel_rfl) (fun _ _ _ h => h) (Or.inl ⟨by rfl, ?_⟩) hHeld ?_
          rotate_left
          · intro w hSw
            clear hSw
            go_simp
            try with_reducible rfl
          try simp only [Act.put, List.setIfInBounds_toArray, List.set_cons_zero, List.set_cons_succ]
          refine wpAnyH_take (i := 2) (oi := { dst := Option.some 48, op := Go.Op.move (Go.Operand.tmp 6), type := 31, pos := "law.go:209", after := #[{ on := 1, ground := Go.Ground.guard }], guard := Option.some (1, Bool.true) }) (v := ?_) rfl (by kernel_rfl) (by kernel_rfl) (by kernel_rfl) (fun _ _ _ h => h) (Or.inl ⟨by rfl, ?_⟩) hHeld ?_
          rotate_left
          · intro w hSw
            clear hSw
            go_simp
            try with_reducible rfl
          try simp only [Act.put, List.setIfInBounds_toArray, List.set_cons_zero, List.set_cons_succ]
          refine wpAnyH_take (i := 3) (oi := { dst := Option.some 49, op := Go.Op.move (Go.Operand.tmp 8), type := 31, pos := "law.go:209", after := #[{ on := 1, ground := Go.Ground.guard }], guard := Option.some (1, Bool.true) }) (v := ?_) rfl (by kernel_rfl) (by kernel_rfl) (by kernel_rfl) (fun _ _ _ h => h) (Or.inl ⟨by rfl, ?_⟩) hHeld ?_
          rotate_left
          · intro w hSw
            clear hSw
            go_simp
            try with_reducible rfl
          try simp only [Act.put, List.setIfInBounds_toArray, List.set_cons_zero, List.set_cons_succ]
          refine wpAnyH_take (i := 5) (oi := { dst := Option.some 51, op := Go.Op.load 30 (Go.Operand.tmp 10), type := 30, pos := "law.go:209", after := #[{ on := 1, ground := Go.Ground.guard }], guard := Option.some (1, Bool.true) }) (v := .agg ([Value.string l.iss, .int .u64 l.num, .int .i64 l.fr, .int .i64 l.tt, .slice m1.SA l.ser.length m1.sc, .int .i64 k.sg.idx, .slice A5 k.sg.cs.length c5, .slice A6 k.sg.ps.length c6]).toArray) rfl (by kernel_rfl) (by kernel_rfl) (by kernel_rfl) (fun _ _ _ h => h) (yieldsIf_load_mid (by rfl) _ _ rfl _ _ rfl [Value.string l.iss, .int .u64 l.num, .int .i64 l.fr, .int .i64 l.tt, .slice m1.SA l.ser.length m1.sc, .int .i64 k.sg.idx, .slice A5 k.sg.cs.length c5, .slice A6 k.sg.ps.length c6] _ (fun w hSw => hSw.1) Try.underlying30 rfl (sz8l _ rfl)) hHeld ?_
          try simp only [Act.put, List.setIfInBounds_toArray, List.set_cons_zero, List.set_cons_succ]
          refine wpAnyH_take (i := 6) (oi := { dst := Option.some 52, op := Go.Op.load 30 (Go.Operand.tmp 3), type := 30, pos := "law.go:209", after := #[{ on := 1, ground := Go.Ground.guard }], guard := Option.some (1, Bool.true) }) (v := .agg ([Value.string k.iss, .int .u64 k.num, .int .i64 k.fr, .int .i64 k.tt, .slice q.SA k.ser.length q.sc, .int .i64 k.sg.idx, .slice q.CA k.sg.cs.length q.cc, .slice q.PA k.sg.ps.length q.pc]).toArray) rfl (by kernel_rfl) (by kernel_rfl) (by kernel_rfl) (fun _ _ _ h => h) (yieldsIf_load_mid (by rfl) _ _ rfl _ _ rfl [Value.string k.iss, .int .u64 k.num, .int .i64 k.fr, .int .i64 k.tt, .slice q.SA k.ser.length q.sc, .int .i64 k.sg.idx, .slice q.CA k.sg.cs.length q.cc, .slice q.PA k.sg.ps.length q.pc] _ (fun w hSw => hSw.2) Try.underlying30 rfl (sz8l _ rfl)) hHeld ?_
          try simp only [Act.put, List.setIfInBounds_toArray, List.set_cons_zero, List.set_cons_succ]
          refine wpAnyH_ready (rs := [4]) (by kernel_rfl) (by simp) (AllReadyH.cons (o := { dst := Option.some 50, op := Go.Op.call { callee := Go.Callee.value (Go.Operand.func 11), args := #[Go.Operand.tmp 48, Go.Operand.tmp 49], argTypes := #[31, 31] }, type := 4, pos := "law.go:209", after := #[{ on := 2, ground := Go.Ground.data }, { on := 3, ground := Go.Ground.data }, { on := 1, ground := Go.Ground.chain }, { on := 1, ground := Go.Ground.guard }], guard := Option.some (1, Bool.true) }) rfl (fun K hK => ?_) AllReadyH.nil)
          go_simp
          refine (HSBX.out VU _ _ _ _ HS1U.out HS2U.out).mono ?_
          rintro e z4 ⟨rfl, hb⟩
          have HMR4 := Lib.hid (row_on HMU.out hb)
          have HRbR4 := Lib.hid (row_on HRbU.out hb)
          have HAOR4 := Lib.hid (HAOU.out.on hb)
          have HBR4 := Lib.hid (chain HBU.out hb)
          have HS1R4 := Lib.hid (srcAt_on HS1U.out hb)
          have HS2R4 := Lib.hid (srcAt_on HS2U.out hb)
          clear HMU HRbU HAOU HBU HS1U HS2U hb
          go_simp
          refine hK.out _ _ ⟨row_range (cs := [Value.string l.iss, .int .u64 l.num, .int .i64 l.fr, .int .i64 l.tt, .slice m1.SA l.ser.length m1.sc, .int .i64 k.sg.idx, .slice A5 k.sg.cs.length c5, .slice A6 k.sg.ps.length c6]) HMR4.out, row_range (cs := [Value.string k.iss, .int .u64 k.num, .int .i64 k.fr, .int .i64 k.tt, .slice q.SA k.ser.length q.sc, .int .i64 k.sg.idx, .slice q.CA k.sg.cs.length q.cc, .slice q.PA k.sg.ps.length q.pc]) HRbR4.out⟩ (fun hHeld2 => ?_)
          clear hK K hHeld
          have hHeld := hHeld2
          clear hHeld2
          try simp only [Act.put, List.setIfInBounds_toArray, List.set_cons_zero, List.set_cons_succ]
          refine wpAnyH_ready (rs := [7]) (by kernel_rfl) (by simp) (AllReadyH.cons (o := { dst := Option.some 53, op := Go.Op.call { callee := Go.Callee.value (Go.Operand.func 9), args := #[Go.Operand.tmp 51, Go.Operand.tmp 52], argTypes := #[30, 30] }, type := 4, pos := "law.go:209", after := #[{ on := 5, ground := Go.Ground.data }, { on := 6, ground := Go.Ground.data }, { on := 4, ground := Go.Ground.chain }, { on := 1, ground := Go.Ground.guard }], guard := Option.some (1, Bool.true) }) rfl (fun K hK => ?_) AllReadyH.nil)
          go_simp
          have h := HSM.out z4 ⟨m1.SA, m1.sc, A5, c5, A6, c6⟩ HBR4.out HAOR4.out
          dsimp only [rlC] at h
          refine h.mono ?_
          clear h
          rintro e z7 ⟨rfl, hb⟩
          have HMR7 := Lib.hid (row_on HMR4.out hb)
          have HRbR7 := Lib.hid (row_on HRbR4.out hb)
          have HAOR7 := Lib.hid (HAOR4.out.on hb)
          have HBR7 := Lib.hid (chain HBR4.out hb)
          have HS1R7 := Lib.hid (srcAt_on HS1R4.out hb)
          have HS2R7 := Lib.hid (srcAt_on HS2R4.out hb)
          clear HMR4 HRbR4 HAOR4 HBR4 HS1R4 HS2R4 hb
          go_simp
          refine hK.out _ _ ⟨row_range (cs := [Value.string l.iss, .int .u64 l.num, .int .i64 l.fr, .int .i64 l.tt, .slice m1.SA l.ser.length m1.sc, .int .i64 k.sg.idx, .slice A5 k.sg.cs.length c5, .slice A6 k.sg.ps.length c6]) HMR7.out, row_range (cs := [Value.string k.iss, .int .u64 k.num, .int .i64 k.fr, .int .i64 k.tt, .slice q.SA k.ser.length q.sc, .int .i64 k.sg.idx, .slice q.CA k.sg.cs.length q.cc, .slice q.PA k.sg.ps.length q.pc]) HRbR7.out⟩ (fun hHeld2 => ?_)
          clear hK K hHeld
          have hHeld := hHeld2
          clear hHeld2
          try simp only [Act.put, List.setIfInBounds_toArray, List.set_cons_zero, List.set_cons_succ]
          refine wpAnyH_take (i := 8) (oi := { dst := Option.some 54, op := Go.Op.binOp Go.BinOp.eql 4 (Go.Operand.tmp 50) (Go.Operand.tmp 53) 4, type := 4, pos := "law.go:209", after := #[{ on := 4, ground := Go.Ground.data }, { on := 7, ground := Go.Ground.data }, { on := 1, ground := Go.Ground.guard }], guard := Option.some (1, Bool.true) }) (v := ?_) rfl (by kernel_rfl) (by kernel_rfl) (by kernel_rfl) (fun _ _ _ h => h) (Or.inl ⟨by rfl, ?_⟩) hHeld ?_
          rotate_left
          · intro w hSw
            clear hSw
            go_simp
            try with_reducible rfl
          try simp only [Act.put, List.setIfInBounds_toArray, List.set_cons_zero, List.set_cons_succ]
          refine wpAnyH_take (i := 9) (oi := { dst := Option.some 55, op := Go.Op.pick (Go.Operand.tmp 47) (Go.Operand.tmp 54) (Go.Operand.const (Go.Value.bool Bool.false)), type := 4, pos := "law.go:209", after := #[{ on := 1, ground := Go.Ground.data }, { on := 8, ground := Go.Ground.data }], guard := Option.none }) (v := ?_) rfl (by kernel_rfl) (by kernel_rfl) (by kernel_rfl) (fun _ _ _ h => h) (Or.inl ⟨by rfl, ?_⟩) hHeld ?_
          rotate_left
          · intro w hSw
            clear hSw
            go_simp
            try with_reducible rfl
          try simp only [Act.put, List.setIfInBounds_toArray, List.set_cons_zero, List.set_cons_succ]
          refine wpAnyH_take (i := 10) (oi := { dst := Option.some 4, op := Go.Op.assign (Go.Operand.tmp 55), type := 4, pos := "law.go:209", after := #[{ on := 9, ground := Go.Ground.data }, { on := 7, ground := Go.Ground.chain }, { on := 0, ground := Go.Ground.phase }, { on := 1, ground := Go.Ground.phase }, { on := 2, ground := Go.Ground.phase }, { on := 3, ground := Go.Ground.phase }, { on := 4, ground := Go.Ground.phase }, { on := 5, ground := Go.Ground.phase }, { on := 6, ground := Go.Ground.phase }, { on := 7, ground := Go.Ground.phase }, { on := 8, ground := Go.Ground.phase }, { on := 9, ground := Go.Ground.phase }], guard := Option.none }) (v := ?_) rfl (by kernel_rfl) (by kernel_rfl) (by kernel_rfl) (fun _ _ _ h => h) (Or.inl ⟨by rfl, ?_⟩) hHeld ?_
          rotate_left
          · intro w hSw
            clear hSw
            go_simp
            try with_reducible rfl
          try simp only [Act.put, List.setIfInBounds_toArray, List.set_cons_zero, List.set_cons_succ]
          refine wpAnyH_done (by kernel_rfl) ?_ _
          go_wp2_with fail
          refine bodyPost_ret (v := .bool true) (by simp [results, Try.results4, go_sem]) rfl ⟨rfl, HBR7.out⟩
        · subst h1
          clear HSB HSMK HS0_1 HS0_2
          go_wp2_with fail
          refine bodyPost_ret (v := .bool true) (by simp [results, Try.results4, go_sem]) rfl ⟨rfl, HB5.out⟩
      · clear HSB HSMK HS0_1 HS0_2
        go_wp2_with fail
        refine bodyPost_ret (v := .bool true) (by simp [results, Try.results4, go_sem]) rfl ⟨rfl, HB5.out⟩
end Sg
end Go.Proofs.Ytebldfobpbijgaa
