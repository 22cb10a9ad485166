import Derived.Test.YtcgffkkfeimifaaGreatDoorRvQ
import Derived.Test.YtcgffkkfeimifaaGreatDoorRvE
import Derived.Test.YtcgffkkfeimifaaGreatDoorOcRK
import Derived.Deep.RegionHeld3
import Derived.Test.YtcgffkkfeimifaaGreatDoorSgJP
import Derived.Test.YtcgffkkfeimifaaGreatDoorLawKit
import Derived.OpenShut
import Derived.Deep.Slices
import Derived.Deep.Strs
import Derived.Lib.SmallJoins
import Derived.Test.YtcgffkkfeimifaaGreatDoorOcRFJ
namespace Go.Proofs.YtcgffkkfeimifaaGreatDoor
namespace Sg
open Go.RowKit Sha Oc
set_option linter.unusedVariables false
set_option linter.unusedSimpArgs false
theorem bytes_own {w : World} {base : Nat} {v : Value} {L : List UInt8} (h : w.ownsRow base 5 1 v L.length (bvals L)) : ∃ A c, v = .slice A L.length c ∧ L.length ≤ c ∧ (A = none → c = 0) ∧ c ≤ maxLen ∧ SrcAt A L w := by
 obtain ⟨hl', hh | ⟨g, cap, cur, hv, hb, hg, hnc, hcm, hcs, ht⟩⟩ := h
 ·
  obtain ⟨rfl, h2⟩ := hh
  have : L = [] := List.length_eq_zero_iff.1 h2
  subst this
  exact ⟨none, 0, rfl, Nat.le_refl _, fun _ => rfl, Nat.zero_le _, fun hne => absurd rfl hne⟩
 ·
  refine ⟨some ⟨g, 0, none⟩, cap, hv, hnc, (fun e => by cases e), hcm, fun _ => ⟨g, 0, rfl, fun j x hj => ?_⟩⟩
  rw [Nat.zero_add, cell_of_row w g j cur _ _ hg, ← Array.getElem?_toList]
  have h2 : (cur.toList.take (L.length * 1))[j]? = some (.int .u8 (x.toNat : Int)) := by
   rw [ht]
   unfold bvals
   rw [List.getElem?_map, hj]
   rfl
  rw [List.getElem?_take] at h2
  split at h2
  ·
   exact h2
  ·
   cases h2
theorem srcAt_on {A : Option Addr} {L : List UInt8} {w V : World} (h : SrcAt A L w) (hb : Below w.heap.size w V) : SrcAt A L V := fun hne => by
 obtain ⟨g, o, e, k⟩ := h hne
 exact ⟨g, o, e, fun j x hx => by rw [hb.cell (p := ⟨g, o + j, none⟩) (World.block_lt_of_cell? _ _ (k j x hx))]; exact k j x hx⟩
def exL : Rl := ⟨⟨#[97]⟩, 2, 0, 9, [5, 7], ⟨0, [], []⟩⟩
theorem exL_wf : Wf exL := ⟨by decide, by decide, by decide, by decide⟩
theorem exL_ok : rvC exL = 0 := by decide
theorem exL_five : rvB exL 5 = true := by decide
theorem exL_six : rvB exL 6 = false := by decide
def exB : List UInt8 := [134, 19, 1, 1, 97, 2, 1, 2, 3, 0, 4, 1, 9, 129, 6, 5, 1, 5, 5, 1, 7]
theorem exL_body : enc (rbv (rbOf exL)) = exB := by kernel_rfl
set_option maxRecDepth 100000 in
set_option maxHeartbeats 2000000 in
theorem example_any (w : World) : Calls Tryz.prog 8 #[] w fun e w' => ∃ m, e = .returned (.agg (rlC exL m)) ∧ RlAt exL m w' ∧ Below w.heap.size w w' := by
 go_enter Tryz.func8, Tryz.ntmps8
 go_wp2_with fail
 obtain ⟨h1, h2, h3⟩ := two_rows w (.cells #[.string ⟨#[97]⟩, .int .u64 2, .int .i64 0, .int .i64 9, .slice (some ⟨w.heap.size + 1, 0, none⟩) 2 2, .int .i64 0, .slice none 0 0, .slice none 0 0] 32) (.cells #[.int .u64 5, .int .u64 7] 23)
 generalize hV : World.alloc (World.alloc w _) _ = V at h1 h2 h3 ⊢
 clear hV
 refine bodyPost_ret (v := .agg (rlC exL ⟨some ⟨w.heap.size + 1, 0, none⟩, 2, none, 0, none, 0⟩)) ?res rfl ⟨_, rfl, ?_, h1⟩
 case res =>
  obtain ⟨_, f0, f1, f2, f3, f4, f5, f6, f7⟩ := facts8 h2
  simp [results, Tryz.results8, go_sem, f0, f1, f2, f3, f4, f5, f6, f7]
  try rfl
 ·
  refine ⟨⟨fun i x hi => ⟨_, _, rfl, ?_⟩⟩, shs_nil rfl _ _, shs_nil rfl _ _, by decide, by decide, by decide⟩
  match i, hi with
  | 0, hi => obtain rfl := Option.some.inj hi; exact cell_of_row _ _ _ _ _ _ h3
  | 1, hi => obtain rfl := Option.some.inj hi; exact cell_of_row _ _ _ _ _ _ h3
  | i + 2, hi => exact absurd hi (by simp [exL])
theorem ebpost_ok {o : Oct} {w : World} {e : Ending} {w' : World} (h : EbPost o 0 w e w') : ∃ A c, e = .returned (.tuple #[.slice A (enc o).length c, .int .i64 0]) ∧ (enc o).length ≤ c ∧ (A = none → c = 0) ∧ SrcAt A (enc o) w' ∧ Below w.heap.size w w' := by
 obtain ⟨hb, ⟨_, v, rfl, hown⟩ | ⟨h, _⟩⟩ := h
 ·
  obtain ⟨A, c, rfl, h1, h2, h3, h4⟩ := bytes_own hown
  exact ⟨A, c, rfl, h1, h2, h4, hb⟩
 ·
  exact absurd rfl h
def SlPost (L : List UInt8) (w : World) (e : Ending) (w' : World) : Prop := ∃ A c, e = .returned (.tuple #[.slice A L.length c, .int .i64 0]) ∧ L.length ≤ c ∧ (A = none → c = 0) ∧ SrcAt A L w' ∧ Below w.heap.size w w'
theorem src_row {w : World} {g : Nat} {l : List UInt8} {cs : Array Value} {T : TypeId} {fr : Nat × Nat} (h : w.heap[g]? = some (.cells cs T fr)) (hc : cs.toList = bvals l) : SrcAt (some ⟨g, 0, none⟩) l w := fun _ => ⟨g, 0, rfl, fun j x hx => by
 rw [Nat.zero_add, cell_of_row _ _ _ _ _ _ h, ← Array.getElem?_toList, hc]
 unfold bvals
 rw [List.getElem?_map, hx]
 rfl⟩
set_option maxRecDepth 100000 in
set_option maxHeartbeats 4000000 in
theorem alive11_any (w : World) : Calls Tryz.prog 18 #[] w fun e w' => e = .returned (.bool true) ∧ Below w.heap.size w w' := by
 have hfit := exL_wf.fit exL_ok
 have hck := fit_ck hfit
 have hz : exL.iss.size ≤ maxLen := by decide
 have hbd := fun (V : World) (m : Mp) (h : RlAt exL m V) => (show Calls Tryz.prog 16 #[.agg (rlC exL m)] V (SlPost exB V) from (body_any exL m hz exL_wf V h).mono fun e z k => by
  rw [exL_ok] at k
  have := ebpost_ok k
  rw [exL_body] at this
  exact this)
 have hen := fun (V : World) (m : Mp) (h : RlAt exL m V) => (show Calls Tryz.prog 9 #[.agg (rlC exL m)] V (SlPost (enc (rlV exL)) V) from (encode_rev exL m hz exL_wf V h).mono fun e z k => by
  rw [exL_ok] at k
  exact ebpost_ok k)
 have hde := fun (V : World) (A : Option Addr) (c : Nat) (hc : (enc (rlV exL)).length ≤ c) (hA : A = none → c = 0) (h : SrcAt A (enc (rlV exL)) V) => (show Calls Tryz.prog 15 #[.slice A (enc (rlV exL)).length c] V (RvdPost (exL, 0) V) from by
  have k := rdecode_any (enc (rlV exL)) (by omega) A c hc hA V h
  rw [rvD_enc hfit exL_ok hck.2.1] at k
  exact k)
 have hr5 := fun (V : World) (m : Mp) (h : RlAt exL m V) => (show Calls Tryz.prog 10 #[.agg (rlC exL m), .int .u64 5] V (fun e w' => e = .returned (.tuple #[.bool true, .int .i64 0]) ∧ Below V.heap.size V w') from by
  have k := revoked_any exL m 5 hz V h
  rw [exL_five, exL_ok] at k
  exact k)
 have hr6 := fun (V : World) (m : Mp) (h : RlAt exL m V) => (show Calls Tryz.prog 10 #[.agg (rlC exL m), .int .u64 6] V (fun e w' => e = .returned (.tuple #[.bool false, .int .i64 0]) ∧ Below V.heap.size V w') from by
  have k := revoked_any exL m 6 hz V h
  rw [exL_six, exL_ok] at k
  exact k)
 have hsm := fun (V : World) (m m' : Mp) (h : RlAt exL m V) (h' : RlAt exL m' V) => (show Calls Tryz.prog 21 #[.agg (rlC exL m), .agg (rlC exL m')] V (fun e w' => e = .returned (.bool true) ∧ Below V.heap.size V w') from by
  have k := revsame_ref exL exL m m' V h h'
  rw [decide_eq_true (rfl : exL = exL)] at k
  exact k)
 have hsb := fun (V : World) (A A' : Option Addr) (c c' : Nat) (h : SrcAt A exB V) (h' : SrcAt A' exB V) => (show Calls Tryz.prog 26 #[.slice A 21 c, .slice A' 21 c'] V (fun e w' => e = .returned (.bool true) ∧ Below V.heap.size V w') from by
  have k := samebytes_any exB exB A A' c c' (by decide) (by decide) V h h'
  rw [decide_eq_true (rfl : exB = exB)] at k
  exact k)
 have hex := fun (V : World) => example_any V
 have hlen : exB.length = 21 := rfl
 unfold SlPost at hbd hen
 rw [hlen] at hbd
 obtain ⟨B, hB⟩ : ∃ B, exB = B := ⟨_, rfl⟩
 obtain ⟨L, hL⟩ : ∃ L, exL = L := ⟨_, rfl⟩
 obtain ⟨D, hD⟩ : ∃ D, enc (rlV L) = D := ⟨_, rfl⟩
 obtain ⟨n, hn⟩ : ∃ n, D.length = n := ⟨_, rfl⟩
 rw [hL] at hbd hen hde hr5 hr6 hsm hex
 rw [hB] at hbd hsb
 rw [hD] at hen hde
 rw [hn] at hen hde
 have HBD := Lib.hid hbd
 have HEN := Lib.hid hen
 have HDE := Lib.hid hde
 have HR5 := Lib.hid hr5
 have HR6 := Lib.hid hr6
 have HSM := Lib.hid hsm
 have HSB := Lib.hid hsb
 have HEX := Lib.hid hex
 have HBB := Lib.hid hB
 clear hbd hen hde hr5 hr6 hsm hsb hex hL hD hn hB hlen hz hfit hck
 go_enter Tryz.func18, Tryz.ntmps18
 go_wp2_with fail
 refine (HEX.out w).mono ?_
 rintro e w1 ⟨m1, rfl, hl, hb⟩
 have HL1 := Lib.hid hl
 have HW1 := Lib.hid hb
 clear hl hb
 have h := HBD.out w1 m1 HL1.out
 unfold rlC at h ⊢
 go_wp2_with fail
 refine h.mono ?_
 clear h
 rintro e w2 ⟨A2, c2, rfl, k1, k2, hs, hb⟩
 have HS2 := Lib.hid hs
 have HW2 := Lib.hid (chain HW1.out hb)
 clear hs hb k1 k2 HL1 HW1
 go_wp2_with fail
 refine (HEX.out w2).mono ?_
 rintro e w3 ⟨m3, rfl, hl, hb⟩
 have HL3 := Lib.hid hl
 have HW3 := Lib.hid (chain HW2.out hb)
 have HS3 := Lib.hid (srcAt_on HS2.out hb)
 clear hl hb HW2 HS2
 have h := HEN.out w3 m3 HL3.out
 unfold rlC at h ⊢
 go_wp2_with fail
 refine h.mono ?_
 clear h
 rintro e w4 ⟨A4, c4, rfl, k1, k2, hs, hb⟩
 have HW4 := Lib.hid (chain HW3.out hb)
 have HS4 := Lib.hid (srcAt_on HS3.out hb)
 have HDE4 := Lib.hid (HDE.out w4 A4 c4 k1 k2 hs)
 clear hs hb k1 k2 HL3 HW3 HS3
 go_wp2_with fail
 refine HDE4.out.mono ?_
 rintro e w5 ⟨m5, rfl, hl, hb⟩
 have HL5 := Lib.hid hl
 have HW5 := Lib.hid (chain HW4.out hb)
 have HS5 := Lib.hid (srcAt_on HS4.out hb)
 clear hl hb HW4 HS4 HDE4
 unfold rlC
 dsimp only
 go_upto_region 4 with (fail)
 have HM := Lib.hid (heap_alloc_new w5 (.cells #[Value.string L.iss, .int .u64 L.num, .int .i64 L.fr, .int .i64 L.tt, .slice m5.SA L.ser.length m5.sc, .int .i64 L.sg.idx, .slice m5.CA L.sg.cs.length m5.cc, .slice m5.PA L.sg.ps.length m5.pc] 32))
 obtain ⟨M, hM⟩ : ∃ M, w5.heap.size = M := ⟨_, rfl⟩
 rw [hM] at HM ⊢
 generalize hV6 : World.alloc w5 _ = w6 at HM ⊢
 have hb : Below w5.heap.size w5 w6 := by rw [← hV6]; exact below_new _ _
 have HL6 := Lib.hid (HL5.out.on hb)
 have HW6 := Lib.hid (chain HW5.out hb)
 have HS6 := Lib.hid (srcAt_on HS5.out hb)
 clear hb hV6 hM HL5 HW5 HS5
 go_wp2_with fail
 refine (HEX.out w6).mono ?_
 rintro e w7 ⟨m7, rfl, hl, hb⟩
 have HL7 := Lib.hid hl
 have HW7 := Lib.hid (chain HW6.out hb)
 have HS7 := Lib.hid (srcAt_on HS6.out hb)
 have HM7 := Lib.hid (row_on HM.out hb)
 have HLL7 := Lib.hid (HL6.out.on hb)
 clear hl hb HW6 HS6 HM HL6
 have h := HR5.out w7 m7 HL7.out
 unfold rlC at h ⊢
 go_wp2_with fail
 refine h.mono ?_
 clear h
 rintro e w8 ⟨rfl, hb⟩
 have HW8 := Lib.hid (chain HW7.out hb)
 have HS8 := Lib.hid (srcAt_on HS7.out hb)
 have HM8 := Lib.hid (row_on HM7.out hb)
 have HLL8 := Lib.hid (HLL7.out.on hb)
 clear hb HL7 HW7 HS7 HM7 HLL7
 go_wp2_with fail
 refine (HEX.out w8).mono ?_
 rintro e w9 ⟨m9, rfl, hl, hb⟩
 have HL9 := Lib.hid hl
 have HW9 := Lib.hid (chain HW8.out hb)
 have HS9 := Lib.hid (srcAt_on HS8.out hb)
 have HM9 := Lib.hid (row_on HM8.out hb)
 have HLL9 := Lib.hid (HLL8.out.on hb)
 clear hl hb HW8 HS8 HM8 HLL8
 have h := HR6.out w9 m9 HL9.out
 unfold rlC at h ⊢
 go_wp2_with fail
 refine h.mono ?_
 clear h
 rintro e wA ⟨rfl, hb⟩
 have HWA := Lib.hid (chain HW9.out hb)
 have HSA := Lib.hid (srcAt_on HS9.out hb)
 have HMA := Lib.hid (row_on HM9.out hb)
 have HLLA := Lib.hid (HLL9.out.on hb)
 clear hb HL9 HW9 HS9 HM9 HLL9
 go_upto_region 6 with (fail)
 refine wp_region_held_drew (S := fun z => z.rangeAt M 0 [Value.string L.iss, .int .u64 L.num, .int .i64 L.fr, .int .i64 L.tt, .slice m5.SA L.ser.length m5.sc, .int .i64 L.sg.idx, .slice m5.CA L.sg.cs.length m5.cc, .slice m5.PA L.sg.ps.length m5.pc]) (by kernel_rfl) (row_range (cs := [Value.string L.iss, .int .u64 L.num, .int .i64 L.fr, .int .i64 L.tt, .slice m5.SA L.ser.length m5.sc, .int .i64 L.sg.idx, .slice m5.CA L.sg.cs.length m5.cc, .slice m5.PA L.sg.ps.length m5.pc]) HMA.out) (fun hHeld => ?_)
 generalize hUU : World.drew wA = wU at hHeld ⊢
 have hb : Below wA.heap.size wA wU := by rw [← hUU]; exact (Below.refl _ _).drew
 clear hUU
 have HMU := Lib.hid (row_on HMA.out hb)
 have HLLU := Lib.hid (HLLA.out.on hb)
 have HSU := Lib.hid (srcAt_on HSA.out hb)
 have HWU := Lib.hid (chain HWA.out hb)
 clear HMA HLLA HSA HWA
 clear hb
 refine wpAnyH_take (i := 0) (oi := { dst := some 36, op := .move (.tmp 2), type := 24, pos := "law.go:79", after := #[], guard := none }) (v := ?_) rfl (by kernel_rfl) (by kernel_rfl) (by kernel_rfl) (fun _ _ _ h => h) (Or.inl ⟨by rfl, ?_⟩) hHeld ?_
 rotate_left
 ·
  intro w hSw
  clear hSw
  go_simp
  try with_reducible rfl
 try simp only [Act.put, List.setIfInBounds_toArray, List.set_cons_zero, List.set_cons_succ]
 refine wpAnyH_take (i := 1) (oi := { dst := some 37, op := .binOp .eql 24 (.tmp 36) (.const (.int .i64 0)) 24, type := 4, pos := "law.go:79", after := #[{ on := 0, ground := .data }], guard := none }) (v := ?_) rfl (by kernel_rfl) (by kernel_rfl) (by kernel_rfl) (fun _ _ _ h => h) (Or.inl ⟨by rfl, ?_⟩) hHeld ?_
 rotate_left
 ·
  intro w hSw
  clear hSw
  go_simp
  try with_reducible rfl
 try simp only [Act.put, List.setIfInBounds_toArray, List.set_cons_zero, List.set_cons_succ]
 refine wpAnyH_take (i := 2) (oi := { dst := some 38, op := .move (.tmp 37), type := 4, pos := "law.go:79", after := #[{ on := 1, ground := .data }], guard := none }) (v := ?_) rfl (by kernel_rfl) (by kernel_rfl) (by kernel_rfl) (fun _ _ _ h => h) (Or.inl ⟨by rfl, ?_⟩) hHeld ?_
 rotate_left
 ·
  intro w hSw
  clear hSw
  go_simp
  try with_reducible rfl
 try simp only [Act.put, List.setIfInBounds_toArray, List.set_cons_zero, List.set_cons_succ]
 refine wpAnyH_take (i := 3) (oi := { dst := some 39, op := .move (.tmp 4), type := 24, pos := "law.go:79", after := #[{ on := 2, ground := .guard }], guard := some (2, true) }) (v := ?_) rfl (by kernel_rfl) (by kernel_rfl) (by kernel_rfl) (fun _ _ _ h => h) (Or.inl ⟨by rfl, ?_⟩) hHeld ?_
 rotate_left
 ·
  intro w hSw
  clear hSw
  go_simp
  try with_reducible rfl
 try simp only [Act.put, List.setIfInBounds_toArray, List.set_cons_zero, List.set_cons_succ]
 refine wpAnyH_take (i := 4) (oi := { dst := some 40, op := .binOp .eql 24 (.tmp 39) (.const (.int .i64 0)) 24, type := 4, pos := "law.go:79", after := #[{ on := 3, ground := .data }, { on := 2, ground := .guard }], guard := some (2, true) }) (v := ?_) rfl (by kernel_rfl) (by kernel_rfl) (by kernel_rfl) (fun _ _ _ h => h) (Or.inl ⟨by rfl, ?_⟩) hHeld ?_
 rotate_left
 ·
  intro w hSw
  clear hSw
  go_simp
  try with_reducible rfl
 try simp only [Act.put, List.setIfInBounds_toArray, List.set_cons_zero, List.set_cons_succ]
 refine wpAnyH_take (i := 5) (oi := { dst := some 41, op := .pick (.tmp 38) (.tmp 40) (.const (.bool false)), type := 4, pos := "law.go:79", after := #[{ on := 2, ground := .data }, { on := 4, ground := .data }], guard := none }) (v := ?_) rfl (by kernel_rfl) (by kernel_rfl) (by kernel_rfl) (fun _ _ _ h => h) (Or.inl ⟨by rfl, ?_⟩) hHeld ?_
 rotate_left
 ·
  intro w hSw
  clear hSw
  go_simp
  try with_reducible rfl
 try simp only [Act.put, List.setIfInBounds_toArray, List.set_cons_zero, List.set_cons_succ]
 refine wpAnyH_take (i := 6) (oi := { dst := some 42, op := .move (.tmp 41), type := 4, pos := "law.go:79", after := #[{ on := 5, ground := .data }, { on := 2, ground := .chain }], guard := none }) (v := ?_) rfl (by kernel_rfl) (by kernel_rfl) (by kernel_rfl) (fun _ _ _ h => h) (Or.inl ⟨by rfl, ?_⟩) hHeld ?_
 rotate_left
 ·
  intro w hSw
  clear hSw
  go_simp
  try with_reducible rfl
 try simp only [Act.put, List.setIfInBounds_toArray, List.set_cons_zero, List.set_cons_succ]
 refine wpAnyH_take (i := 7) (oi := { dst := some 43, op := .move (.tmp 6), type := 24, pos := "law.go:79", after := #[{ on := 6, ground := .guard }], guard := some (6, true) }) (v := ?_) rfl (by kernel_rfl) (by kernel_rfl) (by kernel_rfl) (fun _ _ _ h => h) (Or.inl ⟨by rfl, ?_⟩) hHeld ?_
 rotate_left
 ·
  intro w hSw
  clear hSw
  go_simp
  try with_reducible rfl
 try simp only [Act.put, List.setIfInBounds_toArray, List.set_cons_zero, List.set_cons_succ]
 refine wpAnyH_take (i := 8) (oi := { dst := some 44, op := .binOp .eql 24 (.tmp 43) (.const (.int .i64 0)) 24, type := 4, pos := "law.go:79", after := #[{ on := 7, ground := .data }, { on := 6, ground := .guard }], guard := some (6, true) }) (v := ?_) rfl (by kernel_rfl) (by kernel_rfl) (by kernel_rfl) (fun _ _ _ h => h) (Or.inl ⟨by rfl, ?_⟩) hHeld ?_
 rotate_left
 ·
  intro w hSw
  clear hSw
  go_simp
  try with_reducible rfl
 try simp only [Act.put, List.setIfInBounds_toArray, List.set_cons_zero, List.set_cons_succ]
 refine wpAnyH_take (i := 9) (oi := { dst := some 45, op := .pick (.tmp 42) (.tmp 44) (.const (.bool false)), type := 4, pos := "law.go:79", after := #[{ on := 6, ground := .data }, { on := 8, ground := .data }], guard := none }) (v := ?_) rfl (by kernel_rfl) (by kernel_rfl) (by kernel_rfl) (fun _ _ _ h => h) (Or.inl ⟨by rfl, ?_⟩) hHeld ?_
 rotate_left
 ·
  intro w hSw
  clear hSw
  go_simp
  try with_reducible rfl
 try simp only [Act.put, List.setIfInBounds_toArray, List.set_cons_zero, List.set_cons_succ]
 refine wpAnyH_take (i := 10) (oi := { dst := some 46, op := .move (.tmp 45), type := 4, pos := "law.go:79", after := #[{ on := 9, ground := .data }, { on := 6, ground := .chain }], guard := none }) (v := ?_) rfl (by kernel_rfl) (by kernel_rfl) (by kernel_rfl) (fun _ _ _ h => h) (Or.inl ⟨by rfl, ?_⟩) hHeld ?_
 rotate_left
 ·
  intro w hSw
  clear hSw
  go_simp
  try with_reducible rfl
 try simp only [Act.put, List.setIfInBounds_toArray, List.set_cons_zero, List.set_cons_succ]
 refine wpAnyH_take (i := 11) (oi := { dst := some 47, op := .move (.tmp 8), type := 24, pos := "law.go:79", after := #[{ on := 10, ground := .guard }], guard := some (10, true) }) (v := ?_) rfl (by kernel_rfl) (by kernel_rfl) (by kernel_rfl) (fun _ _ _ h => h) (Or.inl ⟨by rfl, ?_⟩) hHeld ?_
 rotate_left
 ·
  intro w hSw
  clear hSw
  go_simp
  try with_reducible rfl
 try simp only [Act.put, List.setIfInBounds_toArray, List.set_cons_zero, List.set_cons_succ]
 refine wpAnyH_take (i := 12) (oi := { dst := some 48, op := .binOp .eql 24 (.tmp 47) (.const (.int .i64 0)) 24, type := 4, pos := "law.go:79", after := #[{ on := 11, ground := .data }, { on := 10, ground := .guard }], guard := some (10, true) }) (v := ?_) rfl (by kernel_rfl) (by kernel_rfl) (by kernel_rfl) (fun _ _ _ h => h) (Or.inl ⟨by rfl, ?_⟩) hHeld ?_
 rotate_left
 ·
  intro w hSw
  clear hSw
  go_simp
  try with_reducible rfl
 try simp only [Act.put, List.setIfInBounds_toArray, List.set_cons_zero, List.set_cons_succ]
 refine wpAnyH_take (i := 13) (oi := { dst := some 49, op := .pick (.tmp 46) (.tmp 48) (.const (.bool false)), type := 4, pos := "law.go:79", after := #[{ on := 10, ground := .data }, { on := 12, ground := .data }], guard := none }) (v := ?_) rfl (by kernel_rfl) (by kernel_rfl) (by kernel_rfl) (fun _ _ _ h => h) (Or.inl ⟨by rfl, ?_⟩) hHeld ?_
 rotate_left
 ·
  intro w hSw
  clear hSw
  go_simp
  try with_reducible rfl
 try simp only [Act.put, List.setIfInBounds_toArray, List.set_cons_zero, List.set_cons_succ]
 refine wpAnyH_take (i := 14) (oi := { dst := some 50, op := .move (.tmp 49), type := 4, pos := "law.go:79", after := #[{ on := 13, ground := .data }, { on := 10, ground := .chain }], guard := none }) (v := ?_) rfl (by kernel_rfl) (by kernel_rfl) (by kernel_rfl) (fun _ _ _ h => h) (Or.inl ⟨by rfl, ?_⟩) hHeld ?_
 rotate_left
 ·
  intro w hSw
  clear hSw
  go_simp
  try with_reducible rfl
 try simp only [Act.put, List.setIfInBounds_toArray, List.set_cons_zero, List.set_cons_succ]
 refine wpAnyH_take (i := 15) (oi := { dst := some 51, op := .move (.tmp 10), type := 24, pos := "law.go:79", after := #[{ on := 14, ground := .guard }], guard := some (14, true) }) (v := ?_) rfl (by kernel_rfl) (by kernel_rfl) (by kernel_rfl) (fun _ _ _ h => h) (Or.inl ⟨by rfl, ?_⟩) hHeld ?_
 rotate_left
 ·
  intro w hSw
  clear hSw
  go_simp
  try with_reducible rfl
 try simp only [Act.put, List.setIfInBounds_toArray, List.set_cons_zero, List.set_cons_succ]
 refine wpAnyH_take (i := 16) (oi := { dst := some 52, op := .binOp .eql 24 (.tmp 51) (.const (.int .i64 0)) 24, type := 4, pos := "law.go:79", after := #[{ on := 15, ground := .data }, { on := 14, ground := .guard }], guard := some (14, true) }) (v := ?_) rfl (by kernel_rfl) (by kernel_rfl) (by kernel_rfl) (fun _ _ _ h => h) (Or.inl ⟨by rfl, ?_⟩) hHeld ?_
 rotate_left
 ·
  intro w hSw
  clear hSw
  go_simp
  try with_reducible rfl
 try simp only [Act.put, List.setIfInBounds_toArray, List.set_cons_zero, List.set_cons_succ]
 refine wpAnyH_take (i := 17) (oi := { dst := some 53, op := .pick (.tmp 50) (.tmp 52) (.const (.bool false)), type := 4, pos := "law.go:79", after := #[{ on := 14, ground := .data }, { on := 16, ground := .data }], guard := none }) (v := ?_) rfl (by kernel_rfl) (by kernel_rfl) (by kernel_rfl) (fun _ _ _ h => h) (Or.inl ⟨by rfl, ?_⟩) hHeld ?_
 rotate_left
 ·
  intro w hSw
  clear hSw
  go_simp
  try with_reducible rfl
 try simp only [Act.put, List.setIfInBounds_toArray, List.set_cons_zero, List.set_cons_succ]
 refine wpAnyH_take (i := 18) (oi := { dst := some 54, op := .move (.tmp 53), type := 4, pos := "law.go:79", after := #[{ on := 17, ground := .data }, { on := 14, ground := .chain }], guard := none }) (v := ?_) rfl (by kernel_rfl) (by kernel_rfl) (by kernel_rfl) (fun _ _ _ h => h) (Or.inl ⟨by rfl, ?_⟩) hHeld ?_
 rotate_left
 ·
  intro w hSw
  clear hSw
  go_simp
  try with_reducible rfl
 try simp only [Act.put, List.setIfInBounds_toArray, List.set_cons_zero, List.set_cons_succ]
 refine wpAnyH_take (i := 19) (oi := { dst := some 55, op := .move (.tmp 7), type := 4, pos := "law.go:79", after := #[{ on := 18, ground := .guard }], guard := some (18, true) }) (v := ?_) rfl (by kernel_rfl) (by kernel_rfl) (by kernel_rfl) (fun _ _ _ h => h) (Or.inl ⟨by rfl, ?_⟩) hHeld ?_
 rotate_left
 ·
  intro w hSw
  clear hSw
  go_simp
  try with_reducible rfl
 try simp only [Act.put, List.setIfInBounds_toArray, List.set_cons_zero, List.set_cons_succ]
 refine wpAnyH_take (i := 20) (oi := { dst := some 56, op := .pick (.tmp 54) (.tmp 55) (.const (.bool false)), type := 4, pos := "law.go:79", after := #[{ on := 18, ground := .data }, { on := 19, ground := .data }], guard := none }) (v := ?_) rfl (by kernel_rfl) (by kernel_rfl) (by kernel_rfl) (fun _ _ _ h => h) (Or.inl ⟨by rfl, ?_⟩) hHeld ?_
 rotate_left
 ·
  intro w hSw
  clear hSw
  go_simp
  try with_reducible rfl
 try simp only [Act.put, List.setIfInBounds_toArray, List.set_cons_zero, List.set_cons_succ]
 refine wpAnyH_take (i := 21) (oi := { dst := some 57, op := .move (.tmp 56), type := 4, pos := "law.go:79", after := #[{ on := 20, ground := .data }, { on := 18, ground := .chain }], guard := none }) (v := ?_) rfl (by kernel_rfl) (by kernel_rfl) (by kernel_rfl) (fun _ _ _ h => h) (Or.inl ⟨by rfl, ?_⟩) hHeld ?_
 rotate_left
 ·
  intro w hSw
  clear hSw
  go_simp
  try with_reducible rfl
 try simp only [Act.put, List.setIfInBounds_toArray, List.set_cons_zero, List.set_cons_succ]
 refine wpAnyH_take (i := 22) (oi := { dst := some 58, op := .move (.tmp 9), type := 4, pos := "law.go:79", after := #[{ on := 21, ground := .guard }], guard := some (21, true) }) (v := ?_) rfl (by kernel_rfl) (by kernel_rfl) (by kernel_rfl) (fun _ _ _ h => h) (Or.inl ⟨by rfl, ?_⟩) hHeld ?_
 rotate_left
 ·
  intro w hSw
  clear hSw
  go_simp
  try with_reducible rfl
 try simp only [Act.put, List.setIfInBounds_toArray, List.set_cons_zero, List.set_cons_succ]
 refine wpAnyH_take (i := 23) (oi := { dst := some 59, op := .unOp .not 4 (.tmp 58), type := 4, pos := "law.go:79", after := #[{ on := 22, ground := .data }, { on := 21, ground := .guard }], guard := some (21, true) }) (v := ?_) rfl (by kernel_rfl) (by kernel_rfl) (by kernel_rfl) (fun _ _ _ h => h) (Or.inl ⟨by rfl, ?_⟩) hHeld ?_
 rotate_left
 ·
  intro w hSw
  clear hSw
  go_simp
  try with_reducible rfl
 try simp only [Act.put, List.setIfInBounds_toArray, List.set_cons_zero, List.set_cons_succ]
 refine wpAnyH_take (i := 24) (oi := { dst := some 60, op := .pick (.tmp 57) (.tmp 59) (.const (.bool false)), type := 4, pos := "law.go:79", after := #[{ on := 21, ground := .data }, { on := 23, ground := .data }], guard := none }) (v := ?_) rfl (by kernel_rfl) (by kernel_rfl) (by kernel_rfl) (fun _ _ _ h => h) (Or.inl ⟨by rfl, ?_⟩) hHeld ?_
 rotate_left
 ·
  intro w hSw
  clear hSw
  go_simp
  try with_reducible rfl
 try simp only [Act.put, List.setIfInBounds_toArray, List.set_cons_zero, List.set_cons_succ]
 refine wpAnyH_take (i := 25) (oi := { dst := some 61, op := .move (.tmp 60), type := 4, pos := "law.go:79", after := #[{ on := 24, ground := .data }, { on := 21, ground := .chain }], guard := none }) (v := ?_) rfl (by kernel_rfl) (by kernel_rfl) (by kernel_rfl) (fun _ _ _ h => h) (Or.inl ⟨by rfl, ?_⟩) hHeld ?_
 rotate_left
 ·
  intro w hSw
  clear hSw
  go_simp
  try with_reducible rfl
 try simp only [Act.put, List.setIfInBounds_toArray, List.set_cons_zero, List.set_cons_succ]
 refine wpAnyH_take (i := 26) (oi := { dst := some 62, op := .load 32 (.tmp 5), type := 32, pos := "law.go:79", after := #[{ on := 25, ground := .guard }], guard := some (25, true) }) (v := .agg ([Value.string L.iss, .int .u64 L.num, .int .i64 L.fr, .int .i64 L.tt, .slice m5.SA L.ser.length m5.sc, .int .i64 L.sg.idx, .slice m5.CA L.sg.cs.length m5.cc, .slice m5.PA L.sg.ps.length m5.pc]).toArray) rfl (by kernel_rfl) (by kernel_rfl) (by kernel_rfl) (fun _ _ _ h => h) (yieldsIf_load_mid (by rfl) _ _ rfl _ _ rfl [Value.string L.iss, .int .u64 L.num, .int .i64 L.fr, .int .i64 L.tt, .slice m5.SA L.ser.length m5.sc, .int .i64 L.sg.idx, .slice m5.CA L.sg.cs.length m5.cc, .slice m5.PA L.sg.ps.length m5.pc] _ (fun w hSw => hSw) Tryz.underlying32 rfl (sz8l _ rfl)) hHeld ?_
 try simp only [Act.put, List.setIfInBounds_toArray, List.set_cons_zero, List.set_cons_succ]
 refine wpAnyH_ready (rs := [27]) (by kernel_rfl) (by simp) (AllReadyH.cons (o := { dst := some 63, op := .call { callee := .value (.func 8), args := #[], argTypes := #[] }, type := 32, pos := "law.go:79", after := #[{ on := 25, ground := .chain }, { on := 25, ground := .guard }], guard := some (25, true) }) rfl (fun K hK => ?_) AllReadyH.nil)
 go_simp
 refine (HEX.out wU).mono ?_
 rintro e z27 ⟨mE, rfl, hl, hb⟩
 have HLE := Lib.hid hl
 clear hl
 unfold rlC
 have HMR27 := Lib.hid (row_on HMU.out hb)
 have HLLR27 := Lib.hid (HLLU.out.on hb)
 have HSR27 := Lib.hid (srcAt_on HSU.out hb)
 have HWR27 := Lib.hid (chain HWU.out hb)
 clear HMU HLLU HSU HWU
 clear hb
 go_simp
 refine hK.out _ _ (row_range (cs := [Value.string L.iss, .int .u64 L.num, .int .i64 L.fr, .int .i64 L.tt, .slice m5.SA L.ser.length m5.sc, .int .i64 L.sg.idx, .slice m5.CA L.sg.cs.length m5.cc, .slice m5.PA L.sg.ps.length m5.pc]) HMR27.out) (fun hHeld2 => ?_)
 clear hK K hHeld
 have hHeld := hHeld2
 clear hHeld2
 try simp only [Act.put, List.setIfInBounds_toArray, List.set_cons_zero, List.set_cons_succ]
 refine wpAnyH_ready (rs := [28]) (by kernel_rfl) (by simp) (AllReadyH.cons (o := { dst := some 64, op := .call { callee := .value (.func 21), args := #[.tmp 62, .tmp 63], argTypes := #[32, 32] }, type := 4, pos := "law.go:79", after := #[{ on := 26, ground := .data }, { on := 27, ground := .data }, { on := 27, ground := .chain }, { on := 25, ground := .guard }], guard := some (25, true) }) rfl (fun K hK => ?_) AllReadyH.nil)
 go_simp
 have h := HSM.out z27 m5 mE HLLR27.out HLE.out
 unfold rlC at h
 refine h.mono ?_
 clear h
 rintro e z28 ⟨rfl, hb⟩
 have HMR28 := Lib.hid (row_on HMR27.out hb)
 have HLLR28 := Lib.hid (HLLR27.out.on hb)
 have HSR28 := Lib.hid (srcAt_on HSR27.out hb)
 have HWR28 := Lib.hid (chain HWR27.out hb)
 clear HMR27 HLLR27 HSR27 HWR27
 clear hb
 go_simp
 refine hK.out _ _ (row_range (cs := [Value.string L.iss, .int .u64 L.num, .int .i64 L.fr, .int .i64 L.tt, .slice m5.SA L.ser.length m5.sc, .int .i64 L.sg.idx, .slice m5.CA L.sg.cs.length m5.cc, .slice m5.PA L.sg.ps.length m5.pc]) HMR28.out) (fun hHeld2 => ?_)
 clear hK K hHeld
 have hHeld := hHeld2
 clear hHeld2
 try simp only [Act.put, List.setIfInBounds_toArray, List.set_cons_zero, List.set_cons_succ]
 refine wpAnyH_take (i := 29) (oi := { dst := some 65, op := .pick (.tmp 61) (.tmp 64) (.const (.bool false)), type := 4, pos := "law.go:79", after := #[{ on := 25, ground := .data }, { on := 28, ground := .data }], guard := none }) (v := ?_) rfl (by kernel_rfl) (by kernel_rfl) (by kernel_rfl) (fun _ _ _ h => h) (Or.inl ⟨by rfl, ?_⟩) hHeld ?_
 rotate_left
 ·
  intro w hSw
  clear hSw
  go_simp
  try with_reducible rfl
 try simp only [Act.put, List.setIfInBounds_toArray, List.set_cons_zero, List.set_cons_succ]
 refine wpAnyH_take (i := 30) (oi := { dst := some 66, op := .move (.tmp 65), type := 4, pos := "law.go:79", after := #[{ on := 29, ground := .data }, { on := 28, ground := .chain }], guard := none }) (v := ?_) rfl (by kernel_rfl) (by kernel_rfl) (by kernel_rfl) (fun _ _ _ h => h) (Or.inl ⟨by rfl, ?_⟩) hHeld ?_
 rotate_left
 ·
  intro w hSw
  clear hSw
  go_simp
  try with_reducible rfl
 try simp only [Act.put, List.setIfInBounds_toArray, List.set_cons_zero, List.set_cons_succ]
 refine wpAnyH_take (i := 31) (oi := { dst := some 67, op := .move (.tmp 1), type := 34, pos := "law.go:79", after := #[{ on := 30, ground := .guard }], guard := some (30, true) }) (v := ?_) rfl (by kernel_rfl) (by kernel_rfl) (by kernel_rfl) (fun _ _ _ h => h) (Or.inl ⟨by rfl, ?_⟩) hHeld ?_
 rotate_left
 ·
  intro w hSw
  clear hSw
  go_simp
  try with_reducible rfl
 try simp only [Act.put, List.setIfInBounds_toArray, List.set_cons_zero, List.set_cons_succ]
 refine wpAnyH_ready (rs := [32]) (by kernel_rfl) (by simp) (AllReadyH.cons (o := { dst := some 68, op := .buildSlice 34 21 #[(0, .const (.int .u8 134)), (1, .const (.int .u8 19)), (2, .const (.int .u8 1)), (3, .const (.int .u8 1)), (4, .const (.int .u8 97)), (5, .const (.int .u8 2)), (6, .const (.int .u8 1)), (7, .const (.int .u8 2)), (8, .const (.int .u8 3)), (9, .const (.int .u8 0)), (10, .const (.int .u8 4)), (11, .const (.int .u8 1)), (12, .const (.int .u8 9)), (13, .const (.int .u8 129)), (14, .const (.int .u8 6)), (15, .const (.int .u8 5)), (16, .const (.int .u8 1)), (17, .const (.int .u8 5)), (18, .const (.int .u8 5)), (19, .const (.int .u8 1)), (20, .const (.int .u8 7))], type := 34, pos := "law.go:79", after := #[{ on := 30, ground := .guard }], guard := some (30, true) }) rfl (fun K hK => ?_) AllReadyH.nil)
 go_simp
 generalize hV : World.alloc z28 _ = z32
 have hb : Below z28.heap.size z28 z32 := by rw [← hV]; exact below_new _ _
 have HSB2 := Lib.hid (show SrcAt (some ⟨z28.heap.size, 0, none⟩) B z32 by
  rw [← HBB.out]
  refine src_row (cs := (bvals exB).toArray) (T := 5) (fr := (0, 0)) ?_ rfl
  rw [← hV]
  exact heap_alloc_new _ _)
 clear hV
 have HMR32 := Lib.hid (row_on HMR28.out hb)
 have HLLR32 := Lib.hid (HLLR28.out.on hb)
 have HSR32 := Lib.hid (srcAt_on HSR28.out hb)
 have HWR32 := Lib.hid (chain HWR28.out hb)
 clear HMR28 HLLR28 HSR28 HWR28
 clear hb
 refine hK.out _ _ (row_range (cs := [Value.string L.iss, .int .u64 L.num, .int .i64 L.fr, .int .i64 L.tt, .slice m5.SA L.ser.length m5.sc, .int .i64 L.sg.idx, .slice m5.CA L.sg.cs.length m5.cc, .slice m5.PA L.sg.ps.length m5.pc]) HMR32.out) (fun hHeld2 => ?_)
 clear hK K hHeld
 have hHeld := hHeld2
 clear hHeld2
 try simp only [Act.put, List.setIfInBounds_toArray, List.set_cons_zero, List.set_cons_succ]
 refine wpAnyH_ready (rs := [33]) (by kernel_rfl) (by simp) (AllReadyH.cons (o := { dst := some 69, op := .call { callee := .value (.func 26), args := #[.tmp 67, .tmp 68], argTypes := #[34, 34] }, type := 4, pos := "law.go:79", after := #[{ on := 31, ground := .data }, { on := 32, ground := .data }, { on := 30, ground := .chain }, { on := 30, ground := .guard }], guard := some (30, true) }) rfl (fun K hK => ?_) AllReadyH.nil)
 go_simp
 refine (HSB.out z32 _ _ _ _ HSR32.out HSB2.out).mono ?_
 rintro e z33 ⟨rfl, hb⟩
 have HMR33 := Lib.hid (row_on HMR32.out hb)
 have HLLR33 := Lib.hid (HLLR32.out.on hb)
 have HSR33 := Lib.hid (srcAt_on HSR32.out hb)
 have HWR33 := Lib.hid (chain HWR32.out hb)
 clear HMR32 HLLR32 HSR32 HWR32
 clear hb
 go_simp
 refine hK.out _ _ (row_range (cs := [Value.string L.iss, .int .u64 L.num, .int .i64 L.fr, .int .i64 L.tt, .slice m5.SA L.ser.length m5.sc, .int .i64 L.sg.idx, .slice m5.CA L.sg.cs.length m5.cc, .slice m5.PA L.sg.ps.length m5.pc]) HMR33.out) (fun hHeld2 => ?_)
 clear hK K hHeld
 have hHeld := hHeld2
 clear hHeld2
 try simp only [Act.put, List.setIfInBounds_toArray, List.set_cons_zero, List.set_cons_succ]
 refine wpAnyH_take (i := 34) (oi := { dst := some 70, op := .pick (.tmp 66) (.tmp 69) (.const (.bool false)), type := 4, pos := "law.go:79", after := #[{ on := 30, ground := .data }, { on := 33, ground := .data }], guard := none }) (v := ?_) rfl (by kernel_rfl) (by kernel_rfl) (by kernel_rfl) (fun _ _ _ h => h) (Or.inl ⟨by rfl, ?_⟩) hHeld ?_
 rotate_left
 ·
  intro w hSw
  clear hSw
  go_simp
  try with_reducible rfl
 try simp only [Act.put, List.setIfInBounds_toArray, List.set_cons_zero, List.set_cons_succ]
 refine wpAnyH_take (i := 35) (oi := { dst := some 0, op := .assign (.tmp 70), type := 4, pos := "law.go:79", after := #[{ on := 34, ground := .data }, { on := 33, ground := .chain }, { on := 0, ground := .phase }, { on := 1, ground := .phase }, { on := 2, ground := .phase }, { on := 3, ground := .phase }, { on := 4, ground := .phase }, { on := 5, ground := .phase }, { on := 6, ground := .phase }, { on := 7, ground := .phase }, { on := 8, ground := .phase }, { on := 9, ground := .phase }, { on := 10, ground := .phase }, { on := 11, ground := .phase }, { on := 12, ground := .phase }, { on := 13, ground := .phase }, { on := 14, ground := .phase }, { on := 15, ground := .phase }, { on := 16, ground := .phase }, { on := 17, ground := .phase }, { on := 18, ground := .phase }, { on := 19, ground := .phase }, { on := 20, ground := .phase }, { on := 21, ground := .phase }, { on := 22, ground := .phase }, { on := 23, ground := .phase }, { on := 24, ground := .phase }, { on := 25, ground := .phase }, { on := 26, ground := .phase }, { on := 27, ground := .phase }, { on := 28, ground := .phase }, { on := 29, ground := .phase }, { on := 30, ground := .phase }, { on := 31, ground := .phase }, { on := 32, ground := .phase }, { on := 33, ground := .phase }, { on := 34, ground := .phase }], guard := none }) (v := ?_) rfl (by kernel_rfl) (by kernel_rfl) (by kernel_rfl) (fun _ _ _ h => h) (Or.inl ⟨by rfl, ?_⟩) hHeld ?_
 rotate_left
 ·
  intro w hSw
  clear hSw
  go_simp
  try with_reducible rfl
 try simp only [Act.put, List.setIfInBounds_toArray, List.set_cons_zero, List.set_cons_succ]
 refine wpAnyH_done (by kernel_rfl) ?_ _
 go_wp2_with fail
 refine bodyPost_ret (v := .bool true) (by simp [results, Tryz.results18, go_sem]) rfl ⟨rfl, HWR33.out⟩
end Sg
end Go.Proofs.YtcgffkkfeimifaaGreatDoor
namespace Go.Proofs.YtcgffkkfeimifaaGreatDoor
namespace Sg
open Go.RowKit Sha Oc
set_option linter.unusedVariables false
set_option linter.unusedSimpArgs false
end Sg
end Go.Proofs.YtcgffkkfeimifaaGreatDoor
namespace Go.Proofs.YtcgffkkfeimifaaGreatDoor
namespace Sg
open Go.ChangeShapes Go.WideShapes Go.ChangeAt Go.RowKit Go.Joins Sha
set_option linter.unusedVariables false
set_option linter.unusedSimpArgs false
set_option maxRecDepth 100000
section
variable {H : Type} {enc : TypeId × Value → H} {w : World}
end
end Sg
end Go.Proofs.YtcgffkkfeimifaaGreatDoor
namespace Go.Proofs.YtcgffkkfeimifaaGreatDoor
namespace Sg
open Go.ChangeShapes Go.WideShapes Go.ChangeAt Go.RowKit Go.Joins Sha
set_option linter.unusedVariables false
set_option linter.unusedSimpArgs false
set_option maxRecDepth 100000
section
variable {H : Type} {enc : TypeId × Value → H} {w : World}
end
end Sg
end Go.Proofs.YtcgffkkfeimifaaGreatDoor
