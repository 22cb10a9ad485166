import Derived.Test.YthfgdgcdicacpaaRoN
import Derived.Test.YthfgdgcdicacpaaRoL
import Derived.Test.YthfgdgcdicacpaaRoC
import Derived.Test.YthfgdgcdicacpaaOcRK
namespace Go.Proofs.Ythfgdgcdicacpaa
namespace Ro
open Go.RowKit Sha Oc En Adr
set_option linter.unusedVariables false
set_option linter.unusedSimpArgs false
def exA : Ra := ⟨64500, [⟨4, 0, 167772160, 8, 16⟩]⟩
def exB : List UInt8 := [128, 23, 1, 2, 251, 244, 129, 17, 1, 1, 4, 2, 0, 3, 4, 10, 0, 0, 0, 4, 1, 8, 5, 1, 16]
theorem exA_ok : raC exA.ps = 0 := by kernel_rfl
theorem exA_wf : Wf exA := ⟨⟨by decide, by decide⟩, fun x hx => by
 obtain rfl : x = ⟨4, 0, 167772160, 8, 16⟩ := by
  have : x ∈ [(⟨4, 0, 167772160, 8, 16⟩ : Ap)] := hx
  simpa using this
 exact ⟨⟨by decide, by decide⟩, ⟨by decide, by decide⟩, ⟨by decide, by decide⟩⟩⟩
theorem exA_enc : enc (raV exA) = exB := by kernel_rfl
theorem exA_e0 : alE exA.ps 4 0 167772160 8 = 0 ∧ alV 64500 exA.ps 4 0 167772160 8 64500 = true := ⟨by kernel_rfl, by kernel_rfl⟩
theorem exA_e1 : alE exA.ps 4 0 167837696 16 = 0 ∧ alV 64500 exA.ps 4 0 167837696 16 64500 = true := ⟨by kernel_rfl, by kernel_rfl⟩
theorem exA_e2 : alE exA.ps 4 0 167837952 24 = 0 ∧ alV 64500 exA.ps 4 0 167837952 24 64500 = false := ⟨by kernel_rfl, by kernel_rfl⟩
theorem exA_e3 : alE exA.ps 4 0 184549376 16 = 0 ∧ alV 64500 exA.ps 4 0 184549376 16 64500 = false := ⟨by kernel_rfl, by kernel_rfl⟩
theorem exA_e4 : alE exA.ps 4 0 167772160 8 = 0 ∧ alV 64500 exA.ps 4 0 167772160 8 64501 = false := ⟨by kernel_rfl, by kernel_rfl⟩
set_option maxRecDepth 100000 in
set_option maxHeartbeats 1000000 in
theorem net0_any (w : World) : Calls Try.prog 38 #[.int .u64 10, .int .u64 0, .int .u64 0, .int .i64 8] w fun e w' => e = .returned (.agg #[.int .u8 4, .int .u64 0, .int .u64 167772160, .int .i64 8]) ∧ Below w.heap.size w w' := by
 go_enter Try.func38, Try.ntmps38
 go_wp2_with fail
 refine bodyPost_ret (v := .agg #[.int .u8 4, .int .u64 0, .int .u64 167772160, .int .i64 8]) (results_cell_row rfl _ _ w.heap.size 44 _ (0, 0) _ rfl (by rw [heap_alloc_new]) Try.underlying44 rfl (sz4p _ _ _ _)) rfl ⟨rfl, below_new _ _⟩
set_option maxRecDepth 100000 in
set_option maxHeartbeats 1000000 in
theorem net1_any (w : World) : Calls Try.prog 38 #[.int .u64 10, .int .u64 1, .int .u64 0, .int .i64 16] w fun e w' => e = .returned (.agg #[.int .u8 4, .int .u64 0, .int .u64 167837696, .int .i64 16]) ∧ Below w.heap.size w w' := by
 go_enter Try.func38, Try.ntmps38
 go_wp2_with fail
 refine bodyPost_ret (v := .agg #[.int .u8 4, .int .u64 0, .int .u64 167837696, .int .i64 16]) (results_cell_row rfl _ _ w.heap.size 44 _ (0, 0) _ rfl (by rw [heap_alloc_new]) Try.underlying44 rfl (sz4p _ _ _ _)) rfl ⟨rfl, below_new _ _⟩
set_option maxRecDepth 100000 in
set_option maxHeartbeats 1000000 in
theorem net2_any (w : World) : Calls Try.prog 38 #[.int .u64 10, .int .u64 1, .int .u64 1, .int .i64 24] w fun e w' => e = .returned (.agg #[.int .u8 4, .int .u64 0, .int .u64 167837952, .int .i64 24]) ∧ Below w.heap.size w w' := by
 go_enter Try.func38, Try.ntmps38
 go_wp2_with fail
 refine bodyPost_ret (v := .agg #[.int .u8 4, .int .u64 0, .int .u64 167837952, .int .i64 24]) (results_cell_row rfl _ _ w.heap.size 44 _ (0, 0) _ rfl (by rw [heap_alloc_new]) Try.underlying44 rfl (sz4p _ _ _ _)) rfl ⟨rfl, below_new _ _⟩
set_option maxRecDepth 100000 in
set_option maxHeartbeats 1000000 in
theorem net3_any (w : World) : Calls Try.prog 38 #[.int .u64 11, .int .u64 0, .int .u64 0, .int .i64 16] w fun e w' => e = .returned (.agg #[.int .u8 4, .int .u64 0, .int .u64 184549376, .int .i64 16]) ∧ Below w.heap.size w w' := by
 go_enter Try.func38, Try.ntmps38
 go_wp2_with fail
 refine bodyPost_ret (v := .agg #[.int .u8 4, .int .u64 0, .int .u64 184549376, .int .i64 16]) (results_cell_row rfl _ _ w.heap.size 44 _ (0, 0) _ rfl (by rw [heap_alloc_new]) Try.underlying44 rfl (sz4p _ _ _ _)) rfl ⟨rfl, below_new _ _⟩
def ExP (w : World) (e : Ending) (w' : World) : Prop := ∃ g : Nat, e = .returned (.agg #[.int .u32 64500, .slice (some ⟨g, 0, none⟩) 1 1]) ∧ Aps (some ⟨g, 0, none⟩) exA.ps w' ∧ Below w.heap.size w w'
set_option maxRecDepth 100000 in
set_option maxHeartbeats 1000000 in
theorem example_any (w : World) : Calls Try.prog 36 #[] w (ExP w) := by
 have HB0 := Lib.hid (below_new w (.cells #[.int .u32 0, .slice none 0 0] 25))
 have HR0 := Lib.hid (heap_alloc_new w (.cells #[.int .u32 0, .slice none 0 0] 25))
 go_enter Try.func36, Try.ntmps36
 go_upto_region 1 with (fail)
 generalize hV : World.alloc w _ = V at HB0 HR0 ⊢
 clear hV
 go_wp2_with fail
 refine (net0_any V).mono ?_
 rintro e w2 ⟨rfl, hb⟩
 have HB2 := Lib.hid (chain HB0.out hb)
 have HR2 := Lib.hid (row_on HR0.out hb)
 clear hb
 obtain ⟨hl, r0, r1⟩ := facts2 HR2.out
 obtain ⟨f0, f1⟩ := f21 HR2.out
 go_wp2_with fail
 have hrw := row_setCells HR2.out (cs := #[.int .u32 64500, .slice (some ⟨w2.heap.size, 0, none⟩) 1 1]) rfl
 have hbl := below_setCells (#[.int .u32 64500, .slice (some ⟨w2.heap.size, 0, none⟩) 1 1] : Array Value).toList 0 w2 HB2.out (show w.heap.size ≤ w.heap.size by omega)
 have e9 : ∀ a b : Value, (w2.setCell ⟨w.heap.size, 0, none⟩ a).setCell ⟨w.heap.size, 1, none⟩ b = w2.setCells w.heap.size 0 (#[a, b] : Array Value).toList := fun _ _ => rfl
 rw [e9]
 have hsz : (World.setCells w2 w.heap.size 0 (#[.int .u32 64500, .slice (some ⟨w2.heap.size, 0, none⟩) 1 1] : Array Value).toList).heap.size = w2.heap.size := by simp [World.setCells, World.setCell]
 generalize World.setCells w2 _ _ _ = W9 at hrw hbl hsz ⊢
 refine bodyPost_ret (v := .agg #[.int .u32 64500, .slice (some ⟨w2.heap.size, 0, none⟩) 1 1]) (results_cell_row rfl _ _ w.heap.size 25 _ (0, 0) _ rfl (row_on hrw (below_new _ _)) Try.underlying25 rfl (sz2r _ _)) rfl ⟨w2.heap.size, rfl, ⟨fun k x hk => ⟨w2.heap.size, 0, rfl, ?_⟩⟩, hbl.alloc hbl.size _⟩
 rcases k with _ | k
 ·
  obtain rfl := Option.some.inj hk
  rw [← hsz]
  exact row_range (cs := [.int .u8 4, .int .u64 0, .int .u64 167772160, .int .i64 8, .int .i64 16]) (heap_alloc_new _ _)
 ·
  simp [exA] at hk
set_option maxRecDepth 100000 in
set_option maxHeartbeats 2000000 in
theorem allowed_of (pf ph pl pn : Int) (uph : U64 ph) (upl : U64 pl) (a : Int) (R : Bool) (hE : alE exA.ps pf ph pl pn = 0) (hR : alV 64500 exA.ps pf ph pl pn a = R) (w : World) :
  Calls Try.prog 37 #[.agg #[.int .u8 pf, .int .u64 ph, .int .u64 pl, .int .i64 pn], .int .u32 a] w fun e w' => e = .returned (.bool R) ∧ Below w.heap.size w w' := by
 have hal := fun (V : World) (g : Nat) (h : Aps (some ⟨g, 0, none⟩) exA.ps V) => allows_any 64500 exA.ps (some ⟨g, 0, none⟩) 1 (by decide) exA_wf.ps pf ph pl pn uph upl a V h
 rw [hE, hR] at hal
 unfold AlP at hal
 have HAL := Lib.hid (show ∀ (V : World) (g : Nat), Aps (some ⟨g, 0, none⟩) exA.ps V → Calls Try.prog 15 #[.agg #[.int .u32 64500, .slice (some ⟨g, 0, none⟩) 1 1], .agg #[.int .u8 pf, .int .u64 ph, .int .u64 pl, .int .i64 pn], .int .u32 a] V (fun e w' => e = .returned (.tuple #[.bool R, .int .i64 0]) ∧ Below V.heap.size V w') from hal)
 have hex := fun (V : World) => example_any V
 unfold ExP at hex
 have HEX := Lib.hid hex
 have HB0 := Lib.hid (below_new w (.cells #[.int .u8 pf, .int .u64 ph, .int .u64 pl, .int .i64 pn] 44))
 have HR0 := Lib.hid (heap_alloc_new w (.cells #[.int .u8 pf, .int .u64 ph, .int .u64 pl, .int .i64 pn] 44))
 obtain ⟨RR, hRR⟩ : ∃ x, x = R := ⟨_, rfl⟩
 have HRR := Lib.hid hRR
 clear hal hex hE hR uph upl hRR
 go_enter Try.func37, Try.ntmps37
 go_upto_region 1 with (fail)
 generalize hV : World.alloc w _ = V at HB0 HR0 ⊢
 clear hV
 have mkS : ∀ z, Below V.heap.size V z → (fun (z : World) => z.heap[w.heap.size]? = some (.cells #[.int .u8 pf, .int .u64 ph, .int .u64 pl, .int .i64 pn] 44 (0, 0))) z := fun z hz => row_on HR0.out hz
 refine wp_region_held_drew (S := fun (z : World) => z.heap[w.heap.size]? = some (.cells #[.int .u8 pf, .int .u64 ph, .int .u64 pl, .int .i64 pn] 44 (0, 0))) (by kernel_rfl) (mkS _ (Below.refl _ _).drew) (fun hHeld => ?_)
 generalize hU : World.drew V = U at hHeld ⊢
 have HBC := Lib.hid (show Below V.heap.size V U by rw [← hU]; exact (Below.refl _ _).drew)
 clear hU
 refine wpAnyH_take (i := 1) (oi := { dst := some 9, op := .load 44 (.tmp 2), type := 44, pos := "law.go:64", after := #[], guard := none }) (v := .agg ([.int .u8 pf, .int .u64 ph, .int .u64 pl, .int .i64 pn]).toArray) rfl (by kernel_rfl) (by kernel_rfl) (by kernel_rfl) (fun _ _ _ h => h) (yieldsIf_load_mid (by rfl) _ _ rfl _ _ rfl ([.int .u8 pf, .int .u64 ph, .int .u64 pl, .int .i64 pn]) _ (fun w hSw => hSw |> row_range (cs := [.int .u8 pf, .int .u64 ph, .int .u64 pl, .int .i64 pn])) Try.underlying44 rfl (sz4p _ _ _ _)) hHeld ?_
 try simp only [Act.put, List.setIfInBounds_toArray, List.set_cons_zero, List.set_cons_succ]
 refine wpAnyH_take (i := 2) (oi := { dst := some 10, op := .move (.tmp 1), type := 22, pos := "law.go:64", after := #[], guard := none }) (v := ?_) rfl (by kernel_rfl) (by kernel_rfl) (by kernel_rfl) (fun _ _ _ h => h) (Or.inl ⟨by rfl, ?_⟩) hHeld ?_
 rotate_left
 ·
  intro w hSw
  clear hSw
  go_simp
  try with_reducible rfl
 try simp only [Act.put, List.setIfInBounds_toArray, List.set_cons_zero, List.set_cons_succ]
 refine wpAnyH_ready (rs := [0]) (by kernel_rfl) (by simp) (AllReadyH.cons (o := { dst := some 8, op := .call { callee := .value (.func 36), args := #[], argTypes := #[] }, type := 25, pos := "law.go:64", after := #[], guard := none }) rfl (fun K hK => ?_) AllReadyH.nil)
 go_simp
 refine (HEX.out U).mono ?_
 rintro e z0 ⟨g, rfl, hap, hb⟩
 have HBC := Lib.hid (chain HBC.out hb)
 have HAP := Lib.hid (hap)
 clear hb hap
 go_simp
 refine hK.out _ _ (mkS _ HBC.out) (fun hHeld2 => ?_)
 clear hK K hHeld
 have hHeld := hHeld2
 clear hHeld2
 try simp only [Act.put, List.setIfInBounds_toArray, List.set_cons_zero, List.set_cons_succ]
 refine wpAnyH_ready (rs := [3]) (by kernel_rfl) (by simp) (AllReadyH.cons (o := { dst := some 11, op := .call { callee := .value (.func 15), args := #[.tmp 8, .tmp 9, .tmp 10], argTypes := #[25, 44, 22] }, type := 45, pos := "law.go:64", after := #[{ on := 0, ground := .data }, { on := 1, ground := .data }, { on := 2, ground := .data }, { on := 0, ground := .chain }], guard := none }) rfl (fun K hK => ?_) AllReadyH.nil)
 go_simp
 refine (HAL.out z0 g HAP.out).mono ?_
 rintro e z3 ⟨rfl, hb⟩
 have HBC := Lib.hid (chain HBC.out hb)
 have HAP := Lib.hid (HAP.out.on hb)
 clear hb 
 go_simp
 refine hK.out _ _ (mkS _ HBC.out) (fun hHeld2 => ?_)
 clear hK K hHeld
 have hHeld := hHeld2
 clear hHeld2
 try simp only [Act.put, List.setIfInBounds_toArray, List.set_cons_zero, List.set_cons_succ]
 refine wpAnyH_take (i := 4) (oi := { dst := some 7, op := .move (.tmp 11), type := 45, pos := "law.go:64", after := #[{ on := 3, ground := .data }], guard := none }) (v := ?_) rfl (by kernel_rfl) (by kernel_rfl) (by kernel_rfl) (fun _ _ _ h => h) (Or.inl ⟨by rfl, ?_⟩) hHeld ?_
 rotate_left
 ·
  intro w hSw
  clear hSw
  go_simp
  try with_reducible rfl
 try simp only [Act.put, List.setIfInBounds_toArray, List.set_cons_zero, List.set_cons_succ]
 refine wpAnyH_take (i := 5) (oi := { dst := some 12, op := .extract (.tmp 7) 0, type := 4, pos := "law.go:64", after := #[{ on := 4, ground := .data }], guard := none }) (v := ?_) rfl (by kernel_rfl) (by kernel_rfl) (by kernel_rfl) (fun _ _ _ h => h) (Or.inl ⟨by rfl, ?_⟩) hHeld ?_
 rotate_left
 ·
  intro w hSw
  clear hSw
  go_simp
  try with_reducible rfl
 try simp only [Act.put, List.setIfInBounds_toArray, List.set_cons_zero, List.set_cons_succ]
 refine wpAnyH_take (i := 6) (oi := { dst := some 13, op := .extract (.tmp 7) 1, type := 28, pos := "law.go:64", after := #[{ on := 4, ground := .data }, { on := 7, ground := .gcOnly .lateStores }], guard := none }) (v := ?_) rfl (by kernel_rfl) (by kernel_rfl) (by kernel_rfl) (fun _ _ _ h => h) (Or.inl ⟨by rfl, ?_⟩) hHeld ?_
 rotate_left
 ·
  intro w hSw
  clear hSw
  go_simp
  try with_reducible rfl
 try simp only [Act.put, List.setIfInBounds_toArray, List.set_cons_zero, List.set_cons_succ]
 refine wpAnyH_take (i := 7) (oi := { dst := some 5, op := .assign (.tmp 12), type := 4, pos := "law.go:64", after := #[{ on := 5, ground := .data }, { on := 3, ground := .chain }, { on := 0, ground := .phase }, { on := 1, ground := .phase }, { on := 2, ground := .phase }, { on := 3, ground := .phase }, { on := 4, ground := .phase }, { on := 5, ground := .phase }, { on := 6, ground := .textOnly .lateStores }], guard := none }) (v := ?_) rfl (by kernel_rfl) (by kernel_rfl) (by kernel_rfl) (fun _ _ _ h => h) (Or.inl ⟨by rfl, ?_⟩) hHeld ?_
 rotate_left
 ·
  intro w hSw
  clear hSw
  go_simp
  try with_reducible rfl
 try simp only [Act.put, List.setIfInBounds_toArray, List.set_cons_zero, List.set_cons_succ]
 refine wpAnyH_take (i := 8) (oi := { dst := some 6, op := .assign (.tmp 13), type := 28, pos := "law.go:64", after := #[{ on := 6, ground := .data }, { on := 7, ground := .chain }, { on := 0, ground := .phase }, { on := 1, ground := .phase }, { on := 2, ground := .phase }, { on := 3, ground := .phase }, { on := 4, ground := .phase }, { on := 5, ground := .phase }, { on := 6, ground := .phase }, { on := 7, ground := .phase }], guard := none }) (v := ?_) rfl (by kernel_rfl) (by kernel_rfl) (by kernel_rfl) (fun _ _ _ h => h) (Or.inl ⟨by rfl, ?_⟩) hHeld ?_
 rotate_left
 ·
  intro w hSw
  clear hSw
  go_simp
  try with_reducible rfl
 try simp only [Act.put, List.setIfInBounds_toArray, List.set_cons_zero, List.set_cons_succ]
 refine wpAnyH_done (by kernel_rfl) ?_ _
 clear HAL
 cases R
 all_goals
  go_wp2_with fail
  go_ret
  exact ⟨rfl, chain HB0.out HBC.out⟩
theorem srcAt_on8 {A : Option Addr} {L : List UInt8} {w V : World} (h : SrcAt A L w) (hb : Below w.heap.size w V) : SrcAt A L V := h.on hb
theorem src_row14 {w : World} {g : Nat} {l : List UInt8} {cs : Array Value} {T : TypeId} {fr : Nat × Nat} (h : w.heap[g]? = some (.cells cs T fr)) (hc : cs.toList = bvals l) : SrcAt (some ⟨g, 0, none⟩) l w := fun _ => ⟨g, 0, rfl, fun j x hx => by
 rw [Nat.zero_add, cell_of_row _ _ _ _ _ _ h, ← Array.getElem?_toList, hc]
 unfold bvals
 rw [List.getElem?_map, hx]
 rfl⟩
theorem srcAt_ex (z : World) : SrcAt (some ⟨z.heap.size, 0, none⟩) exB (z.alloc (.cells #[.int .u8 128, .int .u8 23, .int .u8 1, .int .u8 2, .int .u8 251, .int .u8 244, .int .u8 129, .int .u8 17, .int .u8 1, .int .u8 1, .int .u8 4, .int .u8 2, .int .u8 0, .int .u8 3, .int .u8 4, .int .u8 10, .int .u8 0, .int .u8 0, .int .u8 0, .int .u8 4, .int .u8 1, .int .u8 8, .int .u8 5, .int .u8 1, .int .u8 16] 5)) := src_row14 (heap_alloc_new _ _) (by kernel_rfl)
theorem own_src {w : World} {base : Nat} {v : Value} {l : List UInt8} (h : w.ownsRow base 5 1 v l.length (bvals l)) : ∃ A c, v = .slice A l.length c ∧ l.length ≤ c ∧ (A = none → c = 0) ∧ SrcAt A l w := by
 obtain ⟨A, c, h1, h2, h3, h4, _⟩ := own_rd3 h
 exact ⟨A, c, h1, h2, h3, h4⟩
set_option maxRecDepth 100000 in
set_option maxHeartbeats 4000000 in
theorem alive14_any (w : World) : Calls Try.prog 17 #[] w (fun e w' => e = .returned (.bool true) ∧ Below w.heap.size w w') := by
 have hex := fun (V : World) => example_any V
 unfold ExP at hex
 have HEX := Lib.hid hex
 have hen := fun (V : World) (g : Nat) (h : Aps (some ⟨g, 0, none⟩) exA.ps V) => (show Calls Try.prog 9 #[.agg #[.int .u32 64500, .slice (some ⟨g, 0, none⟩) 1 1]] V (fun e w' => ∃ A c, e = .returned (.tuple #[.slice A 25 c, .int .i64 0]) ∧ SrcAt A exB w' ∧ Below V.heap.size V w') from by
  have h9 := encode_roa exA exA_wf (some ⟨g, 0, none⟩) 1 (by decide) V h
  rw [exA_ok] at h9
  refine h9.mono fun e z hz => ?_
  obtain ⟨hb, ⟨_, v, rfl, hown⟩ | ⟨h1, _⟩⟩ := hz
  ·
   rw [exA_enc] at hown
   obtain ⟨A, c, rfl, _, _, hs⟩ := own_src hown
   exact ⟨A, c, rfl, hs, hb⟩
  ·
   exact absurd rfl h1)
 have HEN := Lib.hid hen
 have hde := fun (V : World) (A : Option Addr) (h : SrcAt A exB V) (hA : A ≠ none) => (show Calls Try.prog 11 #[.slice A 25 25] V (fun e w' => ∃ A2 c2, e = .returned (.tuple #[.agg #[.int .u32 64500, .slice A2 1 c2], .int .i64 0]) ∧ Aps A2 exA.ps w' ∧ Below V.heap.size V w') from by
  have h9 := rdecode_any exB (by decide) A 25 (by decide) (fun e => absurd e hA) V h
  rw [← exA_enc, raD_enc exA_wf exA_ok, exA_enc] at h9
  exact h9.mono fun e z ⟨A2, c2, h1, h2, h3, h4⟩ => ⟨A2, c2, h1, h3, h4⟩)
 have HDE := Lib.hid hde
 have HSA := Lib.hid (fun (V : World) (A : Option Addr) {c : Nat} {B : Option Addr} (h1 : SrcAt B exB V) (h2 : SrcAt A exB V) => (show Calls Try.prog 13 #[.slice B 25 c, .slice A 25 25] V (fun e w' => e = .returned (.bool true) ∧ Below V.heap.size V w') from by
  have h9 := samebytes_any exB exB B A c 25 (by decide) (by decide) V h1 h2
  rw [decide_eq_true rfl] at h9
  exact h9))
 have HSM := Lib.hid (fun (V : World) (g : Nat) {A : Option Addr} {c : Nat} (h1 : Aps A exA.ps V) (h2 : Aps (some ⟨g, 0, none⟩) exA.ps V) => (show Calls Try.prog 14 #[.agg #[.int .u32 64500, .slice A 1 c], .agg #[.int .u32 64500, .slice (some ⟨g, 0, none⟩) 1 1]] V (fun e w' => e = .returned (.bool true) ∧ Below V.heap.size V w') from by
  have h9 := same_ref 64500 64500 exA.ps exA.ps A (some ⟨g, 0, none⟩) c 1 (by decide) V h1 h2
  rw [eqL_self] at h9
  exact h9))
 have u0 : U64 0 := ⟨by decide, by decide⟩
 have HL0 := Lib.hid (fun (V : World) => allowed_of 4 0 167772160 8 u0 ⟨by decide, by decide⟩ 64500 true exA_e0.1 exA_e0.2 V)
 have HL1 := Lib.hid (fun (V : World) => allowed_of 4 0 167837696 16 u0 ⟨by decide, by decide⟩ 64500 true exA_e1.1 exA_e1.2 V)
 have HL2 := Lib.hid (fun (V : World) => allowed_of 4 0 167837952 24 u0 ⟨by decide, by decide⟩ 64500 false exA_e2.1 exA_e2.2 V)
 have HL3 := Lib.hid (fun (V : World) => allowed_of 4 0 184549376 16 u0 ⟨by decide, by decide⟩ 64500 false exA_e3.1 exA_e3.2 V)
 have HL4 := Lib.hid (fun (V : World) => allowed_of 4 0 167772160 8 u0 ⟨by decide, by decide⟩ 64501 false exA_e4.1 exA_e4.2 V)
 clear hex hen hde u0
 go_enter Try.func17, Try.ntmps17
 go_wp2_with fail
 refine (HEX.out _).mono ?_
 rintro e w1 ⟨g, rfl, hap, hb⟩
 have HB1 := Lib.hid hb
 have HAP := Lib.hid hap
 clear hb hap
 go_wp2_with fail
 refine (HEN.out w1 g HAP.out).mono ?_
 rintro e w2 ⟨A, c, rfl, hs, hb⟩
 have HB2 := Lib.hid (chain HB1.out hb)
 have HSE := Lib.hid hs
 clear hb hs HAP
 go_upto_region 2 with (fail)
 have HSZ := Lib.hid (srcAt_ex w2)
 have HBZ := Lib.hid (below_new w2 (.cells #[.int .u8 128, .int .u8 23, .int .u8 1, .int .u8 2, .int .u8 251, .int .u8 244, .int .u8 129, .int .u8 17, .int .u8 1, .int .u8 1, .int .u8 4, .int .u8 2, .int .u8 0, .int .u8 3, .int .u8 4, .int .u8 10, .int .u8 0, .int .u8 0, .int .u8 0, .int .u8 4, .int .u8 1, .int .u8 8, .int .u8 5, .int .u8 1, .int .u8 16] 5))
 have HNE : RowKit.Hid ((some ⟨w2.heap.size, 0, none⟩ : Option Addr) ≠ none) := Lib.hid (by simp)
 go_wp2_with fail
 generalize hVb : World.alloc w2 _ = wb at HSZ HBZ ⊢
 refine (HDE.out wb _ HSZ.out HNE.out).mono ?_
 rintro e w3 ⟨A2, c2, rfl, hap, hb⟩
 have HB3' := Lib.hid (chain HB2.out (chain HBZ.out hb))
 have HSE := Lib.hid (HSE.out.on (chain HBZ.out hb))
 have HA2' := Lib.hid hap
 clear hb hap HSZ HBZ hVb HB2
 go_upto_region 3 with (fail)
 generalize hV3 : World.alloc w3 _ = V3
 obtain ⟨M, hM⟩ : ∃ M, w3.heap.size = M := ⟨_, rfl⟩
 have HM := Lib.hid (show V3.heap[M]? = some (.cells #[.int .u32 64500, .slice A2 1 c2] 25 (0, 0)) by rw [← hV3, ← hM]; exact heap_alloc_new _ _)
 have hbn := (show Below w3.heap.size w3 V3 by rw [← hV3]; exact below_new _ _)
 have HB3 := Lib.hid (chain HB3'.out hbn)
 have HSE := Lib.hid (HSE.out.on hbn)
 have HA2 := Lib.hid (HA2'.out.on hbn)
 try simp only [hM]
 clear hV3 hM hbn HB3' HA2'
 have mkS : ∀ z, Below V3.heap.size V3 z → (fun (z : World) => z.heap[M]? = some (.cells #[.int .u32 64500, .slice A2 1 c2] 25 (0, 0))) z := fun z hz => row_on HM.out hz
 refine wp_region_held_drew (S := fun (z : World) => z.heap[M]? = some (.cells #[.int .u32 64500, .slice A2 1 c2] 25 (0, 0))) (by kernel_rfl) (mkS _ (Below.refl _ _).drew) (fun hHeld => ?_)
 generalize hU : World.drew V3 = U3 at hHeld ⊢
 have hbu := (show Below V3.heap.size V3 U3 by rw [← hU]; exact (Below.refl _ _).drew)
 have HBC := Lib.hid hbu
 have HSE := Lib.hid (HSE.out.on hbu)
 have HA2 := Lib.hid (HA2.out.on hbu)
 clear hU hbu
 refine wpAnyH_take (i := 0) (oi := { dst := some 15, op := .move (.tmp 2), type := 28, pos := "law.go:72", after := #[], guard := none }) (v := ?_) rfl (by kernel_rfl) (by kernel_rfl) (by kernel_rfl) (fun _ _ _ h => h) (Or.inl ⟨by rfl, ?_⟩) hHeld ?_
 rotate_left
 ·
  intro w hSw
  clear hSw
  go_simp
  try with_reducible rfl
 try simp only [Act.put, List.setIfInBounds_toArray, List.set_cons_zero, List.set_cons_succ]
 refine wpAnyH_take (i := 1) (oi := { dst := some 16, op := .binOp .eql 28 (.tmp 15) (.const (.int .i64 0)) 28, type := 4, pos := "law.go:72", after := #[{ on := 0, ground := .data }], guard := none }) (v := ?_) rfl (by kernel_rfl) (by kernel_rfl) (by kernel_rfl) (fun _ _ _ h => h) (Or.inl ⟨by rfl, ?_⟩) hHeld ?_
 rotate_left
 ·
  intro w hSw
  clear hSw
  go_simp
  try with_reducible rfl
 try simp only [Act.put, List.setIfInBounds_toArray, List.set_cons_zero, List.set_cons_succ]
 refine wpAnyH_take (i := 2) (oi := { dst := some 17, op := .move (.tmp 16), type := 4, pos := "law.go:72", after := #[{ on := 1, ground := .data }], guard := none }) (v := ?_) rfl (by kernel_rfl) (by kernel_rfl) (by kernel_rfl) (fun _ _ _ h => h) (Or.inl ⟨by rfl, ?_⟩) hHeld ?_
 rotate_left
 ·
  intro w hSw
  clear hSw
  go_simp
  try with_reducible rfl
 try simp only [Act.put, List.setIfInBounds_toArray, List.set_cons_zero, List.set_cons_succ]
 refine wpAnyH_take (i := 3) (oi := { dst := some 18, op := .move (.tmp 1), type := 26, pos := "law.go:72", after := #[{ on := 2, ground := .guard }], guard := some (2, true) }) (v := ?_) rfl (by kernel_rfl) (by kernel_rfl) (by kernel_rfl) (fun _ _ _ h => h) (Or.inl ⟨by rfl, ?_⟩) hHeld ?_
 rotate_left
 ·
  intro w hSw
  clear hSw
  go_simp
  try with_reducible rfl
 try simp only [Act.put, List.setIfInBounds_toArray, List.set_cons_zero, List.set_cons_succ]
 refine wpAnyH_ready (rs := [4]) (by kernel_rfl) (by simp) (AllReadyH.cons (o := { dst := some 19, op := .buildSlice 26 25 #[(0, .const (.int .u8 128)), (1, .const (.int .u8 23)), (2, .const (.int .u8 1)), (3, .const (.int .u8 2)), (4, .const (.int .u8 251)), (5, .const (.int .u8 244)), (6, .const (.int .u8 129)), (7, .const (.int .u8 17)), (8, .const (.int .u8 1)), (9, .const (.int .u8 1)), (10, .const (.int .u8 4)), (11, .const (.int .u8 2)), (12, .const (.int .u8 0)), (13, .const (.int .u8 3)), (14, .const (.int .u8 4)), (15, .const (.int .u8 10)), (16, .const (.int .u8 0)), (17, .const (.int .u8 0)), (18, .const (.int .u8 0)), (19, .const (.int .u8 4)), (20, .const (.int .u8 1)), (21, .const (.int .u8 8)), (22, .const (.int .u8 5)), (23, .const (.int .u8 1)), (24, .const (.int .u8 16))], type := 26, pos := "law.go:72", after := #[{ on := 2, ground := .guard }], guard := some (2, true) }) rfl (fun K hK => ?_) AllReadyH.nil)
 go_simp
 generalize hV : World.alloc U3 _ = zb
 have hb := below_new U3 (.cells #[.int .u8 128, .int .u8 23, .int .u8 1, .int .u8 2, .int .u8 251, .int .u8 244, .int .u8 129, .int .u8 17, .int .u8 1, .int .u8 1, .int .u8 4, .int .u8 2, .int .u8 0, .int .u8 3, .int .u8 4, .int .u8 10, .int .u8 0, .int .u8 0, .int .u8 0, .int .u8 4, .int .u8 1, .int .u8 8, .int .u8 5, .int .u8 1, .int .u8 16] 5)
 have hsb := Lib.hid (show SrcAt (some ⟨U3.heap.size, 0, none⟩) exB zb by rw [← hV]; exact srcAt_ex U3)
 rw [hV] at hb
 clear hV
 have HBC := Lib.hid (chain HBC.out hb)
 have HSE := Lib.hid (srcAt_on8 HSE.out hb)
 have HA2 := Lib.hid (HA2.out.on hb)
 have HSB := Lib.hid hsb.out
 clear hb hsb
 refine hK.out _ _ (mkS _ HBC.out) (fun hHeld2 => ?_)
 clear hK K hHeld
 have hHeld := hHeld2
 clear hHeld2
 try simp only [Act.put, List.setIfInBounds_toArray, List.set_cons_zero, List.set_cons_succ]
 refine wpAnyH_ready (rs := [5]) (by kernel_rfl) (by simp) (AllReadyH.cons (o := { dst := some 20, op := .call { callee := .value (.func 13), args := #[.tmp 18, .tmp 19], argTypes := #[26, 26] }, type := 4, pos := "law.go:72", after := #[{ on := 3, ground := .data }, { on := 4, ground := .data }, { on := 2, ground := .chain }, { on := 2, ground := .guard }], guard := some (2, true) }) rfl (fun K hK => ?_) AllReadyH.nil)
 go_simp
 refine (HSA.out zb _ HSE.out HSB.out).mono ?_
 rintro e z5 ⟨rfl, hb⟩
 have HBC := Lib.hid (chain HBC.out hb)
 have HA2 := Lib.hid (HA2.out.on hb)
 clear hb 
 go_simp
 refine hK.out _ _ (mkS _ HBC.out) (fun hHeld2 => ?_)
 clear hK K hHeld
 have hHeld := hHeld2
 clear hHeld2
 try simp only [Act.put, List.setIfInBounds_toArray, List.set_cons_zero, List.set_cons_succ]
 refine wpAnyH_take (i := 6) (oi := { dst := some 21, op := .pick (.tmp 17) (.tmp 20) (.const (.bool false)), type := 4, pos := "law.go:72", after := #[{ on := 2, ground := .data }, { on := 5, ground := .data }], guard := none }) (v := ?_) rfl (by kernel_rfl) (by kernel_rfl) (by kernel_rfl) (fun _ _ _ h => h) (Or.inl ⟨by rfl, ?_⟩) hHeld ?_
 rotate_left
 ·
  intro w hSw
  clear hSw
  go_simp
  try with_reducible rfl
 try simp only [Act.put, List.setIfInBounds_toArray, List.set_cons_zero, List.set_cons_succ]
 refine wpAnyH_take (i := 7) (oi := { dst := some 22, op := .move (.tmp 21), type := 4, pos := "law.go:72", after := #[{ on := 6, ground := .data }, { on := 5, ground := .chain }], guard := none }) (v := ?_) rfl (by kernel_rfl) (by kernel_rfl) (by kernel_rfl) (fun _ _ _ h => h) (Or.inl ⟨by rfl, ?_⟩) hHeld ?_
 rotate_left
 ·
  intro w hSw
  clear hSw
  go_simp
  try with_reducible rfl
 try simp only [Act.put, List.setIfInBounds_toArray, List.set_cons_zero, List.set_cons_succ]
 refine wpAnyH_take (i := 8) (oi := { dst := some 23, op := .move (.tmp 4), type := 28, pos := "law.go:72", after := #[{ on := 7, ground := .guard }], guard := some (7, true) }) (v := ?_) rfl (by kernel_rfl) (by kernel_rfl) (by kernel_rfl) (fun _ _ _ h => h) (Or.inl ⟨by rfl, ?_⟩) hHeld ?_
 rotate_left
 ·
  intro w hSw
  clear hSw
  go_simp
  try with_reducible rfl
 try simp only [Act.put, List.setIfInBounds_toArray, List.set_cons_zero, List.set_cons_succ]
 refine wpAnyH_take (i := 9) (oi := { dst := some 24, op := .binOp .eql 28 (.tmp 23) (.const (.int .i64 0)) 28, type := 4, pos := "law.go:72", after := #[{ on := 8, ground := .data }, { on := 7, ground := .guard }], guard := some (7, true) }) (v := ?_) rfl (by kernel_rfl) (by kernel_rfl) (by kernel_rfl) (fun _ _ _ h => h) (Or.inl ⟨by rfl, ?_⟩) hHeld ?_
 rotate_left
 ·
  intro w hSw
  clear hSw
  go_simp
  try with_reducible rfl
 try simp only [Act.put, List.setIfInBounds_toArray, List.set_cons_zero, List.set_cons_succ]
 refine wpAnyH_take (i := 10) (oi := { dst := some 25, op := .pick (.tmp 22) (.tmp 24) (.const (.bool false)), type := 4, pos := "law.go:72", after := #[{ on := 7, ground := .data }, { on := 9, ground := .data }], guard := none }) (v := ?_) rfl (by kernel_rfl) (by kernel_rfl) (by kernel_rfl) (fun _ _ _ h => h) (Or.inl ⟨by rfl, ?_⟩) hHeld ?_
 rotate_left
 ·
  intro w hSw
  clear hSw
  go_simp
  try with_reducible rfl
 try simp only [Act.put, List.setIfInBounds_toArray, List.set_cons_zero, List.set_cons_succ]
 refine wpAnyH_take (i := 11) (oi := { dst := some 26, op := .move (.tmp 25), type := 4, pos := "law.go:72", after := #[{ on := 10, ground := .data }, { on := 7, ground := .chain }], guard := none }) (v := ?_) rfl (by kernel_rfl) (by kernel_rfl) (by kernel_rfl) (fun _ _ _ h => h) (Or.inl ⟨by rfl, ?_⟩) hHeld ?_
 rotate_left
 ·
  intro w hSw
  clear hSw
  go_simp
  try with_reducible rfl
 try simp only [Act.put, List.setIfInBounds_toArray, List.set_cons_zero, List.set_cons_succ]
 refine wpAnyH_take (i := 12) (oi := { dst := some 27, op := .load 25 (.tmp 3), type := 25, pos := "law.go:72", after := #[{ on := 11, ground := .guard }], guard := some (11, true) }) (v := .agg ([.int .u32 64500, .slice A2 1 c2]).toArray) rfl (by kernel_rfl) (by kernel_rfl) (by kernel_rfl) (fun _ _ _ h => h) (yieldsIf_load_mid (by rfl) _ _ rfl _ _ rfl ([.int .u32 64500, .slice A2 1 c2]) _ (fun w hSw => hSw |> row_range (cs := [.int .u32 64500, .slice A2 1 c2])) Try.underlying25 rfl (sz2r _ _)) hHeld ?_
 try simp only [Act.put, List.setIfInBounds_toArray, List.set_cons_zero, List.set_cons_succ]
 refine wpAnyH_ready (rs := [13]) (by kernel_rfl) (by simp) (AllReadyH.cons (o := { dst := some 28, op := .call { callee := .value (.func 36), args := #[], argTypes := #[] }, type := 25, pos := "law.go:72", after := #[{ on := 11, ground := .chain }, { on := 11, ground := .guard }], guard := some (11, true) }) rfl (fun K hK => ?_) AllReadyH.nil)
 go_simp
 refine (HEX.out z5).mono ?_
 rintro e z13 ⟨g, rfl, hap, hb⟩
 have HBC := Lib.hid (chain HBC.out hb)
 have HA2 := Lib.hid (HA2.out.on hb)
 have HAP := Lib.hid (hap)
 clear hb hap
 go_simp
 refine hK.out _ _ (mkS _ HBC.out) (fun hHeld2 => ?_)
 clear hK K hHeld
 have hHeld := hHeld2
 clear hHeld2
 try simp only [Act.put, List.setIfInBounds_toArray, List.set_cons_zero, List.set_cons_succ]
 refine wpAnyH_ready (rs := [14]) (by kernel_rfl) (by simp) (AllReadyH.cons (o := { dst := some 29, op := .call { callee := .value (.func 14), args := #[.tmp 27, .tmp 28], argTypes := #[25, 25] }, type := 4, pos := "law.go:72", after := #[{ on := 12, ground := .data }, { on := 13, ground := .data }, { on := 13, ground := .chain }, { on := 11, ground := .guard }], guard := some (11, true) }) rfl (fun K hK => ?_) AllReadyH.nil)
 go_simp
 refine (HSM.out z13 g HA2.out HAP.out).mono ?_
 rintro e z14 ⟨rfl, hb⟩
 have HBC := Lib.hid (chain HBC.out hb)
 clear hb 
 go_simp
 refine hK.out _ _ (mkS _ HBC.out) (fun hHeld2 => ?_)
 clear hK K hHeld
 have hHeld := hHeld2
 clear hHeld2
 try simp only [Act.put, List.setIfInBounds_toArray, List.set_cons_zero, List.set_cons_succ]
 refine wpAnyH_take (i := 15) (oi := { dst := some 30, op := .pick (.tmp 26) (.tmp 29) (.const (.bool false)), type := 4, pos := "law.go:72", after := #[{ on := 11, ground := .data }, { on := 14, ground := .data }], guard := none }) (v := ?_) rfl (by kernel_rfl) (by kernel_rfl) (by kernel_rfl) (fun _ _ _ h => h) (Or.inl ⟨by rfl, ?_⟩) hHeld ?_
 rotate_left
 ·
  intro w hSw
  clear hSw
  go_simp
  try with_reducible rfl
 try simp only [Act.put, List.setIfInBounds_toArray, List.set_cons_zero, List.set_cons_succ]
 refine wpAnyH_take (i := 16) (oi := { dst := some 31, op := .move (.tmp 30), type := 4, pos := "law.go:72", after := #[{ on := 15, ground := .data }, { on := 14, ground := .chain }], guard := none }) (v := ?_) rfl (by kernel_rfl) (by kernel_rfl) (by kernel_rfl) (fun _ _ _ h => h) (Or.inl ⟨by rfl, ?_⟩) hHeld ?_
 rotate_left
 ·
  intro w hSw
  clear hSw
  go_simp
  try with_reducible rfl
 try simp only [Act.put, List.setIfInBounds_toArray, List.set_cons_zero, List.set_cons_succ]
 refine wpAnyH_ready (rs := [17]) (by kernel_rfl) (by simp) (AllReadyH.cons (o := { dst := some 32, op := .call { callee := .value (.func 38), args := #[.const (.int .u64 10), .const (.int .u64 0), .const (.int .u64 0), .const (.int .i64 8)], argTypes := #[40, 40, 40, 3] }, type := 44, pos := "law.go:72", after := #[{ on := 16, ground := .chain }, { on := 16, ground := .guard }], guard := some (16, true) }) rfl (fun K hK => ?_) AllReadyH.nil)
 go_simp
 refine (net0_any z14).mono ?_
 rintro e z17 ⟨rfl, hb⟩
 have HBC := Lib.hid (chain HBC.out hb)
 clear hb 
 go_simp
 refine hK.out _ _ (mkS _ HBC.out) (fun hHeld2 => ?_)
 clear hK K hHeld
 have hHeld := hHeld2
 clear hHeld2
 try simp only [Act.put, List.setIfInBounds_toArray, List.set_cons_zero, List.set_cons_succ]
 refine wpAnyH_ready (rs := [18]) (by kernel_rfl) (by simp) (AllReadyH.cons (o := { dst := some 33, op := .call { callee := .value (.func 37), args := #[.tmp 32, .const (.int .u32 64500)], argTypes := #[44, 22] }, type := 4, pos := "law.go:72", after := #[{ on := 17, ground := .data }, { on := 17, ground := .chain }, { on := 16, ground := .guard }], guard := some (16, true) }) rfl (fun K hK => ?_) AllReadyH.nil)
 go_simp
 refine (HL0.out z17).mono ?_
 rintro e z18 ⟨rfl, hb⟩
 have HBC := Lib.hid (chain HBC.out hb)
 clear hb 
 go_simp
 refine hK.out _ _ (mkS _ HBC.out) (fun hHeld2 => ?_)
 clear hK K hHeld
 have hHeld := hHeld2
 clear hHeld2
 try simp only [Act.put, List.setIfInBounds_toArray, List.set_cons_zero, List.set_cons_succ]
 refine wpAnyH_take (i := 19) (oi := { dst := some 34, op := .pick (.tmp 31) (.tmp 33) (.const (.bool false)), type := 4, pos := "law.go:72", after := #[{ on := 16, ground := .data }, { on := 18, ground := .data }], guard := none }) (v := ?_) rfl (by kernel_rfl) (by kernel_rfl) (by kernel_rfl) (fun _ _ _ h => h) (Or.inl ⟨by rfl, ?_⟩) hHeld ?_
 rotate_left
 ·
  intro w hSw
  clear hSw
  go_simp
  try with_reducible rfl
 try simp only [Act.put, List.setIfInBounds_toArray, List.set_cons_zero, List.set_cons_succ]
 refine wpAnyH_take (i := 20) (oi := { dst := some 35, op := .move (.tmp 34), type := 4, pos := "law.go:72", after := #[{ on := 19, ground := .data }, { on := 18, ground := .chain }], guard := none }) (v := ?_) rfl (by kernel_rfl) (by kernel_rfl) (by kernel_rfl) (fun _ _ _ h => h) (Or.inl ⟨by rfl, ?_⟩) hHeld ?_
 rotate_left
 ·
  intro w hSw
  clear hSw
  go_simp
  try with_reducible rfl
 try simp only [Act.put, List.setIfInBounds_toArray, List.set_cons_zero, List.set_cons_succ]
 refine wpAnyH_ready (rs := [21]) (by kernel_rfl) (by simp) (AllReadyH.cons (o := { dst := some 36, op := .call { callee := .value (.func 38), args := #[.const (.int .u64 10), .const (.int .u64 1), .const (.int .u64 0), .const (.int .i64 16)], argTypes := #[40, 40, 40, 3] }, type := 44, pos := "law.go:72", after := #[{ on := 20, ground := .chain }, { on := 20, ground := .guard }], guard := some (20, true) }) rfl (fun K hK => ?_) AllReadyH.nil)
 go_simp
 refine (net1_any z18).mono ?_
 rintro e z21 ⟨rfl, hb⟩
 have HBC := Lib.hid (chain HBC.out hb)
 clear hb 
 go_simp
 refine hK.out _ _ (mkS _ HBC.out) (fun hHeld2 => ?_)
 clear hK K hHeld
 have hHeld := hHeld2
 clear hHeld2
 try simp only [Act.put, List.setIfInBounds_toArray, List.set_cons_zero, List.set_cons_succ]
 refine wpAnyH_ready (rs := [22]) (by kernel_rfl) (by simp) (AllReadyH.cons (o := { dst := some 37, op := .call { callee := .value (.func 37), args := #[.tmp 36, .const (.int .u32 64500)], argTypes := #[44, 22] }, type := 4, pos := "law.go:72", after := #[{ on := 21, ground := .data }, { on := 21, ground := .chain }, { on := 20, ground := .guard }], guard := some (20, true) }) rfl (fun K hK => ?_) AllReadyH.nil)
 go_simp
 refine (HL1.out z21).mono ?_
 rintro e z22 ⟨rfl, hb⟩
 have HBC := Lib.hid (chain HBC.out hb)
 clear hb 
 go_simp
 refine hK.out _ _ (mkS _ HBC.out) (fun hHeld2 => ?_)
 clear hK K hHeld
 have hHeld := hHeld2
 clear hHeld2
 try simp only [Act.put, List.setIfInBounds_toArray, List.set_cons_zero, List.set_cons_succ]
 refine wpAnyH_take (i := 23) (oi := { dst := some 38, op := .pick (.tmp 35) (.tmp 37) (.const (.bool false)), type := 4, pos := "law.go:72", after := #[{ on := 20, ground := .data }, { on := 22, ground := .data }], guard := none }) (v := ?_) rfl (by kernel_rfl) (by kernel_rfl) (by kernel_rfl) (fun _ _ _ h => h) (Or.inl ⟨by rfl, ?_⟩) hHeld ?_
 rotate_left
 ·
  intro w hSw
  clear hSw
  go_simp
  try with_reducible rfl
 try simp only [Act.put, List.setIfInBounds_toArray, List.set_cons_zero, List.set_cons_succ]
 refine wpAnyH_take (i := 24) (oi := { dst := some 39, op := .move (.tmp 38), type := 4, pos := "law.go:72", after := #[{ on := 23, ground := .data }, { on := 22, ground := .chain }], guard := none }) (v := ?_) rfl (by kernel_rfl) (by kernel_rfl) (by kernel_rfl) (fun _ _ _ h => h) (Or.inl ⟨by rfl, ?_⟩) hHeld ?_
 rotate_left
 ·
  intro w hSw
  clear hSw
  go_simp
  try with_reducible rfl
 try simp only [Act.put, List.setIfInBounds_toArray, List.set_cons_zero, List.set_cons_succ]
 refine wpAnyH_ready (rs := [25]) (by kernel_rfl) (by simp) (AllReadyH.cons (o := { dst := some 40, op := .call { callee := .value (.func 38), args := #[.const (.int .u64 10), .const (.int .u64 1), .const (.int .u64 1), .const (.int .i64 24)], argTypes := #[40, 40, 40, 3] }, type := 44, pos := "law.go:72", after := #[{ on := 24, ground := .chain }, { on := 24, ground := .guard }], guard := some (24, true) }) rfl (fun K hK => ?_) AllReadyH.nil)
 go_simp
 refine (net2_any z22).mono ?_
 rintro e z25 ⟨rfl, hb⟩
 have HBC := Lib.hid (chain HBC.out hb)
 clear hb 
 go_simp
 refine hK.out _ _ (mkS _ HBC.out) (fun hHeld2 => ?_)
 clear hK K hHeld
 have hHeld := hHeld2
 clear hHeld2
 try simp only [Act.put, List.setIfInBounds_toArray, List.set_cons_zero, List.set_cons_succ]
 refine wpAnyH_ready (rs := [26]) (by kernel_rfl) (by simp) (AllReadyH.cons (o := { dst := some 41, op := .call { callee := .value (.func 37), args := #[.tmp 40, .const (.int .u32 64500)], argTypes := #[44, 22] }, type := 4, pos := "law.go:72", after := #[{ on := 25, ground := .data }, { on := 25, ground := .chain }, { on := 24, ground := .guard }], guard := some (24, true) }) rfl (fun K hK => ?_) AllReadyH.nil)
 go_simp
 refine (HL2.out z25).mono ?_
 rintro e z26 ⟨rfl, hb⟩
 have HBC := Lib.hid (chain HBC.out hb)
 clear hb 
 go_simp
 refine hK.out _ _ (mkS _ HBC.out) (fun hHeld2 => ?_)
 clear hK K hHeld
 have hHeld := hHeld2
 clear hHeld2
 try simp only [Act.put, List.setIfInBounds_toArray, List.set_cons_zero, List.set_cons_succ]
 refine wpAnyH_take (i := 27) (oi := { dst := some 42, op := .unOp .not 4 (.tmp 41), type := 4, pos := "law.go:72", after := #[{ on := 26, ground := .data }, { on := 24, ground := .guard }], guard := some (24, true) }) (v := ?_) rfl (by kernel_rfl) (by kernel_rfl) (by kernel_rfl) (fun _ _ _ h => h) (Or.inl ⟨by rfl, ?_⟩) hHeld ?_
 rotate_left
 ·
  intro w hSw
  clear hSw
  go_simp
  try with_reducible rfl
 try simp only [Act.put, List.setIfInBounds_toArray, List.set_cons_zero, List.set_cons_succ]
 refine wpAnyH_take (i := 28) (oi := { dst := some 43, op := .pick (.tmp 39) (.tmp 42) (.const (.bool false)), type := 4, pos := "law.go:72", after := #[{ on := 24, ground := .data }, { on := 27, ground := .data }], guard := none }) (v := ?_) rfl (by kernel_rfl) (by kernel_rfl) (by kernel_rfl) (fun _ _ _ h => h) (Or.inl ⟨by rfl, ?_⟩) hHeld ?_
 rotate_left
 ·
  intro w hSw
  clear hSw
  go_simp
  try with_reducible rfl
 try simp only [Act.put, List.setIfInBounds_toArray, List.set_cons_zero, List.set_cons_succ]
 refine wpAnyH_take (i := 29) (oi := { dst := some 44, op := .move (.tmp 43), type := 4, pos := "law.go:72", after := #[{ on := 28, ground := .data }, { on := 26, ground := .chain }], guard := none }) (v := ?_) rfl (by kernel_rfl) (by kernel_rfl) (by kernel_rfl) (fun _ _ _ h => h) (Or.inl ⟨by rfl, ?_⟩) hHeld ?_
 rotate_left
 ·
  intro w hSw
  clear hSw
  go_simp
  try with_reducible rfl
 try simp only [Act.put, List.setIfInBounds_toArray, List.set_cons_zero, List.set_cons_succ]
 refine wpAnyH_ready (rs := [30]) (by kernel_rfl) (by simp) (AllReadyH.cons (o := { dst := some 45, op := .call { callee := .value (.func 38), args := #[.const (.int .u64 11), .const (.int .u64 0), .const (.int .u64 0), .const (.int .i64 16)], argTypes := #[40, 40, 40, 3] }, type := 44, pos := "law.go:72", after := #[{ on := 29, ground := .chain }, { on := 29, ground := .guard }], guard := some (29, true) }) rfl (fun K hK => ?_) AllReadyH.nil)
 go_simp
 refine (net3_any z26).mono ?_
 rintro e z30 ⟨rfl, hb⟩
 have HBC := Lib.hid (chain HBC.out hb)
 clear hb 
 go_simp
 refine hK.out _ _ (mkS _ HBC.out) (fun hHeld2 => ?_)
 clear hK K hHeld
 have hHeld := hHeld2
 clear hHeld2
 try simp only [Act.put, List.setIfInBounds_toArray, List.set_cons_zero, List.set_cons_succ]
 refine wpAnyH_ready (rs := [31]) (by kernel_rfl) (by simp) (AllReadyH.cons (o := { dst := some 46, op := .call { callee := .value (.func 37), args := #[.tmp 45, .const (.int .u32 64500)], argTypes := #[44, 22] }, type := 4, pos := "law.go:72", after := #[{ on := 30, ground := .data }, { on := 30, ground := .chain }, { on := 29, ground := .guard }], guard := some (29, true) }) rfl (fun K hK => ?_) AllReadyH.nil)
 go_simp
 refine (HL3.out z30).mono ?_
 rintro e z31 ⟨rfl, hb⟩
 have HBC := Lib.hid (chain HBC.out hb)
 clear hb 
 go_simp
 refine hK.out _ _ (mkS _ HBC.out) (fun hHeld2 => ?_)
 clear hK K hHeld
 have hHeld := hHeld2
 clear hHeld2
 try simp only [Act.put, List.setIfInBounds_toArray, List.set_cons_zero, List.set_cons_succ]
 refine wpAnyH_take (i := 32) (oi := { dst := some 47, op := .unOp .not 4 (.tmp 46), type := 4, pos := "law.go:72", after := #[{ on := 31, ground := .data }, { on := 29, ground := .guard }], guard := some (29, true) }) (v := ?_) rfl (by kernel_rfl) (by kernel_rfl) (by kernel_rfl) (fun _ _ _ h => h) (Or.inl ⟨by rfl, ?_⟩) hHeld ?_
 rotate_left
 ·
  intro w hSw
  clear hSw
  go_simp
  try with_reducible rfl
 try simp only [Act.put, List.setIfInBounds_toArray, List.set_cons_zero, List.set_cons_succ]
 refine wpAnyH_take (i := 33) (oi := { dst := some 48, op := .pick (.tmp 44) (.tmp 47) (.const (.bool false)), type := 4, pos := "law.go:72", after := #[{ on := 29, ground := .data }, { on := 32, ground := .data }], guard := none }) (v := ?_) rfl (by kernel_rfl) (by kernel_rfl) (by kernel_rfl) (fun _ _ _ h => h) (Or.inl ⟨by rfl, ?_⟩) hHeld ?_
 rotate_left
 ·
  intro w hSw
  clear hSw
  go_simp
  try with_reducible rfl
 try simp only [Act.put, List.setIfInBounds_toArray, List.set_cons_zero, List.set_cons_succ]
 refine wpAnyH_take (i := 34) (oi := { dst := some 49, op := .move (.tmp 48), type := 4, pos := "law.go:72", after := #[{ on := 33, ground := .data }, { on := 31, ground := .chain }], guard := none }) (v := ?_) rfl (by kernel_rfl) (by kernel_rfl) (by kernel_rfl) (fun _ _ _ h => h) (Or.inl ⟨by rfl, ?_⟩) hHeld ?_
 rotate_left
 ·
  intro w hSw
  clear hSw
  go_simp
  try with_reducible rfl
 try simp only [Act.put, List.setIfInBounds_toArray, List.set_cons_zero, List.set_cons_succ]
 refine wpAnyH_ready (rs := [35]) (by kernel_rfl) (by simp) (AllReadyH.cons (o := { dst := some 50, op := .call { callee := .value (.func 38), args := #[.const (.int .u64 10), .const (.int .u64 0), .const (.int .u64 0), .const (.int .i64 8)], argTypes := #[40, 40, 40, 3] }, type := 44, pos := "law.go:72", after := #[{ on := 34, ground := .chain }, { on := 34, ground := .guard }], guard := some (34, true) }) rfl (fun K hK => ?_) AllReadyH.nil)
 go_simp
 refine (net0_any z31).mono ?_
 rintro e z35 ⟨rfl, hb⟩
 have HBC := Lib.hid (chain HBC.out hb)
 clear hb 
 go_simp
 refine hK.out _ _ (mkS _ HBC.out) (fun hHeld2 => ?_)
 clear hK K hHeld
 have hHeld := hHeld2
 clear hHeld2
 try simp only [Act.put, List.setIfInBounds_toArray, List.set_cons_zero, List.set_cons_succ]
 refine wpAnyH_ready (rs := [36]) (by kernel_rfl) (by simp) (AllReadyH.cons (o := { dst := some 51, op := .call { callee := .value (.func 37), args := #[.tmp 50, .const (.int .u32 64501)], argTypes := #[44, 22] }, type := 4, pos := "law.go:72", after := #[{ on := 35, ground := .data }, { on := 35, ground := .chain }, { on := 34, ground := .guard }], guard := some (34, true) }) rfl (fun K hK => ?_) AllReadyH.nil)
 go_simp
 refine (HL4.out z35).mono ?_
 rintro e z36 ⟨rfl, hb⟩
 have HBC := Lib.hid (chain HBC.out hb)
 clear hb 
 go_simp
 refine hK.out _ _ (mkS _ HBC.out) (fun hHeld2 => ?_)
 clear hK K hHeld
 have hHeld := hHeld2
 clear hHeld2
 try simp only [Act.put, List.setIfInBounds_toArray, List.set_cons_zero, List.set_cons_succ]
 refine wpAnyH_take (i := 37) (oi := { dst := some 52, op := .unOp .not 4 (.tmp 51), type := 4, pos := "law.go:72", after := #[{ on := 36, ground := .data }, { on := 34, ground := .guard }], guard := some (34, true) }) (v := ?_) rfl (by kernel_rfl) (by kernel_rfl) (by kernel_rfl) (fun _ _ _ h => h) (Or.inl ⟨by rfl, ?_⟩) hHeld ?_
 rotate_left
 ·
  intro w hSw
  clear hSw
  go_simp
  try with_reducible rfl
 try simp only [Act.put, List.setIfInBounds_toArray, List.set_cons_zero, List.set_cons_succ]
 refine wpAnyH_take (i := 38) (oi := { dst := some 53, op := .pick (.tmp 49) (.tmp 52) (.const (.bool false)), type := 4, pos := "law.go:72", after := #[{ on := 34, ground := .data }, { on := 37, ground := .data }], guard := none }) (v := ?_) rfl (by kernel_rfl) (by kernel_rfl) (by kernel_rfl) (fun _ _ _ h => h) (Or.inl ⟨by rfl, ?_⟩) hHeld ?_
 rotate_left
 ·
  intro w hSw
  clear hSw
  go_simp
  try with_reducible rfl
 try simp only [Act.put, List.setIfInBounds_toArray, List.set_cons_zero, List.set_cons_succ]
 refine wpAnyH_take (i := 39) (oi := { dst := some 0, op := .assign (.tmp 53), type := 4, pos := "law.go:72", after := #[{ on := 38, ground := .data }, { on := 36, ground := .chain }, { on := 0, ground := .phase }, { on := 1, ground := .phase }, { on := 2, ground := .phase }, { on := 3, ground := .phase }, { on := 4, ground := .phase }, { on := 5, ground := .phase }, { on := 6, ground := .phase }, { on := 7, ground := .phase }, { on := 8, ground := .phase }, { on := 9, ground := .phase }, { on := 10, ground := .phase }, { on := 11, ground := .phase }, { on := 12, ground := .phase }, { on := 13, ground := .phase }, { on := 14, ground := .phase }, { on := 15, ground := .phase }, { on := 16, ground := .phase }, { on := 17, ground := .phase }, { on := 18, ground := .phase }, { on := 19, ground := .phase }, { on := 20, ground := .phase }, { on := 21, ground := .phase }, { on := 22, ground := .phase }, { on := 23, ground := .phase }, { on := 24, ground := .phase }, { on := 25, ground := .phase }, { on := 26, ground := .phase }, { on := 27, ground := .phase }, { on := 28, ground := .phase }, { on := 29, ground := .phase }, { on := 30, ground := .phase }, { on := 31, ground := .phase }, { on := 32, ground := .phase }, { on := 33, ground := .phase }, { on := 34, ground := .phase }, { on := 35, ground := .phase }, { on := 36, ground := .phase }, { on := 37, ground := .phase }, { on := 38, ground := .phase }], guard := none }) (v := ?_) rfl (by kernel_rfl) (by kernel_rfl) (by kernel_rfl) (fun _ _ _ h => h) (Or.inl ⟨by rfl, ?_⟩) hHeld ?_
 rotate_left
 ·
  intro w hSw
  clear hSw
  go_simp
  try with_reducible rfl
 try simp only [Act.put, List.setIfInBounds_toArray, List.set_cons_zero, List.set_cons_succ]
 refine wpAnyH_done (by kernel_rfl) ?_ _
 go_wp2_with fail
 go_ret
 exact ⟨rfl, chain HB3.out HBC.out⟩
end Ro
end Go.Proofs.Ythfgdgcdicacpaa
