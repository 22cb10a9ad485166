import Derived.Test.YtcgffkkfeimifaaGreatDoorRwCG
import Derived.Test.YtcgffkkfeimifaaGreatDoorRxAD
import Derived.Test.YtcgffkkfeimifaaGreatDoorSgJP
import Derived.Test.YtcgffkkfeimifaaGreatDoorOcRLQ
import Derived.Test.YtcgffkkfeimifaaGreatDoorMkRfh
import Derived.Deep.RegionHeld3
namespace Go.Proofs.YtcgffkkfeimifaaGreatDoor
open Go.RowKit Sha Ots
set_option linter.unusedVariables false
set_option linter.unusedSimpArgs false
theorem rverify_vf (R : List UInt8) (hR : R.length = 16) (x : Int) (D : List UInt8) (A : Option Addr) (c : Nat) (hl : D.length ≤ 100000) (hc : D.length ≤ c) (hA : A = none → c = 0) (n : Int) (CA PA : Option Addr) (cs ps : List (List UInt8)) (cc pc : Nat) (w : World) (hsrc : SrcAt A D w) (hsc : Shorts CA cs w) (hsp : Shorts PA ps w) :
  Calls Tryz.prog 50 #[.agg (pkc R x), .slice A D.length c, .agg #[.int .i64 n, .slice CA cs.length cc, .slice PA ps.length pc]] w fun e w' => e = .returned (.bool (vf7 D cs ps R x n)) ∧ Below w.heap.size w w' :=
 verify_ref_all R hR x D A c hl hc hA n CA PA cs ps cc pc w hsrc hsc hsp
namespace Sg
open Oc
set_option maxRecDepth 100000 in
set_option maxHeartbeats 16000000 in
theorem verify_rref (l : Rl) (p : Mp) (hz : l.iss.size ≤ maxLen) (hwf : Wf l) (R : List UInt8) (hR : R.length = 16) (x : Int) (w : World) (h : RlAt l p w) :
  Calls Tryz.prog 22 #[.agg (rlC l p), .agg (pkc R x)] w fun e w' => e = .returned (.int .i64 (vfV l R x)) ∧ Below w.heap.size w w' := by
 have hck := fun (V : World) (hb : Below w.heap.size w V) => lchk_ref l p V hz (h.on hb).ser
 have hva := fun (h0 : rvC l = 0) (V : World) (hb : Below w.heap.size w V) => value_ref l p (hwf.fit h0) V (h.on hb).ser
 have hpt := fun (h0 : rvC l = 0) (V : World) (x y : Value) (hat : At (fun _ => True) V (rbv (rbOf l)) x y) => rput_all 5000 (rbv (rbOf l)) (by have a := (fit_ck (hwf.fit h0)).2.2.1; have b := cnt_enc (rbv (rbOf l)); omega) (Nat.le_refl _) (by have a := (fit_ck (hwf.fit h0)).2.2.1; have b := siz_eq (rbv (rbOf l)); omega) V x y hat
 have hln := fun (h0 : rvC l = 0) => (show (enc (rbv (rbOf l))).length ≤ 100000 by have := (fit_ck (hwf.fit h0)).2.2.1; omega)
 have hvf := fun (h0 : rvC l = 0) (V : World) (hb : Below w.heap.size w V) (A : Option Addr) (c : Nat) (h1 : (enc (rbv (rbOf l))).length ≤ c) (h2 : A = none → c = 0) (h3 : SrcAt A (enc (rbv (rbOf l))) V) => rverify_vf R hR x (enc (rbv (rbOf l))) A c (hln h0) h1 h2 l.sg.idx p.CA p.PA l.sg.cs l.sg.ps p.cc p.pc V h3 (shorts_of (h.on hb).cs) (shorts_of (h.on hb).ps)
 have hsz : (Tryz.prog.info? 43).map (·.size) = some (bvals R ++ [Value.int .i64 x]).length := by
  have h1 := sz17 R x hR
  unfold pkc at h1
  rw [List.size_toArray] at h1
  exact h1
 unfold vfV
 obtain ⟨v7, hv7⟩ : ∃ v7, vf7 (enc (rbv (rbOf l))) l.sg.cs l.sg.ps R x l.sg.idx = v7 := ⟨_, rfl⟩
 obtain ⟨oo, hoo⟩ : ∃ oo, rbv (rbOf l) = oo := ⟨_, rfl⟩
 obtain ⟨E, hE⟩ : ∃ E, rvC l = E := ⟨_, rfl⟩
 rw [hv7] at hvf ⊢
 rw [hoo] at hva hpt hvf
 rw [hE] at hck hva hpt hvf ⊢
 unfold pkc at hvf ⊢
 obtain ⟨PKL, hPK⟩ : ∃ PKL, bvals R ++ [Value.int .i64 x] = PKL := ⟨_, rfl⟩
 rw [hPK] at hvf hsz ⊢
 unfold RpPost at hpt
 unfold rlC at hck hva ⊢
 obtain ⟨c0, g0⟩ : ∃ c : Value, .string l.iss = c := ⟨_, rfl⟩
 obtain ⟨c1, g1⟩ : ∃ c : Value, .int .u64 l.num = c := ⟨_, rfl⟩
 obtain ⟨c2, g2⟩ : ∃ c : Value, .int .i64 l.fr = c := ⟨_, rfl⟩
 obtain ⟨c3, g3⟩ : ∃ c : Value, .int .i64 l.tt = c := ⟨_, rfl⟩
 obtain ⟨c4, g4⟩ : ∃ c : Value, .slice p.SA l.ser.length p.sc = c := ⟨_, rfl⟩
 obtain ⟨c5, g5⟩ : ∃ c : Value, .int .i64 l.sg.idx = c := ⟨_, rfl⟩
 obtain ⟨c6, g6⟩ : ∃ c : Value, .slice p.CA l.sg.cs.length p.cc = c := ⟨_, rfl⟩
 obtain ⟨c7, g7⟩ : ∃ c : Value, .slice p.PA l.sg.ps.length p.pc = c := ⟨_, rfl⟩
 rw [g5, g6, g7] at hvf
 rw [g0, g1, g2, g3, g4, g5, g6, g7] at hck hva ⊢
 have HCK := Lib.hid hck
 have HVA := Lib.hid hva
 have HPT := Lib.hid hpt
 have HVF := Lib.hid hvf
 have HSZ := Lib.hid hsz
 obtain ⟨hw0, hra, hrb⟩ := two_rows w (.cells #[c0, c1, c2, c3, c4, c5, c6, c7] 32) (.cells PKL.toArray 43)
 have HRL0 := Lib.hid hra
 have HRK0 := Lib.hid hrb
 have HB0 := Lib.hid hw0
 clear hck hva hpt hvf hsz hln hw0 hra hrb hv7 hoo hE hPK g0 g1 g2 g3 g4 g5 g6 g7 hz hwf hR h
 go_enter Tryz.func22, Tryz.ntmps22
 go_upto_region 1 with (fail)
 generalize World.alloc (World.alloc w _) _ = V0 at HRL0 HRK0 HB0 ⊢
 obtain ⟨hl0, f0, f1, f2, f3, f4, f5, f6, f7⟩ := facts8 HRL0.out
 go_wp2_with fail
 refine (HCK.out V0 HB0.out).mono ?_
 rintro e V1 ⟨rfl, hb⟩
 have HRL1 := Lib.hid (row_on HRL0.out hb)
 have HRK1 := Lib.hid (row_on HRK0.out hb)
 have HB1 := Lib.hid (chain HB0.out hb)
 clear hb hl0 f0 f1 f2 f3 f4 f5 f6 f7 HRL0 HRK0 HB0 HCK
 by_cases h0 : E = 0
 ·
  have HVA1 := Lib.hid (HVA.out h0)
  have HPT1 := Lib.hid (HPT.out h0)
  have HVF1 := Lib.hid (HVF.out h0)
  clear HVA HPT HVF
  subst h0
  go_upto_region 4 with (fail)
  have mkS : ∀ z : World, z.heap[w.heap.size]? = some (.cells #[c0, c1, c2, c3, c4, c5, c6, c7] 32 (0, 0)) → z.heap[w.heap.size + 1]? = some (.cells PKL.toArray 43 (0, 0)) → (fun (z : World) => z.rangeAt w.heap.size 0 [c0, c1, c2, c3, c4, c5, c6, c7] ∧ z.rangeAt w.heap.size 5 [c5, c6, c7] ∧ z.rangeAt (w.heap.size + 1) 0 PKL) z := fun z h1 h2 => ⟨row_range (cs := [c0, c1, c2, c3, c4, c5, c6, c7]) h1, range3 h1, row_range (cs := PKL) h2⟩
  refine wp_region_held_drew (S := fun (z : World) => z.rangeAt w.heap.size 0 [c0, c1, c2, c3, c4, c5, c6, c7] ∧ z.rangeAt w.heap.size 5 [c5, c6, c7] ∧ z.rangeAt (w.heap.size + 1) 0 PKL) (by kernel_rfl) (mkS _ (row_on HRL1.out (Below.refl _ _).drew) (row_on HRK1.out (Below.refl _ _).drew)) (fun hHeld => ?_)
  generalize hU : World.drew V1 = U at hHeld ⊢
  have hbU : Below V1.heap.size V1 U := by rw [← hU]; exact (Below.refl _ _).drew
  clear hU
  have HRL := Lib.hid (row_on HRL1.out hbU)
  have HRK := Lib.hid (row_on HRK1.out hbU)
  have HWU := Lib.hid (chain HB1.out hbU)
  have HB_U := Lib.hid (Below.refl U.heap.size U)
  clear hbU HRL1 HRK1 HB1
  refine wpAnyH_take (i := 0) (oi := { dst := some 11, op := .load 43 (.tmp 3), type := 43, pos := "ref.go:114", after := #[], guard := none }) (v := .agg (PKL).toArray) rfl (by kernel_rfl) (by kernel_rfl) (by kernel_rfl) (fun _ _ _ h => h) (yieldsIf_load_mid (by rfl) _ _ rfl _ _ rfl (PKL) _ (fun w hSw => hSw.2.2) Tryz.underlying43 rfl HSZ.out) hHeld ?_
  try simp only [Act.put, List.setIfInBounds_toArray, List.set_cons_zero, List.set_cons_succ]
  refine wpAnyH_take (i := 1) (oi := { dst := some 12, op := .load 32 (.tmp 2), type := 32, pos := "ref.go:114", after := #[], guard := none }) (v := .agg ([c0, c1, c2, c3, c4, c5, c6, c7]).toArray) rfl (by kernel_rfl) (by kernel_rfl) (by kernel_rfl) (fun _ _ _ h => h) (yieldsIf_load_mid (by rfl) _ _ rfl _ _ rfl ([c0, c1, c2, c3, c4, c5, c6, c7]) _ (fun w hSw => hSw.1) Tryz.underlying32 rfl (sz8l _ rfl)) hHeld ?_
  try simp only [Act.put, List.setIfInBounds_toArray, List.set_cons_zero, List.set_cons_succ]
  refine wpAnyH_take (i := 4) (oi := { dst := some 15, op := .fieldAddr 32 (.tmp 2) 4, type := 0, pos := "ref.go:114", after := #[], guard := none }) (v := ?_) rfl (by kernel_rfl) (by kernel_rfl) (by kernel_rfl) (fun _ _ _ h => h) (Or.inl ⟨by rfl, ?_⟩) hHeld ?_
  rotate_left
  ·
   intro w hSw
   clear hSw
   go_simp
   try with_reducible rfl
  try simp only [Act.put, List.setIfInBounds_toArray, List.set_cons_zero, List.set_cons_succ]
  refine wpAnyH_take (i := 5) (oi := { dst := some 16, op := .load 30 (.tmp 15), type := 30, pos := "ref.go:114", after := #[{ on := 4, ground := .data }], guard := none }) (v := .agg ([c5, c6, c7]).toArray) rfl (by kernel_rfl) (by kernel_rfl) (by kernel_rfl) (fun _ _ _ h => h) (yieldsIf_load_mid (by rfl) _ _ rfl _ _ rfl ([c5, c6, c7]) _ (fun w hSw => hSw.2.1) Tryz.underlying30 rfl (sz3s _ _ _)) hHeld ?_
  try simp only [Act.put, List.setIfInBounds_toArray, List.set_cons_zero, List.set_cons_succ]
  refine wpAnyH_ready (rs := [2]) (by kernel_rfl) (by simp) (AllReadyH.cons (o := { dst := some 13, op := .call { callee := .value (.func 47), args := #[.tmp 12], argTypes := #[32] }, type := 68, pos := "ref.go:114", after := #[{ on := 1, ground := .data }], guard := none }) rfl (fun K hK => ?_) AllReadyH.nil)
  go_simp
  refine (HVA1.out U (chain HWU.out HB_U.out)).mono ?_
  rintro e z2 ⟨x2, y2, rfl, hat, hb⟩
  have HB_z2 := Lib.hid (chain HB_U.out hb)
  have HPT2 := Lib.hid (HPT1.out z2 x2 y2 hat)
  obtain ⟨A2, m2, k2, B2, n2, q2, rfl, rfl⟩ := hat.slices
  unfold cell3 at HPT2 ⊢
  clear hat hb
  go_simp
  refine hK.out _ _ (mkS _ (row_on HRL.out HB_z2.out) (row_on HRK.out HB_z2.out)) (fun hHeld2 => ?_)
  clear hK K hHeld
  have hHeld := hHeld2
  clear hHeld2
  try simp only [Act.put, List.setIfInBounds_toArray, List.set_cons_zero, List.set_cons_succ]
  refine wpAnyH_ready (rs := [3]) (by kernel_rfl) (by simp) (AllReadyH.cons (o := { dst := some 14, op := .call { callee := .value (.func 46), args := #[.tmp 13], argTypes := #[68] }, type := 34, pos := "ref.go:114", after := #[{ on := 2, ground := .data }, { on := 2, ground := .chain }], guard := none }) rfl (fun K hK => ?_) AllReadyH.nil)
  go_simp
  refine HPT2.out.mono ?_
  rintro e z3 ⟨v3, rfl, hown, hb⟩
  obtain ⟨A4, d4, rfl, h1, h2, _, hs4⟩ := bytes_own hown
  have HS4 := Lib.hid hs4
  have HC4 := Lib.hid (And.intro h1 h2)
  have HB_z3 := Lib.hid (chain HB_z2.out hb)
  clear hown hb h1 h2 hs4
  go_simp
  refine hK.out _ _ (mkS _ (row_on HRL.out HB_z3.out) (row_on HRK.out HB_z3.out)) (fun hHeld2 => ?_)
  clear hK K hHeld
  have hHeld := hHeld2
  clear hHeld2
  try simp only [Act.put, List.setIfInBounds_toArray, List.set_cons_zero, List.set_cons_succ]
  refine wpAnyH_ready (rs := [6]) (by kernel_rfl) (by simp) (AllReadyH.cons (o := { dst := some 17, op := .call { callee := .value (.func 50), args := #[.tmp 11, .tmp 14, .tmp 16], argTypes := #[43, 34, 30] }, type := 4, pos := "ref.go:114", after := #[{ on := 0, ground := .data }, { on := 3, ground := .data }, { on := 5, ground := .data }, { on := 3, ground := .chain }], guard := none }) rfl (fun K hK => ?_) AllReadyH.nil)
  go_simp
  refine (HVF1.out z3 (chain HWU.out HB_z3.out) A4 d4 HC4.out.1 HC4.out.2 HS4.out).mono ?_
  rintro e z6 ⟨rfl, hb⟩
  have HB_z6 := Lib.hid (chain HB_z3.out hb)
  clear hb
  go_simp
  refine hK.out _ _ (mkS _ (row_on HRL.out HB_z6.out) (row_on HRK.out HB_z6.out)) (fun hHeld2 => ?_)
  clear hK K hHeld
  have hHeld := hHeld2
  clear hHeld2
  try simp only [Act.put, List.setIfInBounds_toArray, List.set_cons_zero, List.set_cons_succ]
  refine wpAnyH_take (i := 7) (oi := { dst := some 18, op := .unOp .not 4 (.tmp 17), type := 4, pos := "ref.go:114", after := #[{ on := 6, ground := .data }], guard := none }) (v := ?_) rfl (by kernel_rfl) (by kernel_rfl) (by kernel_rfl) (fun _ _ _ h => h) (Or.inl ⟨by rfl, ?_⟩) hHeld ?_
  rotate_left
  ·
   intro w hSw
   clear hSw
   go_simp
   try with_reducible rfl
  try simp only [Act.put, List.setIfInBounds_toArray, List.set_cons_zero, List.set_cons_succ]
  refine wpAnyH_done (by kernel_rfl) ?_ _
  have HB9 := Lib.hid (chain HWU.out HB_z6.out)
  clear mkS
  cases v7 with
  | true =>
   go_wp2_with fail
   refine bodyPost_ret (v := .int .i64 0) (by simp [results, Tryz.results22, go_sem]) rfl ⟨by simp, HB9.out⟩
  | false =>
   go_wp2_with fail
   refine bodyPost_ret (v := .int .i64 22) (by simp [results, Tryz.results22, go_sem]) rfl ⟨by simp, HB9.out⟩
 ·
  clear HVA HPT HVF
  go_wp2_with fail
  refine bodyPost_ret (v := .int .i64 E) (by simp [results, Tryz.results22, go_sem]) rfl ⟨by first | rfl | rw [if_neg h0], HB1.out⟩
end Sg
end Go.Proofs.YtcgffkkfeimifaaGreatDoor
namespace Go.Proofs.YtcgffkkfeimifaaGreatDoor
open Go.RowKit Sha Ots
set_option linter.unusedVariables false
set_option linter.unusedSimpArgs false
namespace Sg
open Oc
def Sg7Post (i7 e7 : Int) (nb np : Nat) (cs ps : List (List UInt8)) (w : World) (e : Ending) (w' : World) : Prop := ∃ B cb PA pc, e = .returned (.tuple #[.agg #[.int .i64 i7, .slice B nb cb, .slice PA np pc], .int .i64 e7]) ∧ Shs B cs w' ∧ Shs PA ps w' ∧ Below w.heap.size w w'
theorem sr_pos : ∀ (xs : List Int) (a : Int), 0 ≤ a → srB a xs = true → ∀ x ∈ xs, 0 < x
 | [], _, _, _, x, hx => by cases hx
 | y :: r, a, ha, h, x, hx => by
  unfold srB at h
  simp only [Bool.and_eq_true, decide_eq_true_eq] at h
  rcases List.mem_cons.1 hx with rfl | hx
  ·
   omega
  ·
   exact sr_pos r y (by omega) h.2 x hx
theorem nums_nz {A : Option Addr} {xs : List Int} {V : World} {X : Nat} {T : TypeId} {fr : Nat × Nat} (h : Nums A xs V) (hr : V.heap[X]? = some (.cells #[Value.string ⟨#[]⟩, .int .u64 0, .int .i64 0, .int .i64 0, .slice none 0 0, .int .i64 0, .slice none 0 0, .slice none 0 0] T fr)) (hp : ∀ x ∈ xs, 0 < x) : ∀ g o, A = some ⟨g, o, none⟩ → xs ≠ [] → g ≠ X := fun g o e hne e2 => by
 cases xs with
 | nil => exact hne rfl
 | cons x r =>
  obtain ⟨g2, o2, e3, hc⟩ := h.row 0 x rfl
  have hx := hp x (List.mem_cons_self ..)
  rw [e] at e3
  injection e3 with e4
  injection e4 with e5 e6
  subst e5 e2
  rw [cell_of_row _ _ _ _ _ _ hr, ← Array.getElem?_toList] at hc
  have hm := List.mem_of_getElem? hc
  simp at hm
  omega
theorem sign7_kit (l : Rl) (seed : List UInt8) (hs : seed.length = 16) (h n : Int) (D : List UInt8) (hD : D = enc (rbv (rbOf l))) (hl : D.length ≤ 100000) (h0 : rvC (sgn0 l) = 0) :
  ∃ (i7 e7 : Int) (nb np : Nat) (cs ps : List (List UInt8)), (∀ (V : World) (A : Option Addr) (c : Nat), D.length ≤ c → (A = none → c = 0) → SrcAt A D V → Calls Tryz.prog 45 #[.agg (bcells seed), .int .i64 h, .int .i64 n, .slice A D.length c] V (Sg7Post i7 e7 nb np cs ps V)) ∧
   (cs.length = nb ∧ ps.length = np ∧ nb ≤ 100000 ∧ np ≤ 100000) ∧ sgR l seed h n = (if e7 = 0 then ({ l with sg := ⟨i7, cs, ps⟩ }, 0) else (rl0, 2)) ∧ (e7 = 0 ∨ e7 = 2) := by
 by_cases hg : 0 ≤ h ∧ h ≤ 4 ∧ 0 ≤ n ∧ n < ((2 ^ h.toNat : Nat) : Int)
 ·
  refine ⟨(n.toNat : Int), 0, 35, h.toNat, sgn (msd seed n.toNat) D, pth seed 0 n.toNat h.toNat, fun V A c h1 h2 h3 => ?_, ⟨sgn35 _ _, pth_length _ _ _ _, by decide, by omega⟩, ?_, .inl rfl⟩
  ·
   have k := sign_ref_yes seed hs h.toNat n.toNat (by omega) (by omega) D A c hl h1 h2 V h3
   have e1 : (h.toNat : Int) = h := by omega
   have e2 : (n.toNat : Int) = n := by omega
   rw [e1] at k
   rw [show (.int .i64 n : Value) = .int .i64 (n.toNat : Int) by rw [e2]]
   exact k.mono fun e z ⟨B, cb, PA, pc, he, a, b, c⟩ => ⟨B, cb, PA, pc, he, shs_from a, shs_from b, c⟩
  ·
   unfold sgR
   rw [if_pos h0, if_pos hg, if_pos rfl, hD]
 ·
  refine ⟨0, 2, 0, 0, [], [], fun V A c h1 h2 h3 => ?_, ⟨rfl, rfl, by decide, by decide⟩, ?_, .inr rfl⟩
  ·
   exact (sign_ref_bad seed h n _ hg V).mono fun e z ⟨he, hb⟩ => ⟨none, 0, none, 0, he, shs_nil rfl _ _, shs_nil rfl _ _, hb⟩
  ·
   unfold sgR
   rw [if_pos h0, if_neg hg, if_neg (by decide)]
set_option maxRecDepth 100000 in
set_option maxHeartbeats 16000000 in
theorem sign_rref (l : Rl) (p : Mp) (hz : l.iss.size ≤ maxLen) (hwf : Wf l) (hcp : Caps p) (seed : List UInt8) (hs : seed.length = 16) (h n : Int) (w : World) (hat : RlAt l p w) :
  Calls Tryz.prog 20 #[.agg (rlC l p), .agg (bcells seed), .int .i64 h, .int .i64 n] w (RvdPost (sgR l seed h n) w) := by
 have hwf0 : Wf (sgn0 l) := ⟨hwf.num, hwf.ser, fun x hx => (by cases hx), fun x hx => (by cases hx)⟩
 have htw := fun (V : World) (hb : Below w.heap.size w V) => rtwin_ref l p V (hat.on hb) hcp
 have hck := fun (V : World) (m : Mp) (hn : Nums m.SA l.ser V) => lchk_ref (sgn0 l) ⟨m.SA, m.sc, none, 0, none, 0⟩ V hz hn
 have hva := fun (h0 : rvC (sgn0 l) = 0) (V : World) (m : Mp) (hn : Nums m.SA l.ser V) => value_ref (sgn0 l) ⟨m.SA, m.sc, none, 0, none, 0⟩ (hwf0.fit h0) V hn
 have hob : rbv (rbOf (sgn0 l)) = rbv (rbOf l) := rfl
 rw [hob] at hva
 have hfc := fun (h0 : rvC (sgn0 l) = 0) => (show (enc (rbv (rbOf l))).length ≤ 65536 by have := (fit_ck (hwf0.fit h0)).2.2.1; rw [hob] at this; omega)
 have hpt := fun (h0 : rvC (sgn0 l) = 0) (V : World) (x y : Value) (hat : At (fun _ => True) V (rbv (rbOf l)) x y) => rput_all 5000 (rbv (rbOf l)) (by have a := (fit_ck (hwf0.fit h0)).2.2.1; rw [hob] at a; have b := cnt_enc (rbv (rbOf l)); omega) (Nat.le_refl _) (by have a := (fit_ck (hwf0.fit h0)).2.2.1; rw [hob] at a; have b := siz_eq (rbv (rbOf l)); omega) V x y hat
 have hkit := fun (h0 : rvC (sgn0 l) = 0) => sign7_kit l seed hs h n _ rfl (by have := hfc h0; omega) h0
 have hsz : (Tryz.prog.info? 41).map (·.size) = some (bvals seed).length := by rw [bvals_len, hs]; kernel_rfl
 have hls := hat.ls
 obtain ⟨r, hr⟩ : ∃ r, sgR l seed h n = r := ⟨_, rfl⟩
 have hres0 := hr.symm
 unfold sgR at hres0
 rw [hr] at hkit ⊢
 have hps : rvC (sgn0 l) = 0 → ∀ x ∈ l.ser, 0 < x := fun h0 => sr_pos l.ser 0 (by decide) (show srB 0 l.ser = true from rv_sr (l := sgn0 l) h0)
 obtain ⟨oo, hoo⟩ : ∃ oo, rbv (rbOf l) = oo := ⟨_, rfl⟩
 rw [hoo] at hva hpt hkit hres0
 obtain ⟨D, hD⟩ : ∃ D, enc oo = D := ⟨_, rfl⟩
 unfold RpPost at hpt
 rw [hD] at hpt hkit hres0
 obtain ⟨E, hE⟩ : ∃ E, rvC (sgn0 l) = E := ⟨_, rfl⟩
 rw [hE] at hck hva hpt hkit hres0 hps
 obtain ⟨SDL, hSD⟩ : ∃ SDL, bvals seed = SDL := ⟨_, rfl⟩
 rw [show bcells seed = (bvals seed).toArray from rfl] at hkit ⊢
 rw [hSD] at hkit hsz ⊢
 unfold SnPost rlC sgn0 at hva
 dsimp only [List.length_nil] at hva
 unfold RvdPost
 rw [show rlC l p = #[Value.string l.iss, .int .u64 l.num, .int .i64 l.fr, .int .i64 l.tt, .slice p.SA l.ser.length p.sc, .int .i64 l.sg.idx, .slice p.CA l.sg.cs.length p.cc, .slice p.PA l.sg.ps.length p.pc] from rfl]
 have HTW := Lib.hid htw
 have HCK := Lib.hid hck
 have HVA9 := Lib.hid hva
 have HPT0 := Lib.hid hpt
 have HKIT := Lib.hid hkit
 have HSZ := Lib.hid hsz
 have HLS := Lib.hid hls
 have HPS := Lib.hid hps
 have HRES0 := Lib.hid hres0
 obtain ⟨hw0, hra, hrb, hrc⟩ := three_rows3 w #[Value.string l.iss, .int .u64 l.num, .int .i64 l.fr, .int .i64 l.tt, .slice p.SA l.ser.length p.sc, .int .i64 l.sg.idx, .slice p.CA l.sg.cs.length p.cc, .slice p.PA l.sg.ps.length p.pc] SDL.toArray #[Value.string ⟨#[]⟩, .int .u64 0, .int .i64 0, .int .i64 0, .slice none 0 0, .int .i64 0, .slice none 0 0, .slice none 0 0] 32 41 32
 have HRL0 := Lib.hid hra
 have HRS0 := Lib.hid hrb
 have HRR0 := Lib.hid hrc
 have HB0 := Lib.hid hw0
 clear htw hck hva hpt hkit hsz hls hps hres0 hw0 hra hrb hrc hob hfc hr hoo hD hE hSD hwf0 hz hwf hcp hs hat
 go_enter Tryz.func20, Tryz.ntmps20
 go_upto_region 1 with (fail)
 generalize World.alloc (World.alloc (World.alloc w _) _) _ = V0 at HRL0 HRS0 HRR0 HB0 ⊢
 obtain ⟨hl0, f0, f1, f2, f3, f4, f5, f6, f7⟩ := facts8 HRL0.out
 go_wp2_with fail
 have hm1 := HTW.out V0 HB0.out
 unfold RTwin rlC at hm1
 refine hm1.mono ?_
 clear hm1
 rintro e V1 ⟨m1, rfl, hl, hb⟩
 have HTL1 := Lib.hid hl
 clear hl HTW
 clear hl0 f0 f1 f2 f3 f4 f5 f6 f7
 have HRL1 := Lib.hid (row_on HRL0.out hb)
 have HRS1 := Lib.hid (row_on HRS0.out hb)
 have HRR1 := Lib.hid (row_on HRR0.out hb)
 have HB1 := Lib.hid (chain HB0.out hb)
 clear hb HRL0 HRS0 HRR0 HB0
 go_upto_region 2 with (fail)
 have HM2 := Lib.hid (heap_alloc_new V1 (.cells #[Value.string l.iss, .int .u64 l.num, .int .i64 l.fr, .int .i64 l.tt, .slice m1.SA l.ser.length m1.sc, .int .i64 l.sg.idx, .slice m1.CA l.sg.cs.length m1.cc, .slice m1.PA l.sg.ps.length m1.pc] 32))
 obtain ⟨M, hM⟩ : ∃ M, V1.heap.size = M := ⟨_, rfl⟩
 rw [hM] at HM2 ⊢
 generalize hV2 : World.alloc V1 _ = V2 at HM2 ⊢
 have hb : Below V1.heap.size V1 V2 := by rw [← hV2]; exact below_new _ _
 have HLM := Lib.hid (show w.heap.size + 3 ≤ M by have h1 := (Array.getElem?_eq_some_iff.1 HRR1.out).1; omega)
 have HNS := Lib.hid (fun (hne : l.ser ≠ []) (g o : Nat) (e : m1.SA = some ⟨g, o, none⟩) => show g < M by have h3 := nums_lt HTL1.out.ser hne g o e; omega)
 clear hV2
 have HRL2 := Lib.hid (row_on HRL1.out hb)
 have HRS2 := Lib.hid (row_on HRS1.out hb)
 have HRR2 := Lib.hid (row_on HRR1.out hb)
 have HTL2 := Lib.hid (HTL1.out.on hb)
 have HB2 := Lib.hid (chain HB1.out hb)
 clear hb HRL1 HRS1 HRR1 HTL1 HB1
 obtain ⟨hl0, f0, f1, f2, f3, f4, f5, f6, f7⟩ := facts8 HM2.out
 obtain ⟨z0, z1, z2, z3, z4, z5, z6, z7⟩ := free8 HM2.out
 go_upto_region 3 with (fail)
 generalize hV3 : World.setCell _ _ _ = V3
 have hV3' : V2.setCells M 5 [.int .i64 0, .slice none 0 0, .slice none 0 0] = V3 := hV3
 clear hV3
 clear hl0 f0 f1 f2 f3 f4 f5 f6 f7
 clear z0 z1 z2 z3 z4 z5 z6 z7
 have HM3 := Lib.hid (show V3.heap[M]? = some (.cells #[Value.string l.iss, .int .u64 l.num, .int .i64 l.fr, .int .i64 l.tt, .slice m1.SA l.ser.length m1.sc, .int .i64 0, .slice none 0 0, .slice none 0 0] 32 (0, 0)) by rw [← hV3']; exact heap_set3 HM2.out)
 have ho : ∀ b, b ≠ M → V3.heap[b]? = V2.heap[b]? := fun b hb => by rw [← hV3']; exact heap_setCells_other _ _ _ hb
 have HB3 := Lib.hid (show Below w.heap.size w V3 by rw [← hV3']; exact below_setCells _ _ _ HB2.out (by have := HLM.out; omega))
 have HRS3 := Lib.hid ((ho _ (by have := HLM.out; omega)).trans HRS2.out)
 have HRR3 := Lib.hid ((ho _ (by have := HLM.out; omega)).trans HRR2.out)
 have HTL3 := Lib.hid (show RlAt (sgn0 l) ⟨m1.SA, m1.sc, none, 0, none, 0⟩ V3 from ⟨nums_keep9 HTL2.out.ser (fun g o e hne e2 => by have h1 := HNS.out hne g o e; omega) ho, shs_nil rfl _ _, shs_nil rfl _ _, HTL2.out.ls, by show 0 ≤ _; omega, by show 0 ≤ _; omega⟩)
 clear ho hV3' HM2 HRL2 HRS2 HRR2 HB2 HTL2
 obtain ⟨hl0, f0, f1, f2, f3, f4, f5, f6, f7⟩ := facts8 HM3.out
 go_wp2_with fail
 have hck := HCK.out V3 _ HTL3.out.ser
 unfold rlC sgn0 at hck
 dsimp only [List.length_nil] at hck
 refine hck.mono ?_
 clear hck
 rintro e V4 ⟨rfl, hb⟩
 clear HCK
 clear hl0 f0 f1 f2 f3 f4 f5 f6 f7
 have HM4 := Lib.hid (row_on HM3.out hb)
 have HRS4 := Lib.hid (row_on HRS3.out hb)
 have HRR4 := Lib.hid (row_on HRR3.out hb)
 have HTL4 := Lib.hid (HTL3.out.on hb)
 have HB4 := Lib.hid (chain HB3.out hb)
 clear hb HM3 HRS3 HRR3 HTL3 HB3
 by_cases h0 : E = 0
 ·
  obtain ⟨i7, e7, nb, np, cs, ps, hs7, hln, hres, he7⟩ := HKIT.out h0
  have HRES := Lib.hid hres
  have HLN := Lib.hid hln
  have HE7 := Lib.hid he7
  have HPT := Lib.hid (HPT0.out h0)
  have HVA0 := Lib.hid (HVA9.out h0)
  have HPOS := Lib.hid (HPS.out h0)
  subst h0
  clear hres hln he7 HKIT HPT0 HVA9 HRES0 HPS
  go_upto_region 6 with (fail)
  obtain ⟨U, hU⟩ : ∃ U, V4.drew = U := ⟨_, rfl⟩
  have hbU : Below V4.heap.size V4 U := by rw [← hU]; exact (Below.refl _ _).drew
  have HMU := Lib.hid (row_on HM4.out hbU)
  have HRSU := Lib.hid (row_on HRS4.out hbU)
  have HRRU := Lib.hid (row_on HRR4.out hbU)
  have HTLU := Lib.hid (HTL4.out.on hbU)
  have HBU := Lib.hid (chain HB4.out hbU)
  have HDU := Lib.hid (fun (z : World) (hz : Below U.heap.size U z) => chain HBU.out hz)
  have HS7 := Lib.hid (fun (V : World) (A : Option Addr) (c : Nat) (h1 : D.length ≤ c) (h2 : A = none → c = 0) (h3 : SrcAt A D V) => hs7 V A c h1 h2 h3)
  have HVA := Lib.hid (fun (z : World) (hz : Below w.heap.size w z) (hu : Below U.heap.size U z) => HVA0.out z m1 (HTLU.out.on hu).ser)
  have HB_U := Lib.hid (Below.refl U.heap.size U)
  have mkS : ∀ z : World, Below U.heap.size U z → (fun (z : World) => z.rangeAt (w.heap.size + 1) 0 SDL ∧ z.rangeAt M 0 [Value.string l.iss, .int .u64 l.num, .int .i64 l.fr, .int .i64 l.tt, .slice m1.SA l.ser.length m1.sc, .int .i64 0, .slice none 0 0, .slice none 0 0]) z := fun z hz => ⟨row_range (cs := SDL) (row_on HRSU.out hz), row_range (cs := [Value.string l.iss, .int .u64 l.num, .int .i64 l.fr, .int .i64 l.tt, .slice m1.SA l.ser.length m1.sc, .int .i64 0, .slice none 0 0, .slice none 0 0]) (row_on HMU.out hz)⟩
  have hS0 : (fun (z : World) => z.rangeAt (w.heap.size + 1) 0 SDL ∧ z.rangeAt M 0 [Value.string l.iss, .int .u64 l.num, .int .i64 l.fr, .int .i64 l.tt, .slice m1.SA l.ser.length m1.sc, .int .i64 0, .slice none 0 0, .slice none 0 0]) V4.drew := by rw [hU]; exact mkS _ HB_U.out
  clear hbU hs7 HM4 HRS4 HRR4 HTL4 HB4
  go_cut [12, 13] (fun s12 s13 wx => ∃ (M2 : Nat) (B : Option Addr) (cb : Nat) (PA : Option Addr) (pc : Nat), s12 = .pointer (some ⟨M2, 0, none⟩) ∧ s13 = .int .i64 e7 ∧ U.heap.size ≤ M2 ∧ wx.heap[M2]? = some (.cells #[Value.int .i64 i7, .slice B nb cb, .slice PA np pc] 30 (0, 0)) ∧ Shs B cs wx ∧ Shs PA ps wx ∧ Below U.heap.size U wx)
  case first =>
   refine wp_region_held_drew (S := fun (z : World) => z.rangeAt (w.heap.size + 1) 0 SDL ∧ z.rangeAt M 0 [Value.string l.iss, .int .u64 l.num, .int .i64 l.fr, .int .i64 l.tt, .slice m1.SA l.ser.length m1.sc, .int .i64 0, .slice none 0 0, .slice none 0 0]) (by kernel_rfl) hS0 (fun hHeld => ?_)
   rw [hU] at hHeld ⊢
   clear hS0 hU
   refine wpAnyH_take (i := 0) (oi := { dst := some 25, op := .load 41 (.tmp 5), type := 41, pos := "ref.go:100", after := #[], guard := none }) (v := .agg (SDL).toArray) rfl (by kernel_rfl) (by kernel_rfl) (by kernel_rfl) (fun _ _ _ h => h) (yieldsIf_load_mid (by rfl) _ _ rfl _ _ rfl (SDL) _ (fun w hSw => hSw.1) Tryz.underlying41 rfl HSZ.out) hHeld ?_
   try simp only [Act.put, List.setIfInBounds_toArray, List.set_cons_zero, List.set_cons_succ]
   refine wpAnyH_take (i := 1) (oi := { dst := some 26, op := .move (.tmp 2), type := 3, pos := "ref.go:100", after := #[], guard := none }) (v := ?_) rfl (by kernel_rfl) (by kernel_rfl) (by kernel_rfl) (fun _ _ _ h => h) (Or.inl ⟨by rfl, ?_⟩) hHeld ?_
   rotate_left
   ·
    intro w hSw
    clear hSw
    go_simp
    try with_reducible rfl
   try simp only [Act.put, List.setIfInBounds_toArray, List.set_cons_zero, List.set_cons_succ]
   refine wpAnyH_take (i := 2) (oi := { dst := some 27, op := .move (.tmp 3), type := 3, pos := "ref.go:100", after := #[], guard := none }) (v := ?_) rfl (by kernel_rfl) (by kernel_rfl) (by kernel_rfl) (fun _ _ _ h => h) (Or.inl ⟨by rfl, ?_⟩) hHeld ?_
   rotate_left
   ·
    intro w hSw
    clear hSw
    go_simp
    try with_reducible rfl
   try simp only [Act.put, List.setIfInBounds_toArray, List.set_cons_zero, List.set_cons_succ]
   refine wpAnyH_take (i := 3) (oi := { dst := some 28, op := .load 32 (.tmp 10), type := 32, pos := "ref.go:100", after := #[], guard := none }) (v := .agg ([Value.string l.iss, .int .u64 l.num, .int .i64 l.fr, .int .i64 l.tt, .slice m1.SA l.ser.length m1.sc, .int .i64 0, .slice none 0 0, .slice none 0 0]).toArray) rfl (by kernel_rfl) (by kernel_rfl) (by kernel_rfl) (fun _ _ _ h => h) (yieldsIf_load_mid (by rfl) _ _ rfl _ _ rfl ([Value.string l.iss, .int .u64 l.num, .int .i64 l.fr, .int .i64 l.tt, .slice m1.SA l.ser.length m1.sc, .int .i64 0, .slice none 0 0, .slice none 0 0]) _ (fun w hSw => hSw.2) Tryz.underlying32 rfl (sz8l _ rfl)) hHeld ?_
   try simp only [Act.put, List.setIfInBounds_toArray, List.set_cons_zero, List.set_cons_succ]
   refine wpAnyH_ready (rs := [4, 10]) (by kernel_rfl) (by simp) (AllReadyH.cons (o := { dst := some 29, op := .call { callee := .value (.func 47), args := #[.tmp 28], argTypes := #[32] }, type := 68, pos := "ref.go:100", after := #[{ on := 3, ground := .data }], guard := none }) rfl (fun K hK => ?_) (AllReadyH.cons (o := { dst := some 12, op := .alloc 30, type := 0, pos := "ref.go:100", after := #[], guard := none }) rfl (fun K hK => ?_) AllReadyH.nil))
   ·
    go_simp
    refine (HVA.out U (HDU.out U HB_U.out) HB_U.out).mono ?_
    rintro e y1 ⟨x2, y2, rfl, hat, hb⟩
    obtain ⟨A2, m2, k2, B2, n2, q2, rfl, rfl⟩ := hat.slices
    have HB_y1 := Lib.hid (chain HB_U.out hb)
    have HAT_y1 := Lib.hid hat
    clear hat hb
    unfold cell3
    go_simp
    refine hK.out _ _ (mkS _ HB_y1.out) (fun hHeld2 => ?_)
    clear hK K hHeld
    have hHeld := hHeld2
    clear hHeld2
    try simp only [Act.put, List.setIfInBounds_toArray, List.set_cons_zero, List.set_cons_succ]
    refine wpAnyH_ready (rs := [5, 10]) (by kernel_rfl) (by simp) (AllReadyH.cons (o := { dst := some 30, op := .call { callee := .value (.func 46), args := #[.tmp 29], argTypes := #[68] }, type := 34, pos := "ref.go:100", after := #[{ on := 4, ground := .data }, { on := 4, ground := .chain }], guard := none }) rfl (fun K hK => ?_) (AllReadyH.cons (o := { dst := some 12, op := .alloc 30, type := 0, pos := "ref.go:100", after := #[], guard := none }) rfl (fun K hK => ?_) AllReadyH.nil))
    ·
     go_simp
     have hput := HPT.out y1 _ _ HAT_y1.out
     unfold cell3 at hput
     refine hput.mono ?_
     clear hput
     rintro e y2 ⟨v3, rfl, hown, hb⟩
     obtain ⟨A4, d4, rfl, h1, h2, _, hs4⟩ := bytes_own hown
     have HC4 := Lib.hid (And.intro h1 h2)
     have HB_y2 := Lib.hid (chain HB_y1.out hb)
     have HSR_y2 := Lib.hid hs4
     clear hown hb h1 h2 hs4
     go_simp
     refine hK.out _ _ (mkS _ HB_y2.out) (fun hHeld2 => ?_)
     clear hK K hHeld
     have hHeld := hHeld2
     clear hHeld2
     try simp only [Act.put, List.setIfInBounds_toArray, List.set_cons_zero, List.set_cons_succ]
     refine wpAnyH_ready (rs := [6, 10]) (by kernel_rfl) (by simp) (AllReadyH.cons (o := { dst := some 31, op := .call { callee := .value (.func 45), args := #[.tmp 25, .tmp 26, .tmp 27, .tmp 30], argTypes := #[41, 3, 3, 34] }, type := 86, pos := "ref.go:100", after := #[{ on := 0, ground := .data }, { on := 1, ground := .data }, { on := 2, ground := .data }, { on := 5, ground := .data }, { on := 5, ground := .chain }], guard := none }) rfl (fun K hK => ?_) (AllReadyH.cons (o := { dst := some 12, op := .alloc 30, type := 0, pos := "ref.go:100", after := #[], guard := none }) rfl (fun K hK => ?_) AllReadyH.nil))
     ·
      go_simp
      refine (HS7.out y2 A4 d4 HC4.out.1 HC4.out.2 HSR_y2.out).mono ?_
      rintro e y3 ⟨B, cb, PA, pc, rfl, hx, hp, hb⟩
      have HB_y3 := Lib.hid (chain HB_y2.out hb)
      have HX_y3 := Lib.hid hx
      have HP_y3 := Lib.hid hp
      clear hx hp hb
      go_simp
      refine hK.out _ _ (mkS _ HB_y3.out) (fun hHeld2 => ?_)
      clear hK K hHeld
      have hHeld := hHeld2
      clear hHeld2
      try simp only [Act.put, List.setIfInBounds_toArray, List.set_cons_zero, List.set_cons_succ]
      refine wpAnyH_take (i := 7) (oi := { dst := some 24, op := .move (.tmp 31), type := 86, pos := "ref.go:100", after := #[{ on := 6, ground := .data }], guard := none }) (v := ?_) rfl (by kernel_rfl) (by kernel_rfl) (by kernel_rfl) (fun _ _ _ h => h) (Or.inl ⟨by rfl, ?_⟩) hHeld ?_
      rotate_left
      ·
       intro w hSw
       clear hSw
       go_simp
       try with_reducible rfl
      try simp only [Act.put, List.setIfInBounds_toArray, List.set_cons_zero, List.set_cons_succ]
      refine wpAnyH_take (i := 8) (oi := { dst := some 32, op := .extract (.tmp 24) 0, type := 30, pos := "ref.go:100", after := #[{ on := 7, ground := .data }], guard := none }) (v := ?_) rfl (by kernel_rfl) (by kernel_rfl) (by kernel_rfl) (fun _ _ _ h => h) (Or.inl ⟨by rfl, ?_⟩) hHeld ?_
      rotate_left
      ·
       intro w hSw
       clear hSw
       go_simp
       try with_reducible rfl
      try simp only [Act.put, List.setIfInBounds_toArray, List.set_cons_zero, List.set_cons_succ]
      refine wpAnyH_take (i := 9) (oi := { dst := some 33, op := .extract (.tmp 24) 1, type := 3, pos := "ref.go:100", after := #[{ on := 7, ground := .data }, { on := 11, ground := .gcOnly .lateStores }], guard := none }) (v := ?_) rfl (by kernel_rfl) (by kernel_rfl) (by kernel_rfl) (fun _ _ _ h => h) (Or.inl ⟨by rfl, ?_⟩) hHeld ?_
      rotate_left
      ·
       intro w hSw
       clear hSw
       go_simp
       try with_reducible rfl
      try simp only [Act.put, List.setIfInBounds_toArray, List.set_cons_zero, List.set_cons_succ]
      refine wpAnyH_ready (rs := [10]) (by kernel_rfl) (by simp) (AllReadyH.cons (o := { dst := some 12, op := .alloc 30, type := 0, pos := "ref.go:100", after := #[], guard := none }) rfl (fun K hK => ?_) AllReadyH.nil)
      go_simp
      have hkr := heap_alloc_new y3 (.cells #[.int .i64 0, .slice none 0 0, .slice none 0 0] 30)
      have hb := below_new y3 (.cells #[.int .i64 0, .slice none 0 0, .slice none 0 0] 30)
      obtain ⟨M2, hM2⟩ : ∃ q, y3.heap.size = q := ⟨_, rfl⟩
      have HM2U := Lib.hid (show U.heap.size ≤ M2 by have := HB_y3.out.size; omega)
      rw [hM2] at hkr ⊢
      generalize World.alloc y3 _ = y4 at hkr hb ⊢
      have HB_y4 := Lib.hid (chain HB_y3.out hb)
      have HP_y4 := Lib.hid (HP_y3.out.on hb)
      have HX_y4 := Lib.hid (HX_y3.out.on hb)
      have HK_y4 := Lib.hid hkr
      clear hkr hb hM2
      refine hK.out _ _ (mkS _ HB_y4.out) (fun hHeld2 => ?_)
      clear hK K hHeld
      have hHeld := hHeld2
      clear hHeld2
      try simp only [Act.put, List.setIfInBounds_toArray, List.set_cons_zero, List.set_cons_succ]
      refine wpAnyH_ready (rs := [11]) (by kernel_rfl) (by simp) (AllReadyH.cons (o := { dst := none, op := .store 30 (.tmp 12) (.tmp 32), type := 0, pos := "ref.go:100", after := #[{ on := 10, ground := .data }, { on := 8, ground := .data }, { on := 6, ground := .chain }, { on := 0, ground := .phase }, { on := 1, ground := .phase }, { on := 2, ground := .phase }, { on := 3, ground := .phase }, { on := 4, ground := .phase }, { on := 5, ground := .phase }, { on := 6, ground := .phase }, { on := 7, ground := .phase }, { on := 8, ground := .phase }, { on := 9, ground := .textOnly .lateStores }, { on := 10, ground := .phase }], guard := none }) rfl (fun K hK => ?_) AllReadyH.nil)
      try rw [if_pos (by rfl)]
      refine wp_store_mid 30 (.tmp 12) (.tmp 32) rfl M2 0 #[Value.int .i64 i7, .slice B nb cb, .slice PA np pc] rfl rfl (there_row HK_y4.out 3 (show 3 ≤ 3 by decide)) (sz3s _ _ _) (one3 _ _ _ rfl rfl rfl) ?_
      have ho := fun (b : Nat) (hb : b ≠ M2) => heap_setCells_other [Value.int .i64 i7, .slice B nb cb, .slice PA np pc] 0 y4 hb
      have HFIN := Lib.hid (show U.heap.size ≤ M2 ∧ (y4.setCells M2 0 [Value.int .i64 i7, .slice B nb cb, .slice PA np pc]).heap[M2]? = some (.cells #[Value.int .i64 i7, .slice B nb cb, .slice PA np pc] 30 (0, 0)) ∧ Shs B cs (y4.setCells M2 0 [Value.int .i64 i7, .slice B nb cb, .slice PA np pc]) ∧ Shs PA ps (y4.setCells M2 0 [Value.int .i64 i7, .slice B nb cb, .slice PA np pc]) ∧ Below U.heap.size U (y4.setCells M2 0 [Value.int .i64 i7, .slice B nb cb, .slice PA np pc]) from ⟨HM2U.out, row_setCells HK_y4.out (cs := #[Value.int .i64 i7, .slice B nb cb, .slice PA np pc]) rfl, shs_keep HX_y4.out HK_y4.out (show 3 < 16 by decide) ho, shs_keep HP_y4.out HK_y4.out (show 3 < 16 by decide) ho, below_setCells [Value.int .i64 i7, .slice B nb cb, .slice PA np pc] 0 y4 HB_y4.out HM2U.out⟩)
      clear ho
      refine hK.out _ _ (mkS _ HFIN.out.2.2.2.2) (fun hHeld2 => ?_)
      clear hK K hHeld
      have hHeld := hHeld2
      clear hHeld2
      try simp only [Act.put, List.setIfInBounds_toArray, List.set_cons_zero, List.set_cons_succ]
      refine wpAnyH_take (i := 12) (oi := { dst := some 13, op := .assign (.tmp 33), type := 3, pos := "ref.go:100", after := #[{ on := 9, ground := .data }, { on := 11, ground := .chain }, { on := 0, ground := .phase }, { on := 1, ground := .phase }, { on := 2, ground := .phase }, { on := 3, ground := .phase }, { on := 4, ground := .phase }, { on := 5, ground := .phase }, { on := 6, ground := .phase }, { on := 7, ground := .phase }, { on := 8, ground := .phase }, { on := 9, ground := .phase }, { on := 10, ground := .phase }, { on := 11, ground := .phase }], guard := none }) (v := ?_) rfl (by kernel_rfl) (by kernel_rfl) (by kernel_rfl) (fun _ _ _ h => h) (Or.inl ⟨by rfl, ?_⟩) hHeld ?_
      rotate_left
      ·
       intro w hSw
       clear hSw
       go_simp
       try with_reducible rfl
      try simp only [Act.put, List.setIfInBounds_toArray, List.set_cons_zero, List.set_cons_succ]
      refine wpAnyH_done (by kernel_rfl) ?_ _
      clear mkS
      go_wp2_with fail
      go_meet
      exact ⟨M2, B, cb, PA, pc, rfl, rfl, HFIN.out⟩
     ·
      go_simp
      have hkr := heap_alloc_new y2 (.cells #[.int .i64 0, .slice none 0 0, .slice none 0 0] 30)
      have hb := below_new y2 (.cells #[.int .i64 0, .slice none 0 0, .slice none 0 0] 30)
      obtain ⟨M2, hM2⟩ : ∃ q, y2.heap.size = q := ⟨_, rfl⟩
      have HM2U := Lib.hid (show U.heap.size ≤ M2 by have := HB_y2.out.size; omega)
      rw [hM2] at hkr ⊢
      generalize World.alloc y2 _ = y6 at hkr hb ⊢
      have HB_y6 := Lib.hid (chain HB_y2.out hb)
      have HSR_y6 := Lib.hid (srcAt_on HSR_y2.out hb)
      have HK_y6 := Lib.hid hkr
      clear hkr hb hM2
      refine hK.out _ _ (mkS _ HB_y6.out) (fun hHeld2 => ?_)
      clear hK K hHeld
      have hHeld := hHeld2
      clear hHeld2
      try simp only [Act.put, List.setIfInBounds_toArray, List.set_cons_zero, List.set_cons_succ]
      refine wpAnyH_ready (rs := [6]) (by kernel_rfl) (by simp) (AllReadyH.cons (o := { dst := some 31, op := .call { callee := .value (.func 45), args := #[.tmp 25, .tmp 26, .tmp 27, .tmp 30], argTypes := #[41, 3, 3, 34] }, type := 86, pos := "ref.go:100", after := #[{ on := 0, ground := .data }, { on := 1, ground := .data }, { on := 2, ground := .data }, { on := 5, ground := .data }, { on := 5, ground := .chain }], guard := none }) rfl (fun K hK => ?_) AllReadyH.nil)
      go_simp
      refine (HS7.out y6 A4 d4 HC4.out.1 HC4.out.2 HSR_y6.out).mono ?_
      rintro e y7 ⟨B, cb, PA, pc, rfl, hx, hp, hb⟩
      have HB_y7 := Lib.hid (chain HB_y6.out hb)
      have HK_y7 := Lib.hid (row_on HK_y6.out hb)
      have HX_y7 := Lib.hid hx
      have HP_y7 := Lib.hid hp
      clear hx hp hb
      go_simp
      refine hK.out _ _ (mkS _ HB_y7.out) (fun hHeld2 => ?_)
      clear hK K hHeld
      have hHeld := hHeld2
      clear hHeld2
      try simp only [Act.put, List.setIfInBounds_toArray, List.set_cons_zero, List.set_cons_succ]
      refine wpAnyH_take (i := 7) (oi := { dst := some 24, op := .move (.tmp 31), type := 86, pos := "ref.go:100", after := #[{ on := 6, ground := .data }], guard := none }) (v := ?_) rfl (by kernel_rfl) (by kernel_rfl) (by kernel_rfl) (fun _ _ _ h => h) (Or.inl ⟨by rfl, ?_⟩) hHeld ?_
      rotate_left
      ·
       intro w hSw
       clear hSw
       go_simp
       try with_reducible rfl
      try simp only [Act.put, List.setIfInBounds_toArray, List.set_cons_zero, List.set_cons_succ]
      refine wpAnyH_take (i := 8) (oi := { dst := some 32, op := .extract (.tmp 24) 0, type := 30, pos := "ref.go:100", after := #[{ on := 7, ground := .data }], guard := none }) (v := ?_) rfl (by kernel_rfl) (by kernel_rfl) (by kernel_rfl) (fun _ _ _ h => h) (Or.inl ⟨by rfl, ?_⟩) hHeld ?_
      rotate_left
      ·
       intro w hSw
       clear hSw
       go_simp
       try with_reducible rfl
      try simp only [Act.put, List.setIfInBounds_toArray, List.set_cons_zero, List.set_cons_succ]
      refine wpAnyH_take (i := 9) (oi := { dst := some 33, op := .extract (.tmp 24) 1, type := 3, pos := "ref.go:100", after := #[{ on := 7, ground := .data }, { on := 11, ground := .gcOnly .lateStores }], guard := none }) (v := ?_) rfl (by kernel_rfl) (by kernel_rfl) (by kernel_rfl) (fun _ _ _ h => h) (Or.inl ⟨by rfl, ?_⟩) hHeld ?_
      rotate_left
      ·
       intro w hSw
       clear hSw
       go_simp
       try with_reducible rfl
      try simp only [Act.put, List.setIfInBounds_toArray, List.set_cons_zero, List.set_cons_succ]
      refine wpAnyH_ready (rs := [11]) (by kernel_rfl) (by simp) (AllReadyH.cons (o := { dst := none, op := .store 30 (.tmp 12) (.tmp 32), type := 0, pos := "ref.go:100", after := #[{ on := 10, ground := .data }, { on := 8, ground := .data }, { on := 6, ground := .chain }, { on := 0, ground := .phase }, { on := 1, ground := .phase }, { on := 2, ground := .phase }, { on := 3, ground := .phase }, { on := 4, ground := .phase }, { on := 5, ground := .phase }, { on := 6, ground := .phase }, { on := 7, ground := .phase }, { on := 8, ground := .phase }, { on := 9, ground := .textOnly .lateStores }, { on := 10, ground := .phase }], guard := none }) rfl (fun K hK => ?_) AllReadyH.nil)
      try rw [if_pos (by rfl)]
      refine wp_store_mid 30 (.tmp 12) (.tmp 32) rfl M2 0 #[Value.int .i64 i7, .slice B nb cb, .slice PA np pc] rfl rfl (there_row HK_y7.out 3 (show 3 ≤ 3 by decide)) (sz3s _ _ _) (one3 _ _ _ rfl rfl rfl) ?_
      have ho := fun (b : Nat) (hb : b ≠ M2) => heap_setCells_other [Value.int .i64 i7, .slice B nb cb, .slice PA np pc] 0 y7 hb
      have HFIN := Lib.hid (show U.heap.size ≤ M2 ∧ (y7.setCells M2 0 [Value.int .i64 i7, .slice B nb cb, .slice PA np pc]).heap[M2]? = some (.cells #[Value.int .i64 i7, .slice B nb cb, .slice PA np pc] 30 (0, 0)) ∧ Shs B cs (y7.setCells M2 0 [Value.int .i64 i7, .slice B nb cb, .slice PA np pc]) ∧ Shs PA ps (y7.setCells M2 0 [Value.int .i64 i7, .slice B nb cb, .slice PA np pc]) ∧ Below U.heap.size U (y7.setCells M2 0 [Value.int .i64 i7, .slice B nb cb, .slice PA np pc]) from ⟨HM2U.out, row_setCells HK_y7.out (cs := #[Value.int .i64 i7, .slice B nb cb, .slice PA np pc]) rfl, shs_keep HX_y7.out HK_y7.out (show 3 < 16 by decide) ho, shs_keep HP_y7.out HK_y7.out (show 3 < 16 by decide) ho, below_setCells [Value.int .i64 i7, .slice B nb cb, .slice PA np pc] 0 y7 HB_y7.out HM2U.out⟩)
      clear ho
      refine hK.out _ _ (mkS _ HFIN.out.2.2.2.2) (fun hHeld2 => ?_)
      clear hK K hHeld
      have hHeld := hHeld2
      clear hHeld2
      try simp only [Act.put, List.setIfInBounds_toArray, List.set_cons_zero, List.set_cons_succ]
      refine wpAnyH_take (i := 12) (oi := { dst := some 13, op := .assign (.tmp 33), type := 3, pos := "ref.go:100", after := #[{ on := 9, ground := .data }, { on := 11, ground := .chain }, { on := 0, ground := .phase }, { on := 1, ground := .phase }, { on := 2, ground := .phase }, { on := 3, ground := .phase }, { on := 4, ground := .phase }, { on := 5, ground := .phase }, { on := 6, ground := .phase }, { on := 7, ground := .phase }, { on := 8, ground := .phase }, { on := 9, ground := .phase }, { on := 10, ground := .phase }, { on := 11, ground := .phase }], guard := none }) (v := ?_) rfl (by kernel_rfl) (by kernel_rfl) (by kernel_rfl) (fun _ _ _ h => h) (Or.inl ⟨by rfl, ?_⟩) hHeld ?_
      rotate_left
      ·
       intro w hSw
       clear hSw
       go_simp
       try with_reducible rfl
      try simp only [Act.put, List.setIfInBounds_toArray, List.set_cons_zero, List.set_cons_succ]
      refine wpAnyH_done (by kernel_rfl) ?_ _
      clear mkS
      go_wp2_with fail
      go_meet
      exact ⟨M2, B, cb, PA, pc, rfl, rfl, HFIN.out⟩
    ·
     go_simp
     have hkr := heap_alloc_new y1 (.cells #[.int .i64 0, .slice none 0 0, .slice none 0 0] 30)
     have hb := below_new y1 (.cells #[.int .i64 0, .slice none 0 0, .slice none 0 0] 30)
     obtain ⟨M2, hM2⟩ : ∃ q, y1.heap.size = q := ⟨_, rfl⟩
     have HM2U := Lib.hid (show U.heap.size ≤ M2 by have := HB_y1.out.size; omega)
     rw [hM2] at hkr ⊢
     generalize World.alloc y1 _ = y9 at hkr hb ⊢
     have HB_y9 := Lib.hid (chain HB_y1.out hb)
     have HAT_y9 := Lib.hid (HAT_y1.out.on hb)
     have HK_y9 := Lib.hid hkr
     clear hkr hb hM2
     refine hK.out _ _ (mkS _ HB_y9.out) (fun hHeld2 => ?_)
     clear hK K hHeld
     have hHeld := hHeld2
     clear hHeld2
     try simp only [Act.put, List.setIfInBounds_toArray, List.set_cons_zero, List.set_cons_succ]
     refine wpAnyH_ready (rs := [5]) (by kernel_rfl) (by simp) (AllReadyH.cons (o := { dst := some 30, op := .call { callee := .value (.func 46), args := #[.tmp 29], argTypes := #[68] }, type := 34, pos := "ref.go:100", after := #[{ on := 4, ground := .data }, { on := 4, ground := .chain }], guard := none }) rfl (fun K hK => ?_) AllReadyH.nil)
     go_simp
     have hput := HPT.out y9 _ _ HAT_y9.out
     unfold cell3 at hput
     refine hput.mono ?_
     clear hput
     rintro e y10 ⟨v3, rfl, hown, hb⟩
     obtain ⟨A4, d4, rfl, h1, h2, _, hs4⟩ := bytes_own hown
     have HC4 := Lib.hid (And.intro h1 h2)
     have HB_y10 := Lib.hid (chain HB_y9.out hb)
     have HK_y10 := Lib.hid (row_on HK_y9.out hb)
     have HSR_y10 := Lib.hid hs4
     clear hown hb h1 h2 hs4
     go_simp
     refine hK.out _ _ (mkS _ HB_y10.out) (fun hHeld2 => ?_)
     clear hK K hHeld
     have hHeld := hHeld2
     clear hHeld2
     try simp only [Act.put, List.setIfInBounds_toArray, List.set_cons_zero, List.set_cons_succ]
     refine wpAnyH_ready (rs := [6]) (by kernel_rfl) (by simp) (AllReadyH.cons (o := { dst := some 31, op := .call { callee := .value (.func 45), args := #[.tmp 25, .tmp 26, .tmp 27, .tmp 30], argTypes := #[41, 3, 3, 34] }, type := 86, pos := "ref.go:100", after := #[{ on := 0, ground := .data }, { on := 1, ground := .data }, { on := 2, ground := .data }, { on := 5, ground := .data }, { on := 5, ground := .chain }], guard := none }) rfl (fun K hK => ?_) AllReadyH.nil)
     go_simp
     refine (HS7.out y10 A4 d4 HC4.out.1 HC4.out.2 HSR_y10.out).mono ?_
     rintro e y11 ⟨B, cb, PA, pc, rfl, hx, hp, hb⟩
     have HB_y11 := Lib.hid (chain HB_y10.out hb)
     have HK_y11 := Lib.hid (row_on HK_y10.out hb)
     have HX_y11 := Lib.hid hx
     have HP_y11 := Lib.hid hp
     clear hx hp hb
     go_simp
     refine hK.out _ _ (mkS _ HB_y11.out) (fun hHeld2 => ?_)
     clear hK K hHeld
     have hHeld := hHeld2
     clear hHeld2
     try simp only [Act.put, List.setIfInBounds_toArray, List.set_cons_zero, List.set_cons_succ]
     refine wpAnyH_take (i := 7) (oi := { dst := some 24, op := .move (.tmp 31), type := 86, pos := "ref.go:100", after := #[{ on := 6, ground := .data }], guard := none }) (v := ?_) rfl (by kernel_rfl) (by kernel_rfl) (by kernel_rfl) (fun _ _ _ h => h) (Or.inl ⟨by rfl, ?_⟩) hHeld ?_
     rotate_left
     ·
      intro w hSw
      clear hSw
      go_simp
      try with_reducible rfl
     try simp only [Act.put, List.setIfInBounds_toArray, List.set_cons_zero, List.set_cons_succ]
     refine wpAnyH_take (i := 8) (oi := { dst := some 32, op := .extract (.tmp 24) 0, type := 30, pos := "ref.go:100", after := #[{ on := 7, ground := .data }], guard := none }) (v := ?_) rfl (by kernel_rfl) (by kernel_rfl) (by kernel_rfl) (fun _ _ _ h => h) (Or.inl ⟨by rfl, ?_⟩) hHeld ?_
     rotate_left
     ·
      intro w hSw
      clear hSw
      go_simp
      try with_reducible rfl
     try simp only [Act.put, List.setIfInBounds_toArray, List.set_cons_zero, List.set_cons_succ]
     refine wpAnyH_take (i := 9) (oi := { dst := some 33, op := .extract (.tmp 24) 1, type := 3, pos := "ref.go:100", after := #[{ on := 7, ground := .data }, { on := 11, ground := .gcOnly .lateStores }], guard := none }) (v := ?_) rfl (by kernel_rfl) (by kernel_rfl) (by kernel_rfl) (fun _ _ _ h => h) (Or.inl ⟨by rfl, ?_⟩) hHeld ?_
     rotate_left
     ·
      intro w hSw
      clear hSw
      go_simp
      try with_reducible rfl
     try simp only [Act.put, List.setIfInBounds_toArray, List.set_cons_zero, List.set_cons_succ]
     refine wpAnyH_ready (rs := [11]) (by kernel_rfl) (by simp) (AllReadyH.cons (o := { dst := none, op := .store 30 (.tmp 12) (.tmp 32), type := 0, pos := "ref.go:100", after := #[{ on := 10, ground := .data }, { on := 8, ground := .data }, { on := 6, ground := .chain }, { on := 0, ground := .phase }, { on := 1, ground := .phase }, { on := 2, ground := .phase }, { on := 3, ground := .phase }, { on := 4, ground := .phase }, { on := 5, ground := .phase }, { on := 6, ground := .phase }, { on := 7, ground := .phase }, { on := 8, ground := .phase }, { on := 9, ground := .textOnly .lateStores }, { on := 10, ground := .phase }], guard := none }) rfl (fun K hK => ?_) AllReadyH.nil)
     try rw [if_pos (by rfl)]
     refine wp_store_mid 30 (.tmp 12) (.tmp 32) rfl M2 0 #[Value.int .i64 i7, .slice B nb cb, .slice PA np pc] rfl rfl (there_row HK_y11.out 3 (show 3 ≤ 3 by decide)) (sz3s _ _ _) (one3 _ _ _ rfl rfl rfl) ?_
     have ho := fun (b : Nat) (hb : b ≠ M2) => heap_setCells_other [Value.int .i64 i7, .slice B nb cb, .slice PA np pc] 0 y11 hb
     have HFIN := Lib.hid (show U.heap.size ≤ M2 ∧ (y11.setCells M2 0 [Value.int .i64 i7, .slice B nb cb, .slice PA np pc]).heap[M2]? = some (.cells #[Value.int .i64 i7, .slice B nb cb, .slice PA np pc] 30 (0, 0)) ∧ Shs B cs (y11.setCells M2 0 [Value.int .i64 i7, .slice B nb cb, .slice PA np pc]) ∧ Shs PA ps (y11.setCells M2 0 [Value.int .i64 i7, .slice B nb cb, .slice PA np pc]) ∧ Below U.heap.size U (y11.setCells M2 0 [Value.int .i64 i7, .slice B nb cb, .slice PA np pc]) from ⟨HM2U.out, row_setCells HK_y11.out (cs := #[Value.int .i64 i7, .slice B nb cb, .slice PA np pc]) rfl, shs_keep HX_y11.out HK_y11.out (show 3 < 16 by decide) ho, shs_keep HP_y11.out HK_y11.out (show 3 < 16 by decide) ho, below_setCells [Value.int .i64 i7, .slice B nb cb, .slice PA np pc] 0 y11 HB_y11.out HM2U.out⟩)
     clear ho
     refine hK.out _ _ (mkS _ HFIN.out.2.2.2.2) (fun hHeld2 => ?_)
     clear hK K hHeld
     have hHeld := hHeld2
     clear hHeld2
     try simp only [Act.put, List.setIfInBounds_toArray, List.set_cons_zero, List.set_cons_succ]
     refine wpAnyH_take (i := 12) (oi := { dst := some 13, op := .assign (.tmp 33), type := 3, pos := "ref.go:100", after := #[{ on := 9, ground := .data }, { on := 11, ground := .chain }, { on := 0, ground := .phase }, { on := 1, ground := .phase }, { on := 2, ground := .phase }, { on := 3, ground := .phase }, { on := 4, ground := .phase }, { on := 5, ground := .phase }, { on := 6, ground := .phase }, { on := 7, ground := .phase }, { on := 8, ground := .phase }, { on := 9, ground := .phase }, { on := 10, ground := .phase }, { on := 11, ground := .phase }], guard := none }) (v := ?_) rfl (by kernel_rfl) (by kernel_rfl) (by kernel_rfl) (fun _ _ _ h => h) (Or.inl ⟨by rfl, ?_⟩) hHeld ?_
     rotate_left
     ·
      intro w hSw
      clear hSw
      go_simp
      try with_reducible rfl
     try simp only [Act.put, List.setIfInBounds_toArray, List.set_cons_zero, List.set_cons_succ]
     refine wpAnyH_done (by kernel_rfl) ?_ _
     clear mkS
     go_wp2_with fail
     go_meet
     exact ⟨M2, B, cb, PA, pc, rfl, rfl, HFIN.out⟩
   ·
    go_simp
    have hkr := heap_alloc_new U (.cells #[.int .i64 0, .slice none 0 0, .slice none 0 0] 30)
    have hb := below_new U (.cells #[.int .i64 0, .slice none 0 0, .slice none 0 0] 30)
    obtain ⟨M2, hM2⟩ : ∃ q, U.heap.size = q := ⟨_, rfl⟩
    have HM2U := Lib.hid (show U.heap.size ≤ M2 by have := HB_U.out.size; omega)
    rw [hM2] at hkr ⊢
    generalize World.alloc U _ = y13 at hkr hb ⊢
    have HB_y13 := Lib.hid (chain HB_U.out hb)
    have HK_y13 := Lib.hid hkr
    clear hkr hb hM2
    refine hK.out _ _ (mkS _ HB_y13.out) (fun hHeld2 => ?_)
    clear hK K hHeld
    have hHeld := hHeld2
    clear hHeld2
    try simp only [Act.put, List.setIfInBounds_toArray, List.set_cons_zero, List.set_cons_succ]
    refine wpAnyH_ready (rs := [4]) (by kernel_rfl) (by simp) (AllReadyH.cons (o := { dst := some 29, op := .call { callee := .value (.func 47), args := #[.tmp 28], argTypes := #[32] }, type := 68, pos := "ref.go:100", after := #[{ on := 3, ground := .data }], guard := none }) rfl (fun K hK => ?_) AllReadyH.nil)
    go_simp
    refine (HVA.out y13 (HDU.out y13 HB_y13.out) HB_y13.out).mono ?_
    rintro e y14 ⟨x2, y2, rfl, hat, hb⟩
    obtain ⟨A2, m2, k2, B2, n2, q2, rfl, rfl⟩ := hat.slices
    have HB_y14 := Lib.hid (chain HB_y13.out hb)
    have HK_y14 := Lib.hid (row_on HK_y13.out hb)
    have HAT_y14 := Lib.hid hat
    clear hat hb
    unfold cell3
    go_simp
    refine hK.out _ _ (mkS _ HB_y14.out) (fun hHeld2 => ?_)
    clear hK K hHeld
    have hHeld := hHeld2
    clear hHeld2
    try simp only [Act.put, List.setIfInBounds_toArray, List.set_cons_zero, List.set_cons_succ]
    refine wpAnyH_ready (rs := [5]) (by kernel_rfl) (by simp) (AllReadyH.cons (o := { dst := some 30, op := .call { callee := .value (.func 46), args := #[.tmp 29], argTypes := #[68] }, type := 34, pos := "ref.go:100", after := #[{ on := 4, ground := .data }, { on := 4, ground := .chain }], guard := none }) rfl (fun K hK => ?_) AllReadyH.nil)
    go_simp
    have hput := HPT.out y14 _ _ HAT_y14.out
    unfold cell3 at hput
    refine hput.mono ?_
    clear hput
    rintro e y15 ⟨v3, rfl, hown, hb⟩
    obtain ⟨A4, d4, rfl, h1, h2, _, hs4⟩ := bytes_own hown
    have HC4 := Lib.hid (And.intro h1 h2)
    have HB_y15 := Lib.hid (chain HB_y14.out hb)
    have HK_y15 := Lib.hid (row_on HK_y14.out hb)
    have HSR_y15 := Lib.hid hs4
    clear hown hb h1 h2 hs4
    go_simp
    refine hK.out _ _ (mkS _ HB_y15.out) (fun hHeld2 => ?_)
    clear hK K hHeld
    have hHeld := hHeld2
    clear hHeld2
    try simp only [Act.put, List.setIfInBounds_toArray, List.set_cons_zero, List.set_cons_succ]
    refine wpAnyH_ready (rs := [6]) (by kernel_rfl) (by simp) (AllReadyH.cons (o := { dst := some 31, op := .call { callee := .value (.func 45), args := #[.tmp 25, .tmp 26, .tmp 27, .tmp 30], argTypes := #[41, 3, 3, 34] }, type := 86, pos := "ref.go:100", after := #[{ on := 0, ground := .data }, { on := 1, ground := .data }, { on := 2, ground := .data }, { on := 5, ground := .data }, { on := 5, ground := .chain }], guard := none }) rfl (fun K hK => ?_) AllReadyH.nil)
    go_simp
    refine (HS7.out y15 A4 d4 HC4.out.1 HC4.out.2 HSR_y15.out).mono ?_
    rintro e y16 ⟨B, cb, PA, pc, rfl, hx, hp, hb⟩
    have HB_y16 := Lib.hid (chain HB_y15.out hb)
    have HK_y16 := Lib.hid (row_on HK_y15.out hb)
    have HX_y16 := Lib.hid hx
    have HP_y16 := Lib.hid hp
    clear hx hp hb
    go_simp
    refine hK.out _ _ (mkS _ HB_y16.out) (fun hHeld2 => ?_)
    clear hK K hHeld
    have hHeld := hHeld2
    clear hHeld2
    try simp only [Act.put, List.setIfInBounds_toArray, List.set_cons_zero, List.set_cons_succ]
    refine wpAnyH_take (i := 7) (oi := { dst := some 24, op := .move (.tmp 31), type := 86, pos := "ref.go:100", after := #[{ on := 6, ground := .data }], guard := none }) (v := ?_) rfl (by kernel_rfl) (by kernel_rfl) (by kernel_rfl) (fun _ _ _ h => h) (Or.inl ⟨by rfl, ?_⟩) hHeld ?_
    rotate_left
    ·
     intro w hSw
     clear hSw
     go_simp
     try with_reducible rfl
    try simp only [Act.put, List.setIfInBounds_toArray, List.set_cons_zero, List.set_cons_succ]
    refine wpAnyH_take (i := 8) (oi := { dst := some 32, op := .extract (.tmp 24) 0, type := 30, pos := "ref.go:100", after := #[{ on := 7, ground := .data }], guard := none }) (v := ?_) rfl (by kernel_rfl) (by kernel_rfl) (by kernel_rfl) (fun _ _ _ h => h) (Or.inl ⟨by rfl, ?_⟩) hHeld ?_
    rotate_left
    ·
     intro w hSw
     clear hSw
     go_simp
     try with_reducible rfl
    try simp only [Act.put, List.setIfInBounds_toArray, List.set_cons_zero, List.set_cons_succ]
    refine wpAnyH_take (i := 9) (oi := { dst := some 33, op := .extract (.tmp 24) 1, type := 3, pos := "ref.go:100", after := #[{ on := 7, ground := .data }, { on := 11, ground := .gcOnly .lateStores }], guard := none }) (v := ?_) rfl (by kernel_rfl) (by kernel_rfl) (by kernel_rfl) (fun _ _ _ h => h) (Or.inl ⟨by rfl, ?_⟩) hHeld ?_
    rotate_left
    ·
     intro w hSw
     clear hSw
     go_simp
     try with_reducible rfl
    try simp only [Act.put, List.setIfInBounds_toArray, List.set_cons_zero, List.set_cons_succ]
    refine wpAnyH_ready (rs := [11]) (by kernel_rfl) (by simp) (AllReadyH.cons (o := { dst := none, op := .store 30 (.tmp 12) (.tmp 32), type := 0, pos := "ref.go:100", after := #[{ on := 10, ground := .data }, { on := 8, ground := .data }, { on := 6, ground := .chain }, { on := 0, ground := .phase }, { on := 1, ground := .phase }, { on := 2, ground := .phase }, { on := 3, ground := .phase }, { on := 4, ground := .phase }, { on := 5, ground := .phase }, { on := 6, ground := .phase }, { on := 7, ground := .phase }, { on := 8, ground := .phase }, { on := 9, ground := .textOnly .lateStores }, { on := 10, ground := .phase }], guard := none }) rfl (fun K hK => ?_) AllReadyH.nil)
    try rw [if_pos (by rfl)]
    refine wp_store_mid 30 (.tmp 12) (.tmp 32) rfl M2 0 #[Value.int .i64 i7, .slice B nb cb, .slice PA np pc] rfl rfl (there_row HK_y16.out 3 (show 3 ≤ 3 by decide)) (sz3s _ _ _) (one3 _ _ _ rfl rfl rfl) ?_
    have ho := fun (b : Nat) (hb : b ≠ M2) => heap_setCells_other [Value.int .i64 i7, .slice B nb cb, .slice PA np pc] 0 y16 hb
    have HFIN := Lib.hid (show U.heap.size ≤ M2 ∧ (y16.setCells M2 0 [Value.int .i64 i7, .slice B nb cb, .slice PA np pc]).heap[M2]? = some (.cells #[Value.int .i64 i7, .slice B nb cb, .slice PA np pc] 30 (0, 0)) ∧ Shs B cs (y16.setCells M2 0 [Value.int .i64 i7, .slice B nb cb, .slice PA np pc]) ∧ Shs PA ps (y16.setCells M2 0 [Value.int .i64 i7, .slice B nb cb, .slice PA np pc]) ∧ Below U.heap.size U (y16.setCells M2 0 [Value.int .i64 i7, .slice B nb cb, .slice PA np pc]) from ⟨HM2U.out, row_setCells HK_y16.out (cs := #[Value.int .i64 i7, .slice B nb cb, .slice PA np pc]) rfl, shs_keep HX_y16.out HK_y16.out (show 3 < 16 by decide) ho, shs_keep HP_y16.out HK_y16.out (show 3 < 16 by decide) ho, below_setCells [Value.int .i64 i7, .slice B nb cb, .slice PA np pc] 0 y16 HB_y16.out HM2U.out⟩)
    clear ho
    refine hK.out _ _ (mkS _ HFIN.out.2.2.2.2) (fun hHeld2 => ?_)
    clear hK K hHeld
    have hHeld := hHeld2
    clear hHeld2
    try simp only [Act.put, List.setIfInBounds_toArray, List.set_cons_zero, List.set_cons_succ]
    refine wpAnyH_take (i := 12) (oi := { dst := some 13, op := .assign (.tmp 33), type := 3, pos := "ref.go:100", after := #[{ on := 9, ground := .data }, { on := 11, ground := .chain }, { on := 0, ground := .phase }, { on := 1, ground := .phase }, { on := 2, ground := .phase }, { on := 3, ground := .phase }, { on := 4, ground := .phase }, { on := 5, ground := .phase }, { on := 6, ground := .phase }, { on := 7, ground := .phase }, { on := 8, ground := .phase }, { on := 9, ground := .phase }, { on := 10, ground := .phase }, { on := 11, ground := .phase }], guard := none }) (v := ?_) rfl (by kernel_rfl) (by kernel_rfl) (by kernel_rfl) (fun _ _ _ h => h) (Or.inl ⟨by rfl, ?_⟩) hHeld ?_
    rotate_left
    ·
     intro w hSw
     clear hSw
     go_simp
     try with_reducible rfl
    try simp only [Act.put, List.setIfInBounds_toArray, List.set_cons_zero, List.set_cons_succ]
    refine wpAnyH_done (by kernel_rfl) ?_ _
    clear mkS
    go_wp2_with fail
    go_meet
    exact ⟨M2, B, cb, PA, pc, rfl, rfl, HFIN.out⟩
  case rest =>
   obtain ⟨M2, B, cb, PA, pc, rfl, rfl, hm2, hkr, hx, hp, hbc⟩ := hcut
   have HK := Lib.hid hkr
   have HX := Lib.hid hx
   have HP := Lib.hid hp
   have HB8 := Lib.hid (HDU.out _ hbc)
   have HM8 := Lib.hid (row_on HMU.out hbc)
   have HRR8 := Lib.hid (row_on HRRU.out hbc)
   have HTL8 := Lib.hid (HTLU.out.on hbc)
   have HMM := Lib.hid (show M2 ≠ M by have h1 := (Array.getElem?_eq_some_iff.1 HMU.out).1; omega)
   clear hm2 hkr hx hp hbc mkS
   by_cases h7 : e7 = 0
   ·
    subst h7
    obtain ⟨_, b0, b1, b2⟩ := facts3 HK.out
    have hrgs := range3s HK.out
    obtain ⟨hl0, f0, f1, f2, f3, f4, f5, f6, f7⟩ := facts8 HM8.out
    obtain ⟨z0, z1, z2, z3, z4, z5, z6, z7⟩ := free8 HM8.out
    go_upto_region 10 with (fail)
    generalize hV9 : World.setCell _ _ _ = V9
    have hV9' : wc.setCells M 5 [Value.int .i64 i7, .slice B nb cb, .slice PA np pc] = V9 := hV9
    clear hV9 b0 b1 b2 hrgs
    clear hl0 f0 f1 f2 f3 f4 f5 f6 f7
    clear z0 z1 z2 z3 z4 z5 z6 z7
    have HM9 := Lib.hid (show V9.heap[M]? = some (.cells #[Value.string l.iss, .int .u64 l.num, .int .i64 l.fr, .int .i64 l.tt, .slice m1.SA l.ser.length m1.sc, .int .i64 i7, .slice B nb cb, .slice PA np pc] 32 (0, 0)) by rw [← hV9']; exact heap_set3 HM8.out)
    have ho : ∀ b, b ≠ M → V9.heap[b]? = wc.heap[b]? := fun b hb => by rw [← hV9']; exact heap_setCells_other _ _ _ hb
    have HB9 := Lib.hid (show Below w.heap.size w V9 by rw [← hV9']; exact below_setCells _ _ _ HB8.out (by have := HLM.out; omega))
    have HRR9 := Lib.hid ((ho _ (by have := HLM.out; omega)).trans HRR8.out)
    have HN9 := Lib.hid (show Nums m1.SA l.ser V9 from nums_keep9 HTL8.out.ser (fun g o e hne e2 => by have h1 := HNS.out hne g o e; omega) ho)
    have HX9 := Lib.hid (shs_keep HX.out HM8.out (show 8 < 16 by decide) ho)
    have HP9 := Lib.hid (shs_keep HP.out HM8.out (show 8 < 16 by decide) ho)
    clear ho hV9'
    obtain ⟨hl1, p0, p1, p2, p3, p4, p5, p6, p7⟩ := facts8 HM9.out
    obtain ⟨hl0, f0, f1, f2, f3, f4, f5, f6, f7⟩ := facts8 HRR9.out
    obtain ⟨z0, z1, z2, z3, z4, z5, z6, z7⟩ := free8 HRR9.out
    go_wp2_with fail
    generalize hZ : World.setCell _ _ _ = Z
    obtain ⟨r1, r2, r3⟩ := put8 HRR9.out (show w.heap.size ≤ w.heap.size + 2 by omega) hZ
    clear hZ
    have hr : r = ({ l with sg := ⟨i7, cs, ps⟩ }, 0) := by rw [HRES.out]; exact if_pos (by first | rfl | trivial)
    refine bodyPost_ret (v := .tuple #[.agg (rlC r.1 ⟨m1.SA, m1.sc, B, cb, PA, pc⟩), .int .i64 r.2]) ?resG rfl ⟨_, rfl, ?_, HB9.out.trans (r2.mono (Nat.le_refl _))⟩
    case resG =>
     obtain ⟨_, f0, f1, f2, f3, f4, f5, f6, f7⟩ := facts8 r1
     rw [hr]
     unfold rlC
     dsimp only
     rw [HLN.out.1, HLN.out.2.1]
     simp [results, Tryz.results20, go_sem, f0, f1, f2, f3, f4, f5, f6, f7]
     try rfl
    ·
     rw [hr]
     exact ⟨nums_keep9 HN9.out (nums_nz HN9.out HRR9.out HPOS.out) r3, shs_keep HX9.out HRR9.out (show 8 < 16 by decide) r3, shs_keep HP9.out HRR9.out (show 8 < 16 by decide) r3, HLS.out, by show cs.length ≤ _; rw [HLN.out.1]; exact HLN.out.2.2.1, by show ps.length ≤ _; rw [HLN.out.2.1]; exact HLN.out.2.2.2⟩
   ·
    have h72 : (e7 == 0) = false := by rw [beq_eq_false_iff_ne]; exact h7
    have h73 : (e7 != 0) = true := by rw [bne_iff_ne]; exact h7
    have HE2 := Lib.hid (show e7 = 2 from HE7.out.resolve_left h7)
    obtain ⟨hl0, f0, f1, f2, f3, f4, f5, f6, f7⟩ := facts8 HRR8.out
    obtain ⟨z0, z1, z2, z3, z4, z5, z6, z7⟩ := free8 HRR8.out
    go_wp2_with fail
    generalize hZ : World.setCell _ _ _ = Z
    obtain ⟨r1, r2, r3⟩ := put8 HRR8.out (show w.heap.size ≤ w.heap.size + 2 by omega) hZ
    clear hZ
    have hr : r = (rl0, e7) := by rw [HRES.out, if_neg h7, HE2.out]
    refine bodyPost_ret (v := .tuple #[.agg (rlC r.1 mp0), .int .i64 r.2]) ?res1 rfl ⟨mp0, rfl, by rw [hr]; exact rl0_at _, HB8.out.trans (r2.mono (Nat.le_refl _))⟩
    case res1 =>
     rw [hr]
     obtain ⟨_, f0, f1, f2, f3, f4, f5, f6, f7⟩ := facts8 r1
     simp [results, Tryz.results20, go_sem, f0, f1, f2, f3, f4, f5, f6, f7]
     try rfl
 ·
  clear HKIT HPT0 HVA9
  obtain ⟨hl0, f0, f1, f2, f3, f4, f5, f6, f7⟩ := facts8 HRR4.out
  obtain ⟨z0, z1, z2, z3, z4, z5, z6, z7⟩ := free8 HRR4.out
  go_wp2_with fail
  generalize hZ : World.setCell _ _ _ = Z
  obtain ⟨r1, r2, r3⟩ := put8 HRR4.out (show w.heap.size ≤ w.heap.size + 2 by omega) hZ
  clear hZ
  have hr : r = (rl0, E) := by rw [HRES0.out, if_neg h0]
  refine bodyPost_ret (v := .tuple #[.agg (rlC r.1 mp0), .int .i64 r.2]) ?res2 rfl ⟨mp0, rfl, by rw [hr]; exact rl0_at _, HB4.out.trans (r2.mono (Nat.le_refl _))⟩
  case res2 =>
   rw [hr]
   obtain ⟨_, f0, f1, f2, f3, f4, f5, f6, f7⟩ := facts8 r1
   simp [results, Tryz.results20, go_sem, f0, f1, f2, f3, f4, f5, f6, f7]
   try rfl
end Sg
end Go.Proofs.YtcgffkkfeimifaaGreatDoor
