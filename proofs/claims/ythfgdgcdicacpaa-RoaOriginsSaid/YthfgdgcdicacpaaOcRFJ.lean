import Derived.Test.YthfgdgcdicacpaaOcRE
import Derived.Laws.MakeOwn
import Derived.Defers
import Derived.Recover
import Derived.Laws.Pointers
import Derived.Test.YthfgdgcdicacpaaOcKP
import Derived.Test.YthfgdgcdicacpaaLawKit
namespace Go.Proofs.Ythfgdgcdicacpaa
open Go.RowKit Sha Oc
set_option linter.unusedVariables false
set_option linter.unusedSimpArgs false
def EncPost (o : Oct) (w : World) (e : Ending) (w' : World) : Prop := Below w.heap.size w w' ∧
 ((ckV o = 0 ∧ ∃ v, e = .returned (.tuple #[v, .int .i64 0]) ∧ w'.ownsRow w.heap.size 5 1 v (enc o).length (bvals (enc o))) ∨ (ckV o ≠ 0 ∧ e = .returned (.tuple #[.slice none 0 0, .int .i64 (ckV o)])))
set_option maxRecDepth 100000 in
set_option maxHeartbeats 2000000 in
theorem encode_any (o : Oct) (hcn : cnt o ≤ 900000) (htt : tot o ≤ 400000) (w : World) (x y : Value) (hat : At (fun _ => True) w o x y) :
  Calls Try.prog 22 #[.agg (cell3 o x y)] w (EncPost o w) := by
 have hck := fun (V : World) (hb : Below w.heap.size w V) => check_any8 o (by omega) htt V x y (hat.on hb)
 have hgd := fun (h0 : ckV o = 0) => (ckV_good o).1 h0
 have hsi := fun (h0 : ckV o = 0) (V : World) (hb : Below w.heap.size w V) => psize_all 5000 o (by have := (hgd h0).1; omega) (Nat.le_refl _) htt V x y (hat.on hb)
 have hpt := fun (h0 : ckV o = 0) (V : World) (hb : Below w.heap.size w V) (ov : Value) (hown : V.ownsRow w.heap.size 5 1 ov 0 []) => put_all 5000 o (by have := (hgd h0).1; omega) (Nat.le_refl _) (by have := (hgd h0).2.2.2; have := tot_enc o; omega) w.heap.size V ov x y 0 [] hb.size (by have := (hgd h0).2.2.2; have := siz_eq o; omega) ((hat.lower (Nat.le_refl _)).low hb) hown
 obtain ⟨A1, m1, c1, B1, n1, d1, rfl, rfl⟩ := hat.slices
 unfold EncPost
 unfold PtPost at hpt
 have HPT := Lib.hid hpt
 clear hpt
 obtain ⟨tz, htz⟩ : ∃ tz : Int, ((tagO o).toNat : Int) = tz := ⟨_, rfl⟩
 obtain ⟨Z, hZ⟩ : ∃ Z, siz o = Z := ⟨_, rfl⟩
 have HCK := Lib.hid hck
 have HSI := Lib.hid hsi
 unfold cell3 at HCK HSI HPT
 show Calls Try.prog 22 #[.agg #[.int .u8 ((tagO o).toNat : Int), .slice A1 m1 c1, .slice B1 n1 d1]] w _
 rw [htz] at HCK HSI HPT ⊢
 rw [hZ] at HSI HPT
 have HTZ := Lib.hid htz
 have HZE := Lib.hid hZ
 have HZ : RowKit.Hid (ckV o = 0 → Z ≤ 800000) := Lib.hid (fun h0 => by have := (hgd h0).2.2.2; have := siz_eq o; omega)
 have HROW := Lib.hid (heap_alloc_new w (.cells #[.int .u8 tz, .slice A1 m1 c1, .slice B1 n1 d1] 63))
 have HB0 := Lib.hid (below_new w (.cells #[.int .u8 tz, .slice A1 m1 c1, .slice B1 n1 d1] 63))
 clear hck hsi hat htz hZ hcn htt hgd
 go_enter Try.func22, Try.ntmps22
 go_upto_region 1 with (fail)
 generalize hV : World.alloc w _ = V at HROW HB0 ⊢
 clear hV
 have hlt := (Array.getElem?_eq_some_iff.1 HROW.out).1
 obtain ⟨_, hc0, hc1, hc2⟩ := facts3 HROW.out
 have hrg := range3o hc0 hc1 hc2
 go_wp2_with fail
 refine (HCK.out V HB0.out).mono ?_
 rintro e w1 ⟨rfl, hb1⟩
 have HROW1 := Lib.hid (row_on HROW.out hb1)
 have HB1 := Lib.hid (chain HB0.out hb1)
 clear hlt hc0 hc1 hc2 hrg hb1 HROW HB0 HCK
 by_cases h0 : ckV o = 0
 ·
  rw [h0]
  have H0 := Lib.hid h0
  clear h0
  go_wp2_with fail
  obtain ⟨U, hU⟩ : ∃ U, w1.drew = U := ⟨_, rfl⟩
  have hbU : Below w1.heap.size w1 U := by rw [← hU]; exact (Below.refl _ _).drew
  have HBU := Lib.hid (chain HB1.out hbU)
  have hrU := row_on HROW1.out hbU
  obtain ⟨_, hc0, hc1, hc2⟩ := facts3 hrU
  have hrg : U.rangeAt w.heap.size 0 [Value.int .u8 tz, .slice A1 m1 c1, .slice B1 n1 d1] := range3o hc0 hc1 hc2
  have mkS : ∀ z, Below U.heap.size U z → z.rangeAt w.heap.size 0 [Value.int .u8 tz, .slice A1 m1 c1, .slice B1 n1 d1] := fun z hz => range_on8 hrg hz
  have hS0 : w1.drew.rangeAt w.heap.size 0 [Value.int .u8 tz, .slice A1 m1 c1, .slice B1 n1 d1] := by rw [hU]; exact hrg
  clear hbU hrU hc0 hc1 hc2 hrg
  refine wp_region_held_drew (S := fun z => z.rangeAt w.heap.size 0 [Value.int .u8 tz, .slice A1 m1 c1, .slice B1 n1 d1]) (by kernel_rfl) hS0 (fun hHeld => ?_)
  rw [hU] at hHeld ⊢
  clear hS0 hU
  refine wpAnyH_take (i := 0) (oi := { dst := some 10, op := .load 63 (.tmp 1), type := 63, pos := "octet.go:32", after := #[], guard := none }) (v := .agg ([Value.int .u8 tz, .slice A1 m1 c1, .slice B1 n1 d1]).toArray) rfl (by kernel_rfl) (by kernel_rfl) (by kernel_rfl) (fun _ _ _ h => h) (yieldsIf_load_mid (by rfl) _ _ rfl _ _ rfl [Value.int .u8 tz, .slice A1 m1 c1, .slice B1 n1 d1] _ (fun w hSw => hSw) Try.underlying63 rfl (sz3o _ _ _)) hHeld ?_
  try simp only [Act.put, List.setIfInBounds_toArray, List.set_cons_zero, List.set_cons_succ]
  refine wpAnyH_take (i := 3) (oi := { dst := some 13, op := .load 63 (.tmp 1), type := 63, pos := "octet.go:32", after := #[], guard := none }) (v := .agg ([Value.int .u8 tz, .slice A1 m1 c1, .slice B1 n1 d1]).toArray) rfl (by kernel_rfl) (by kernel_rfl) (by kernel_rfl) (fun _ _ _ h => h) (yieldsIf_load_mid (by rfl) _ _ rfl _ _ rfl [Value.int .u8 tz, .slice A1 m1 c1, .slice B1 n1 d1] _ (fun w hSw => hSw) Try.underlying63 rfl (sz3o _ _ _)) hHeld ?_
  try simp only [Act.put, List.setIfInBounds_toArray, List.set_cons_zero, List.set_cons_succ]
  refine wpAnyH_ready (rs := [1]) (by kernel_rfl) (by simp) (AllReadyH.cons (o := { dst := some 11, op := .call { callee := .value (.func 47), args := #[.tmp 10], argTypes := #[63] }, type := 40, pos := "octet.go:32", after := #[{ on := 0, ground := .data }], guard := none }) rfl (fun K hK => ?_) AllReadyH.nil)
  go_simp
  refine (HSI.out H0.out U (HBU.out)).mono ?_
  rintro e z5 ⟨rfl, b5⟩
  go_simp
  refine hK.out _ _ (mkS _ (b5)) (fun hHeld2 => ?_)
  clear hK K hHeld
  have hHeld := hHeld2
  clear hHeld2
  try simp only [Act.put, List.setIfInBounds_toArray, List.set_cons_zero, List.set_cons_succ]
  refine wpAnyH_ready (rs := [2]) (by kernel_rfl) (by simp) (AllReadyH.cons (o := { dst := some 12, op := .makeSlice 26 (.const (.int .i64 0)) (.tmp 11), type := 26, pos := "octet.go:32", after := #[{ on := 1, ground := .data }], guard := none }) rfl (fun K hK => ?_) AllReadyH.nil)
  obtain ⟨i0, hi, hz0, hz1, hz2⟩ := info_parts Try.info_byte
  obtain ⟨z6, hmk, hown6, hgrow6⟩ := run_make_own (P := Try.prog) z5 w.heap.size 26 5 i0 (.int .u8 0) 1 Try.underlying26 hi hz0 hz1 .i64 .u64 Z (by have := HZ.out H0.out; rw [hz2]; omega) (by have := HZ.out H0.out; unfold maxLen; omega) (Nat.le_trans HBU.out.size b5.size)
  have b6 : Below U.heap.size U z6 := b5.grown hgrow6 b5.size (fun j e => by cases e)
  go_simp
  try simp only [hmk]
  try go_simp
  refine hK.out _ _ (mkS _ (b6)) (fun hHeld2 => ?_)
  clear hK K hHeld
  have hHeld := hHeld2
  clear hHeld2
  try simp only [Act.put, List.setIfInBounds_toArray, List.set_cons_zero, List.set_cons_succ]
  refine wpAnyH_ready (rs := [4]) (by kernel_rfl) (by simp) (AllReadyH.cons (o := { dst := some 14, op := .call { callee := .value (.func 46), args := #[.tmp 12, .tmp 13], argTypes := #[26, 63] }, type := 26, pos := "octet.go:32", after := #[{ on := 2, ground := .data }, { on := 3, ground := .data }, { on := 1, ground := .chain }], guard := none }) rfl (fun K hK => ?_) AllReadyH.nil)
  go_simp
  refine (HPT.out H0.out z6 (HBU.out.trans (b6.mono HBU.out.size)) _ hown6).mono ?_
  rintro e z7 ⟨v7, rfl, hg7⟩
  have b7 : Below U.heap.size U z7 := b6.grown hg7.grown b6.size (fun j e => by have h1 : z5.heap.size = j := Option.some.inj e; have := b5.size; omega)
  have HG7 := Lib.hid hg7
  have HB7 := Lib.hid b7
  clear hg7
  go_simp
  refine hK.out _ _ (mkS _ (b7)) (fun hHeld2 => ?_)
  clear hK K hHeld
  have hHeld := hHeld2
  clear hHeld2
  try simp only [Act.put, List.setIfInBounds_toArray, List.set_cons_zero, List.set_cons_succ]
  refine wpAnyH_take (i := 5) (oi := { dst := some 2, op := .assign (.tmp 14), type := 26, pos := "octet.go:32", after := #[{ on := 4, ground := .data }, { on := 4, ground := .chain }, { on := 0, ground := .phase }, { on := 1, ground := .phase }, { on := 2, ground := .phase }, { on := 3, ground := .phase }, { on := 4, ground := .phase }], guard := none }) (v := ?_) rfl (by kernel_rfl) (by kernel_rfl) (by kernel_rfl) (fun _ _ _ h => h) (Or.inl ⟨by rfl, ?_⟩) hHeld ?_
  rotate_left
  ·
   intro w hSw
   clear hSw
   go_simp
   try with_reducible rfl
  try simp only [Act.put, List.setIfInBounds_toArray, List.set_cons_zero, List.set_cons_succ]
  refine wpAnyH_take (i := 6) (oi := { dst := some 3, op := .assign (.const (.int .i64 0)), type := 28, pos := "octet.go:32", after := #[{ on := 5, ground := .chain }, { on := 0, ground := .phase }, { on := 1, ground := .phase }, { on := 2, ground := .phase }, { on := 3, ground := .phase }, { on := 4, ground := .phase }, { on := 5, ground := .phase }], guard := none }) (v := ?_) rfl (by kernel_rfl) (by kernel_rfl) (by kernel_rfl) (fun _ _ _ h => h) (Or.inl ⟨by rfl, ?_⟩) hHeld ?_
  rotate_left
  ·
   intro w hSw
   clear hSw
   go_simp
   try with_reducible rfl
  try simp only [Act.put, List.setIfInBounds_toArray, List.set_cons_zero, List.set_cons_succ]
  refine wpAnyH_done (by kernel_rfl) ?_ _

  go_wp2_with fail
  go_ret2
  have hown := HG7.out.own
  rw [Nat.zero_add, List.nil_append, ← HZE.out, siz_eq] at hown
  exact ⟨HBU.out.trans (HB7.out.mono HBU.out.size), .inl ⟨H0.out, v7, rfl, hown⟩⟩
 ·
  have h0i : ((ckV o : Int) != 0) = true := by simp [h0]
  obtain ⟨E, hE⟩ : ∃ E, ckV o = E := ⟨_, rfl⟩
  have HEE := Lib.hid hE
  rw [hE] at h0i ⊢
  have H0 := Lib.hid h0
  clear h0 hE
  go_wp2_with fail
  go_ret2
  exact ⟨HB1.out, .inr ⟨H0.out, by rw [HEE.out]; rfl⟩⟩
end Go.Proofs.Ythfgdgcdicacpaa
namespace Go.Proofs.Ythfgdgcdicacpaa
open Go.RowKit Sha Oc
set_option linter.unusedVariables false
set_option linter.unusedSimpArgs false
set_option maxRecDepth 100000 in
set_option maxHeartbeats 2000000 in
theorem catch_panicking (p q : Nat) (x y z e0 : Value) (u : TypeId) (pv : Value) (older : List PanicEntry) (w : World) (hp : w.heap[p]? = some (.cells #[x, y, z] 63 (0, 0))) (hq : w.heap[q]? = some (.cells #[e0] 28 (0, 0))) (hne : p ≠ q) :
  CallsD Try.prog 56 #[.pointer (some ⟨p, 0, none⟩), .pointer (some ⟨q, 0, none⟩)] (.panicking ({ v := .iface u pv, recovered := false } :: older)) w fun e u' w' =>
   e = .returned (.tuple #[]) ∧ u' = .panicking ({ v := .iface u pv, recovered := true } :: older) ∧ w' = (w.setCells p 0 [.int .u8 0, .slice none 0 0, .slice none 0 0]).setCell ⟨q, 0, none⟩ (.int .i64 12) := by
 have hlp := (Array.getElem?_eq_some_iff.1 hp).1
 have hlq := (Array.getElem?_eq_some_iff.1 hq).1
 obtain ⟨⟨f0, f1, f2⟩, c0, c1, c2⟩ := facts3 hp
 have cq := cell_of_one hq
 have fq := free_of_one hq
 have hneq : ¬ q = p := fun e => hne e.symm
 refine callsD_of_wpS Try.func56 rfl fun c₀ cs hu => ?_
 apply wpS_seq
 apply wpS_region
 simp [wpOpsS, go_sem, recoverD, hu, Try.ntmps56, Exit.thenS]
 refine wpS_cond (t := true) (by simp [Act.eval, Array.replicate]) ?_
 simp only [if_true]
 apply wpS_region
 simp [wpOpsS, go_sem, c0, c1, c2, f0, f1, f2, cq, fq, hne, hneq, bodyPostS, results, Try.results56, World.setCells]
theorem catch_idle (p q : Nat) (w : World) :
  CallsD Try.prog 56 #[.pointer (some ⟨p, 0, none⟩), .pointer (some ⟨q, 0, none⟩)] .returning w fun e u' w' => e = .returned (.tuple #[]) ∧ u' = .returning ∧ w' = w := by
 refine callsD_of_wpS Try.func56 rfl fun c₀ cs hu => ?_
 apply wpS_seq
 apply wpS_region
 simp [wpOpsS, go_sem, recoverD, hu, Try.ntmps56, Exit.thenS]
 refine wpS_cond (t := false) (by simp [Act.eval, Array.replicate]) ?_
 simp only [Bool.false_eq_true, if_false]
 refine wpS_of_wp (wp_skip ?_)
 cases c₀
 simp_all [bodyPostS, results, Try.results56]
def DecPost (b : List UInt8) (w : World) (e : Ending) (w' : World) : Prop := Below w.heap.size w w' ∧ ∃ x y, e = .returned (.tuple #[.agg (cell3 (decV b).1 x y), .int .i64 (decV b).2]) ∧ At (Rw w.heap.size w') w' (decV b).1 x y
set_option maxRecDepth 100000 in
set_option maxHeartbeats 2000000 in
theorem decode_any (b : List UInt8) (hb : b.length ≤ 100000) (A : Option Addr) (c : Nat) (hc : b.length ≤ c) (hA : A = none → c = 0) (w : World) (hs : SrcAt A b w) :
  Calls Try.prog 27 #[.slice A b.length c] w (DecPost b w) := by
 obtain ⟨m, hm⟩ : ∃ m, b.length = m := ⟨_, rfl⟩
 have hmf : ∀ (fn : Fn) (first cap : Array Value) (w : World), (Instr.makeFunc fn first cap).run Try.prog w = .ok (.func fn first cap) w := fun _ _ _ _ => rfl
 unfold DecPost
 rw [hm]
 by_cases h1 : 65536 < m
 ·
  have h1i : (65536 : Int) < (m : Int) := by omega
  go_enter_defers Try.func27, Try.ntmps27
  go_wp2_with fail
  have hd : decV b = (nilO, 4) := by unfold decV; rw [if_pos (by omega)]
  obtain ⟨V, hV⟩ : ∃ V, (w.alloc (.cells #[.int .u8 0, .slice none 0 0, .slice none 0 0] 63)).alloc (.cells #[.int .i64 4] 28) = V := ⟨_, rfl⟩
  have hr := heap_alloc2_old8 w (.cells #[.int .u8 0, .slice none 0 0, .slice none 0 0] 63) (.cells #[.int .i64 4] 28)
  have he := heap_alloc2_new8 w (.cells #[.int .u8 0, .slice none 0 0, .slice none 0 0] 63) (.cells #[.int .i64 4] 28)
  have hb2 : Below w.heap.size w V := by rw [← hV]; exact ((Below.refl _ w).alloc (Nat.le_refl _) _).alloc (by simp) _
  rw [hV] at hr he ⊢
  obtain ⟨_, c0, c1, c2⟩ := facts3 hr
  have hrg := range3o c0 c1 c2
  have cq := cell_of_one he
  refine ⟨.tuple #[.agg #[.int .u8 0, .slice none 0 0, .slice none 0 0], .int .i64 4], ?_, hb2, _, _, by rw [hd]; rfl, by rw [hd]; exact nil_list _ _⟩
  simp [results, Try.results27, go_sem, c0, c1, c2, cq]
 ·
  have h1i : ¬ (65536 : Int) < (m : Int) := by omega
  obtain ⟨S, hS⟩ : ∃ S, w.heap.size = S := ⟨_, rfl⟩
  obtain ⟨V, hV⟩ : ∃ V, ((w.alloc (.cells #[.int .u8 0, .slice none 0 0, .slice none 0 0] 63)).alloc (.cells #[.int .i64 0] 28)).alloc (.cells #[.slice A m c] 98) = V := ⟨_, rfl⟩
  have hr := (Below.heap_alloc ((w.alloc (.cells #[.int .u8 0, .slice none 0 0, .slice none 0 0] 63)).alloc (.cells #[.int .i64 0] 28)) (.cells #[.slice A m c] 98) w.heap.size (by simp; omega)).trans (heap_alloc2_old8 w (.cells #[.int .u8 0, .slice none 0 0, .slice none 0 0] 63) (.cells #[.int .i64 0] 28))
  have he := (Below.heap_alloc ((w.alloc (.cells #[.int .u8 0, .slice none 0 0, .slice none 0 0] 63)).alloc (.cells #[.int .i64 0] 28)) (.cells #[.slice A m c] 98) (w.heap.size + 1) (by simp)).trans (heap_alloc2_new8 w (.cells #[.int .u8 0, .slice none 0 0, .slice none 0 0] 63) (.cells #[.int .i64 0] 28))
  have hg := heap_alloc_new ((w.alloc (.cells #[.int .u8 0, .slice none 0 0, .slice none 0 0] 63)).alloc (.cells #[.int .i64 0] 28)) (.cells #[.slice A m c] 98)
  rw [World.size_alloc, World.size_alloc] at hg
  rw [hV, hS] at hr he hg
  have hbV : Below w.heap.size w V := by rw [← hV]; exact (((Below.refl _ w).alloc (Nat.le_refl _) _).alloc (by simp) _).alloc (by simp; omega) _
  have hzV : V.heap.size = S + 3 := by rw [← hV, ← hS]; simp
  have hrd : Rdr S V (S + 1 + 1) A b c := ⟨by rw [hm]; exact hg, hs.on hbV, hc, hA, by omega, fun ga oa e h => by
   obtain ⟨ga', oa', e2, hcl⟩ := hs h
   rw [e] at e2
   obtain rfl : ga = ga' := congrArg Addr.block (Option.some.inj e2)
   cases b with
   | nil => exact absurd rfl h
   | cons x r =>
    have := World.block_lt_of_cell? _ _ (hcl 0 x rfl)
    have h3 : ga < w.heap.size := this
    exact ⟨by omega, by omega⟩⟩
  have hv := value_all (m + 1) S V (S + 1 + 1) A b c hrd (by omega) (by omega)
  unfold VlPost at hv
  have HV := Lib.hid hv
  have HR := Lib.hid hr
  have HE := Lib.hid he
  have HB : RowKit.Hid (Below S w V) := Lib.hid (by rw [← hS]; exact hbV)
  have HZ : RowKit.Hid (V.heap.size = S + 3 ∧ w.heap.size = S ∧ b.length = m ∧ m ≤ 65536) := Lib.hid ⟨hzV, hS, hm, by omega⟩
  rw [hS]
  clear hv hr he hg hbV hzV hrd hs hA hc
  go_enter_defers Try.func27, Try.ntmps27
  go_wp2_with fail
  try rw [hV]
  try simp only [hS]
  clear hV hS
  refine HV.out.mono ?_
  rintro e w4 ⟨hg4, ⟨hp4, rfl⟩ | ⟨o, r, x, y, A4, c4, hp4, rfl, hat4, hrd4⟩⟩
  ·
   have hr4 := row3_grown HR.out hg4 (by omega)
   have he4 := row3_grown HE.out hg4 (by omega)
   show bodyPostD _ _ _ (Exit.panic _) _ _
   refine leaves_cons (f := 56) (args := #[.pointer (some ⟨S, 0, none⟩), .pointer (some ⟨S + 1, 0, none⟩)]) (by simp) (by simp [go_sem]) ?_
   refine (catch_panicking S (S + 1) _ _ _ _ _ _ [] _ hr4 he4 (by omega)).mono ?_
   rintro e u' w'' ⟨rfl, rfl, rfl⟩
   have hbw4 : Below S w w4 := HB.out.trans ((Below.refl S V).grown hg4 (by have := HZ.out.1; omega) (fun k e => by have := Option.some.inj e; omega))
   have hr7 : ((w4.setCells S 0 [.int .u8 0, .slice none 0 0, .slice none 0 0]).setCell ⟨S + 1, 0, none⟩ (.int .i64 12)).heap[S]? = some (.cells #[.int .u8 0, .slice none 0 0, .slice none 0 0] 63 (0, 0)) := (Below.heap_setCell _ _ _ _ (by show S ≠ S + 1; omega)).trans (row_setCells8 hr4 rfl)
   have he7 : ((w4.setCells S 0 [.int .u8 0, .slice none 0 0, .slice none 0 0]).setCell ⟨S + 1, 0, none⟩ (.int .i64 12)).heap[S + 1]? = some (.cells #[.int .i64 12] 28 (0, 0)) := one_setCell ((heap_setCells_other8 _ _ _ (by omega)).trans he4)
   have hb7 : Below S w ((w4.setCells S 0 [.int .u8 0, .slice none 0 0, .slice none 0 0]).setCell ⟨S + 1, 0, none⟩ (.int .i64 12)) := (below_setCells8 _ _ _ hbw4 (Nat.le_refl _)).setCell (by show S ≤ S + 1; omega) _
   generalize World.setCell _ _ _ = W7 at hr7 he7 hb7 ⊢
   obtain ⟨_, c0, c1, c2⟩ := facts3 hr7
   have cq := cell_of_one he7
   have hd : decV b = (nilO, 12) := by unfold decV; rw [if_neg (by have := HZ.out; omega), HZ.out.2.2.1, hp4]
   show Leaves _ _ _ _ [] .returning _
   refine ⟨.tuple #[.agg #[.int .u8 0, .slice none 0 0, .slice none 0 0], .int .i64 12], ?_, hb7, _, _, by rw [hd]; rfl, by rw [hd]; exact nil_list _ _⟩
   simp [results, Try.results27, go_sem, c0, c1, c2, cq]
  ·
   have hr4 := row3_grown HR.out hg4 (by omega)
   have he4 := row3_grown HE.out hg4 (by omega)
   have hbw4 : Below S w w4 := HB.out.trans ((Below.refl S V).grown hg4 (by have := HZ.out.1; omega) (fun k e => by have := Option.some.inj e; omega))
   obtain ⟨A1, m1, c1, B1, n1, d1, rfl, rfl⟩ := hat4.slices
   obtain ⟨tz, htz⟩ : ∃ tz : Int, ((tagO o).toNat : Int) = tz := ⟨_, rfl⟩
   have HTZ := Lib.hid htz
   have HRR4 := Lib.hid hr4
   have hlr := (Array.getElem?_eq_some_iff.1 hr4).1
   obtain ⟨⟨f0, f1, f2⟩, k0, k1, k2⟩ := facts3 hr4
   have HE5 := Lib.hid (fun a b c : Value => (heap_setCells_other8 (g := S) [a, b, c] 0 w4 (show S + 1 ≠ S by omega)).trans he4)
   have HB5 := Lib.hid (fun a b c : Value => below_setCells8 [a, b, c] 0 _ hbw4 (Nat.le_refl _))
   have HAT5 := Lib.hid (at_setCells hat4 (X := S) (by have := HZ.out.1; omega) (Nat.le_refl _) 0 [.int .u8 tz, .slice A1 m1 c1, .slice B1 n1 d1])
   have HRD5 := Lib.hid (rdr_set3 hrd4 (Nat.le_refl S) (X := S) (by omega) (.int .u8 tz) (.slice A1 m1 c1) (.slice B1 n1 d1))
   have HP4 := Lib.hid hp4
   have HOB : RowKit.Hid (cnt o ≤ 900000 ∧ tot o ≤ 400000) := Lib.hid (by
    obtain ⟨_, h3⟩ := prd_some _ b o r (by have := HZ.out; omega) hp4
    have h4 := congrArg List.length h3
    rw [List.length_append] at h4
    have h5 := cnt_enc o
    have h6 := tot_enc o
    have h7 := HZ.out
    omega)
   unfold cell3
   rw [htz]
   clear hg4 hp4 hat4 hrd4 hr4 he4 hbw4 htz HV HR HE HB
   go_upto_region 6 with (fail)
   have e9 : ∀ a b c : Value, ((w4.setCell ⟨S, 0, none⟩ a).setCell ⟨S, 1, none⟩ b).setCell ⟨S, 2, none⟩ c = w4.setCells S 0 [a, b, c] := fun _ _ _ => rfl
   rw [e9]
   have hr5 := row_setCells8 HRR4.out (x := .int .u8 tz) (y := .slice A1 m1 c1) (z := .slice B1 n1 d1) rfl
   have he5 := HE5.out (.int .u8 tz) (.slice A1 m1 c1) (.slice B1 n1 d1)
   have hb5 := HB5.out (.int .u8 tz) (.slice A1 m1 c1) (.slice B1 n1 d1)
   have hat5 := HAT5.out
   have hrd5 := HRD5.out
   clear HE5 HB5 HAT5 HRD5 HRR4 hlr f0 f1 f2 k0 k1 k2 e9
   generalize World.setCells _ _ _ _ = w5 at hr5 he5 hb5 hat5 hrd5 ⊢
   --GEN
   have HR5 := Lib.hid hr5
   have HE5 := Lib.hid he5
   have HB5 := Lib.hid hb5
   have HAT5 := Lib.hid hat5
   have hlg := (Array.getElem?_eq_some_iff.1 hrd5.row).1
   have kg := cell_of_one hrd5.row
   have hlr := (Array.getElem?_eq_some_iff.1 hr5).1
   have hlq := (Array.getElem?_eq_some_iff.1 he5).1
   obtain ⟨⟨f0, f1, f2⟩, k0, k1, k2⟩ := facts3 hr5
   have hrg := range3o k0 k1 k2
   have kq := cell_of_one he5
   have fq := free_of_one he5
   clear hr5 he5 hb5 hat5 hrd5
   cases r with
   | cons x r =>
    have HD : RowKit.Hid (decV b = (nilO, 12)) := Lib.hid (by
     unfold decV
     rw [if_neg (by have := HZ.out; omega), HZ.out.2.2.1, HP4.out]
     show (if (x :: r).length = 0 ∧ ckV o = 0 then (o, (0 : Int)) else (nilO, 12)) = _
     rw [if_neg (by rw [List.length_cons]; omega)])
    obtain ⟨q, hq⟩ : ∃ q, (x :: r).length = q := ⟨_, rfl⟩
    rw [hq] at kg
    have hq0 : (0 : Int) < (q : Int) := by rw [← hq, List.length_cons]; omega
    clear hq
    go_wp2_with fail
    clear hlr hlq hlg f0 f1 f2 k0 k1 k2 hrg kq fq kg
    have e9 : ∀ a b c : Value, ((w5.setCell ⟨S, 0, none⟩ a).setCell ⟨S, 1, none⟩ b).setCell ⟨S, 2, none⟩ c = w5.setCells S 0 [a, b, c] := fun _ _ _ => rfl
    rw [e9]
    have hr7 : ((w5.setCells S 0 [.int .u8 0, .slice none 0 0, .slice none 0 0]).setCell ⟨S + 1, 0, none⟩ (.int .i64 12)).heap[S]? = some (.cells #[.int .u8 0, .slice none 0 0, .slice none 0 0] 63 (0, 0)) := (Below.heap_setCell _ _ _ _ (by show S ≠ S + 1; omega)).trans (row_setCells8 HR5.out rfl)
    have he7 : ((w5.setCells S 0 [.int .u8 0, .slice none 0 0, .slice none 0 0]).setCell ⟨S + 1, 0, none⟩ (.int .i64 12)).heap[S + 1]? = some (.cells #[(.int .i64 12)] 28 (0, 0)) := one_setCell ((heap_setCells_other8 _ _ _ (by omega)).trans HE5.out)
    have hb7 : Below S w ((w5.setCells S 0 [.int .u8 0, .slice none 0 0, .slice none 0 0]).setCell ⟨S + 1, 0, none⟩ (.int .i64 12)) := (below_setCells8 _ _ _ HB5.out (Nat.le_refl _)).setCell (by show S ≤ S + 1; omega) _
    have hat7 : At (Rw S ((w5.setCells S 0 [.int .u8 0, .slice none 0 0, .slice none 0 0]).setCell ⟨S + 1, 0, none⟩ (.int .i64 12))) ((w5.setCells S 0 [.int .u8 0, .slice none 0 0, .slice none 0 0]).setCell ⟨S + 1, 0, none⟩ (.int .i64 12)) nilO (.slice none 0 0) (.slice none 0 0) := nil_list _ _
    generalize World.setCell _ _ _ = W7 at hr7 he7 hb7 hat7 ⊢
    clear e9
    refine leaves_cons (f := 56) (args := #[.pointer (some ⟨S, 0, none⟩), .pointer (some ⟨S + 1, 0, none⟩)]) (by simp) (by simp [go_sem]) ?_
    refine (catch_idle S (S + 1) _).mono ?_
    rintro e u' w'' ⟨rfl, rfl, rfl⟩
    obtain ⟨_, g0, g1, g2⟩ := facts3 hr7
    have cq := cell_of_one he7
    show Leaves _ _ _ _ [] .returning _
    refine ⟨.tuple #[.agg #[.int .u8 0, .slice none 0 0, .slice none 0 0], (.int .i64 12)], ?_, hb7, _, _, by rw [HD.out]; rfl, by rw [HD.out]; exact hat7⟩
    simp [results, Try.results27, go_sem, g0, g1, g2, cq]
   | nil =>
    rw [List.length_nil] at kg
    have hck := check_any8 o HOB.out.1 HOB.out.2 w5 _ _ HAT5.out.any
    unfold cell3 at hck
    rw [HTZ.out] at hck
    have HCK := Lib.hid hck
    clear hck
    go_wp2_with fail
    refine HCK.out.mono ?_
    rintro e w6 ⟨rfl, hb6⟩
    have HR6 := Lib.hid (row_on HR5.out hb6)
    have HE6 := Lib.hid (row_on HE5.out hb6)
    have HB6 : RowKit.Hid (Below S w w6) := Lib.hid (HB5.out.trans (hb6.mono (Nat.le_of_lt hlr)))
    have HAT6 := Lib.hid (HAT5.out.own hb6 (Nat.le_refl _))
    clear hlr hlq hlg f0 f1 f2 k0 k1 k2 hrg kq fq kg hb6 HCK HAT5 HR5 HE5 HB5
    have hr6 := HR6.out
    have he6 := HE6.out
    have hlr := (Array.getElem?_eq_some_iff.1 hr6).1
    have hlq := (Array.getElem?_eq_some_iff.1 he6).1
    obtain ⟨⟨f0, f1, f2⟩, k0, k1, k2⟩ := facts3 hr6
    have hrg := range3o k0 k1 k2
    have kq := cell_of_one he6
    have fq := free_of_one he6
    clear hr6 he6
    have hdv : decV b = if ckV o = 0 then (o, 0) else (nilO, 12) := by
     unfold decV
     rw [if_neg (by have := HZ.out; omega), HZ.out.2.2.1, HP4.out]
     show (if ([] : List UInt8).length = 0 ∧ ckV o = 0 then (o, (0 : Int)) else (nilO, 12)) = _
     by_cases h : ckV o = 0
     ·
      rw [if_pos ⟨rfl, h⟩, if_pos h]
     ·
      rw [if_neg (fun h2 => h h2.2), if_neg h]
    by_cases h0 : ckV o = 0
    ·
     rw [if_pos h0] at hdv
     have HD := Lib.hid hdv
     rw [h0]
     clear hdv h0
     go_wp2_with fail
     clear hlr hlq f0 f1 f2 k0 k1 k2 hrg kq fq
     have e9 : ∀ a b c : Value, ((w6.setCell ⟨S, 0, none⟩ a).setCell ⟨S, 1, none⟩ b).setCell ⟨S, 2, none⟩ c = w6.setCells S 0 [a, b, c] := fun _ _ _ => rfl
     rw [e9]
     have hr7 : ((w6.setCells S 0 [.int .u8 tz, .slice A1 m1 c1, .slice B1 n1 d1]).setCell ⟨S + 1, 0, none⟩ (.int .i64 0)).heap[S]? = some (.cells #[.int .u8 tz, .slice A1 m1 c1, .slice B1 n1 d1] 63 (0, 0)) := (Below.heap_setCell _ _ _ _ (by show S ≠ S + 1; omega)).trans (row_setCells8 HR6.out rfl)
     have he7 : ((w6.setCells S 0 [.int .u8 tz, .slice A1 m1 c1, .slice B1 n1 d1]).setCell ⟨S + 1, 0, none⟩ (.int .i64 0)).heap[S + 1]? = some (.cells #[(.int .i64 0)] 28 (0, 0)) := one_setCell ((heap_setCells_other8 _ _ _ (by omega)).trans HE6.out)
     have hb7 : Below S w ((w6.setCells S 0 [.int .u8 tz, .slice A1 m1 c1, .slice B1 n1 d1]).setCell ⟨S + 1, 0, none⟩ (.int .i64 0)) := (below_setCells8 _ _ _ HB6.out (Nat.le_refl _)).setCell (by show S ≤ S + 1; omega) _
     have hat7 : At (Rw S ((w6.setCells S 0 [.int .u8 tz, .slice A1 m1 c1, .slice B1 n1 d1]).setCell ⟨S + 1, 0, none⟩ (.int .i64 0))) ((w6.setCells S 0 [.int .u8 tz, .slice A1 m1 c1, .slice B1 n1 d1]).setCell ⟨S + 1, 0, none⟩ (.int .i64 0)) o (.slice A1 m1 c1) (.slice B1 n1 d1) := at_setCells (at_setCells HAT6.out (X := S) (by have := HZ.out.1; omega) (Nat.le_refl _) 0 [.int .u8 tz, .slice A1 m1 c1, .slice B1 n1 d1]) (X := S + 1) (by have := HZ.out.1; omega) (by have := HZ.out.1; omega) 0 [.int .i64 0]
     generalize World.setCell _ _ _ = W7 at hr7 he7 hb7 hat7 ⊢
     clear e9
     refine leaves_cons (f := 56) (args := #[.pointer (some ⟨S, 0, none⟩), .pointer (some ⟨S + 1, 0, none⟩)]) (by simp) (by simp [go_sem]) ?_
     refine (catch_idle S (S + 1) _).mono ?_
     rintro e u' w'' ⟨rfl, rfl, rfl⟩
     obtain ⟨_, g0, g1, g2⟩ := facts3 hr7
     have cq := cell_of_one he7
     show Leaves _ _ _ _ [] .returning _
     refine ⟨.tuple #[.agg #[.int .u8 tz, .slice A1 m1 c1, .slice B1 n1 d1], (.int .i64 0)], ?_, hb7, _, _, by rw [HD.out]; (unfold cell3; rw [HTZ.out]), by rw [HD.out]; exact hat7⟩
     simp [results, Try.results27, go_sem, g0, g1, g2, cq]
    ·
     rw [if_neg h0] at hdv
     have HD := Lib.hid hdv
     obtain ⟨E, hE⟩ : ∃ E, ckV o = E := ⟨_, rfl⟩
     rw [hE] at h0 ⊢
     have h0i : ((E : Int) != 0) = true := by simp [h0]
     clear hdv hE h0
     go_wp2_with fail
     clear hlr hlq f0 f1 f2 k0 k1 k2 hrg kq fq
     have e9 : ∀ a b c : Value, ((w6.setCell ⟨S, 0, none⟩ a).setCell ⟨S, 1, none⟩ b).setCell ⟨S, 2, none⟩ c = w6.setCells S 0 [a, b, c] := fun _ _ _ => rfl
     rw [e9]
     have hr7 : ((w6.setCells S 0 [.int .u8 0, .slice none 0 0, .slice none 0 0]).setCell ⟨S + 1, 0, none⟩ (.int .i64 12)).heap[S]? = some (.cells #[.int .u8 0, .slice none 0 0, .slice none 0 0] 63 (0, 0)) := (Below.heap_setCell _ _ _ _ (by show S ≠ S + 1; omega)).trans (row_setCells8 HR6.out rfl)
     have he7 : ((w6.setCells S 0 [.int .u8 0, .slice none 0 0, .slice none 0 0]).setCell ⟨S + 1, 0, none⟩ (.int .i64 12)).heap[S + 1]? = some (.cells #[(.int .i64 12)] 28 (0, 0)) := one_setCell ((heap_setCells_other8 _ _ _ (by omega)).trans HE6.out)
     have hb7 : Below S w ((w6.setCells S 0 [.int .u8 0, .slice none 0 0, .slice none 0 0]).setCell ⟨S + 1, 0, none⟩ (.int .i64 12)) := (below_setCells8 _ _ _ HB6.out (Nat.le_refl _)).setCell (by show S ≤ S + 1; omega) _
     have hat7 : At (Rw S ((w6.setCells S 0 [.int .u8 0, .slice none 0 0, .slice none 0 0]).setCell ⟨S + 1, 0, none⟩ (.int .i64 12))) ((w6.setCells S 0 [.int .u8 0, .slice none 0 0, .slice none 0 0]).setCell ⟨S + 1, 0, none⟩ (.int .i64 12)) nilO (.slice none 0 0) (.slice none 0 0) := nil_list _ _
     generalize World.setCell _ _ _ = W7 at hr7 he7 hb7 hat7 ⊢
     clear e9
     refine leaves_cons (f := 56) (args := #[.pointer (some ⟨S, 0, none⟩), .pointer (some ⟨S + 1, 0, none⟩)]) (by simp) (by simp [go_sem]) ?_
     refine (catch_idle S (S + 1) _).mono ?_
     rintro e u' w'' ⟨rfl, rfl, rfl⟩
     obtain ⟨_, g0, g1, g2⟩ := facts3 hr7
     have cq := cell_of_one he7
     show Leaves _ _ _ _ [] .returning _
     refine ⟨.tuple #[.agg #[.int .u8 0, .slice none 0 0, .slice none 0 0], (.int .i64 12)], ?_, hb7, _, _, by rw [HD.out]; rfl, by rw [HD.out]; exact hat7⟩
     simp [results, Try.results27, go_sem, g0, g1, g2, cq]
end Go.Proofs.Ythfgdgcdicacpaa
namespace Go.Proofs.Ythfgdgcdicacpaa
open Go.RowKit Sha Oc
set_option linter.unusedVariables false
set_option linter.unusedSimpArgs false
end Go.Proofs.Ythfgdgcdicacpaa
namespace Go.Proofs.Ythfgdgcdicacpaa
open Go.RowKit Sha Oc
set_option linter.unusedVariables false
set_option linter.unusedSimpArgs false
end Go.Proofs.Ythfgdgcdicacpaa
namespace Go.Proofs.Ythfgdgcdicacpaa
open Go.ChangeShapes Go.WideShapes Go.ChangeAt Go.RowKit Sha Oc
set_option linter.unusedVariables false
set_option linter.unusedSimpArgs false
set_option maxRecDepth 100000
section
variable {H : Type} {enc : TypeId × Value → H}
end
end Go.Proofs.Ythfgdgcdicacpaa
namespace Go.Proofs.Ythfgdgcdicacpaa
open Go.ChangeShapes Go.WideShapes Go.ChangeAt Go.RowKit Sha Oc
set_option linter.unusedVariables false
set_option linter.unusedSimpArgs false
set_option maxRecDepth 100000
section
variable {H : Type} {enc : TypeId × Value → H}
end
end Go.Proofs.Ythfgdgcdicacpaa
