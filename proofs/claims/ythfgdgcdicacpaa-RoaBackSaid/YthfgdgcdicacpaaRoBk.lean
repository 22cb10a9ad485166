import Derived.Test.YthfgdgcdicacpaaRoS
namespace Go.Proofs.Ythfgdgcdicacpaa
namespace Ro
open Go.RowKit Sha Oc En Adr
set_option linter.unusedVariables false
set_option linter.unusedSimpArgs false
set_option maxRecDepth 100000 in
set_option maxHeartbeats 4000000 in
theorem lawback_any (ra : Ra) (hw : Wf ra) (A : Option Addr) (c : Nat) (hcn : A = none → c = 0) (w : World) (hp : Aps A ra.ps w) :
  Calls Try.prog 5 #[.agg #[.int .u32 ra.sy, .slice A ra.ps.length c]] w fun e w' => e = .returned (.bool true) ∧ Below w.heap.size w w' := by
 have HAL := Lib.hid (fun (V : World) => alive14_any V)
 have HEN := Lib.hid (fun (hl : ra.ps.length ≤ 100000) (V : World) (hb : Below w.heap.size w V) => (show Calls Try.prog 9 #[.agg #[.int .u32 ra.sy, .slice A ra.ps.length c]] V (fun e w' => (raC ra.ps = 0 ∧ ∃ A' c', e = .returned (.tuple #[.slice A' (enc (raV ra)).length c', .int .i64 0]) ∧ (enc (raV ra)).length ≤ c' ∧ (A' = none → c' = 0) ∧ SrcAt A' (enc (raV ra)) w' ∧ Below V.heap.size V w') ∨ (raC ra.ps ≠ 0 ∧ e = .returned (.tuple #[.slice none 0 0, .int .i64 (raC ra.ps)]) ∧ Below V.heap.size V w')) from
  (encode_roa ra hw A c hl V (hp.on hb)).mono fun e z hz => by
   obtain ⟨hb, ⟨h1, v, rfl, hown⟩ | ⟨h1, rfl⟩⟩ := hz
   ·
    obtain ⟨A', c', rfl, h2, h3, h4⟩ := own_src hown
    exact .inl ⟨h1, A', c', rfl, h2, h3, h4, hb⟩
   ·
    exact .inr ⟨h1, rfl, hb⟩))
 have HCK := Lib.hid (fun (hl : ra.ps.length ≤ 100000) (V : World) (hb : Below w.heap.size w V) => rcheck_any ra.sy ra.ps A c hl hw.ps V (hp.on hb))
 have HDE := Lib.hid (fun (h0 : raC ra.ps = 0) (V : World) (A' : Option Addr) (c' : Nat) (h1 : (enc (raV ra)).length ≤ c') (h2 : A' = none → c' = 0) (h3 : SrcAt A' (enc (raV ra)) V) => (show Calls Try.prog 11 #[.slice A' (enc (raV ra)).length c'] V (DdPost (ra, 0) V) from by
  have h9 := rdecode_any (enc (raV ra)) (by have := raV_len (fit_of hw h0); omega) A' c' h1 h2 V h3
  rw [raD_enc hw h0] at h9
  exact h9))
 have HSM := Lib.hid (fun (hl : ra.ps.length ≤ 100000) (V : World) (hb : Below w.heap.size w V) (A' : Option Addr) (c' : Nat) (h2 : Aps A' ra.ps V) => (show Calls Try.prog 14 #[.agg #[.int .u32 ra.sy, .slice A ra.ps.length c], .agg #[.int .u32 ra.sy, .slice A' ra.ps.length c']] V (fun e w' => e = .returned (.bool true) ∧ Below V.heap.size V w') from by
  have h9 := same_ref ra.sy ra.sy ra.ps ra.ps A A' c c' hl V (hp.on hb) h2
  rw [eqL_self, Bool.and_true, (by simp : (ra.sy == ra.sy) = true)] at h9
  exact h9))
 unfold DdPost at HDE
 generalize enc (raV ra) = D at HEN HDE
 generalize raC ra.ps = CK at HEN HCK HDE
 obtain ⟨sy, ps⟩ := ra
 dsimp only at HEN HCK HDE HSM ⊢
 obtain ⟨n, hn⟩ : ∃ n, ps.length = n := ⟨_, rfl⟩
 obtain ⟨dl, hdl⟩ : ∃ n, D.length = n := ⟨_, rfl⟩
 rw [hn] at HEN HCK HDE HSM ⊢
 rw [hdl] at HEN HDE
 have HG := Lib.hid (fun (V : World) => great_any sy n A c V)
 have HB0 := Lib.hid (below_new w (.cells #[.int .u32 sy, .slice A n c] 25))
 have HR0 := Lib.hid (heap_alloc_new w (.cells #[.int .u32 sy, .slice A n c] 25))
 clear hn hdl hw hp hcn
 go_enter Try.func5, Try.ntmps5
 go_upto_region 1 with (fail)
 generalize hV : World.alloc w _ = V at HB0 HR0 ⊢
 clear hV
 go_wp2_with fail
 refine (HAL.out V).mono ?_
 rintro e w1 ⟨rfl, hb⟩
 have HB1 := Lib.hid (chain HB0.out hb)
 have HR1 := Lib.hid (row_on HR0.out hb)
 clear hb
 obtain ⟨hlt, c0, c1⟩ := facts2 HR1.out
 go_wp2_with fail
 refine (HG.out w1).mono ?_
 rintro e w2 ⟨rfl, hb⟩
 have HB2 := Lib.hid (chain HB1.out hb)
 have HR2 := Lib.hid (row_on HR1.out hb)
 clear hb c0 c1 hlt
 by_cases h : 130 < n
 ·
  rw [decide_eq_true h]
  go_wp2_with fail
  go_ret
  exact ⟨rfl, HB2.out⟩
 ·
  rw [decide_eq_false h]
  have hl : n ≤ 100000 := by omega
  have HEN2 := Lib.hid (HEN.out hl w2 HB2.out)
  have HCK2 := Lib.hid (HCK.out hl)
  have HSM2 := Lib.hid (HSM.out hl)
  clear h hl HEN HCK HSM
  obtain ⟨hlt, c0, c1⟩ := facts2 HR2.out
  go_wp2_with fail
  refine HEN2.out.mono ?_
  rintro e w3 (⟨h0, A', c', rfl, h1, h2, h3, hb⟩ | ⟨h0, rfl, hb⟩)
  ·
   have HDE3 := Lib.hid (HDE.out h0 w3 A' c' h1 h2 h3)
   have HB3 := Lib.hid (chain HB2.out hb)
   have HR3 := Lib.hid (row_on HR2.out hb)
   clear hb c0 c1 hlt h0 h1 h2 h3
   go_wp2_with fail
   refine HDE3.out.mono ?_
   rintro e w4 ⟨A4, c4, rfl, _, hap, hb⟩
   have HB4 := Lib.hid (chain HB3.out hb)
   have HR4 := Lib.hid (row_on HR3.out hb)
   have HAP4 := Lib.hid hap
   clear hb hap
   go_upto_region 8 with (fail)
   generalize hV5 : World.alloc w4 _ = w5
   obtain ⟨M, hM⟩ : ∃ M, w4.heap.size = M := ⟨_, rfl⟩
   have HM5 := Lib.hid (show w5.heap[M]? = some (.cells #[.int .u32 sy, .slice A4 n c4] 25 (0, 0)) by rw [← hV5, ← hM]; exact heap_alloc_new _ _)
   have hb45 := (show Below w4.heap.size w4 w5 by rw [← hV5]; exact below_new _ _)
   have HB5 := Lib.hid (chain HB4.out hb45)
   have HR5 := Lib.hid (row_on HR4.out hb45)
   have HAP5 := Lib.hid (HAP4.out.on hb45)
   try simp only [hM]
   clear hV5 hM hb45
   obtain ⟨hlt, c0, c1⟩ := facts2 HR5.out
   obtain ⟨hlt', d0, d1⟩ := facts2 HM5.out
   go_wp2_with fail
   refine (HSM2.out w5 HB5.out A4 c4 HAP5.out).mono ?_
   rintro e w6 ⟨rfl, hb⟩
   have HB6 := Lib.hid (chain HB5.out hb)
   clear hb c0 c1 hlt d0 d1 hlt'
   go_wp2_with fail
   go_ret
   exact ⟨by simp, HB6.out⟩
  ·
   have i1 : (CK != 0) = true := by rw [bne_iff_ne]; exact h0
   have HB3 := Lib.hid (chain HB2.out hb)
   have HR3 := Lib.hid (row_on HR2.out hb)
   clear hb c0 c1 hlt h0
   obtain ⟨hlt, c0, c1⟩ := facts2 HR3.out
   go_wp2_with fail
   refine (HCK2.out w3 HB3.out).mono ?_
   rintro e w4 ⟨rfl, hb⟩
   have HB4 := Lib.hid (chain HB3.out hb)
   clear hb c0 c1 hlt
   go_wp2_with fail
   go_ret
   exact ⟨by simp, HB4.out⟩
end Ro
end Go.Proofs.Ythfgdgcdicacpaa
