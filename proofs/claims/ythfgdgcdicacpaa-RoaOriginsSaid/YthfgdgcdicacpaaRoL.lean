import Derived.Test.YthfgdgcdicacpaaRoK
namespace Go.Proofs.Ythfgdgcdicacpaa
namespace Ro
open Go.RowKit Sha Oc En Adr
set_option linter.unusedVariables false
set_option linter.unusedSimpArgs false
def DdPost (a : Ra × Int) (w : World) (e : Ending) (w' : World) : Prop := ∃ (A : Option Addr) (c : Nat), e = .returned (.tuple #[.agg #[.int .u32 a.1.sy, .slice A a.1.ps.length c], .int .i64 a.2]) ∧ (A = none → c = 0) ∧ Aps A a.1.ps w' ∧ Below w.heap.size w w'
set_option maxRecDepth 100000 in
set_option maxHeartbeats 4000000 in
theorem rdecode_any (b : List UInt8) (hb : b.length ≤ 100000) (A : Option Addr) (c : Nat) (hc : b.length ≤ c) (hA : A = none → c = 0) (w : World) (hs : SrcAt A b w) :
  Calls Try.prog 11 #[.slice A b.length c] w (DdPost (raD b) w) := by
 have HD := Lib.hid (fun (V : World) (hb0 : Below w.heap.size w V) => decode_any b hb A c hc hA V (hs.on hb0))
 have hyes := @raD_yes b
 have hno := @raD_no b
 have hsm : (decV b).2 = 0 → cnt (decV b).1 ≤ 5000 ∧ tot (decV b).1 ≤ 100000 := fun h => by
  obtain ⟨_, h2⟩ := decV_only b (decV b).1 (Prod.ext rfl h)
  obtain ⟨g1, g2, g3, g4⟩ := (ckV_good _).1 h2
  have := tot_enc (decV b).1
  omega
 obtain ⟨n, hn⟩ : ∃ n, b.length = n := ⟨_, rfl⟩
 unfold DecPost at HD
 rw [hn] at HD ⊢
 generalize (decV b).1 = v at HD hyes hno hsm
 generalize (decV b).2 = DE at HD hyes hno hsm
 generalize raD b = RD at hyes hno ⊢
 have HYES := Lib.hid hyes
 have HNO := Lib.hid hno
 have HSM := Lib.hid hsm
 have HB0 := Lib.hid (below_new w (.cells #[.int .u32 0, .slice none 0 0] 25))
 have HR0 := Lib.hid (heap_alloc_new w (.cells #[.int .u32 0, .slice none 0 0] 25))
 clear hyes hno hsm hn hb hc hA hs
 go_enter Try.func11, Try.ntmps11
 go_upto_region 1 with (fail)
 generalize hV : World.alloc w _ = V at HB0 HR0 ⊢
 clear hV
 go_wp2_with fail
 refine (HD.out V HB0.out).mono ?_
 rintro e w2 ⟨hb2, x, y, rfl, hat⟩
 obtain ⟨A1, m1, c1, B1, n1, d1, rfl, rfl⟩ := hat.slices
 have HB2 := Lib.hid (chain HB0.out hb2)
 have HR2 := Lib.hid (row_on HR0.out hb2)
 have HAT := Lib.hid hat.any
 clear hb2 hat
 unfold cell3
 by_cases h1 : DE = 0
 rotate_left
 ·
  have i1 : (DE != 0) = true := by rw [bne_iff_ne]; exact h1
  have HRD := Lib.hid (HNO.out (fun h => h1 h.1))
  obtain ⟨hl, r0, r1⟩ := facts2 HR2.out
  obtain ⟨f0, f1⟩ := f21 HR2.out
  clear h1
  go_wp2_with fail
  have hrw := row_setCells HR2.out (cs := #[.int .u32 0, .slice none 0 0]) rfl
  have hbl := below_setCells (#[.int .u32 0, .slice none 0 0] : Array Value).toList 0 w2 HB2.out (show w.heap.size ≤ w.heap.size by omega)
  have e9 : ∀ a b : Value, (w2.setCell ⟨w.heap.size, 0, none⟩ a).setCell ⟨w.heap.size, 1, none⟩ b = w2.setCells w.heap.size 0 (#[a, b] : Array Value).toList := fun _ _ => rfl
  rw [e9]
  generalize World.setCells w2 _ _ _ = W9 at hrw hbl ⊢
  refine bodyPost_ret (v := .tuple #[.agg #[.int .u32 0, .slice none 0 0], .int .i64 12]) (results_ctr rfl _ _ w.heap.size 25 _ (0, 0) _ rfl (row_on hrw (below_new _ _)) Try.underlying25 rfl (sz2r _ _) _ rfl) rfl ?_
  rw [HRD.out]
  exact ⟨none, 0, rfl, fun _ => rfl, aps_nil _ _, hbl.alloc hbl.size _⟩
 ·
  have hsm := HSM.out h1
  subst h1
  have hrd := fun (z : World) (hz : Below w2.heap.size w2 z) => read_any v hsm.1 hsm.2 z _ _ (HAT.out.on hz)
  unfold RdPost cell3 at hrd
  have HRD := Lib.hid hrd
  generalize ((tagO v).toNat : Int) = t1 at HRD ⊢
  clear hrd hsm
  go_wp2_with fail
  refine (HRD.out _ (below_new _ _)).mono ?_
  rintro e w3 ⟨⟨sy, ps⟩, A2, c2, E2, rfl, h21, h22, hA2, hfr, hap, hb3⟩
  have hb23 : Below w2.heap.size w2 w3 := (below_new w2 _).trans (hb3.mono (by simp))
  have HB3 := Lib.hid (chain HB2.out hb23)
  have HR3 := Lib.hid (row_on HR2.out hb23)
  have H21 := Lib.hid h21
  have H22 := Lib.hid h22
  have HA2 := Lib.hid hA2
  have HFR := Lib.hid (show ∀ g' o', A2 = some ⟨g', o', none⟩ → g' ≠ w.heap.size from fun g' o' e => by have h1 := hfr g' o' e; have h2 := (Array.getElem?_eq_some_iff.1 HR2.out).1; simp at h1; omega)
  have HAP := Lib.hid hap
  clear h21 h22 hA2 hfr hap hb3 hb23 HRD
  dsimp only at HAP
  obtain ⟨m, hm⟩ : ∃ m, ps.length = m := ⟨_, rfl⟩
  have HM := Lib.hid hm
  by_cases h2 : E2 = 0
  rotate_left
  ·
   have i2 : (E2 != 0) = true := by rw [bne_iff_ne]; exact h2
   have HRD := Lib.hid (HNO.out (fun h => h2 (H21.out.2 h.2.1)))
   obtain ⟨hl, r0, r1⟩ := facts2 HR3.out
   obtain ⟨f0, f1⟩ := f21 HR3.out
   simp only [hm]
   clear h2 hm
   go_wp2_with fail
   have hrw := row_setCells HR3.out (cs := #[.int .u32 0, .slice none 0 0]) rfl
   have hbl := below_setCells (#[.int .u32 0, .slice none 0 0] : Array Value).toList 0 w3 HB3.out (show w.heap.size ≤ w.heap.size by omega)
   have e9 : ∀ a b : Value, (w3.setCell ⟨w.heap.size, 0, none⟩ a).setCell ⟨w.heap.size, 1, none⟩ b = w3.setCells w.heap.size 0 (#[a, b] : Array Value).toList := fun _ _ => rfl
   rw [e9]
   generalize World.setCells w3 _ _ _ = W9 at hrw hbl ⊢
   refine bodyPost_ret (v := .tuple #[.agg #[.int .u32 0, .slice none 0 0], .int .i64 12]) (results_ctr rfl _ _ w.heap.size 25 _ (0, 0) _ rfl (row_on hrw (below_new _ _)) Try.underlying25 rfl (sz2r _ _) _ rfl) rfl ?_
   rw [HRD.out]
   exact ⟨none, 0, rfl, fun _ => rfl, aps_nil _ _, hbl.alloc hbl.size _⟩
  ·
   have hrg := H21.out.1 h2
   have hra := H22.out hrg
   subst h2
   have hwf := wf_raO hrg
   rw [← hra] at hwf
   have hlen : ps.length ≤ 101 := by
    have h9 := (seq_of hrg.1).2.2
    have h8 : ps = (kids v).tail.map apO := congrArg Ra.ps hra
    rw [h8, List.length_map, List.length_tail]
    omega
   have HCK := Lib.hid (fun (z : World) (hz : Below w3.heap.size w3 z) => rcheck_any sy ps A2 c2 (by omega) hwf.ps z (HAP.out.on hz))
   have HRG := Lib.hid hrg
   have HRA := Lib.hid hra
   rw [hm] at HCK
   simp only [hm]
   have HY : RowKit.Hid (raC ps = 0 → RD = (⟨sy, ps⟩, 0)) := Lib.hid (fun h => by rw [HYES.out ⟨by first | rfl | trivial, HRG.out, by rw [← HRA.out]; exact h⟩, HRA.out])
   have HN : RowKit.Hid (¬ raC ps = 0 → RD = (ra0, 12)) := Lib.hid (fun h => HNO.out (fun g => h (by rw [← HRA.out] at g; exact g.2.2)))
   generalize raC ps = CK at HCK HY HN
   clear hrg hra hwf hlen hm
   go_upto_region 5 with (fail)
   generalize hV5 : World.alloc w3 _ = V5
   obtain ⟨M6, hM6⟩ : ∃ M, w3.heap.size = M := ⟨_, rfl⟩
   have HV5 := Lib.hid (show Below w3.heap.size w3 V5 by rw [← hV5]; exact below_new _ _)
   have HM6 := Lib.hid (show V5.heap[M6]? = some (.cells #[.int .u32 sy, .slice A2 m c2] 25 (0, 0)) by rw [← hV5, ← hM6]; exact heap_alloc_new _ _)
   try simp only [hM6]
   clear hV5 hM6
   obtain ⟨hlM, m0, m1⟩ := facts2 HM6.out
   go_wp2_with fail
   refine (HCK.out V5 HV5.out).mono ?_
   rintro e w6 ⟨rfl, hb6⟩
   have HW6 := Lib.hid (chain HV5.out hb6)
   have HB6 := Lib.hid (chain HB3.out HW6.out)
   have HR6 := Lib.hid (row_on HR3.out HW6.out)
   have HM7 := Lib.hid (row_on HM6.out hb6)
   clear hb6 hlM m0 m1
   obtain ⟨hl, r0, r1⟩ := facts2 HR6.out
   obtain ⟨f0, f1⟩ := f21 HR6.out
   obtain ⟨hlM, m0, m1⟩ := facts2 HM7.out
   by_cases h3 : CK = 0
   ·
    have HRD := Lib.hid (HY.out h3)
    subst h3
    clear HY HN HYES HNO
    go_wp2_with fail
    have hrw := row_setCells HR6.out (cs := #[.int .u32 sy, .slice A2 m c2]) rfl
    have hbl := below_setCells (#[.int .u32 sy, .slice A2 m c2] : Array Value).toList 0 w6 HB6.out (show w.heap.size ≤ w.heap.size by omega)
    have has := aps_set (HAP.out.on HW6.out) (r := w.heap.size) (fun g' o' e => HFR.out g' o' e) (#[.int .u32 sy, .slice A2 m c2] : Array Value).toList
    have e9 : ∀ a b : Value, (w6.setCell ⟨w.heap.size, 0, none⟩ a).setCell ⟨w.heap.size, 1, none⟩ b = w6.setCells w.heap.size 0 (#[a, b] : Array Value).toList := fun _ _ => rfl
    rw [e9]
    generalize World.setCells w6 _ _ _ = W9 at hrw hbl has ⊢
    refine bodyPost_ret (v := .tuple #[.agg #[.int .u32 sy, .slice A2 m c2], .int .i64 0]) (results_ctr rfl _ _ w.heap.size 25 _ (0, 0) _ rfl hrw Try.underlying25 rfl (sz2r _ _) _ rfl) rfl ?_
    rw [HRD.out]
    exact ⟨A2, c2, by rw [← HM.out], HA2.out, has, hbl⟩
   ·
    have i3 : (CK != 0) = true := by rw [bne_iff_ne]; exact h3
    have HRD := Lib.hid (HN.out h3)
    clear h3 HY HN HYES HNO
    go_wp2_with fail
    have hrw := row_setCells HR6.out (cs := #[.int .u32 0, .slice none 0 0]) rfl
    have hbl := below_setCells (#[.int .u32 0, .slice none 0 0] : Array Value).toList 0 w6 HB6.out (show w.heap.size ≤ w.heap.size by omega)
    have e9 : ∀ a b : Value, (w6.setCell ⟨w.heap.size, 0, none⟩ a).setCell ⟨w.heap.size, 1, none⟩ b = w6.setCells w.heap.size 0 (#[a, b] : Array Value).toList := fun _ _ => rfl
    rw [e9]
    generalize World.setCells w6 _ _ _ = W9 at hrw hbl ⊢
    refine bodyPost_ret (v := .tuple #[.agg #[.int .u32 0, .slice none 0 0], .int .i64 12]) (results_ctr rfl _ _ w.heap.size 25 _ (0, 0) _ rfl hrw Try.underlying25 rfl (sz2r _ _) _ rfl) rfl ?_
    rw [HRD.out]
    exact ⟨none, 0, rfl, fun _ => rfl, aps_nil _ _, hbl⟩
end Ro
end Go.Proofs.Ythfgdgcdicacpaa
