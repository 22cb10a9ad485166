/-
  THE WALKS over layer 8's laws' own functions: encodes, refused, alive.
-/
import Derived.Test.YthagoafcphaadaaOcRG
namespace Go.Proofs.Ythagoafcphaadaa
open Go.RowKit Sha Oc
set_option linter.unusedVariables false
set_option linter.unusedSimpArgs false
set_option maxRecDepth 100000 in
set_option maxHeartbeats 2000000 in
theorem encodes_any (o : Oct) (hck : ckV o = 0) (w : World) (x y : Value) (hat : At (fun _ => True) w o x y) (A : Option Addr) (c : Nat) (hc : (enc o).length ≤ c) (hA : A = none → c = 0) (hs : SrcAt A (enc o) w) :
    Calls Try.prog 27 #[.agg (cell3 o x y), .slice A (enc o).length c] w (fun e w' => e = .returned (.bool true) ∧ Below w.heap.size w w') := by
  have hg := (ckV_good o).1 hck
  have hcn : cnt o ≤ 5000 := by have := hg.1; omega
  have htt : tot o ≤ 100000 := by have := tot_enc o; have := hg.2.2.2; omega
  have hle : (enc o).length ≤ 65536 := hg.2.2.2
  have HEN := Lib.hid (fun (V : World) (hb : Below w.heap.size w V) => encode_any o (by omega) (by omega) V x y (hat.on hb))
  have HDE := Lib.hid (fun (V : World) (hb : Below w.heap.size w V) => decode_any (enc o) (by omega) A c hc hA V (hs.on hb))
  have HAT := Lib.hid hat
  have HS := Lib.hid hs
  have HC := Lib.hid hc
  have HCK := Lib.hid hck
  have HDV := Lib.hid (decV_enc o hck)
  have HSA := Lib.hid (fun (V : World) (x' y' : Value) (h1 : At (fun _ => True) V o x' y') (h2 : At (fun _ => True) V o x y) => same_all8 5000 o hcn (by decide) (by omega) V x' y' x y h1 h2)
  unfold EncPost at HEN
  unfold DecPost at HDE
  unfold SmPost at HSA
  obtain ⟨A1, m1, c1, B1, n1, d1, rfl, rfl⟩ := hat.slices
  obtain ⟨tz, htz⟩ : ∃ tz : Int, ((tagO o).toNat : Int) = tz := ⟨_, rfl⟩
  have HTZ := Lib.hid htz
  obtain ⟨m, hm⟩ : ∃ m, (enc o).length = m := ⟨_, rfl⟩
  have HM := Lib.hid hm
  have HLE : RowKit.Hid (m ≤ 65536) := Lib.hid (by omega)
  show Calls Try.prog 27 #[.agg #[.int .u8 ((tagO o).toNat : Int), .slice A1 m1 c1, .slice B1 n1 d1], .slice A (enc o).length c] w _
  unfold cell3 at HEN HSA
  rw [htz] at HEN HSA ⊢
  rw [hm] at HDE HEN HC ⊢
  have HROW := Lib.hid (heap_alloc_new w (.cells #[.int .u8 tz, .slice A1 m1 c1, .slice B1 n1 d1] 28))
  have HB0 := Lib.hid (below_new w (.cells #[.int .u8 tz, .slice A1 m1 c1, .slice B1 n1 d1] 28))
  clear hck hg hcn htt hle hat hs hc hA htz hm
  go_enter Try.func27, Try.ntmps27
  go_upto_region 1 with (fail)
  generalize hV : World.alloc w _ = V at HROW HB0 ⊢
  clear hV
  have hlt := (Array.getElem?_eq_some_iff.1 HROW.out).1
  obtain ⟨_, hc0, hc1, hc2⟩ := facts3 HROW.out
  have hrg := range3o hc0 hc1 hc2
  go_wp2_with fail
  refine (HEN.out V HB0.out).mono ?_
  rintro e w1 ⟨hb1, hen⟩
  obtain ⟨v1, rfl, hown⟩ := hen.elim (fun h => h.2) (fun h => absurd HCK.out h.1)
  clear hen
  obtain ⟨A9, c9, rfl, hc9, _, hs9, _⟩ := own_rd3 (l := enc o) (by rw [HM.out]; exact hown)
  rw [HM.out] at hc9 ⊢
  have HC9 := Lib.hid hc9
  have HS9 := Lib.hid hs9
  have HR1 := Lib.hid (row_on HROW.out hb1)
  have HB1 := Lib.hid (chain HB0.out hb1)
  clear hlt hc0 hc1 hc2 hrg hb1 hown hc9 hs9 HROW HB0 HEN
  go_wp2_with fail
  refine (HDE.out w1 HB1.out).mono ?_
  rintro e w2 ⟨hb2, x2, y2, rfl, hat2⟩
  rw [HDV.out] at hat2 ⊢
  obtain ⟨A3, m3, c3, B3, n3, d3, rfl, rfl⟩ := hat2.slices
  unfold cell3
  rw [HTZ.out]
  have HAT2 := Lib.hid hat2.any
  have HB2 := Lib.hid (chain HB1.out hb2)
  have HR2 := Lib.hid (row_on HR1.out hb2)
  have HS2 := Lib.hid (HS9.out.on hb2)
  clear hb2 hat2 HDE HS9 HR1 HB1
  go_upto_region 3 with (fail)
  have e9 : ∀ (V : World) (g : Nat) (a b c : Value), ((V.setCell ⟨g, 0, none⟩ a).setCell ⟨g, 1, none⟩ b).setCell ⟨g, 2, none⟩ c = V.setCells g 0 [a, b, c] := fun _ _ _ _ _ => rfl
  generalize hV3 : World.alloc w2 _ = w3
  have hb3 : Below w2.heap.size w2 w3 := by rw [← hV3]; exact below_new w2 _
  have hr3 : w3.heap[w2.heap.size]? = some (.cells #[.int .u8 tz, .slice A3 m3 c3, .slice B3 n3 d3] 28 (0, 0)) := by rw [← hV3]; exact heap_alloc_new w2 _
  clear hV3 e9
  have HB3 := Lib.hid (chain HB2.out hb3)
  have HR3 := Lib.hid (row_on HR2.out hb3)
  have HN3 := Lib.hid hr3
  have HAT3 := Lib.hid (HAT2.out.on hb3)
  have HSB := Lib.hid (samebytes_eq (enc o) A9 A c9 c (by rw [HM.out]; have := HLE.out; omega) (by rw [HM.out]; exact HC9.out) (by rw [HM.out]; exact HC.out) w3 (HS2.out.on hb3) (HS.out.on HB3.out))
  rw [HM.out] at HSB
  have hlt := (Array.getElem?_eq_some_iff.1 HR3.out).1
  obtain ⟨_, hc0, hc1, hc2⟩ := facts3 HR3.out
  have hrg := range3o hc0 hc1 hc2
  have hlt2 := (Array.getElem?_eq_some_iff.1 hr3).1
  obtain ⟨_, hd0, hd1, hd2⟩ := facts3 hr3
  have hrd := range3o hd0 hd1 hd2
  clear hb3 hr3 HB2 HR2 HS2 HAT2
  go_wp2_with fail
  refine HSB.out.mono ?_
  rintro e w4 ⟨rfl, q, rfl⟩
  have hb4 : Below w3.heap.size w3 (w3.drewN q) := below_drewN (Below.refl _ _) q
  have HSA4 := Lib.hid (HSA.out (w3.drewN q) _ _ (HAT3.out.on hb4) (HAT.out.on (chain HB3.out hb4)))
  have hr4 := row_on HR3.out hb4
  have hn4 := row_on HN3.out hb4
  have HB4 := Lib.hid (chain HB3.out hb4)
  clear hlt hc0 hc1 hc2 hrg hlt2 hd0 hd1 hd2 hrd hb4 HSB
  generalize World.drewN _ _ = w4 at hr4 hn4 HSA4 HB4 ⊢
  have hlt := (Array.getElem?_eq_some_iff.1 hr4).1
  obtain ⟨_, hc0, hc1, hc2⟩ := facts3 hr4
  have hrg := range3o hc0 hc1 hc2
  have hlt2 := (Array.getElem?_eq_some_iff.1 hn4).1
  obtain ⟨_, hd0, hd1, hd2⟩ := facts3 hn4
  have hrd := range3o hd0 hd1 hd2
  clear hr4 hn4
  go_wp2_with fail
  refine HSA4.out.mono ?_
  rintro e w5 ⟨rfl, hb5⟩
  have HB5 := Lib.hid (chain HB4.out hb5)
  clear hb5 hlt hc0 hc1 hc2 hrg hlt2 hd0 hd1 hd2 hrd
  go_wp2_with fail
  go_ret
  exact ⟨rfl, HB5.out⟩
set_option maxRecDepth 100000 in
set_option maxHeartbeats 2000000 in
theorem refused_any (b : List UInt8) (hd : decV b = (nilO, 12)) (hb : b.length ≤ 100000) (w : World) (A : Option Addr) (c : Nat) (hc : b.length ≤ c) (hA : A = none → c = 0) (hs : SrcAt A b w) :
    Calls Try.prog 7 #[.slice A b.length c] w (fun e w' => e = .returned (.bool true) ∧ Below w.heap.size w w') := by
  have HDE := Lib.hid (decode_any b hb A c hc hA w hs)
  have HDV := Lib.hid hd
  unfold DecPost at HDE
  have HSA := Lib.hid (fun (V : World) (x' y' : Value) (h1 : At (fun _ => True) V nilO x' y') => same_all8 5000 nilO (by decide) (by decide) (by decide) V x' y' (.slice none 0 0) (.slice none 0 0) h1 (nil_list _ _))
  unfold SmPost cell3 at HSA
  dsimp only [tagO] at HSA
  obtain ⟨m, hm⟩ : ∃ m, b.length = m := ⟨_, rfl⟩
  rw [hm] at HDE ⊢
  clear hd hb hc hA hs hm
  go_enter Try.func7, Try.ntmps7
  go_wp2_with fail
  refine HDE.out.mono ?_
  rintro e w2 ⟨hb2, x2, y2, rfl, hat2⟩
  rw [HDV.out] at hat2 ⊢
  obtain ⟨A3, m3, c3, B3, n3, d3, rfl, rfl⟩ := hat2.slices
  unfold cell3
  dsimp only [tagO]
  have HAT2 := Lib.hid hat2.any
  have HB2 := Lib.hid hb2
  clear hb2 hat2 HDE
  go_upto_region 2 with (fail)
  generalize hV3 : World.alloc w2 _ = w3
  have hb3 : Below w2.heap.size w2 w3 := by rw [← hV3]; exact below_new w2 _
  have hr3 : w3.heap[w2.heap.size]? = some (.cells #[.int .u8 0, .slice A3 m3 c3, .slice B3 n3 d3] 28 (0, 0)) := by rw [← hV3]; exact heap_alloc_new w2 _
  have HB3 := Lib.hid (chain HB2.out hb3)
  have HSA4 := Lib.hid (HSA.out w3 _ _ (HAT2.out.on hb3))
  clear hV3
  have hlt2 := (Array.getElem?_eq_some_iff.1 hr3).1
  obtain ⟨_, hd0, hd1, hd2⟩ := facts3 hr3
  have hrd := range3o hd0 hd1 hd2
  clear hb3 hr3
  go_wp2_with fail
  refine HSA4.out.mono ?_
  rintro e w5 ⟨rfl, hb5⟩
  have HB5 := Lib.hid (chain HB3.out hb5)
  clear hb5 hlt2 hd0 hd1 hd2 hrd
  go_wp2_with fail
  go_ret
  exact ⟨rfl, HB5.out⟩
end Go.Proofs.Ythagoafcphaadaa
