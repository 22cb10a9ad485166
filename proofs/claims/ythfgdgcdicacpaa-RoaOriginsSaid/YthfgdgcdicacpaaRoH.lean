import Derived.Test.YthfgdgcdicacpaaRoG
import Derived.Test.YthfgdgcdicacpaaOcRFJ
namespace Go.Proofs.Ythfgdgcdicacpaa
namespace Ro
open Go.RowKit Sha Oc En Adr
set_option linter.unusedVariables false
set_option linter.unusedSimpArgs false
def EbPost (o : Oct) (E : Int) (w : World) (e : Ending) (w' : World) : Prop := Below w.heap.size w w' ∧
 ((E = 0 ∧ ∃ v, e = .returned (.tuple #[v, .int .i64 0]) ∧ w'.ownsRow w.heap.size 5 1 v (enc o).length (bvals (enc o))) ∨ (E ≠ 0 ∧ e = .returned (.tuple #[.slice none 0 0, .int .i64 E])))
theorem own_base14 {w : World} {b b' : Nat} {E : TypeId} {v : Value} {n k : Nat} {xs : List Value} (h : w.ownsRow b E k v n xs) (hb : b' ≤ b) : w.ownsRow b' E k v n xs := by
 obtain ⟨h1, h2 | ⟨g, cap, cur, h3, h4, h5⟩⟩ := h
 ·
  exact ⟨h1, .inl h2⟩
 ·
  exact ⟨h1, .inr ⟨g, cap, cur, h3, by omega, h5⟩⟩
set_option maxRecDepth 100000 in
set_option maxHeartbeats 4000000 in
theorem encode_roa (a : Ra) (hw : Wf a) (A : Option Addr) (c : Nat) (hl : a.ps.length ≤ 100000) (w : World) (hp : Aps A a.ps w) :
  Calls Try.prog 9 #[.agg #[.int .u32 a.sy, .slice A a.ps.length c]] w (EbPost (raV a) (raC a.ps) w) := by
 have HCK := Lib.hid (fun (V : World) (hb : Below w.heap.size w V) => rcheck_any a.sy a.ps A c hl hw.ps V (hp.on hb))
 have HBV := Lib.hid (fun (h0 : raC a.ps = 0) (V : World) (hb : Below w.heap.size w V) => raval_any a (fit_of hw h0) A c V (hp.on hb))
 have HEN := Lib.hid (fun (h0 : raC a.ps = 0) (V : World) (x y : Value) (hat : At (fun _ => True) V (raV a) x y) => encode_any (raV a) (by have := raV_len (fit_of hw h0); have := cnt_enc (raV a); omega) (by have := raV_len (fit_of hw h0); have := tot_enc (raV a); omega) V x y hat)
 have HCV := Lib.hid (fun (h0 : raC a.ps = 0) => raV_ck (fit_of hw h0))
 generalize raV a = o at HBV HEN HCV ⊢
 generalize raC a.ps = E at HCK HBV HEN HCV ⊢
 obtain ⟨sy, ps⟩ := a
 dsimp only at HCK HBV ⊢
 generalize ps.length = n at HCK HBV ⊢
 have HR0 := Lib.hid (heap_alloc_new w (.cells #[.int .u32 sy, .slice A n c] 25))
 have HB0 := Lib.hid (below_new w (.cells #[.int .u32 sy, .slice A n c] 25))
 unfold TwPost at HBV
 clear hl hw hp
 go_enter Try.func9, Try.ntmps9
 go_upto_region 1 with (fail)
 generalize hV : World.alloc w _ = V at HR0 HB0 ⊢
 clear hV
 obtain ⟨hl0, f0, f1⟩ := facts2 HR0.out
 go_wp2_with fail
 refine (HCK.out V HB0.out).mono ?_
 rintro e w1 ⟨rfl, hb1⟩
 have HR1 := Lib.hid (row_on HR0.out hb1)
 have HB1 := Lib.hid (chain HB0.out hb1)
 clear hl0 f0 f1 hb1
 by_cases h0 : E = 0
 ·
  have HBV1 := Lib.hid (HBV.out h0)
  have HEN1 := Lib.hid (HEN.out h0)
  have HCV1 := Lib.hid (HCV.out h0)
  clear HBV HEN HCV
  subst h0
  obtain ⟨hl0, f0, f1⟩ := facts2 HR1.out
  go_wp2_with fail
  refine (HBV1.out w1 HB1.out).mono ?_
  rintro e w2 ⟨x, y, rfl, hat, hb2⟩
  have HEN2 := Lib.hid (HEN1.out w2 x y hat.any)
  have HB2 := Lib.hid (chain HB1.out hb2)
  clear hat hb2 hl0 f0 f1
  go_wp2_with fail
  refine HEN2.out.mono ?_
  rintro e w3 ⟨hb3, ⟨h1, v, rfl, hown⟩ | ⟨h1, rfl⟩⟩
  ·
   have HB3 := Lib.hid (chain HB2.out hb3)
   have HO := Lib.hid (own_base14 hown HB2.out.size)
   clear h1 hb3 hown
   go_wp2_with fail
   go_ret2
   exact ⟨HB3.out, .inl ⟨rfl, v, rfl, HO.out⟩⟩
  ·
   exact absurd HCV1.out h1
 ·
  have h0i : (E != 0) = true := by simp [h0]
  have H0 := Lib.hid h0
  clear h0
  go_wp2_with fail
  go_ret2
  exact ⟨HB1.out, .inr ⟨H0.out, rfl⟩⟩
end Ro
end Go.Proofs.Ythfgdgcdicacpaa
