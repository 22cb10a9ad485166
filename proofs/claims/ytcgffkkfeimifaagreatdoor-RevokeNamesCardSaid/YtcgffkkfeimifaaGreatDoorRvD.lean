import Derived.Test.YtcgffkkfeimifaaGreatDoorRvC
import Derived.Test.YtcgffkkfeimifaaGreatDoorOcRFJ
namespace Go.Proofs.YtcgffkkfeimifaaGreatDoor
namespace Sg
open Go.RowKit Sha Oc
set_option linter.unusedVariables false
set_option linter.unusedSimpArgs false
def EbPost (o : Oct) (E : Int) (w : World) (e : Ending) (w' : World) : Prop := Below w.heap.size w w' ∧
 ((E = 0 ∧ ∃ v, e = .returned (.tuple #[v, .int .i64 0]) ∧ w'.ownsRow w.heap.size 5 1 v (enc o).length (bvals (enc o))) ∨ (E ≠ 0 ∧ e = .returned (.tuple #[.slice none 0 0, .int .i64 E])))
structure Wf (l : Rl) : Prop where
 num : 0 ≤ l.num ∧ l.num < 18446744073709551616
 ser : ∀ x ∈ l.ser, x < 18446744073709551616
 cs : ∀ x ∈ l.sg.cs, x.length = 16
 ps : ∀ x ∈ l.sg.ps, x.length = 16
theorem Wf.fit {l : Rl} (h : Wf l) (hc : rvC l = 0) : Fit l := fit_of hc h.num h.ser h.cs h.ps
theorem bodyval_any (l : Rl) (m : Mp) (hf : Fit l) (w : World) (h : Nums m.SA l.ser w) : Calls Tryz.prog 30 #[.agg (rlC l m)] w (SnPost (rbv (rbOf l)) w) := by
 obtain ⟨iss, num, fr, tt, ser, sg⟩ := l
 have h1 := hf.num
 have h2 := hf.fr
 have h3 := hf.tt
 have h4 := hf.iss
 have h5 := hf.len
 have h6 := hf.ser
 dsimp only at h1 h2 h3 h4 h5 h6 h
 have hb := body_of iss num.toNat fr.toNat tt.toNat ser m.SA m.sc (.int .i64 sg.idx) (.slice m.CA sg.cs.length m.cc) (.slice m.PA sg.ps.length m.pc) (by omega) (by omega) (by omega) (by omega) h5 h6 w h
 have e1 : ((num.toNat : Nat) : Int) = num := by omega
 have e2 : ((fr.toNat : Nat) : Int) = fr := by omega
 have e3 : ((tt.toNat : Nat) : Int) = tt := by omega
 rw [e1, e2, e3] at hb
 have e4 : (Oct.mk 129 [] (ser.map n5i)) = Oc.seq 129 ((ser.map Int.toNat).map n5) := by
  rw [List.map_map]
  rfl
 rw [e4] at hb
 exact hb
set_option maxRecDepth 100000 in
set_option maxHeartbeats 4000000 in
theorem body_any (l : Rl) (m : Mp) (hz : l.iss.size ≤ maxLen) (hw : Wf l) (w : World) (h : RlAt l m w) : Calls Tryz.prog 16 #[.agg (rlC l m)] w (EbPost (rbv (rbOf l)) (rvC l) w) := by
 have hck := fun (V : World) (hb : Below w.heap.size w V) => lchk_any l m V hz (h.on hb).ser
 have hbv := fun (h0 : rvC l = 0) (V : World) (hb : Below w.heap.size w V) => bodyval_any l m (hw.fit h0) V (h.on hb).ser
 have hen := fun (h0 : rvC l = 0) (V : World) (x y : Value) (hat : At (fun _ => True) V (rbv (rbOf l)) x y) => encode_any (rbv (rbOf l)) (by have := (fit_ck (hw.fit h0)).2.2.1; have := cnt_enc (rbv (rbOf l)); omega) (by have := (fit_ck (hw.fit h0)).2.2.1; have := tot_enc (rbv (rbOf l)); omega) V x y hat
 have hcv := fun (h0 : rvC l = 0) => (fit_ck (hw.fit h0)).1
 obtain ⟨o, ho⟩ : ∃ o, rbv (rbOf l) = o := ⟨_, rfl⟩
 obtain ⟨E, hE⟩ : ∃ E, rvC l = E := ⟨_, rfl⟩
 rw [ho] at hbv hen hcv ⊢
 rw [hE] at hck hbv hen hcv ⊢
 unfold rlC at hck hbv ⊢
 obtain ⟨c0, g0⟩ : ∃ c : Value, .string l.iss = c := ⟨_, rfl⟩
 obtain ⟨c1, g1⟩ : ∃ c : Value, .int .u64 l.num = c := ⟨_, rfl⟩
 obtain ⟨c2, g2⟩ : ∃ c : Value, .int .i64 l.fr = c := ⟨_, rfl⟩
 obtain ⟨c3, g3⟩ : ∃ c : Value, .int .i64 l.tt = c := ⟨_, rfl⟩
 obtain ⟨c4, g4⟩ : ∃ c : Value, .slice m.SA l.ser.length m.sc = c := ⟨_, rfl⟩
 obtain ⟨c5, g5⟩ : ∃ c : Value, .int .i64 l.sg.idx = c := ⟨_, rfl⟩
 obtain ⟨c6, g6⟩ : ∃ c : Value, .slice m.CA l.sg.cs.length m.cc = c := ⟨_, rfl⟩
 obtain ⟨c7, g7⟩ : ∃ c : Value, .slice m.PA l.sg.ps.length m.pc = c := ⟨_, rfl⟩
 rw [g0, g1, g2, g3, g4, g5, g6, g7] at hck hbv ⊢
 have HCK := Lib.hid hck
 have HBV := Lib.hid hbv
 have HEN := Lib.hid hen
 have HCV := Lib.hid hcv
 have HR0 := Lib.hid (heap_alloc_new w (.cells #[c0, c1, c2, c3, c4, c5, c6, c7] 32))
 have HB0 := Lib.hid (below_new w (.cells #[c0, c1, c2, c3, c4, c5, c6, c7] 32))
 clear hck hbv hen hcv ho hE g0 g1 g2 g3 g4 g5 g6 g7 hz hw h l m
 go_enter Tryz.func16, Tryz.ntmps16
 go_upto_region 1 with (fail)
 generalize hV : World.alloc w _ = V at HR0 HB0 ⊢
 clear hV
 obtain ⟨hl0, f0, f1, f2, f3, f4, f5, f6, f7⟩ := facts8 HR0.out
 go_wp2_with fail
 refine (HCK.out V HB0.out).mono ?_
 rintro e w1 ⟨rfl, hb1⟩
 have HR1 := Lib.hid (row_on HR0.out hb1)
 have HB1 := Lib.hid (chain HB0.out hb1)
 clear hl0 f0 f1 f2 f3 f4 f5 f6 f7 hb1
 by_cases h0 : E = 0
 ·
  have HBV1 := Lib.hid (HBV.out h0)
  have HEN1 := Lib.hid (HEN.out h0)
  have HCV1 := Lib.hid (HCV.out h0)
  clear HBV HEN HCV
  subst h0
  obtain ⟨hl0, f0, f1, f2, f3, f4, f5, f6, f7⟩ := facts8 HR1.out
  go_wp2_with fail
  refine (HBV1.out w1 HB1.out).mono ?_
  rintro e w2 ⟨x, y, rfl, hat, hb2⟩
  have HEN2 := Lib.hid (HEN1.out w2 x y hat)
  have HB2 := Lib.hid (chain HB1.out hb2)
  clear hat hb2 hl0 f0 f1 f2 f3 f4 f5 f6 f7
  go_wp2_with fail
  refine HEN2.out.mono ?_
  rintro e w3 ⟨hb3, ⟨h1, v, rfl, hown⟩ | ⟨h1, rfl⟩⟩
  ·
   have HB3 := Lib.hid (chain HB2.out hb3)
   have HO := Lib.hid (own_base hown HB2.out.size)
   clear h1 hb3 hown
   go_wp2_with fail
   go_ret2
   exact ⟨HB3.out, .inl ⟨rfl, v, rfl, HO.out⟩⟩
  ·
   exact absurd HCV1.out h1
 ·
  have h0i : (E != 0) = true := by simp [h0]
  have H0 := Lib.hid h0
  clear h0
  go_wp2_with fail
  go_ret2
  exact ⟨HB1.out, .inr ⟨H0.out, rfl⟩⟩
end Sg
end Go.Proofs.YtcgffkkfeimifaaGreatDoor
