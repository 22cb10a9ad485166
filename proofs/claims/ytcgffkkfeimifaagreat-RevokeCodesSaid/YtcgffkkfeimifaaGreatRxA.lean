import Derived.Test.YtcgffkkfeimifaaGreatRvQ
import Derived.Test.YtcgffkkfeimifaaGreatOcRNQ
namespace Go.Proofs.YtcgffkkfeimifaaGreat
namespace Sg
open Go.RowKit Sha Oc
set_option linter.unusedVariables false
set_option linter.unusedSimpArgs false
def nmR (v : Oct) (tg : UInt8) : Int := (rN v tg maxU).1
theorem nmR_range (v : Oct) (tg : UInt8) : 0 ≤ nmR v tg ∧ nmR v tg < 18446744073709551616 := by
 have := rN_range v tg maxU (by decide)
 unfold nmR
 refine ⟨this.1, ?_⟩
 have h2 : (rN v tg maxU).1 ≤ 18446744073709551615 := this.2
 omega
set_option maxRecDepth 100000 in
set_option maxHeartbeats 2000000 in
theorem number10_ref (v : Oct) (tg : UInt8) (w : World) (x y : Value) (hat : At (fun _ => True) w v x y) :
  Calls Tryz.prog 27 #[.agg (cell3 v x y), .int .u8 (tg.toNat : Int)] w fun e w' => e = .returned (.int .u64 (nmR v tg)) ∧ Below w.heap.size w w' := by
 obtain ⟨t, b, l⟩ := v
 have hc := fun (V : World) (hb : Below w.heap.size w V) => readnum_ref t b l tg maxU (by decide) V x y (hat.on hb)
 have he : nmR (.mk t b l) tg = (rdN t tg b l.length maxU).1 := rfl
 have hz : (rdN t tg b l.length maxU).2 = 0 ∨ ((rdN t tg b l.length maxU).2 = 12 ∧ (rdN t tg b l.length maxU).1 = 0) := by
  unfold rdN
  split
  ·
   exact .inl rfl
  ·
   exact .inr ⟨rfl, rfl⟩
 rw [he]
 obtain ⟨r, hr⟩ : ∃ r, rdN t tg b l.length maxU = r := ⟨_, rfl⟩
 rw [hr] at hc hz ⊢
 obtain ⟨A, m, c, B, n, d, rfl, rfl⟩ := hat.slices
 obtain ⟨tz, htz⟩ : ∃ tz : Int, ((t.toNat : Nat) : Int) = tz := ⟨_, rfl⟩
 have e3 : cell3 (.mk t b l) (.slice A m c) (.slice B n d) = #[.int .u8 tz, .slice A m c, .slice B n d] := by rw [← htz]; rfl
 rw [e3] at hc ⊢
 have hmx : (maxU : Int) = 18446744073709551615 := rfl
 rw [hmx] at hc
 have HC := Lib.hid hc
 have HZ := Lib.hid hz
 have HR0 := Lib.hid (heap_alloc_new w (.cells #[.int .u8 tz, .slice A m c, .slice B n d] 50))
 have HB0 := Lib.hid (below_new w (.cells #[.int .u8 tz, .slice A m c, .slice B n d] 50))
 clear hc hz hr he hat htz e3 hmx
 go_enter Tryz.func27, Tryz.ntmps27
 go_upto_region 1 with (fail)
 generalize hV : World.alloc w _ = V at HR0 HB0 ⊢
 clear hV
 obtain ⟨hl0, c0, c1, c2⟩ := facts3 HR0.out
 have hrg := range3o c0 c1 c2
 go_wp2_with fail
 refine (HC.out V HB0.out).mono ?_
 rintro e w1 ⟨rfl, hb⟩
 have HB1 := Lib.hid (chain HB0.out hb)
 clear hb hl0 c0 c1 c2 hrg HR0 HC HB0
 obtain ⟨r1, r2⟩ := r
 have hz := HZ.out
 dsimp only at hz ⊢
 clear HZ
 rcases hz with rfl | ⟨rfl, rfl⟩
 ·
  go_wp2_with fail
  refine bodyPost_ret (v := .int .u64 r1) (by simp [results, Tryz.results27, go_sem]) rfl ⟨rfl, HB1.out⟩
 ·
  go_wp2_with fail
  refine bodyPost_ret (v := .int .u64 0) (by simp [results, Tryz.results27, go_sem]) rfl ⟨rfl, HB1.out⟩
def smR (x M : Int) : Int := if M < x then -1 else x
theorem small10_ref (x M : Int) (hx : 0 ≤ x) (hM : M ≤ 9223372036854775807) (w : World) :
  Calls Tryz.prog 29 #[.int .u64 x, .int .u64 M] w fun e w' => e = .returned (.int .i64 (smR x M)) ∧ Below w.heap.size w w' := by
 unfold smR
 go_enter Tryz.func29, Tryz.ntmps29
 by_cases h : M < x
 ·
  rw [if_pos h]
  go_wp2_with fail
  refine bodyPost_ret (v := .int .i64 (-1)) (by simp [results, Tryz.results29, go_sem]) rfl ⟨rfl, Below.refl _ _⟩
 ·
  rw [if_neg h]
  go_wp2_with fail
  refine bodyPost_ret (v := .int .i64 x) (by simp [results, Tryz.results29, go_sem]) rfl ⟨rfl, Below.refl _ _⟩
theorem at_nil (w : World) : At (fun _ => True) w nilO (.slice none 0 0) (.slice none 0 0) :=
 at_bytes (b := []) 0 (Nat.le_refl _) (by decide) (fun _ => rfl) (fun hne => absurd rfl hne)
def AtPost (o : Oct) (w : World) (e : Ending) (w' : World) : Prop := ∃ x y, e = .returned (.agg (cell3 o x y)) ∧ At (fun _ => True) w' o x y ∧ Below w.heap.size w w'
set_option maxRecDepth 100000 in
set_option maxHeartbeats 2000000 in
theorem at10_ref (v : Oct) (k : Nat) (hkl : (kids v).length ≤ 100000) (w : World) (x y : Value) (hat : At (fun _ => True) w v x y) :
  Calls Tryz.prog 26 #[y, .int .i64 (k : Int)] w (AtPost (kid v k) w) := by
 obtain ⟨t, b, l⟩ := v
 obtain ⟨A, c, B, d, g, off, vb, vl, rfl, rfl, _, _, _, _, _, hd, hdn, he⟩ := hat.elsR
 obtain ⟨n, hn⟩ : ∃ n, l.length = n := ⟨_, rfl⟩
 by_cases hlt : k < n
 ·
  obtain ⟨o, ho⟩ : ∃ o, l[k]? = some o := ⟨_, List.getElem?_eq_getElem (by omega)⟩
  have hko : kid (.mk t b l) k = o := kid_of ho
  rw [hko, hn]
  have hBB := (he.hB (fun e => by rw [e] at ho; simp at ho)).1
  subst hBB
  have c0 := he.h0 k o ho
  have c1 := he.h1 k o ho
  have c2 := he.h2 k o ho
  have hat2 := he.hr k o ho
  obtain ⟨A1, m1, k1, B1, n1, q1, e1, e2⟩ := hat2.slices
  rw [e1] at c1 hat2
  rw [e2] at c2 hat2
  have HAT := Lib.hid hat2
  have hki : (k : Int) < (n : Int) := by omega
  have HC := Lib.hid (And.intro c0 (And.intro c1 c2))
  have HR0 := Lib.hid (heap_alloc_new w (.cells #[.int .u8 0, .slice none 0 0, .slice none 0 0] 50))
  have HB0 := Lib.hid (below_new w (.cells #[.int .u8 0, .slice none 0 0, .slice none 0 0] 50))
  obtain ⟨tz, htz⟩ : ∃ tz : Int, ((tagO o).toNat : Int) = tz := ⟨_, rfl⟩
  have HTZ := Lib.hid htz
  rw [htz] at HC
  clear hko he hat hat2 e1 e2 c0 c1 c2 ho htz
  go_enter Tryz.func26, Tryz.ntmps26
  go_upto_region 1 with (fail)
  generalize hV : World.alloc w _ = V at HR0 HB0 ⊢
  clear hV
  have hc : ∀ (p : Nat) (u : Value), w.cell? ⟨g, p, none⟩ = some u → V.cell? ⟨g, p, none⟩ = some u := fun p u h => by rw [HB0.out.cell (p := ⟨g, p, none⟩) (World.block_lt_of_cell? _ _ h)]; exact h
  have d0 := hc _ _ HC.out.1
  have d1 := hc _ _ HC.out.2.1
  have d2 := hc _ _ HC.out.2.2
  clear hc
  obtain ⟨hl0, f0, f1, f2⟩ := facts3 HR0.out
  have z0 : V.frozen? ⟨w.heap.size, 0, none⟩ = false := frozen_of_row _ _ _ _ _ HR0.out
  have z1 : V.frozen? ⟨w.heap.size, 1, none⟩ = false := frozen_of_row _ _ _ _ _ HR0.out
  have z2 : V.frozen? ⟨w.heap.size, 2, none⟩ = false := frozen_of_row _ _ _ _ _ HR0.out
  go_wp2_with fail
  generalize hW : World.setCell _ _ _ = W
  have hW' : V.setCells w.heap.size 0 [Value.int .u8 tz, .slice A1 m1 k1, .slice B1 n1 q1] = W := hW
  have hrow : W.heap[w.heap.size]? = some (.cells #[Value.int .u8 tz, .slice A1 m1 k1, .slice B1 n1 q1] 50 (0, 0)) := by rw [← hW']; exact row_setCells8 HR0.out rfl
  have hb : Below w.heap.size w W := by rw [← hW']; exact below_setCells8 _ _ _ HB0.out (Nat.le_refl _)
  clear hW hW'
  obtain ⟨_, y0, y1, y2⟩ := facts3 hrow
  refine bodyPost_ret (v := .agg #[.int .u8 tz, .slice A1 m1 k1, .slice B1 n1 q1]) (by simp [results, Tryz.results26, go_sem, y0, y1, y2]) rfl ⟨_, _, by rw [← HTZ.out], HAT.out.on hb, hb⟩
 ·
  have hko : kid (.mk t b l) k = nilO := by
   unfold kid
   have : (kids (.mk t b l))[k]? = none := List.getElem?_eq_none (by show l.length ≤ k; omega)
   rw [List.getD_eq_getElem?_getD, this]
   rfl
  rw [hko, hn]
  have hki : ¬ (k : Int) < (n : Int) := by omega
  have hki2 : (n : Int) ≤ (k : Int) := by omega
  have hki3 : ¬ (k : Int) < 0 := by omega
  have HR0 := Lib.hid (heap_alloc_new w (.cells #[.int .u8 0, .slice none 0 0, .slice none 0 0] 50))
  have HB0 := Lib.hid (below_new w (.cells #[.int .u8 0, .slice none 0 0, .slice none 0 0] 50))
  clear hko he hat
  go_enter Tryz.func26, Tryz.ntmps26
  go_upto_region 1 with (fail)
  generalize hV : World.alloc w _ = V at HR0 HB0 ⊢
  clear hV
  obtain ⟨hl0, f0, f1, f2⟩ := facts3 HR0.out
  have z0 : V.frozen? ⟨w.heap.size, 0, none⟩ = false := frozen_of_row _ _ _ _ _ HR0.out
  have z1 : V.frozen? ⟨w.heap.size, 1, none⟩ = false := frozen_of_row _ _ _ _ _ HR0.out
  have z2 : V.frozen? ⟨w.heap.size, 2, none⟩ = false := frozen_of_row _ _ _ _ _ HR0.out
  go_wp2_with fail
  generalize hW : World.setCell _ _ _ = W
  have hW' : V.setCells w.heap.size 0 [Value.int .u8 0, .slice none 0 0, .slice none 0 0] = W := hW
  have hrow : W.heap[w.heap.size]? = some (.cells #[Value.int .u8 0, .slice none 0 0, .slice none 0 0] 50 (0, 0)) := by rw [← hW']; exact row_setCells8 HR0.out rfl
  have hb : Below w.heap.size w W := by rw [← hW']; exact below_setCells8 _ _ _ HB0.out (Nat.le_refl _)
  clear hW hW'
  obtain ⟨_, y0, y1, y2⟩ := facts3 hrow
  refine bodyPost_ret (v := .agg #[.int .u8 0, .slice none 0 0, .slice none 0 0]) (by simp [results, Tryz.results26, go_sem, y0, y1, y2]) rfl ⟨_, _, rfl, at_nil W, hb⟩
end Sg
end Go.Proofs.YtcgffkkfeimifaaGreat
