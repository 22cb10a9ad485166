import Derived.Test.YthfgdgcdicacpaaRoI
namespace Go.Proofs.Ythfgdgcdicacpaa
namespace Ro
open Go.RowKit Sha Oc En Adr
set_option linter.unusedVariables false
set_option linter.unusedSimpArgs false
theorem results_ctr {P : Program} {fn : Func} {p u : Tmp} {ty : TypeId} (h : fn.results = #[.cell p ty, .tmp u]) (tmps : Array Value) (w : World) (g : Nat) (t : TypeId) (cs : Array Value) (fr : Nat × Nat) (d : TypeDesc)
  (hp : tmps.getD p undef = .pointer (some ⟨g, 0, none⟩)) (hg : w.heap[g]? = some (.cells cs t fr))
  (hu : P.underlying ty = some d) (hd : (match d with | .struct _ | .array _ _ => true | _ => false) = true) (hi : (P.info? ty).map (·.size) = some cs.size) (v : Value) (hv : tmps.getD u undef = v) :
  (results fn tmps).run P w = .ok (.tuple #[.agg cs, v]) w := by
 rw [results_cell_tmp h, hp]
 simp only [asAddr, Sem.run_pure, Result.andThen_ok, run_loadVar_row w g t ty cs fr d hg hu hd hi, hv]
theorem keep_set {z W : World} {b g : Nat} {vs : List Value} {o : Obj} (hz : World.setCells z b 0 vs = W) (h : z.heap[g]? = some o) (hne : g ≠ b) : W.heap[g]? = some o := by
 rw [← hz]
 exact (heap_setCells_other vs 0 z hne).trans h
def NextP (N : Nat) (W0 : World) (E EB VB AT : Nat) (val : Value) (G : Prop) (i : Nat) (M : Int) (v : Oct) (en : Ending) (V' : World) : Prop :=
 ∃ (x : Int) (k' : Nat) (e' : Int), en = .returned (.int .u64 x) ∧ Rst N W0 E EB VB AT val k' e' V' ∧ (e' = 0 ↔ G ∧ NumG (UInt8.ofNat (i + 1)) M v) ∧ (e' = 0 → k' = i + 1 ∧ x = (numX v : Int))
theorem next_any (M : Int) (i : Nat) (hi2 : i < 200) {N : Nat} {W0 : World} {E EB VB AT : Nat} {B : Option Addr} {n c : Nat} {L : List Oct} (hn : L.length = n) {g off : Nat} {vb vl : Nat → Value} (he : ElsR (fun g => g < N) W0 B L g off vb vl) {k : Nat} {e : Int} {V : World} (hS : Rst N W0 E EB VB AT (.slice B n c) k e V) {G : Prop} (hG : e = 0 ↔ G) (hk : G → k = i) (hi : G → ∃ o, L[i]? = some o) (hNV : N ≤ V.heap.size) :
  Calls Try.prog 83 #[.int .u64 M, .pointer (some ⟨EB, 0, none⟩), .pointer (some ⟨VB, 0, none⟩), .pointer (some ⟨AT, 0, none⟩)] V (NextP N W0 E EB VB AT (.slice B n c) G i M (L.getD i nilO)) := by
 by_cases h0 : e = 0
 ·
  have hg := hG.1 h0
  obtain ⟨o, ho⟩ := hi hg
  have hki := hk hg
  subst hki h0
  have hlt := (List.getElem?_eq_some_iff.1 ho).1
  have hd : L.getD k nilO = o := by rw [List.getD_eq_getElem?_getD, ho]; rfl
  rw [hd]
  refine (next_ok M hn he hS (by omega) hi2 hNV ho).mono fun en V' ⟨h1, h2⟩ => ⟨_, _, _, h1, h2, ⟨fun h => ⟨hg, h⟩, fun h => h.2⟩, fun h => ⟨rfl, (num_of h).2.2.2⟩⟩
 ·
  refine (next_err M hS h0).mono fun en V' ⟨h1, h2⟩ => ⟨_, _, _, h1, h2, ⟨fun h => absurd h h0, fun h => absurd (hG.2 h.1) h0⟩, fun h => absurd h h0⟩
def RdrP (B : Option Addr) (n c E : Nat) (w : World) (e : Ending) (w' : World) : Prop :=
 ∃ EB VB AT : Nat, e = .returned (.func (.func 83) #[] #[.pointer (some ⟨EB, 0, none⟩), .pointer (some ⟨VB, 0, none⟩), .pointer (some ⟨AT, 0, none⟩)]) ∧ w'.heap[EB]? = some (.cells #[.pointer (some ⟨E, 0, none⟩)] 104 (0, 0)) ∧ w'.heap[VB]? = some (.cells #[.slice B n c] 61 (0, 0)) ∧ w'.heap[AT]? = some (.cells #[.int .i64 0] 3 (0, 0)) ∧ w.heap.size ≤ EB ∧ w.heap.size ≤ VB ∧ w.heap.size ≤ AT ∧ AT ≠ EB ∧ AT ≠ VB ∧ Below w.heap.size w w'
set_option maxRecDepth 100000 in
set_option maxHeartbeats 1000000 in
theorem reader_any (B : Option Addr) (n c E : Nat) (w : World) :
  Calls Try.prog 59 #[.slice B n c, .pointer (some ⟨E, 0, none⟩)] w (RdrP B n c E w) := by
 have h1 := (below_new w (.cells #[.slice B n c] 61)).alloc (by simp) (.cells #[.pointer (some ⟨E, 0, none⟩)] 104)
 have h2 := h1.alloc (by simp; omega) (.cells #[.int .i64 0] 3)
 have r1 := heap_alloc2_oldR w (.cells #[.slice B n c] 61) (.cells #[.pointer (some ⟨E, 0, none⟩)] 104)
 have r2 := heap_alloc2_newR w (.cells #[.slice B n c] 61) (.cells #[.pointer (some ⟨E, 0, none⟩)] 104)
 have hs : ((w.alloc (.cells #[.slice B n c] 61)).alloc (.cells #[.pointer (some ⟨E, 0, none⟩)] 104)).heap.size = w.heap.size + 1 + 1 := by simp
 have r3 := heap_alloc_new ((w.alloc (.cells #[.slice B n c] 61)).alloc (.cells #[.pointer (some ⟨E, 0, none⟩)] 104)) (.cells #[.int .i64 0] 3)
 have r1' := row_on r1 (below_new _ (.cells #[.int .i64 0] 3))
 have r2' := row_on r2 (below_new _ (.cells #[.int .i64 0] 3))
 rw [hs] at r3
 have H2 := Lib.hid h2
 have R1 := Lib.hid r1'
 have R2 := Lib.hid r2'
 have R3 := Lib.hid r3
 clear h1 h2 r1 r2 r3 r1' r2' hs
 unfold RdrP
 go_enter Try.func59, Try.ntmps59
 go_wp2_with fail
 go_ret
 exact ⟨_, _, _, rfl, R2.out, R1.out, R3.out, by omega, by omega, by omega, by omega, by omega, H2.out⟩
set_option maxRecDepth 100000 in
set_option maxHeartbeats 1000000 in
theorem element_any (x0 x1 x2 x3 x4 : Int) (w : World) :
  Calls Try.prog 85 #[.agg #[.int .u64 x0, .int .u64 x1, .int .u64 x2, .int .u64 x3, .int .u64 x4]] w fun e w' => e = .returned (.agg #[.int .u8 (IntKind.u8.wrap x0), .int .u64 x1, .int .u64 x2, .int .i64 (IntKind.i64.wrap x3), .int .i64 (IntKind.i64.wrap x4)]) ∧ Below w.heap.size w w' := by
 obtain ⟨y0, hy0⟩ : ∃ y, IntKind.u8.wrap x0 = y := ⟨_, rfl⟩
 obtain ⟨y3, hy3⟩ : ∃ y, IntKind.i64.wrap x3 = y := ⟨_, rfl⟩
 obtain ⟨y4, hy4⟩ : ∃ y, IntKind.i64.wrap x4 = y := ⟨_, rfl⟩
 rw [hy0, hy3, hy4]
 go_enter Try.func85, Try.ntmps85
 go_wp2_with fail
 refine bodyPost_ret (v := .agg #[.int .u8 y0, .int .u64 x1, .int .u64 x2, .int .i64 y3, .int .i64 y4]) (results_cell_row rfl _ _ (w.heap.size + 1) 75 _ (0, 0) _ rfl ?_ Try.underlying75 rfl (sz5p _ _ _ _ _)) rfl ⟨rfl, ?_⟩
 ·
  rw [Below.heap_alloc _ _ _ (by simp)]
  exact heap_alloc2_newR w _ _
 ·
  exact (((Below.refl _ _).alloc (Nat.le_refl _) _).alloc (by simp) _).alloc (by simp; omega) _
def RePost (v : Oct) (w : World) (e : Ending) (w' : World) : Prop := ∃ (y : Ap) (E : Int), e = .returned (.tuple #[.agg #[.int .u8 y.f, .int .u64 y.h, .int .u64 y.l, .int .i64 y.n, .int .i64 y.m], .int .i64 E]) ∧ (E = 0 ↔ ApG v) ∧ (ApG v → y = apO v) ∧ Below w.heap.size w w'
theorem wr_u8 {x : Int} (h0 : 0 ≤ x) (h1 : x ≤ 255) : IntKind.u8.wrap x = x := by
 simp [IntKind.wrap, IntKind.bits, IntKind.signed]
 omega
theorem wr_i64 {x : Int} (h0 : 0 ≤ x) (h1 : x ≤ 128) : IntKind.i64.wrap x = x := by
 simp [IntKind.wrap, IntKind.bits, IntKind.signed]
 omega
theorem readel_fin {v : Oct} {L : List Oct} {yes : Bool} (hy : yes = rdQ (tagO v) 129 (bytO v).length (kids v).length 5 5) (hL : L = if yes = true then kids v else []) {x0 x1 x2 x3 x4 e1 e2 e3 e4 e5 : Int}
  (a1 : e1 = 0 ↔ yes = true ∧ NumG (UInt8.ofNat (0 + 1)) 255 (L.getD 0 nilO)) (a2 : e2 = 0 ↔ (yes = true ∧ NumG (UInt8.ofNat (0 + 1)) 255 (L.getD 0 nilO)) ∧ NumG (UInt8.ofNat (1 + 1)) 18446744073709551615 (L.getD 1 nilO))
  (a3 : e3 = 0 ↔ ((yes = true ∧ NumG (UInt8.ofNat (0 + 1)) 255 (L.getD 0 nilO)) ∧ NumG (UInt8.ofNat (1 + 1)) 18446744073709551615 (L.getD 1 nilO)) ∧ NumG (UInt8.ofNat (2 + 1)) 18446744073709551615 (L.getD 2 nilO))
  (a4 : e4 = 0 ↔ (((yes = true ∧ NumG (UInt8.ofNat (0 + 1)) 255 (L.getD 0 nilO)) ∧ NumG (UInt8.ofNat (1 + 1)) 18446744073709551615 (L.getD 1 nilO)) ∧ NumG (UInt8.ofNat (2 + 1)) 18446744073709551615 (L.getD 2 nilO)) ∧ NumG (UInt8.ofNat (3 + 1)) 128 (L.getD 3 nilO))
  (a5 : e5 = 0 ↔ ((((yes = true ∧ NumG (UInt8.ofNat (0 + 1)) 255 (L.getD 0 nilO)) ∧ NumG (UInt8.ofNat (1 + 1)) 18446744073709551615 (L.getD 1 nilO)) ∧ NumG (UInt8.ofNat (2 + 1)) 18446744073709551615 (L.getD 2 nilO)) ∧ NumG (UInt8.ofNat (3 + 1)) 128 (L.getD 3 nilO)) ∧ NumG (UInt8.ofNat (4 + 1)) 128 (L.getD 4 nilO))
  (b1 : e1 = 0 → x0 = (numX (L.getD 0 nilO) : Int)) (b2 : e2 = 0 → x1 = (numX (L.getD 1 nilO) : Int)) (b3 : e3 = 0 → x2 = (numX (L.getD 2 nilO) : Int)) (b4 : e4 = 0 → x3 = (numX (L.getD 3 nilO) : Int)) (b5 : e5 = 0 → x4 = (numX (L.getD 4 nilO) : Int)) :
  (e5 = 0 ↔ ApG v) ∧ (ApG v → (⟨IntKind.u8.wrap x0, x1, x2, IntKind.i64.wrap x3, IntKind.i64.wrap x4⟩ : Ap) = apO v) := by
 by_cases hyt : yes = true
 ·
  rw [if_pos hyt] at hL
  subst hL
  have hq : SeqG 129 5 5 v := by unfold SeqG; rw [← hy]; exact hyt
  have t1 : (UInt8.ofNat (0 + 1)) = 1 := rfl
  have t2 : (UInt8.ofNat (1 + 1)) = 2 := rfl
  have t3 : (UInt8.ofNat (2 + 1)) = 3 := rfl
  have t4 : (UInt8.ofNat (3 + 1)) = 4 := rfl
  have t5 : (UInt8.ofNat (4 + 1)) = 5 := rfl
  rw [t1] at a1
  rw [t1, t2] at a2
  rw [t1, t2, t3] at a3
  rw [t1, t2, t3, t4] at a4
  rw [t1, t2, t3, t4, t5] at a5
  have hap : ApG v ↔ NumG 1 255 (kid v 0) ∧ NumG 2 maxU (kid v 1) ∧ NumG 3 maxU (kid v 2) ∧ NumG 4 128 (kid v 3) ∧ NumG 5 128 (kid v 4) := ⟨fun h => h.2, fun h => ⟨hq, h⟩⟩
  refine ⟨a5.trans ⟨fun h => hap.2 ⟨h.1.1.1.1.2, h.1.1.1.2, h.1.1.2, h.1.2, h.2⟩, fun h => ?_⟩, fun h => ?_⟩
  ·
   obtain ⟨g1, g2, g3, g4, g5⟩ := hap.1 h
   exact ⟨⟨⟨⟨⟨hyt, g1⟩, g2⟩, g3⟩, g4⟩, g5⟩
  ·
   obtain ⟨g1, g2, g3, g4, g5⟩ := hap.1 h
   rw [b1 (a1.2 ⟨hyt, g1⟩), b2 (a2.2 ⟨⟨hyt, g1⟩, g2⟩), b3 (a3.2 ⟨⟨⟨hyt, g1⟩, g2⟩, g3⟩), b4 (a4.2 ⟨⟨⟨⟨hyt, g1⟩, g2⟩, g3⟩, g4⟩), b5 (a5.2 ⟨⟨⟨⟨⟨hyt, g1⟩, g2⟩, g3⟩, g4⟩, g5⟩)]
   have q1 := (num_of g1).2.1
   have q4 := (num_of g4).2.1
   have q5 := (num_of g5).2.1
   show (⟨IntKind.u8.wrap (numX (kid v 0) : Int), _, _, IntKind.i64.wrap (numX (kid v 3) : Int), IntKind.i64.wrap (numX (kid v 4) : Int)⟩ : Ap) = apO v
   rw [wr_u8 (Int.natCast_nonneg _) q1, wr_i64 (Int.natCast_nonneg _) q4, wr_i64 (Int.natCast_nonneg _) q5]
   rfl
 ·
  have hn : ¬ ApG v := fun h => hyt (by rw [hy]; exact h.1)
  exact ⟨⟨fun h => absurd (a5.1 h).1.1.1.1.1 hyt, fun h => absurd h hn⟩, fun h => absurd h hn⟩
set_option maxRecDepth 100000 in
set_option maxHeartbeats 4000000 in
theorem readel_any (v : Oct) (hcn : cnt v ≤ 5000) (htt : tot v ≤ 100000) (w : World) (x y : Value) (hat : At (fun _ => True) w v x y) :
  Calls Try.prog 60 #[.agg (cell3 v x y)] w (RePost v w) := by
 obtain ⟨t, b, l⟩ := v
 have HRQ := Lib.hid (fun (V : World) (hb : Below w.heap.size w V) => readseq_any t b l 129 5 5 hcn htt V x y (hat.on hb))
 obtain ⟨yes, hyes⟩ : ∃ yes, yes = rdQ t 129 b.length l.length 5 5 := ⟨_, rfl⟩
 have HYES := Lib.hid hyes
 rw [← hyes] at HRQ
 obtain ⟨L, hL⟩ : ∃ L, L = if yes = true then l else [] := ⟨_, rfl⟩
 have HL := Lib.hid hL
 have HLI : RowKit.Hid (∀ i, i < 5 → RowKit.Hid (yes = true) → ∃ o, L[i]? = some o) := Lib.hid (fun i hi hy => by
  have h2 := of_decide_eq_true (hyes.symm.trans hy.out)
  rw [hL, if_pos hy.out]
  exact ⟨_, List.getElem?_eq_getElem (by omega)⟩)
 unfold RsPost at HRQ
 obtain ⟨A, m, c, B, n, d, rfl, rfl⟩ := hat.slices
 have HX0 := Lib.hid (heap_alloc2_oldR w (.cells #[.int .u8 ((tagO (Oct.mk t b l)).toNat : Int), .slice A m c, .slice B n d] 63) (.cells #[.int .u8 0, .int .u64 0, .int .u64 0, .int .i64 0, .int .i64 0] 75))
 have HO0 := Lib.hid (heap_alloc2_newR w (.cells #[.int .u8 ((tagO (Oct.mk t b l)).toNat : Int), .slice A m c, .slice B n d] 63) (.cells #[.int .u8 0, .int .u64 0, .int .u64 0, .int .i64 0, .int .i64 0] 75))
 have HB0 := Lib.hid ((below_new w (.cells #[.int .u8 ((tagO (Oct.mk t b l)).toNat : Int), .slice A m c, .slice B n d] 63)).alloc (by simp) (.cells #[.int .u8 0, .int .u64 0, .int .u64 0, .int .i64 0, .int .i64 0] 75))
 unfold cell3 at HRQ ⊢
 generalize ((tagO (Oct.mk t b l)).toNat : Int) = tz at HX0 HO0 HB0 HRQ ⊢
 clear hyes hL hat hcn htt
 go_enter Try.func60, Try.ntmps60
 go_upto_region 1 with (fail)
 generalize hV : World.alloc (World.alloc w _) _ = V at HX0 HO0 HB0 ⊢
 clear hV
 obtain ⟨hlt, ⟨hf0, hf1, hf2⟩, c0, c1, c2⟩ := (show w.heap.size < V.heap.size ∧ _ from ⟨(Array.getElem?_eq_some_iff.1 HX0.out).1, facts3 HX0.out⟩)
 go_wp2_with fail
 refine (HRQ.out V HB0.out).mono ?_
 rintro e W0 ⟨v0, rfl, hat0, hb⟩
 have HBW0 := Lib.hid (chain HB0.out hb)
 have HOW0 := Lib.hid (row_on HO0.out hb)
 rw [← HL.out] at hat0
 obtain ⟨A0, c0', B0, d0, g, off, vb, vl, ea, rfl, _, _, _, _, _, _, _, hels⟩ := (hat0.any.lower (Nat.le_refl W0.heap.size)).elsR
 have HEL0 := Lib.hid hels
 obtain ⟨n0, hn0⟩ : ∃ n0, L.length = n0 := ⟨_, rfl⟩
 have HLN := Lib.hid hn0
 rw [hn0]
 obtain ⟨e0, he0⟩ : ∃ e0 : Int, (if yes = true then (0 : Int) else 12) = e0 := ⟨_, rfl⟩
 have HGA0 : RowKit.Hid (e0 = 0 ↔ yes = true) := Lib.hid (by
  rw [← he0]
  cases yes
  ·
   exact ⟨fun h => absurd h (by decide), fun h => absurd h (by decide)⟩
  ·
   exact ⟨fun _ => rfl, fun _ => rfl⟩)
 rw [he0]
 clear hb hat0 ea hels hn0 he0 hlt hf0 hf1 hf2 c0 c1 c2
 go_upto_region 2 with (fail)
 generalize hV1 : World.alloc W0 _ = V1
 obtain ⟨E, hE⟩ : ∃ E, W0.heap.size = E := ⟨_, rfl⟩
 have HEE := Lib.hid (show V1.heap[E]? = some (.cells #[.int .i64 e0] 28 (0, 0)) by rw [← hV1, ← hE]; exact heap_alloc_new _ _)
 have HV1 := Lib.hid (show Below W0.heap.size W0 V1 by rw [← hV1]; exact below_new _ _)
 have HEN := Lib.hid hE
 try simp only [hE]
 clear hV1 hE
 go_wp2_with fail
 refine (reader_any B0 n0 d0 E V1).mono ?_
 rintro e VR ⟨EB, VB, AT, rfl, r1, r2, r3, q1, q2, q3, q4, q5, hb⟩
 have HS0 : RowKit.Hid (Rst W0.heap.size W0 E EB VB AT (.slice B0 n0 d0) 0 e0 VR) := Lib.hid (by
  have hlt := (Array.getElem?_eq_some_iff.1 HEE.out).1
  have hen := HEN.out
  have hsz := HV1.out.size
  exact ⟨chain HV1.out hb, row_on HEE.out hb, r1, r2, r3, by omega, by omega, by omega, by omega, by omega, q4, q5⟩)
 have HGC0 : RowKit.Hid (yes = true → RowKit.Hid (yes = true)) := Lib.hid (fun h => Lib.hid h)
 clear r1 r2 r3 q1 q2 q3 q4 q5 hb HEE HV1
 go_wp2_with fail
 refine (next_any 255 0 (by decide) HLN.out HEL0.out HS0.out HGA0.out (fun _ => rfl) (fun h => HLI.out 0 (by decide) (HGC0.out h)) HS0.out.bel.size).mono ?_
 rintro e V10 ⟨x0, k1, e1, rfl, hs, hga, hgb⟩
 have HS1 := Lib.hid hs
 have HGA1 := Lib.hid hga
 have HGB1 := Lib.hid (fun h => (hgb (hga.2 h)).1)
 have HGC1 := Lib.hid (fun h => HGC0.out (And.left (hga.1 (hga.2 h))))
 have HX0 := Lib.hid (fun h => (hgb h).2)
 clear hs hga hgb
 go_wp2_with fail
 refine (next_any 18446744073709551615 1 (by decide) HLN.out HEL0.out HS1.out HGA1.out HGB1.out (fun h => HLI.out 1 (by decide) (HGC1.out h)) HS1.out.bel.size).mono ?_
 rintro e V11 ⟨x1, k2, e2, rfl, hs, hga, hgb⟩
 have HS2 := Lib.hid hs
 have HGA2 := Lib.hid hga
 have HGB2 := Lib.hid (fun h => (hgb (hga.2 h)).1)
 have HGC2 := Lib.hid (fun h => HGC1.out (And.left (hga.1 (hga.2 h))))
 have HX1 := Lib.hid (fun h => (hgb h).2)
 clear hs hga hgb
 go_wp2_with fail
 refine (next_any 18446744073709551615 2 (by decide) HLN.out HEL0.out HS2.out HGA2.out HGB2.out (fun h => HLI.out 2 (by decide) (HGC2.out h)) HS2.out.bel.size).mono ?_
 rintro e V12 ⟨x2, k3, e3, rfl, hs, hga, hgb⟩
 have HS3 := Lib.hid hs
 have HGA3 := Lib.hid hga
 have HGB3 := Lib.hid (fun h => (hgb (hga.2 h)).1)
 have HGC3 := Lib.hid (fun h => HGC2.out (And.left (hga.1 (hga.2 h))))
 have HX2 := Lib.hid (fun h => (hgb h).2)
 clear hs hga hgb
 go_wp2_with fail
 refine (next_any 128 3 (by decide) HLN.out HEL0.out HS3.out HGA3.out HGB3.out (fun h => HLI.out 3 (by decide) (HGC3.out h)) HS3.out.bel.size).mono ?_
 rintro e V13 ⟨x3, k4, e4, rfl, hs, hga, hgb⟩
 have HS4 := Lib.hid hs
 have HGA4 := Lib.hid hga
 have HGB4 := Lib.hid (fun h => (hgb (hga.2 h)).1)
 have HGC4 := Lib.hid (fun h => HGC3.out (And.left (hga.1 (hga.2 h))))
 have HX3 := Lib.hid (fun h => (hgb h).2)
 clear hs hga hgb
 go_wp2_with fail
 refine (next_any 128 4 (by decide) HLN.out HEL0.out HS4.out HGA4.out HGB4.out (fun h => HLI.out 4 (by decide) (HGC4.out h)) HS4.out.bel.size).mono ?_
 rintro e V14 ⟨x4, k5, e5, rfl, hs, hga, hgb⟩
 have HS5 := Lib.hid hs
 have HGA5 := Lib.hid hga
 have HGB5 := Lib.hid (fun h => (hgb (hga.2 h)).1)
 have HGC5 := Lib.hid (fun h => HGC4.out (And.left (hga.1 (hga.2 h))))
 have HX4 := Lib.hid (fun h => (hgb h).2)
 clear hs hga hgb
 have HFIN := Lib.hid (readel_fin (v := .mk t b l) HYES.out HL.out HGA1.out HGA2.out HGA3.out HGA4.out HGA5.out HX0.out HX1.out HX2.out HX3.out HX4.out)
 go_upto_region 4 with (fail)
 generalize hV4 : World.alloc V14 _ = V4
 obtain ⟨M7, hM7⟩ : ∃ M, V14.heap.size = M := ⟨_, rfl⟩
 have HK4 := Lib.hid (show V4.heap[M7]? = some (.cells #[.int .u64 x0, .int .u64 x1, .int .u64 x2, .int .u64 x3, .int .u64 x4] 124 (0, 0)) by rw [← hV4, ← hM7]; exact heap_alloc_new _ _)
 have HB14 := Lib.hid (show Below V14.heap.size V14 V4 by rw [← hV4]; exact below_new _ _)
 try simp only [hM7]
 have HM7 := Lib.hid (show w.heap.size + 1 < M7 by
  have h1 := (Array.getElem?_eq_some_iff.1 HOW0.out).1
  have h2 := HS5.out.bel.size
  omega)
 have HN0 := Lib.hid (Array.getElem?_eq_some_iff.1 HOW0.out).1
 have HS9 := Lib.hid (HS5.out.on HS5.out.bel.size HB14.out)
 have HO4 := Lib.hid (show V4.heap[w.heap.size + 1]? = some (.cells #[.int .u8 0, .int .u64 0, .int .u64 0, .int .i64 0, .int .i64 0] 75 (0, 0)) from (HS9.out.bel.block _ HN0.out).trans HOW0.out)
 have HB4 := Lib.hid (below_low14 HBW0.out HBW0.out.size HS9.out.bel)
 clear hV4 hM7
 have mkS : ∀ z, Below V4.heap.size V4 z → (fun (z : World) => z.heap[M7]? = some (.cells #[.int .u64 x0, .int .u64 x1, .int .u64 x2, .int .u64 x3, .int .u64 x4] 124 (0, 0)) ∧ z.cell? ⟨E, 0, none⟩ = some (.int .i64 e5)) z := fun z hz => ⟨row_on HK4.out hz, c10 (row_on HS9.out.rE hz)⟩
 have HEL := Lib.hid (fun (z : World) => element_any x0 x1 x2 x3 x4 z)
 refine wp_region_held_drew (S := fun (z : World) => z.heap[M7]? = some (.cells #[.int .u64 x0, .int .u64 x1, .int .u64 x2, .int .u64 x3, .int .u64 x4] 124 (0, 0)) ∧ z.cell? ⟨E, 0, none⟩ = some (.int .i64 e5)) (by kernel_rfl) (mkS _ (Below.refl _ _).drew) (fun hHeld => ?_)
 generalize hU : World.drew V4 = U4 at hHeld ⊢
 have HBC := Lib.hid (show Below V4.heap.size V4 U4 by rw [← hU]; exact (Below.refl _ _).drew)
 clear hU
 refine wpAnyH_take (i := 0) (oi := { dst := some 26, op := .load 124 (.tmp 7), type := 124, pos := "code.go:58", after := #[], guard := none }) (v := .agg ([.int .u64 x0, .int .u64 x1, .int .u64 x2, .int .u64 x3, .int .u64 x4]).toArray) rfl (by kernel_rfl) (by kernel_rfl) (by kernel_rfl) (fun _ _ _ h => h) (yieldsIf_load_mid (by rfl) _ _ rfl _ _ rfl ([.int .u64 x0, .int .u64 x1, .int .u64 x2, .int .u64 x3, .int .u64 x4]) _ (fun w hSw => hSw.1 |> row_range (cs := [.int .u64 x0, .int .u64 x1, .int .u64 x2, .int .u64 x3, .int .u64 x4])) Try.underlying124 rfl (sz5k _ _ _ _ _)) hHeld ?_
 try simp only [Act.put, List.setIfInBounds_toArray, List.set_cons_zero, List.set_cons_succ]
 refine wpAnyH_take (i := 2) (oi := { dst := some 28, op := .load 28 (.tmp 5), type := 28, pos := "code.go:58", after := #[{ on := 3, ground := .gcOnly .lateStores }], guard := none }) (v := ?_) rfl (by kernel_rfl) (by kernel_rfl) (by kernel_rfl) (fun _ _ _ h => h) (Or.inl ⟨by rfl, ?_⟩) hHeld ?_
 rotate_left
 ·
  intro w hSw
  have hfc0 := hSw.2
  clear hSw
  go_simp
  try with_reducible rfl
 try simp only [Act.put, List.setIfInBounds_toArray, List.set_cons_zero, List.set_cons_succ]
 refine wpAnyH_ready (rs := [1]) (by kernel_rfl) (by simp) (AllReadyH.cons (o := { dst := some 27, op := .call { callee := .value (.func 85), args := #[.tmp 26], argTypes := #[124] }, type := 75, pos := "code.go:58", after := #[{ on := 0, ground := .data }], guard := none }) rfl (fun K hK => ?_) AllReadyH.nil)
 go_simp
 refine (HEL.out U4).mono ?_
 rintro e z1 ⟨rfl, hb⟩
 have HBC := Lib.hid (chain HBC.out hb)
 clear hb 
 go_simp
 refine hK.out _ _ (mkS _ HBC.out) (fun hHeld2 => ?_)
 clear hK K hHeld
 have hHeld := hHeld2
 clear hHeld2
 try simp only [Act.put, List.setIfInBounds_toArray, List.set_cons_zero, List.set_cons_succ]
 refine wpAnyH_ready (rs := [3]) (by kernel_rfl) (by simp) (AllReadyH.cons (o := { dst := none, op := .store 75 (.tmp 2) (.tmp 27), type := 0, pos := "code.go:58", after := #[{ on := 1, ground := .data }, { on := 1, ground := .chain }, { on := 0, ground := .phase }, { on := 1, ground := .phase }, { on := 2, ground := .textOnly .lateStores }], guard := none }) rfl (fun K hK => ?_) AllReadyH.nil)
 try rw [if_pos (by rfl)]
 have HO9 := Lib.hid (row_on HO4.out HBC.out)
 have HW9 := Lib.hid (chain HB4.out HBC.out)
 obtain ⟨z3, hz3⟩ : ∃ z3, World.setCells z1 (w.heap.size + 1) 0 (#[.int .u8 (IntKind.u8.wrap x0), .int .u64 x1, .int .u64 x2, .int .i64 (IntKind.i64.wrap x3), .int .i64 (IntKind.i64.wrap x4)] : Array Value).toList = z3 := ⟨_, rfl⟩
 refine wp_store_as 75 (.tmp 2) (.tmp 27) rfl (w.heap.size + 1) 0 #[.int .u8 (IntKind.u8.wrap x0), .int .u64 x1, .int .u64 x2, .int .i64 (IntKind.i64.wrap x3), .int .i64 (IntKind.i64.wrap x4)] rfl rfl (there_row HO9.out 5 (show 5 ≤ 5 by decide)) (sz5p _ _ _ _ _) (one5 _ _ _ _ _ rfl rfl rfl rfl rfl) z3 hz3 ?_
 have hrw := row_setCells HO9.out (cs := #[.int .u8 (IntKind.u8.wrap x0), .int .u64 x1, .int .u64 x2, .int .i64 (IntKind.i64.wrap x3), .int .i64 (IntKind.i64.wrap x4)]) rfl
 have hbl := below_setCells (#[.int .u8 (IntKind.u8.wrap x0), .int .u64 x1, .int .u64 x2, .int .i64 (IntKind.i64.wrap x3), .int .i64 (IntKind.i64.wrap x4)] : Array Value).toList 0 z1 HW9.out (show w.heap.size ≤ w.heap.size + 1 by omega)
 rw [hz3] at hrw hbl
 have HKZ := Lib.hid (keep_set hz3 (row_on HK4.out HBC.out) (show M7 ≠ w.heap.size + 1 by have := HM7.out; omega))
 have HEZ := Lib.hid (keep_set hz3 (row_on HS9.out.rE HBC.out) (show E ≠ w.heap.size + 1 by have := HS9.out.nE; have := HN0.out; omega))
 refine hK.out _ _ ⟨HKZ.out, c10 HEZ.out⟩ (fun hHeld2 => ?_)
 clear hK K hHeld
 have hHeld := hHeld2
 clear hHeld2
 try simp only [Act.put, List.setIfInBounds_toArray, List.set_cons_zero, List.set_cons_succ]
 refine wpAnyH_take (i := 4) (oi := { dst := some 3, op := .assign (.tmp 28), type := 28, pos := "code.go:58", after := #[{ on := 2, ground := .data }, { on := 3, ground := .chain }, { on := 0, ground := .phase }, { on := 1, ground := .phase }, { on := 2, ground := .phase }, { on := 3, ground := .phase }], guard := none }) (v := ?_) rfl (by kernel_rfl) (by kernel_rfl) (by kernel_rfl) (fun _ _ _ h => h) (Or.inl ⟨by rfl, ?_⟩) hHeld ?_
 rotate_left
 ·
  intro w hSw
  clear hSw
  go_simp
  try with_reducible rfl
 try simp only [Act.put, List.setIfInBounds_toArray, List.set_cons_zero, List.set_cons_succ]
 refine wpAnyH_done (by kernel_rfl) ?_ _
 have HRW := Lib.hid hrw
 have HBL := Lib.hid hbl
 clear hrw hbl hz3
 go_wp2_with fail
 refine bodyPost_ret (v := .tuple #[.agg #[.int .u8 (IntKind.u8.wrap x0), .int .u64 x1, .int .u64 x2, .int .i64 (IntKind.i64.wrap x3), .int .i64 (IntKind.i64.wrap x4)], .int .i64 e5]) (results_ctr rfl _ _ (w.heap.size + 1) 75 _ (0, 0) _ rfl HRW.out Try.underlying75 rfl (sz5p _ _ _ _ _) _ rfl) rfl ?_
 exact ⟨⟨IntKind.u8.wrap x0, x1, x2, IntKind.i64.wrap x3, IntKind.i64.wrap x4⟩, e5, rfl, HFIN.out.1, HFIN.out.2, HBL.out⟩
end Ro
end Go.Proofs.Ythfgdgcdicacpaa
