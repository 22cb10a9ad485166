import Derived.Test.YtcgffkkfeimifaaGreatDoorRvHP
import Derived.Test.YtcgffkkfeimifaaGreatDoorOcRFJ
namespace Go.Proofs.YtcgffkkfeimifaaGreatDoor
namespace Sg
open Go.RowKit Sha Oc
set_option linter.unusedVariables false
set_option linter.unusedSimpArgs false
def RvdPost (a : Rl × Int) (w : World) (e : Ending) (w' : World) : Prop := ∃ m, e = .returned (.tuple #[.agg (rlC a.1 m), .int .i64 a.2]) ∧ RlAt a.1 m w' ∧ Below w.heap.size w w'
theorem rl0_at (w : World) : RlAt rl0 mp0 w := ⟨⟨fun i x hi => by simp at hi⟩, shs_nil rfl _ _, shs_nil rfl _ _, by decide, by decide, by decide⟩
theorem free8 {V : World} {M : Nat} {a b c d e f g h : Value} {T : TypeId} (H : V.heap[M]? = some (.cells #[a, b, c, d, e, f, g, h] T (0, 0))) : V.frozen? ⟨M, 0, none⟩ = false ∧ V.frozen? ⟨M, 1, none⟩ = false ∧ V.frozen? ⟨M, 2, none⟩ = false ∧ V.frozen? ⟨M, 3, none⟩ = false ∧ V.frozen? ⟨M, 4, none⟩ = false ∧ V.frozen? ⟨M, 5, none⟩ = false ∧ V.frozen? ⟨M, 6, none⟩ = false ∧ V.frozen? ⟨M, 7, none⟩ = false :=
 ⟨frozen_of_row _ _ _ _ _ H, frozen_of_row _ _ _ _ _ H, frozen_of_row _ _ _ _ _ H, frozen_of_row _ _ _ _ _ H, frozen_of_row _ _ _ _ _ H, frozen_of_row _ _ _ _ _ H, frozen_of_row _ _ _ _ _ H, frozen_of_row _ _ _ _ _ H⟩
theorem put8 {V W : World} {M n : Nat} {a b c d e f g h a' b' c' d' e' f' g' h' : Value} {T : TypeId} (H : V.heap[M]? = some (.cells #[a, b, c, d, e, f, g, h] T (0, 0))) (hn : n ≤ M) (hW : ((((((((V.setCell ⟨M, 0, none⟩ a').setCell ⟨M, 1, none⟩ b').setCell ⟨M, 2, none⟩ c').setCell ⟨M, 3, none⟩ d').setCell ⟨M, 4, none⟩ e').setCell ⟨M, 5, none⟩ f').setCell ⟨M, 6, none⟩ g').setCell ⟨M, 7, none⟩ h') = W) : W.heap[M]? = some (.cells #[a', b', c', d', e', f', g', h'] T (0, 0)) ∧ Below n V W ∧ ∀ k, k ≠ M → W.heap[k]? = V.heap[k]? := by
 have e : V.setCells M 0 [a', b', c', d', e', f', g', h'] = W := hW
 rw [← e]
 exact ⟨row_setCells (cs := #[a', b', c', d', e', f', g', h']) H rfl, below_setCells _ _ _ (Below.refl _ _) hn, fun k hk => heap_setCells_other _ _ _ hk⟩
set_option maxRecDepth 100000 in
set_option maxHeartbeats 4000000 in
theorem rdecode_any (b : List UInt8) (hb : b.length ≤ 100000) (A : Option Addr) (c : Nat) (hc : b.length ≤ c) (hA : A = none → c = 0) (w : World) (hs : SrcAt A b w) :
  Calls Tryz.prog 15 #[.slice A b.length c] w (RvdPost (rvD b) w) := by
 have hd := fun (V : World) (hB : Below w.heap.size w V) => decode_any b hb A c hc hA V (fun hne => by
  obtain ⟨g, o, e, k⟩ := hs hne
  exact ⟨g, o, e, fun j x hx => by rw [hB.cell (p := ⟨g, o + j, none⟩) (World.block_lt_of_cell? _ _ (k j x hx))]; exact k j x hx⟩)
 obtain ⟨n, hn⟩ : ∃ n, b.length = n := ⟨_, rfl⟩
 obtain ⟨v, hv⟩ : ∃ v, (decV b).1 = v := ⟨_, rfl⟩
 obtain ⟨e2, he2⟩ : ∃ e2, (decV b).2 = e2 := ⟨_, rfl⟩
 have hrd := fun (h0 : e2 = 0) (V : World) (x y : Value) (hat : At (fun _ => True) V v x y) => read_rd v (by
   obtain ⟨q1, q2⟩ := decV_only b v (Prod.ext hv (he2.trans h0))
   have h3 := ((ckV_good _).1 q2)
   unfold good at h3
   omega) (by
   obtain ⟨q1, q2⟩ := decV_only b v (Prod.ext hv (he2.trans h0))
   have h3 := ((ckV_good _).1 q2)
   unfold good at h3
   have h2 := tot_enc v
   omega) x y V hat
 obtain ⟨a, ha⟩ : ∃ a, wholeS (rl0, 0) v = a := ⟨_, rfl⟩
 have hck := fun (h0 : a.2 = 0) (V : World) (m : Mp) (h : Nums m.SA a.1.ser V) => lchk_any a.1 m V (by
   have hw := (whole_zero v).1 (by rw [ha]; exact h0)
   have e := whole_one v hw
   rw [ha] at e
   rw [e]
   have hl := (str_of hw.2.1.2.1).2.1
   show (bytO (kid (kid v 0) 0)).toArray.size ≤ maxLen
   rw [List.size_toArray]
   unfold maxLen
   omega) h
 have hr : rvD b = if e2 = 0 ∧ a.2 = 0 ∧ rvC a.1 = 0 then (a.1, 0) else (rl0, 12) := by
  unfold rvD
  rw [he2, hv, ha]
 obtain ⟨r, hr0⟩ : ∃ r, rvD b = r := ⟨_, rfl⟩
 rw [hr0] at hr ⊢
 obtain ⟨E, hE⟩ : ∃ E, rvC a.1 = E := ⟨_, rfl⟩
 rw [hE] at hr hck
 unfold DecPost at hd
 rw [hn, hv, he2] at hd
 rw [hn]
 rw [ha] at hrd
 have HD := Lib.hid hd
 have HRD := Lib.hid hrd
 have HCK := Lib.hid hck
 have HRES := Lib.hid hr
 have HR0 := Lib.hid (heap_alloc_new w (.cells #[.string ⟨#[]⟩, .int .u64 0, .int .i64 0, .int .i64 0, .slice none 0 0, .int .i64 0, .slice none 0 0, .slice none 0 0] 32))
 have HB0 := Lib.hid (below_new w (.cells #[.string ⟨#[]⟩, .int .u64 0, .int .i64 0, .int .i64 0, .slice none 0 0, .int .i64 0, .slice none 0 0, .slice none 0 0] 32))
 clear hd hrd hck hr hr0 hv he2 ha hn hb hc hA hs hE b
 go_enter Tryz.func15, Tryz.ntmps15
 go_upto_region 1 with (fail)
 generalize hV : World.alloc w _ = V at HR0 HB0 ⊢
 clear hV
 obtain ⟨hl0, f0, f1, f2, f3, f4, f5, f6, f7⟩ := facts8 HR0.out
 go_wp2_with fail
 refine (HD.out V HB0.out).mono ?_
 rintro e w1 ⟨hb1, x1, y1, rfl, hat⟩
 have HR1 := Lib.hid (row_on HR0.out hb1)
 have HB1 := Lib.hid (chain HB0.out hb1)
 have HA1 := Lib.hid hat
 clear hl0 f0 f1 f2 f3 f4 f5 f6 f7 hb1 hat
 obtain ⟨A1, m1, k1, B1, n1, q1, rfl, rfl⟩ := HA1.out.slices
 unfold cell3
 go_upto_region 2 with (fail)
 generalize hV2 : World.alloc w1 _ = V2
 have hb2 : Below w1.heap.size w1 V2 := by rw [← hV2]; exact below_new _ _
 have HO2 := Lib.hid (show V2.heap[w1.heap.size]? = some (.cells #[.int .u8 ((tagO v).toNat : Int), .slice A1 m1 k1, .slice B1 n1 q1] 68 (0, 0)) by rw [← hV2]; exact heap_alloc_new _ _)
 have HR2 := Lib.hid (row_on HR1.out hb2)
 have HB2 := Lib.hid (chain HB1.out hb2)
 have HA2 := Lib.hid (HA1.out.any.on hb2)
 clear hV2 hb2 HR1 HB1 HA1 HR0 HB0
 by_cases h0 : e2 = 0
 ·
  subst h0
  have HRD1 := Lib.hid (HRD.out rfl)
  have HRES1 := Lib.hid (show r = if a.2 = 0 ∧ E = 0 then (a.1, 0) else (rl0, 12) by rw [HRES.out]; simp)
  clear HRD HRES HD
  obtain ⟨hl0, c0, c1, c2⟩ := facts3 HO2.out
  have hrg := range3o c0 c1 c2
  go_wp2_with fail
  have hrd := HRD1.out V2 (.slice A1 m1 k1) (.slice B1 n1 q1) HA2.out
  unfold cell3 at hrd
  refine hrd.mono ?_
  rintro e w3 ⟨m, rfl, hrl, hfr, hb3⟩
  have HFR := Lib.hid (show Frs (w.heap.size + 1) m from by
   have h1 := HB2.out.size
   have h2 := (Array.getElem?_eq_some_iff.1 HR2.out).1
   exact ⟨fun g o e => by have := hfr.SA g o e; omega, fun g o e => by have := hfr.CA g o e; omega, fun g o e => by have := hfr.PA g o e; omega⟩)
  unfold rlC
  have HRL := Lib.hid hrl
  have HR3 := Lib.hid (row_on HR2.out hb3)
  have HB3 := Lib.hid (chain HB2.out hb3)
  clear hl0 c0 c1 c2 hrg hb3 hrl hfr hrd HR2 HB2 HO2 HA2
  go_upto_region 5 with (fail)
  have HM := Lib.hid (heap_alloc_new w3 (.cells #[Value.string a.1.iss, .int .u64 a.1.num, .int .i64 a.1.fr, .int .i64 a.1.tt, .slice m.SA a.1.ser.length m.sc, .int .i64 a.1.sg.idx, .slice m.CA a.1.sg.cs.length m.cc, .slice m.PA a.1.sg.ps.length m.pc] 32))
  generalize hV4 : World.alloc w3 _ = V4 at HM ⊢
  have hb4 : Below w3.heap.size w3 V4 := by rw [← hV4]; exact below_new _ _
  have HR4 := Lib.hid (row_on HR3.out hb4)
  have HB4 := Lib.hid (chain HB3.out hb4)
  have HRL4 := Lib.hid (HRL.out.on hb4)
  clear hV4 hb4 HR3 HB3 HRL
  obtain ⟨e9, he9⟩ : ∃ e9, a.2 = e9 := ⟨_, rfl⟩
  obtain ⟨l9, hl9⟩ : ∃ l9, a.1 = l9 := ⟨_, rfl⟩
  rw [he9] at HRES1 HCK ⊢
  rw [hl9] at HRES1 HCK HM HRL4 ⊢
  clear HRD1 he9 hl9 a
  by_cases h9 : e9 = 0
  ·
   subst h9
   have HCK1 := Lib.hid (HCK.out rfl V4 m HRL4.out.ser)
   have HRES2 := Lib.hid (show r = if E = 0 then (l9, 0) else (rl0, 12) by rw [HRES1.out]; simp)
   clear HCK HRES1
   obtain ⟨hl, p0, p1, p2, p3, p4, p5, p6, p7⟩ := facts8 HM.out
   go_wp2_with fail
   have hck := HCK1.out
   unfold rlC at hck
   refine hck.mono ?_
   rintro e w5 ⟨rfl, hb5⟩
   have HR5 := Lib.hid (row_on HR4.out hb5)
   have HB5 := Lib.hid (chain HB4.out hb5)
   have HRL5 := Lib.hid (HRL4.out.on hb5)
   have HM5 := Lib.hid (row_on HM.out hb5)
   clear hl p0 p1 p2 p3 p4 p5 p6 p7 hb5 hck HCK1 HR4 HB4 HRL4 HM
   by_cases h8 : E = 0
   ·
    subst h8
    obtain ⟨hl, p0, p1, p2, p3, p4, p5, p6, p7⟩ := facts8 HM5.out
    obtain ⟨hl0, f0, f1, f2, f3, f4, f5, f6, f7⟩ := facts8 HR5.out
    obtain ⟨z0, z1, z2, z3, z4, z5, z6, z7⟩ := free8 HR5.out
    go_wp2_with fail
    generalize hZ : World.setCell _ _ _ = Z
    obtain ⟨r1, r2, r3⟩ := put8 HR5.out (Nat.le_refl _) hZ
    clear hZ hl0 hl p0 p1 p2 p3 p4 p5 p6 p7 f0 f1 f2 f3 f4 f5 f6 f7 z0 z1 z2 z3 z4 z5 z6 z7
    have hr : r = (l9, 0) := by rw [HRES2.out]; simp
    refine bodyPost_ret (v := .tuple #[.agg (rlC r.1 m), .int .i64 r.2]) ?res rfl ⟨m, rfl, ?_, HB5.out.trans r2⟩
    case res =>
     obtain ⟨_, f0, f1, f2, f3, f4, f5, f6, f7⟩ := facts8 r1
     rw [hr]
     simp [results, Tryz.results15, go_sem, f0, f1, f2, f3, f4, f5, f6, f7]
     try rfl
    ·
     rw [hr]
     exact HRL5.out.other HFR.out (Nat.lt_succ_self _) r3
   ·
    obtain ⟨hl0, f0, f1, f2, f3, f4, f5, f6, f7⟩ := facts8 HR5.out
    obtain ⟨z0, z1, z2, z3, z4, z5, z6, z7⟩ := free8 HR5.out
    go_wp2_with fail
    generalize hZ : World.setCell _ _ _ = Z
    obtain ⟨r1, r2, r3⟩ := put8 HR5.out (Nat.le_refl _) hZ
    clear hZ
    have hr : r = (rl0, 12) := by rw [HRES2.out, if_neg h8]
    refine bodyPost_ret (v := .tuple #[.agg (rlC r.1 mp0), .int .i64 r.2]) ?res rfl ⟨mp0, rfl, ?_, HB5.out.trans r2⟩
    case res =>
     obtain ⟨_, f0, f1, f2, f3, f4, f5, f6, f7⟩ := facts8 r1
     rw [hr]
     simp [results, Tryz.results15, go_sem, f0, f1, f2, f3, f4, f5, f6, f7]
     try rfl
    ·
     rw [hr]
     exact rl0_at _
  ·
   obtain ⟨hl0, f0, f1, f2, f3, f4, f5, f6, f7⟩ := facts8 HR4.out
   obtain ⟨z0, z1, z2, z3, z4, z5, z6, z7⟩ := free8 HR4.out
   go_wp2_with fail
   generalize hZ : World.setCell _ _ _ = Z
   obtain ⟨r1, r2, r3⟩ := put8 HR4.out (Nat.le_refl _) hZ
   clear hZ
   have hr : r = (rl0, 12) := by rw [HRES1.out, if_neg (fun k => h9 k.1)]
   refine bodyPost_ret (v := .tuple #[.agg (rlC r.1 mp0), .int .i64 r.2]) ?res rfl ⟨mp0, rfl, ?_, HB4.out.trans r2⟩
   case res =>
    obtain ⟨_, f0, f1, f2, f3, f4, f5, f6, f7⟩ := facts8 r1
    rw [hr]
    simp [results, Tryz.results15, go_sem, f0, f1, f2, f3, f4, f5, f6, f7]
    try rfl
   ·
    rw [hr]
    exact rl0_at _
 ·
  obtain ⟨hl0, f0, f1, f2, f3, f4, f5, f6, f7⟩ := facts8 HR2.out
  obtain ⟨z0, z1, z2, z3, z4, z5, z6, z7⟩ := free8 HR2.out
  go_wp2_with fail
  generalize hZ : World.setCell _ _ _ = Z
  obtain ⟨r1, r2, r3⟩ := put8 HR2.out (Nat.le_refl _) hZ
  clear hZ hl0 f0 f1 f2 f3 f4 f5 f6 f7 z0 z1 z2 z3 z4 z5 z6 z7
  have hr : r = (rl0, 12) := by rw [HRES.out, if_neg (fun k => h0 k.1)]
  refine bodyPost_ret (v := .tuple #[.agg (rlC r.1 mp0), .int .i64 r.2]) ?res rfl ⟨mp0, rfl, ?_, HB2.out.trans r2⟩
  case res =>
   obtain ⟨_, f0, f1, f2, f3, f4, f5, f6, f7⟩ := facts8 r1
   rw [hr]
   simp [results, Tryz.results15, go_sem, f0, f1, f2, f3, f4, f5, f6, f7]
   try rfl
  ·
   rw [hr]
   exact rl0_at _
end Sg
end Go.Proofs.YtcgffkkfeimifaaGreatDoor
