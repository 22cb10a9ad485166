import Derived.Test.YthfgdgcdicacpaaRoB
import Derived.Test.YthfgdgcdicacpaaRoM
import Derived.Test.YthfgdgcdicacpaaOcKP
import Derived.Deep.RegionHeld3
namespace Go.Proofs.Ythfgdgcdicacpaa
namespace Ro
open Go.RowKit Sha Oc En Adr
set_option linter.unusedVariables false
set_option linter.unusedSimpArgs false
theorem own_row14 {w : World} {b : Nat} {E : TypeId} {k : Nat} {v : Value} {n : Nat} {xs : List Value} (h : w.ownsRow b E k v n xs) : ∀ g o m c, v = .slice (some ⟨g, o, none⟩) m c → ∃ cur, w.heap[g]? = some (.cells cur E (0, 0)) := by
 obtain ⟨h1, ⟨rfl, h2⟩ | ⟨g, cap, cur, rfl, h3, h4, _⟩⟩ := h
 ·
  intro _ _ _ _ e
  cases e
 ·
  intro g' o m c e
  cases e
  exact ⟨cur, h4⟩
theorem own_lt14 {w : World} {b n k : Nat} {v : Value} {xs : List Value} {E : TypeId} {g : Nat} (h : w.ownsRow b E k v n xs) (hk : v.ownBlock = some g) : b ≤ g := by
 obtain ⟨h1, ⟨rfl, _⟩ | ⟨g2, cap, cur, rfl, h3, h4, _⟩⟩ := h
 ·
  cases hk
 ·
  obtain rfl : g2 = g := by simpa [Value.ownBlock] using hk
  exact h3
def RwT14 (E : TypeId) (base : Nat) (w : World) (g : Nat) : Prop := base ≤ g ∧ ∃ cs, w.heap[g]? = some (.cells cs E (0, 0))
theorem RwT14.rw {E : TypeId} {base : Nat} {w : World} {g : Nat} (h : RwT14 E base w g) : Rw base w g := ⟨h.1, h.2.elim fun cs e => ⟨cs, E, e⟩⟩
theorem own_ref14 {w : World} {base : Nat} {v : Value} {n : Nat} {xs : List Value} {E : TypeId} {k : Nat} (h : w.ownsRow base E k v n xs) {A : Option Addr} {m c : Nat} (e : v = .slice A m c) : ∀ ga oa, A = some ⟨ga, oa, none⟩ → RwT14 E base w ga := fun ga oa e2 => by
 subst e2
 subst e
 obtain ⟨cur, h1⟩ := own_row14 h ga oa m c rfl
 exact ⟨own_lt14 h rfl, cur, h1⟩
theorem at_leaf14 {R : Nat → Prop} {w : World} (t : UInt8) {b : List UInt8} {A : Option Addr} {c : Nat} (hc : b.length ≤ c) (hbm : b.length ≤ 140737488355328) (hcn : A = none → c = 0) (hs : SrcAt A b w) (hR : ∀ ga oa, A = some ⟨ga, oa, none⟩ → R ga) : At R w (.mk t b []) (.slice A b.length c) (.slice none 0 0) :=
 .mk t b [] A c none 0 0 0 (fun _ => undef) (fun _ => undef) hc hbm hcn hs (fun ga oa e _ => hR ga oa e) (Nat.le_refl _) (by decide) (fun _ => rfl) (fun h => absurd rfl h) (fun k o h => by simp at h) (fun k o h => by simp at h) (fun k o h => by simp at h) (fun k o h => by simp at h)
def NoPost14 (o : Oct) (w : World) (e : Ending) (w' : World) : Prop := ∃ A m c, e = .returned (.agg #[.int .u8 ((tagO o).toNat : Int), .slice A m c, .slice none 0 0]) ∧ At (RwT14 5 w.heap.size w') w' o (.slice A m c) (.slice none 0 0) ∧ Below w.heap.size w w'
set_option maxRecDepth 100000 in
set_option maxHeartbeats 4000000 in
theorem num_own14 (tg : UInt8) (x : Nat) (hx : x < 256 ^ 8) (w : World) : Calls Try.prog 48 #[.int .u8 (tg.toNat : Int), .int .u64 (x : Int)] w (NoPost14 (.mk tg (Oc.nb x) []) w) := by
 go_enter Try.func48, Try.ntmps48
 go_upto_region 1 with (fail)
 obtain ⟨V, hV, hb0, hr0⟩ : ∃ V, World.alloc w (.cells #[.int .u8 0, .slice none 0 0, .slice none 0 0] 63) = V ∧ Below w.heap.size w V ∧ V.heap[w.heap.size]? = some (.cells #[.int .u8 0, .slice none 0 0, .slice none 0 0] 63 (0, 0)) := ⟨_, rfl, below_new w _, heap_alloc_new w _⟩
 rw [hV]
 clear hV
 have HB0 := Lib.hid hb0
 have HR0 := Lib.hid hr0
 have hle0 : w.heap.size ≤ V.heap.size := hb0.size
 clear hb0 hr0
 have hcall := bytesof_any 8 x hx (Nat.le_refl _) V
 unfold NbPost at hcall
 have HC := Lib.hid hcall
 clear hcall
 go_wp2_with fail
 refine (HC.out).mono ?_
 rintro e W ⟨v, rfl, hown, hb1⟩
 have hlen := Oc.nb_len 8 x hx
 have hown2 := hown
 obtain ⟨A, c, rfl, hc, hcn, hs, _⟩ := own_rd3 hown
 have hw := own_ref14 hown2 rfl
 have HB1 := Lib.hid (chain HB0.out hb1)
 have HR1 := Lib.hid (row_on HR0.out hb1)
 have HS := Lib.hid (And.intro hs (fun ga oa e => show ga ≠ w.heap.size by have h1 := (hw ga oa e).1; have h2 := (Array.getElem?_eq_some_iff.1 HR0.out).1; omega))
 have HWR := Lib.hid hw
 have HCC := Lib.hid hc
 have HCN := Lib.hid hcn
 have HL := Lib.hid (show (Oc.nb x).length ≤ 140737488355328 by omega)
 clear hown hown2 hlen hb1 hc hcn hs hw
 have hlt := (Array.getElem?_eq_some_iff.1 HR1.out).1
 obtain ⟨⟨hf0, hf1, hf2⟩, hd0, hd1, hd2⟩ := facts3 HR1.out
 go_wp2_with fail
 have e9 : ∀ a b c : Value, ((W.setCell ⟨w.heap.size, 0, none⟩ a).setCell ⟨w.heap.size, 1, none⟩ b).setCell ⟨w.heap.size, 2, none⟩ c = W.setCells w.heap.size 0 [a, b, c] := fun _ _ _ => rfl
 rw [e9]
 refine bodyPost_ret (v := .agg #[.int .u8 (tg.toNat : Int), .slice A (Oc.nb x).length c, .slice none 0 0]) (results_cell_row rfl _ _ w.heap.size 63 _ (0, 0) _ rfl (row_setCells8 HR1.out rfl) Try.underlying63 rfl (sz3o _ _ _)) rfl ⟨_, _, _, rfl, ?_, below_setCells8 _ _ _ HB1.out (Nat.le_refl _)⟩
 refine at_leaf14 tg HCC.out HL.out HCN.out (srcAt_set HS.out.1 HS.out.2 0 _) (fun ga oa e => ⟨by have := (HWR.out ga oa e).1; omega, ?_⟩)
 obtain ⟨cs, h3⟩ := (HWR.out ga oa e).2
 exact ⟨cs, (heap_setCells_other8 _ _ _ (HS.out.2 ga oa e)).trans h3⟩
theorem num_tw14 (tg : UInt8) (x : Nat) (hx : x < 256 ^ 8) (w : World) : Calls Try.prog 48 #[.int .u8 (tg.toNat : Int), .int .u64 (x : Int)] w (TwPost (Oc.num tg x) w) :=
 (num_own14 tg x hx w).mono fun e w' ⟨A, m, c, h1, h2, h3⟩ => ⟨_, _, h1, h2.to fun g p u hu hR => ⟨hu, hR.rw⟩, h3⟩
theorem num_twI (tg : UInt8) (x : Int) (h0 : 0 ≤ x) (hx : x.toNat < 256 ^ 8) (w : World) : Calls Try.prog 48 #[.int .u8 (tg.toNat : Int), .int .u64 x] w (TwPost (Oc.num tg x.toNat) w) := by
 have h := num_tw14 tg x.toNat hx w
 have e : ((x.toNat : Nat) : Int) = x := by omega
 rw [e] at h
 exact h
theorem seq_mk14 (tg : UInt8) {base n : Nat} {V : World} {v : Value} {ts : List (Oct × Value × Value)} (h : Mk base ts v n V) (hlen : n ≤ 5000) (hT : ∀ o ∈ ts.map (·.1), cnt o ≤ 5000 ∧ tot o ≤ 100000) :
  Calls Try.prog 50 #[.int .u8 (tg.toNat : Int), v] V (TwPost (.mk tg [] (ts.map (·.1))) V) := by
 have hn := h.len
 subst hn
 obtain ⟨B, d, rfl, hat⟩ := at_of_rows (base := base) 0 (b := []) (A := none) (c := 0) h.own (fun u hu => (h.done u hu)) (by omega) (Nat.le_refl _) (by decide) (fun _ => rfl) (fun h => absurd rfl h) (fun ga oa e => by cases e)
 obtain ⟨A', c', B', d', g, off, vb, vl, e1, e2, _, _, _, _, _, _, he⟩ := hat.any.els
 injection e2 with e3 e4 e5
 subst e3 e5
 have hll : (ts.map (·.1)).length = ts.length := List.length_map _
 have h := seq_any tg (ts.map (·.1)) (by rw [hll]; exact hlen) hT B d g off vb vl V he
 rw [hll] at h
 exact h

theorem wr_small {k : Nat} (h : k < 5) : IntKind.u8.wrap ((k : Int) + 1) = (k : Int) + 1 := by
 simp [IntKind.wrap, IntKind.bits, IntKind.signed]
 omega
def kxE (x : Ap) (k : Nat) : Int := if k = 0 then x.f else if k = 1 then x.h else if k = 2 then x.l else if k = 3 then x.n else x.m
def elE (x : Ap) (k : Nat) : Oct := if k = 0 then Oc.num 1 x.f.toNat else if k = 1 then Oc.num 2 x.h.toNat else if k = 2 then Oc.num 3 x.l.toNat else if k = 3 then Oc.num 4 x.n.toNat else Oc.num 5 x.m.toNat
def elsE (x : Ap) : List Oct := [elE x 0, elE x 1, elE x 2, elE x 3, elE x 4]
theorem apV_els (x : Ap) : apV x = .mk 129 [] (elsE x) := rfl
theorem elsE_at (x : Ap) {k : Nat} (h : k < 5) : (elsE x).take (k + 1) = (elsE x).take k ++ [elE x k] := by
 rcases k with _ | _ | _ | _ | _ | k
 all_goals first | rfl | omega
theorem elE_num {x : Ap} (hx : FitE x) {k : Nat} (h : k < 5) (V : World) : Calls Try.prog 48 #[.int .u8 ((k : Int) + 1), .int .u64 (kxE x k)] V (TwPost (elE x k) V) := by
 have hp : (256 : Nat) ^ 8 = 18446744073709551616 := by decide
 have hf := hx.f
 have hn := hx.n
 have hm := hx.m
 have hh := u64_256 hx.h
 have hl := u64_256 hx.l
 rcases k with _ | _ | _ | _ | _ | k
 ·
  exact num_twI 1 x.f hf.1 (by omega) V
 ·
  exact num_twI 2 x.h hx.h.1 hh V
 ·
  exact num_twI 3 x.l hx.l.1 hl V
 ·
  exact num_twI 4 x.n hn.1 (by omega) V
 ·
  exact num_twI 5 x.m hm.1 (by omega) V
 ·
  omega
theorem idx5 (a b c d e : Value) (k : Nat) (h : k < 5) (w : World) : (Instr.index 124 (.agg #[a, b, c, d, e]) (.int .i64 (k : Int))).run Try.prog w = .ok (if k = 0 then a else if k = 1 then b else if k = 2 then c else if k = 3 then d else e) w := by
 rcases k with _ | _ | _ | _ | _ | k
 ·
  kernel_rfl
 ·
  kernel_rfl
 ·
  kernel_rfl
 ·
  kernel_rfl
 ·
  kernel_rfl
 ·
  omega
theorem elE_small {x : Ap} (hx : FitE x) : ∀ o ∈ elsE x, cnt o ≤ 5000 ∧ tot o ≤ 100000 := by
 have hp : (256 : Nat) ^ 8 = 18446744073709551616 := by decide
 have hf := hx.f
 have hn := hx.n
 have hm := hx.m
 have h1 := Oc.nb_len 8 x.f.toNat (by omega)
 have h2 := Oc.nb_len 8 x.h.toNat (u64_256 hx.h)
 have h3 := Oc.nb_len 8 x.l.toNat (u64_256 hx.l)
 have h4 := Oc.nb_len 8 x.n.toNat (by omega)
 have h5 := Oc.nb_len 8 x.m.toNat (by omega)
 intro o ho
 unfold elsE elE Oc.num at ho
 simp only [List.mem_cons, List.not_mem_nil, or_false] at ho
 rcases ho with rfl | rfl | rfl | rfl | rfl
 all_goals
  simp only [cnt, cnts, tot, tots, reduceIte, Nat.reduceEqDiff]
  omega
set_option maxRecDepth 100000 in
set_option maxHeartbeats 4000000 in
theorem elval_any (x : Ap) (hx : FitE x) (w : World) :
  Calls Try.prog 49 #[.agg #[.int .u8 x.f, .int .u64 x.h, .int .u64 x.l, .int .i64 x.n, .int .i64 x.m]] w (TwPost (apV x) w) := by
 obtain ⟨i0, hi, hz0, hz1, hz2⟩ := info_parts Try.info_oct
 have HI := Lib.hid hi
 have hkey := fun (V : World) => keyof_any x.f x.h x.l x.n x.m hx.f V
 rw [wrap_small hx.n.1 (by have := hx.n.2; omega), wrap_small hx.m.1 (by have := hx.m.2; omega)] at hkey
 have HKEY := Lib.hid hkey
 have HNU := Lib.hid (fun (k : Nat) (h : k < 5) (V : World) => elE_num hx h V)
 have HSM := Lib.hid (elE_small hx)
 rw [apV_els]
 have HB0 := Lib.hid ((below_new w (.cells #[.int .u8 x.f, .int .u64 x.h, .int .u64 x.l, .int .i64 x.n, .int .i64 x.m] 75)).alloc (by simp) (.cells #[.int .u8 0, .slice none 0 0, .slice none 0 0] 63))
 have HR0 := Lib.hid (heap_alloc2_oldR w (.cells #[.int .u8 x.f, .int .u64 x.h, .int .u64 x.l, .int .i64 x.n, .int .i64 x.m] 75) (.cells #[.int .u8 0, .slice none 0 0, .slice none 0 0] 63))
 have HO0 := Lib.hid (heap_alloc2_newR w (.cells #[.int .u8 x.f, .int .u64 x.h, .int .u64 x.l, .int .i64 x.n, .int .i64 x.m] 75) (.cells #[.int .u8 0, .slice none 0 0, .slice none 0 0] 63))
 clear hkey hx hi
 go_enter Try.func49, Try.ntmps49
 go_upto_region 1 with (fail)
 generalize hV : World.alloc (World.alloc w _) _ = V at HB0 HR0 HO0 ⊢
 clear hV
 obtain ⟨hlt0, c0, c1, c2, c3, c4⟩ := facts5 HR0.out
 go_wp2_with fail
 refine (HKEY.out V).mono ?_
 rintro e V1 ⟨rfl, hb⟩
 have HB1 := Lib.hid (chain HB0.out hb)
 have HO1 := Lib.hid (row_on HO0.out hb)
 clear hb c0 c1 c2 c3 c4 hlt0 HR0
 obtain ⟨V2, hV2⟩ : ∃ V2, V1 = V2 := ⟨_, rfl⟩
 subst hV2
 go_wp2_with fail
 go_loopw [3, 4, 5, 8] (fun v _ _ i wr => ∃ (k : Nat) (ts : List (Oct × Value × Value)), k ≤ 5 ∧ i = .int .i64 (k : Int) ∧ RowKit.Hid (ts.map (·.1) = (elsE x).take k) ∧ RowKit.Hid (Mk V1.heap.size ts v k wr) ∧ RowKit.Hid (Below V1.heap.size V1 wr)) (fun _ _ _ i _ => 5 - (intOf i).toNat)
 case atStart => exact ⟨0, [], by omega, rfl, Lib.hid (by simp), Lib.hid (mk_none _ _), Lib.hid (Below.refl _ _)⟩
 case round =>
  obtain ⟨k, ts, hk, rfl, HM, HK, HB⟩ := hrel
  by_cases hlt : k < 5
  ·
   have hki : (k : Int) < 5 := by omega
   have hidx := fun (z : World) => idx5 (.int .u64 x.f) (.int .u64 x.h) (.int .u64 x.l) (.int .u64 x.n) (.int .u64 x.m) k hlt z
   have hkx : (if k = 0 then Value.int .u64 x.f else if k = 1 then .int .u64 x.h else if k = 2 then .int .u64 x.l else if k = 3 then .int .u64 x.n else .int .u64 x.m) = .int .u64 (kxE x k) := by
    unfold kxE
    repeat' split
    all_goals rfl
   rw [hkx] at hidx
   have hw1 := wr_small hlt
   have hnum := HNU.out k hlt
   have htk := elsE_at x hlt
   generalize elE x k = o at hnum htk
   generalize kxE x k = X at hnum hidx
   unfold TwPost at hnum
   have HCALL := Lib.hid hnum
   have HTK := Lib.hid htk
   have HLT := Lib.hid hlt
   clear hnum htk hkx hlt
   go_wp2_with fail
   refine (HCALL.out _).mono ?_
   rintro e w2 ⟨x2, y2, rfl, hat2, hb2⟩
   have HBW := Lib.hid hb2
   have HAT := Lib.hid hat2
   have HONE := Lib.hid (oct_one hat2)
   obtain ⟨A2, m2, c2, B2, n2, d2, rfl, rfl⟩ := hat2.slices
   have hbs := HB.out.size
   have hbs2 := hb2.size
   have HBS : RowKit.Hid (V1.heap.size ≤ w2.heap.size) := Lib.hid (by omega)
   clear hb2 hat2 hbs hbs2 hidx
   unfold cell3
   go_wp2_with (at_builtin; go_loud (refine wpList_append_own_at _ rfl (.tmp 12) (.tmp 18) 61 rfl V1.heap.size 63 i0 (.agg #[.int .u8 0, .slice none 0 0, .slice none 0 0]) 3 56 Try.underlying61 HI.out hz0 hz1 hz2 rfl (by decide) _ _ _ rfl (((HK.out.on HBW.out).own).alloc _) ⟨w2.heap.size, 0, none⟩ 1 1 [.int .u8 ((tagO o).toNat : Int), .slice A2 m2 c2, .slice B2 n2 d2] rfl rfl (cell_three_new _ _ _ _ _) HONE.out (by have := HLT.out; unfold maxLen; omega) (by have := HLT.out; omega) (by have := HBS.out; rw [World.size_alloc]; omega) ?_); intro v' w5 hown5 hgrow5 _ hloc5; have HO5 := Lib.hid hown5; have HG5 := Lib.hid hgrow5; have HL5 := Lib.hid hloc5; clear hown5 hgrow5 hloc5)
   have hb3 : Below wr.heap.size wr (w2.alloc (.cells #[.int .u8 ((tagO o).toNat : Int), .slice A2 m2 c2, .slice B2 n2 d2] 63)) := HBW.out.alloc HBW.out.size _
   have hat3 : At (Rw wr.heap.size (w2.alloc (.cells #[.int .u8 ((tagO o).toNat : Int), .slice A2 m2 c2, .slice B2 n2 d2] 63))) (w2.alloc (.cells #[.int .u8 ((tagO o).toNat : Int), .slice A2 m2 c2, .slice B2 n2 d2] 63)) o (.slice A2 m2 c2) (.slice B2 n2 d2) := HAT.out.own (below_new _ _) (Nat.le_refl _)
   have hput := HK.out.put hb3 HB.out.size hat3 HO5.out HG5.out HL5.out
   have hlo := HK.out.own.lt
   have hb4 : Below V1.heap.size V1 w5 := ((chain HB.out HBW.out).alloc HBS.out _).grown HG5.out (by rw [World.size_alloc]; have := HBS.out; omega) (fun j hj => (hlo j hj).1)
   go_wp2_with fail
   refine ⟨⟨k + 1, ts ++ [(o, .slice A2 m2 c2, .slice B2 n2 d2)], by have := HLT.out; omega, by go_num, Lib.hid ?_, Lib.hid hput, Lib.hid hb4⟩, by have := HLT.out; simp [intOf]; omega⟩
   rw [List.map_append, HM.out, HTK.out]
   rfl
  ·
   have hkk : k = 5 := by omega
   have hge : ¬ (k : Int) < 5 := by omega
   have HLN : RowKit.Hid (ts.map (·.1) = elsE x) := Lib.hid (by rw [HM.out, hkk]; rfl)
   have HSEQ := Lib.hid (seq_mk14 129 HK.out (by omega) (by rw [HLN.out]; exact HSM.out))
   rw [HLN.out] at HSEQ
   unfold TwPost at HSEQ
   clear hkk
   go_wp2_with fail
   refine HSEQ.out.mono ?_
   rintro e w2 ⟨x2, y2, rfl, hat2, hb2⟩
   obtain ⟨A2, m2, c2, B2, n2, d2, rfl, rfl⟩ := hat2.slices
   have HAT := Lib.hid hat2
   have HBL := Lib.hid (chain HB1.out (chain HB.out hb2))
   have HRR := Lib.hid (row_on (row_on HO1.out HB.out) hb2)
   have HZ : RowKit.Hid (w.heap.size + 1 < wr.heap.size) := Lib.hid (Array.getElem?_eq_some_iff.1 (row_on HO1.out HB.out)).1
   clear hat2 hb2
   have hlt := (Array.getElem?_eq_some_iff.1 HRR.out).1
   obtain ⟨⟨hf0, hf1, hf2⟩, hd0, hd1, hd2⟩ := facts3 HRR.out
   unfold cell3
   go_wp2_with fail
   have e9 : ∀ a b c : Value, ((w2.setCell ⟨w.heap.size + 1, 0, none⟩ a).setCell ⟨w.heap.size + 1, 1, none⟩ b).setCell ⟨w.heap.size + 1, 2, none⟩ c = w2.setCells (w.heap.size + 1) 0 [a, b, c] := fun _ _ _ => rfl
   rw [e9]
   refine bodyPost_ret (v := .agg #[.int .u8 129, .slice A2 m2 c2, .slice B2 n2 d2]) (results_cell_row rfl _ _ (w.heap.size + 1) 63 _ (0, 0) _ rfl (row_setCells8 HRR.out rfl) Try.underlying63 rfl (sz3o _ _ _)) rfl ⟨_, _, rfl, at_setCells HAT.out HZ.out (by have := HZ.out; omega) _ _, below_setCells8 _ _ _ HBL.out (by omega)⟩
theorem raV_els (a : Ra) : raV a = .mk 128 [] (Oc.num 1 a.sy.toNat :: a.ps.map apV) := rfl
theorem ap_small {a : Ra} (h : Fit a) : ∀ o ∈ Oc.num 1 a.sy.toNat :: a.ps.map apV, cnt o ≤ 5000 ∧ tot o ≤ 100000 := by
 have hp : (256 : Nat) ^ 8 = 18446744073709551616 := by decide
 intro o ho
 rcases List.mem_cons.1 ho with rfl | ho
 ·
  have h1 := Oc.nb_len 8 a.sy.toNat (by have := h.sy; omega)
  unfold Oc.num
  rw [cnt, cnts, tot, tots]
  omega
 ·
  obtain ⟨x, hx, rfl⟩ := List.mem_map.1 ho
  have h1 := apV_len (h.ps x hx)
  have h2 := cnt_enc (apV x)
  have h3 := tot_enc (apV x)
  omega
theorem els_ra {a : Ra} {k : Nat} {x : Ap} (hx : a.ps[k]? = some x) : (Oc.num 1 a.sy.toNat :: a.ps.map apV).take (k + 1 + 1) = (Oc.num 1 a.sy.toNat :: a.ps.map apV).take (k + 1) ++ [apV x] := by
 rw [List.take_succ_cons, List.take_succ_cons, List.take_add_one, List.getElem?_map, hx]
 rfl
theorem mk_one (base : Nat) (V : World) (o : Oct) (x y : Value) (hV : base ≤ V.heap.size) (h : At (Rw base V) V o x y) : Mk base [(o, x, y)] (.slice (some ⟨V.heap.size, 0, none⟩) 1 1) 1 (V.alloc (.cells #[.int .u8 ((tagO o).toNat : Int), x, y] 63)) := by
 refine ⟨⟨rfl, .inr ⟨V.heap.size, 1, #[.int .u8 ((tagO o).toNat : Int), x, y], rfl, hV, heap_alloc_new _ _, Nat.le_refl _, by decide, rfl, rfl⟩⟩, rfl, fun t ht => ?_⟩
 obtain rfl : t = (o, x, y) := by simpa using ht
 refine h.to fun g p u hu hR => ?_
 have hg : g < V.heap.size := World.block_lt_of_cell? _ _ hu
 have hk := (below_new V (.cells #[.int .u8 ((tagO o).toNat : Int), x, y] 63)).block g hg
 obtain ⟨h1, cs, t, h2⟩ := hR
 refine ⟨by simp only [World.cell?, hk] at hu ⊢; exact hu, ⟨h1, cs, t, hk.trans h2⟩, fun e => ?_⟩
 have := Option.some.inj e
 dsimp only at this
 omega
set_option maxRecDepth 100000 in
set_option maxHeartbeats 4000000 in
theorem raval_any (a : Ra) (hf : Fit a) (A : Option Addr) (c : Nat) (w : World) (hp : Aps A a.ps w) :
  Calls Try.prog 23 #[.agg #[.int .u32 a.sy, .slice A a.ps.length c]] w (TwPost (raV a) w) := by
 obtain ⟨i0, hi, hz0, hz1, hz2⟩ := info_parts Try.info_oct
 have HI := Lib.hid hi
 have hp8 : (256 : Nat) ^ 8 = 18446744073709551616 := by decide
 have HP := Lib.hid hp
 have HEL := Lib.hid (fun (x : Ap) (hx : x ∈ a.ps) (V : World) => elval_any x (hf.ps x hx) V)
 have HN1 := Lib.hid (fun (V : World) => num_twI 1 a.sy hf.sy.1 (by have := hf.sy; omega) V)
 have HSM := Lib.hid (ap_small hf)
 have hsy : IntKind.u64.wrap a.sy = a.sy := wrap_small hf.sy.1 (by have := hf.sy; omega)
 have hlen := hf.len
 obtain ⟨n, hn⟩ : ∃ n, a.ps.length = n := ⟨_, rfl⟩
 have HN := Lib.hid hn
 rw [hn] at hlen ⊢
 rw [raV_els]
 have HLL : RowKit.Hid ((Oc.num 1 a.sy.toNat :: a.ps.map apV).length = n + 1) := Lib.hid (by rw [List.length_cons, List.length_map, hn])
 have HET := Lib.hid (fun (k : Nat) (x : Ap) (hx : a.ps[k]? = some x) => els_ra (a := a) hx)
 have HT1 : RowKit.Hid ((Oc.num 1 a.sy.toNat :: a.ps.map apV).take 1 = [Oc.num 1 a.sy.toNat]) := Lib.hid rfl
 generalize (Oc.num 1 a.sy.toNat :: a.ps.map apV) = L at HSM HLL HET HT1 ⊢
 have hsz := hlen.2
 have HSZ := Lib.hid hsz
 obtain ⟨sy, ps⟩ := a
 dsimp only at HP HEL HN1 hsy HN HET HT1 ⊢
 have HB0 := Lib.hid ((below_new w (.cells #[.int .u32 sy, .slice A n c] 25)).alloc (by simp) (.cells #[.int .u8 0, .slice none 0 0, .slice none 0 0] 63))
 have HR0 := Lib.hid (heap_alloc2_oldR w (.cells #[.int .u32 sy, .slice A n c] 25) (.cells #[.int .u8 0, .slice none 0 0, .slice none 0 0] 63))
 have HO0 := Lib.hid (heap_alloc2_newR w (.cells #[.int .u32 sy, .slice A n c] 25) (.cells #[.int .u8 0, .slice none 0 0, .slice none 0 0] 63))
 clear hi hp hf hn hlen hp8 hsz
 go_enter Try.func23, Try.ntmps23
 go_upto_region 1 with (fail)
 generalize hV : World.alloc (World.alloc w _) _ = V at HB0 HR0 HO0 ⊢
 clear hV
 obtain ⟨hlt0, c0, c1⟩ := facts2 HR0.out
 unfold TwPost at HN1
 go_wp2_with fail
 refine (HN1.out V).mono ?_
 rintro e V1 ⟨x1, y1, rfl, hat1, hb1⟩
 have HMK := Lib.hid (mk_one V.heap.size V1 _ _ _ hb1.size hat1)
 obtain ⟨A1, m1, k1, B1, n1, d1, rfl, rfl⟩ := hat1.slices
 have HBV := Lib.hid hb1
 have HRV := Lib.hid (row_on HR0.out hb1)
 have HOV := Lib.hid (row_on HO0.out hb1)
 clear hat1 hb1 c0 c1 hlt0
 obtain ⟨hlt0, c0, c1⟩ := facts2 HRV.out
 unfold cell3
 go_upto_region 2 with (fail)
 generalize hV3 : World.alloc V1 _ = V3 at HMK ⊢
 have HBV3 := Lib.hid (show Below V.heap.size V V3 by rw [← hV3]; exact chain HBV.out (below_new _ _))
 have HRV3 := Lib.hid (row_on HR0.out HBV3.out)
 clear hV3 c0 c1 hlt0 HBV HRV HOV
 obtain ⟨hlt0, c0, c1⟩ := facts2 HRV3.out
 go_wp2_with fail
 clear hlt0 c0 c1
 go_loopw [3, 5, 14] (fun v _ i wr => ∃ (k : Nat) (ts : List (Oct × Value × Value)), k ≤ n ∧ i = .int .i64 (k : Int) ∧ RowKit.Hid (ts.map (·.1) = L.take (k + 1)) ∧ RowKit.Hid (Mk V.heap.size ts v (k + 1) wr) ∧ RowKit.Hid (Below V.heap.size V wr)) (fun _ _ i _ => n - (intOf i).toNat)
 case atStart => exact ⟨0, _, by omega, rfl, Lib.hid (by rw [HT1.out]; rfl), HMK, HBV3⟩
 case round =>
  obtain ⟨k, ts, hk, rfl, HM, HK, HB⟩ := hrel
  by_cases hlt : k < n
  ·
   have hki : (k : Int) < (n : Int) := by omega
   obtain ⟨x, hx⟩ : ∃ x, ps[k]? = some x := ⟨_, List.getElem?_eq_getElem (by rw [HN.out]; exact hlt)⟩
   obtain ⟨g, off, hA, r1⟩ := HP.out.row k x hx
   subst hA
   obtain ⟨q0, q1, q2, q3, q4⟩ := cells5 (rangeAt_on r1 (chain HB0.out HB.out))
   have hcall := HEL.out x (List.mem_of_getElem? hx)
   have HTK := Lib.hid (HET.out k x hx)
   have HLT := Lib.hid hlt
   have hhs := HSZ.out
   generalize apV x = o at hcall HTK
   unfold TwPost at hcall
   have HCALL := Lib.hid hcall
   clear hcall r1 hx
   go_wp2_with fail
   refine (HCALL.out _).mono ?_
   rintro e w2 ⟨x2, y2, rfl, hat2, hb2⟩
   have hbw : Below wr.heap.size wr w2 := (below_new wr _).trans (hb2.mono (by simp))
   have HBW := Lib.hid hbw
   have HAT : RowKit.Hid (At (Rw wr.heap.size w2) w2 o x2 y2) := Lib.hid (hat2.to fun g p u hu hR => ⟨hu, by have := hR.1; rw [World.size_alloc] at this; omega, hR.2⟩)
   have HONE := Lib.hid (oct_one hat2)
   obtain ⟨A2, m2, c2, B2, n2, d2, rfl, rfl⟩ := hat2.slices
   have hbs := HB.out.size
   have hbs2 := hbw.size
   have HBS : RowKit.Hid (V.heap.size ≤ w2.heap.size) := Lib.hid (by omega)
   clear hb2 hat2 hbw hbs hbs2 q0 q1 q2 q3 q4
   unfold cell3
   go_wp2_with (at_builtin; go_loud (refine wpList_append_own_at _ rfl (.tmp 18) (.tmp 21) 61 rfl V.heap.size 63 i0 (.agg #[.int .u8 0, .slice none 0 0, .slice none 0 0]) 3 56 Try.underlying61 HI.out hz0 hz1 hz2 rfl (by decide) _ _ _ rfl (((HK.out.on HBW.out).own).alloc _) ⟨w2.heap.size, 0, none⟩ 1 1 [.int .u8 ((tagO o).toNat : Int), .slice A2 m2 c2, .slice B2 n2 d2] rfl rfl (cell_three_new _ _ _ _ _) HONE.out (by have := HLT.out; have := HSZ.out; unfold maxLen; omega) (by have := HLT.out; have := HSZ.out; omega) (by have := HBS.out; rw [World.size_alloc]; omega) ?_); intro v' w5 hown5 hgrow5 _ hloc5; have HO5 := Lib.hid hown5; have HG5 := Lib.hid hgrow5; have HL5 := Lib.hid hloc5; clear hown5 hgrow5 hloc5)
   have hb3 : Below wr.heap.size wr (w2.alloc (.cells #[.int .u8 ((tagO o).toNat : Int), .slice A2 m2 c2, .slice B2 n2 d2] 63)) := HBW.out.alloc HBW.out.size _
   have hat3 : At (Rw wr.heap.size (w2.alloc (.cells #[.int .u8 ((tagO o).toNat : Int), .slice A2 m2 c2, .slice B2 n2 d2] 63))) (w2.alloc (.cells #[.int .u8 ((tagO o).toNat : Int), .slice A2 m2 c2, .slice B2 n2 d2] 63)) o (.slice A2 m2 c2) (.slice B2 n2 d2) := HAT.out.own (below_new _ _) (Nat.le_refl _)
   have hput := HK.out.put hb3 HB.out.size hat3 HO5.out HG5.out HL5.out
   have hlo := HK.out.own.lt
   have hb4 : Below V.heap.size V w5 := ((chain HB.out HBW.out).alloc HBS.out _).grown HG5.out (by rw [World.size_alloc]; have := HBS.out; omega) (fun j hj => (hlo j hj).1)
   go_wp2_with fail
   refine ⟨⟨k + 1, ts ++ [(o, .slice A2 m2 c2, .slice B2 n2 d2)], by have := HLT.out; omega, by go_num, Lib.hid ?_, Lib.hid hput, Lib.hid hb4⟩, by have := HLT.out; simp [intOf]; omega⟩
   rw [List.map_append, HM.out, HTK.out]
   rfl
  ·
   have hkk : k = n := by omega
   have hge : ¬ (k : Int) < (n : Int) := by omega
   have HLN : RowKit.Hid (ts.map (·.1) = L) := Lib.hid (by rw [HM.out, hkk, List.take_of_length_le (by rw [HLL.out]; exact Nat.le_refl _)])
   have HSEQ := Lib.hid (seq_mk14 128 HK.out (by have := HSZ.out; omega) (by rw [HLN.out]; exact HSM.out))
   rw [HLN.out] at HSEQ
   unfold TwPost at HSEQ
   clear hkk
   go_wp2_with fail
   refine HSEQ.out.mono ?_
   rintro e w2 ⟨x2, y2, rfl, hat2, hb2⟩
   obtain ⟨A2, m2, c2, B2, n2, d2, rfl, rfl⟩ := hat2.slices
   have HAT := Lib.hid hat2
   have HBL := Lib.hid (chain HB0.out (chain HB.out hb2))
   have HRR := Lib.hid (row_on (row_on HO0.out HB.out) hb2)
   have HZ : RowKit.Hid (w.heap.size + 1 < wr.heap.size) := Lib.hid (Array.getElem?_eq_some_iff.1 (row_on HO0.out HB.out)).1
   clear hat2 hb2
   have hlt := (Array.getElem?_eq_some_iff.1 HRR.out).1
   obtain ⟨⟨hf0, hf1, hf2⟩, hd0, hd1, hd2⟩ := facts3 HRR.out
   unfold cell3
   go_wp2_with fail
   have e9 : ∀ a b c : Value, ((w2.setCell ⟨w.heap.size + 1, 0, none⟩ a).setCell ⟨w.heap.size + 1, 1, none⟩ b).setCell ⟨w.heap.size + 1, 2, none⟩ c = w2.setCells (w.heap.size + 1) 0 [a, b, c] := fun _ _ _ => rfl
   rw [e9]
   refine bodyPost_ret (v := .agg #[.int .u8 128, .slice A2 m2 c2, .slice B2 n2 d2]) (results_cell_row rfl _ _ (w.heap.size + 1) 63 _ (0, 0) _ rfl (row_setCells8 HRR.out rfl) Try.underlying63 rfl (sz3o _ _ _)) rfl ⟨_, _, rfl, at_setCells HAT.out HZ.out (by have := HZ.out; omega) _ _, below_setCells8 _ _ _ HBL.out (by omega)⟩
end Ro
end Go.Proofs.Ythfgdgcdicacpaa
