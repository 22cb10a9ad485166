import Derived.Test.YthfgdgcdicacpaaRoP
import Derived.Test.YthfgdgcdicacpaaOcKit
import Derived.Test.YthfgdgcdicacpaaNumWalkD
import Derived.Deep.RegionHeld3
namespace Go.Proofs.Ythfgdgcdicacpaa
namespace Ro
open Go.RowKit Sha Adr
set_option linter.unusedVariables false
set_option linter.unusedSimpArgs false
abbrev cE (x : Ap) : List Value := [.int .u8 x.f, .int .u64 x.h, .int .u64 x.l, .int .i64 x.n, .int .i64 x.m]
structure Aps (A : Option Addr) (ls : List Ap) (w : World) : Prop where
 row : ∀ (k : Nat) x, ls[k]? = some x → ∃ g o, A = some ⟨g, o, none⟩ ∧ w.rangeAt g (o + k * 5) (cE x)
theorem rangeAt_on {g o : Nat} {w V : World} {cs : List Value} (h : w.rangeAt g o cs) (hb : Below w.heap.size w V) : V.rangeAt g o cs := fun j v hv => by
 have h1 := h j v hv
 rw [hb.cell (p := ⟨g, o + j, none⟩) (World.block_lt_of_cell? _ _ h1)]
 exact h1
theorem Aps.on {A : Option Addr} {ls : List Ap} {w V : World} (h : Aps A ls w) (hb : Below w.heap.size w V) : Aps A ls V :=
 ⟨fun k x hk => by obtain ⟨g, o, e, hr⟩ := h.row k x hk; exact ⟨g, o, e, rangeAt_on hr hb⟩⟩
theorem cells5 {w : World} {g o : Nat} {a b c d e : Value} (h : w.rangeAt g o [a, b, c, d, e]) : w.cell? ⟨g, o, none⟩ = some a ∧ w.cell? ⟨g, o + 1, none⟩ = some b ∧ w.cell? ⟨g, o + 2, none⟩ = some c ∧ w.cell? ⟨g, o + 3, none⟩ = some d ∧ w.cell? ⟨g, o + 4, none⟩ = some e :=
 ⟨h 0 _ rfl, h 1 _ rfl, h 2 _ rfl, h 3 _ rfl, h 4 _ rfl⟩
theorem facts5 {V : World} {M : Nat} {a b c d e : Value} {T : TypeId} (H : V.heap[M]? = some (.cells #[a, b, c, d, e] T (0, 0))) : M < V.heap.size ∧ V.cell? ⟨M, 0, none⟩ = some a ∧ V.cell? ⟨M, 1, none⟩ = some b ∧ V.cell? ⟨M, 2, none⟩ = some c ∧ V.cell? ⟨M, 3, none⟩ = some d ∧ V.cell? ⟨M, 4, none⟩ = some e :=
 ⟨(Array.getElem?_eq_some_iff.1 H).1, cell_of_row _ _ _ _ _ _ H, cell_of_row _ _ _ _ _ _ H, cell_of_row _ _ _ _ _ _ H, cell_of_row _ _ _ _ _ _ H, cell_of_row _ _ _ _ _ _ H⟩
theorem sz5p (a b c d e : Value) : (Try.prog.info? 75).map (·.size) = some ([a, b, c, d, e] : List Value).length := by
 show _ = some 5
 kernel_rfl
theorem one5 (a b c d e : Value) (h1 : a.oneCell' = true) (h2 : b.oneCell' = true) (h3 : c.oneCell' = true) (h4 : d.oneCell' = true) (h5 : e.oneCell' = true) : (#[a, b, c, d, e] : Array Value).all (·.oneCell') = true := by
 rw [Array.all_eq_true_iff_forall_mem]
 intro v hv
 have : v = a ∨ v = b ∨ v = c ∨ v = d ∨ v = e := by simpa using hv
 rcases this with rfl | rfl | rfl | rfl | rfl
 all_goals assumption
theorem heap_alloc2_oldR (w : World) (o1 o2 : Obj) : ((w.alloc o1).alloc o2).heap[w.heap.size]? = some o1 := by
 rw [Below.heap_alloc _ _ _ (by simp)]
 exact heap_alloc_new w o1
theorem heap_alloc2_newR (w : World) (o1 o2 : Obj) : ((w.alloc o1).alloc o2).heap[w.heap.size + 1]? = some o2 := by
 have := heap_alloc_new (w.alloc o1) o2
 simpa using this
theorem row_range {z : World} {g : Nat} {cs : List Value} {S : TypeId} {fr : Nat × Nat} (h : z.heap[g]? = some (.cells cs.toArray S fr)) : z.rangeAt g 0 cs := fun j v hj => by
 rw [cell_of_row _ _ _ _ _ _ h, Nat.zero_add]
 simpa using hj
theorem wp_store_as {op : Oper} {a : Act} {w : World} {K : Act → World → Prop} {Q : Exit → Act → World → Prop} (ty : TypeId) (x y : Operand) (ho : op.op = .store ty x y)
  (b o : Nat) (cells : Array Value) (hx : a.eval x = .pointer (some ⟨b, o, none⟩)) (hy : a.eval y = .agg cells)
  (ht : w.there b o cells.size) (hi : (Try.prog.info? ty).map (·.size) = some cells.size) (h1 : cells.all (·.oneCell') = true) (W' : World) (hW : w.setCells b o cells.toList = W')
  (h : K (a.put op.dst undef) W') : op.wp Try.prog a w K Q := by
 subst hW
 exact wp_store_mid ty x y ho b o cells hx hy ht hi h1 h
theorem there_row {w : World} {g : Nat} {cur : Array Value} {T : TypeId} (h : w.heap[g]? = some (.cells cur T (0, 0))) (n : Nat) (hn : n ≤ cur.size) : w.there g 0 n := fun j hj => by
 rw [Nat.zero_add]
 refine ⟨?_, frozen_of_row _ _ _ _ _ h⟩
 rw [cell_of_row _ _ _ _ _ _ h, Array.getElem?_eq_getElem (by omega)]
 rfl
theorem below_setCells {n g : Nat} {u : World} : ∀ (vs : List Value) (o : Nat) (w : World), Below n u w → n ≤ g → Below n u (w.setCells g o vs)
 | [], _, _, h, _ => h
 | v :: r, o, w, h, hg => by
  rw [World.setCells]
  exact below_setCells r (o + 1) _ (h.trans ⟨rfl, rfl, rfl, by simp [World.setCell], fun k hk => Below.heap_setCell _ _ _ _ (by show k ≠ g; omega)⟩) hg
theorem heap_setCells {g : Nat} {T : TypeId} : ∀ (vs : List Value) (o : Nat) (w : World) (cur : Array Value), w.heap[g]? = some (.cells cur T (0, 0)) → ∃ cur', (w.setCells g o vs).heap[g]? = some (.cells cur' T (0, 0)) ∧ cur'.size = cur.size
 | [], _, _, cur, h => ⟨cur, h, rfl⟩
 | v :: r, o, w, cur, h => by
  rw [World.setCells]
  obtain ⟨c2, h2, h3⟩ := heap_setCells r (o + 1) _ _ (heap_setCell_same w g o cur T v h)
  exact ⟨c2, h2, by rw [h3]; simp⟩
theorem row_setCells {w : World} {g : Nat} {cur cs : Array Value} {T : TypeId} (h : w.heap[g]? = some (.cells cur T (0, 0))) (hn : cur.size = cs.size) : (w.setCells g 0 cs.toList).heap[g]? = some (.cells cs T (0, 0)) := by
 obtain ⟨c2, h2, h3⟩ := heap_setCells cs.toList 0 w cur h
 have hr := World.rangeAt_setCells_same w g 0 cs.toList (there_row h _ (by rw [Array.length_toList, hn]; exact Nat.le_refl _))
 have he : c2 = cs := by
  apply Array.ext
  ·
   rw [h3, hn]
  ·
   intro j h4 h5
   have h6 := hr j cs[j] (by simp [h5])
   rw [Nat.zero_add, cell_of_row _ _ _ _ _ _ h2, Array.getElem?_eq_getElem h4] at h6
   exact Option.some.inj h6
 rw [h2, he]
theorem heap_setCells_other {g b : Nat} : ∀ (vs : List Value) (o : Nat) (w : World), b ≠ g → (w.setCells g o vs).heap[b]? = w.heap[b]?
 | [], _, _, _ => rfl
 | v :: r, o, w, h => by
  rw [World.setCells, heap_setCells_other r (o + 1) _ h]
  exact Below.heap_setCell _ _ _ _ h
theorem sz5k (a b c d e : Value) : (Try.prog.info? 124).map (·.size) = some ([a, b, c, d, e] : List Value).length := by
 show _ = some 5
 kernel_rfl
set_option maxRecDepth 100000 in
set_option maxHeartbeats 1000000 in
theorem keyof_any (f h l n m : Int) (hf : 0 ≤ f ∧ f < 256) (w : World) :
  Calls Try.prog 76 #[.agg #[.int .u8 f, .int .u64 h, .int .u64 l, .int .i64 n, .int .i64 m]] w fun e w' => e = .returned (.agg #[.int .u64 f, .int .u64 h, .int .u64 l, .int .u64 (IntKind.u64.wrap n), .int .u64 (IntKind.u64.wrap m)]) ∧ Below w.heap.size w w' := by
 have hwr : IntKind.u64.wrap f = f := by
  simp [IntKind.wrap, IntKind.bits, IntKind.signed]
  omega
 obtain ⟨N, hN⟩ : ∃ N, IntKind.u64.wrap n = N := ⟨_, rfl⟩
 obtain ⟨M, hM⟩ : ∃ M, IntKind.u64.wrap m = M := ⟨_, rfl⟩
 rw [hN, hM]
 clear hf
 go_enter Try.func76, Try.ntmps76
 go_wp2_with fail
 refine bodyPost_ret (v := .agg #[.int .u64 f, .int .u64 h, .int .u64 l, .int .u64 N, .int .u64 M]) (results_cell_row rfl _ _ (w.heap.size + 1) 124 _ (0, 0) _ rfl ?_ Try.underlying124 rfl (sz5k _ _ _ _ _)) rfl ⟨rfl, ?_⟩
 ·
  rw [Below.heap_alloc _ _ _ (by simp)]
  rw [show w.heap.size + 1 = (World.alloc w (Obj.cells #[Value.int IntKind.u8 f, Value.int IntKind.u64 h, Value.int IntKind.u64 l, Value.int IntKind.i64 n, Value.int IntKind.i64 m] 75)).heap.size by simp]
  exact heap_alloc_new _ _
 ·
  exact (((Below.refl _ _).alloc (Nat.le_refl _) _).alloc (by simp) _).alloc (by simp; omega) _
theorem nan_u (x : Int) (w : World) : Calls Try.prog 98 #[.int .u64 x] w fun e w' => e = .returned (.bool false) ∧ w = w' := by
 go_enter Try.func98, Try.ntmps98
 go_wp2
 go_ret
 exact ⟨by simp, rfl⟩
def cmpI (x y : Int) : Int := if x < y then -1 else if y < x then 1 else 0
set_option maxHeartbeats 1000000 in
theorem cmp_u (x y : Int) (w : World) : Calls Try.prog 97 #[.int .u64 x, .int .u64 y] w fun e w' => e = .returned (.int .i64 (cmpI x y)) ∧ w = w' := by
 by_cases h1 : x < y
 ·
  have hv : cmpI x y = -1 := by unfold cmpI; rw [if_pos h1]
  rw [hv]
  clear hv
  go_enter Try.func97, Try.ntmps97
  go_wp2_with (refine (nan_u _ _).mono ?_; rintro e w2 ⟨rfl, rfl⟩)
  go_ret
  exact ⟨rfl, rfl⟩
 ·
  by_cases h2 : y < x
  ·
   have hv : cmpI x y = 1 := by unfold cmpI; rw [if_neg h1, if_pos h2]
   rw [hv]
   clear hv
   go_enter Try.func97, Try.ntmps97
   go_wp2_with (refine (nan_u _ _).mono ?_; rintro e w2 ⟨rfl, rfl⟩)
   go_ret
   exact ⟨rfl, rfl⟩
  ·
   have hv : cmpI x y = 0 := by unfold cmpI; rw [if_neg h1, if_neg h2]
   rw [hv]
   clear hv
   go_enter Try.func97, Try.ntmps97
   go_wp2_with (refine (nan_u _ _).mono ?_; rintro e w2 ⟨rfl, rfl⟩)
   go_ret
   exact ⟨rfl, rfl⟩
theorem wrap_small {n : Int} (h0 : 0 ≤ n) (h1 : n < 18446744073709551616) : IntKind.u64.wrap n = n := by
 simp [IntKind.wrap, IntKind.bits, IntKind.signed]
 omega
structure Nums (A : Option Addr) (xs : List Int) (w : World) : Prop where
 row : ∀ (i : Nat) x, xs[i]? = some x → ∃ g o, A = some ⟨g, o, none⟩ ∧ w.cell? ⟨g, o + i, none⟩ = some (.int .u64 x)
theorem Nums.on {A : Option Addr} {xs : List Int} {w V : World} (h : Nums A xs w) (hb : Below w.heap.size w V) : Nums A xs V :=
 ⟨fun i x hi => by
  obtain ⟨g, o, e, hc⟩ := h.row i x hi
  exact ⟨g, o, e, by rw [hb.cell (p := ⟨g, o + i, none⟩) (World.block_lt_of_cell? _ _ hc)]; exact hc⟩⟩
theorem Nums.of5 {V : World} {P : Nat} {a b c d e : Int} {T : TypeId} (H : V.heap[P]? = some (.cells #[.int .u64 a, .int .u64 b, .int .u64 c, .int .u64 d, .int .u64 e] T (0, 0))) : Nums (some ⟨P, 0, none⟩) [a, b, c, d, e] V :=
 ⟨fun i x hi => by
  obtain ⟨_, h0, h1, h2, h3, h4⟩ := facts5 H
  refine ⟨P, 0, rfl, ?_⟩
  rcases i with _ | _ | _ | _ | _ | i
  all_goals first | (obtain rfl := Option.some.inj hi; assumption) | (simp at hi)⟩
def lexI : List Int → List Int → Int
 | x :: r, y :: s => if x < y then -1 else if y < x then 1 else lexI r s
 | _, _ => 0
theorem lexI_at {xs ys : List Int} {k : Nat} {x y : Int} (hx : xs[k]? = some x) (hy : ys[k]? = some y) : lexI (xs.drop k) (ys.drop k) = if x < y then -1 else if y < x then 1 else lexI (xs.drop (k + 1)) (ys.drop (k + 1)) := by
 have e : ∀ {zs : List Int} {z : Int}, zs[k]? = some z → zs.drop k = z :: zs.drop (k + 1) := fun {zs z} h => by
  rw [List.drop_eq_getElem_cons (List.getElem?_eq_some_iff.1 h).1, (List.getElem?_eq_some_iff.1 h).2]
 rw [e hx, e hy, lexI]
set_option maxRecDepth 100000 in
set_option maxHeartbeats 2000000 in
theorem scmp_any (xs ys : List Int) (n : Nat) (hx : xs.length = n) (hy : ys.length = n) (hl : n ≤ 1000) (A B : Option Addr) (c d : Nat) (w : World) (h1 : Nums A xs w) (h2 : Nums B ys w) :
  Calls Try.prog 92 #[.slice A n c, .slice B n d] w fun e w' => e = .returned (.int .i64 (lexI xs ys)) ∧ Below w.heap.size w w' := by
 have HX := Lib.hid hx
 have HY := Lib.hid hy
 have H1 := Lib.hid h1
 have H2 := Lib.hid h2
 obtain ⟨R, hR⟩ : ∃ R, lexI xs ys = R := ⟨_, rfl⟩
 have HR := Lib.hid hR
 rw [hR]
 have HZ := Lib.hid (Below.refl w.heap.size w)
 clear hx hy hR h1 h2
 go_enter Try.func92, Try.ntmps92
 go_wp2_with fail
 go_loopw [5, 6, 7, 8, 11] (fun _ _ _ _ i wr => ∃ k : Nat, k ≤ n ∧ i = .int .i64 (k : Int) ∧ RowKit.Hid (Below w.heap.size w wr) ∧ RowKit.Hid (R = lexI (xs.drop k) (ys.drop k))) (fun _ _ _ _ i _ => n - (intOf i).toNat)
 case atStart => exact ⟨0, by omega, rfl, HZ, Lib.hid (by rw [List.drop_zero, List.drop_zero]; exact HR.out.symm)⟩
 case round =>
  clear HZ
  obtain ⟨k, hk, rfl, HB, HQ⟩ := hrel
  obtain ⟨V, hV⟩ : ∃ V, V = wr := ⟨_, rfl⟩
  subst hV
  by_cases hlt : k < n
  ·
   obtain ⟨x, hx⟩ : ∃ x, xs[k]? = some x := ⟨_, List.getElem?_eq_getElem (by rw [HX.out]; exact hlt)⟩
   obtain ⟨y, hy⟩ : ∃ y, ys[k]? = some y := ⟨_, List.getElem?_eq_getElem (by rw [HY.out]; exact hlt)⟩
   obtain ⟨g1, o1, rfl, r1⟩ := H1.out.row k x hx
   obtain ⟨g2, o2, rfl, r2⟩ := H2.out.row k y hy
   obtain ⟨_, _, e1, ca⟩ := (Nums.on ⟨fun i x h => H1.out.row i x h⟩ HB.out).row k x hx
   obtain ⟨_, _, e2, cb⟩ := (Nums.on ⟨fun i x h => H2.out.row i x h⟩ HB.out).row k y hy
   obtain ⟨rfl, rfl, _⟩ := Addr.mk.inj (Option.some.inj e1)
   obtain ⟨rfl, rfl, _⟩ := Addr.mk.inj (Option.some.inj e2)
   have hki : (k : Int) < (n : Int) := by omega
   have hkg : ¬ (n : Int) ≤ (k : Int) := by omega
   have hq := HQ.out.trans (lexI_at hx hy)
   have HCM := Lib.hid (fun (z : World) => cmp_u x y z)
   clear r1 r2 e1 e2 hx hy
   by_cases hxy : x < y
   ·
    rw [if_pos hxy] at hq
    have hc : cmpI x y = -1 := by unfold cmpI; rw [if_pos hxy]
    rw [hc] at HCM
    have HS := Lib.hid hq
    clear hq hc hxy
    go_wp2_with (refine (HCM.out _).mono ?_; rintro e w2 ⟨rfl, rfl⟩)
    go_ret
    exact ⟨by rw [HS.out]; rfl, HB.out⟩
   ·
    rw [if_neg hxy] at hq
    by_cases hyx : y < x
    ·
     rw [if_pos hyx] at hq
     have hc : cmpI x y = 1 := by unfold cmpI; rw [if_neg hxy, if_pos hyx]
     rw [hc] at HCM
     have HS := Lib.hid hq
     clear hq hc hxy hyx
     go_wp2_with (refine (HCM.out _).mono ?_; rintro e w2 ⟨rfl, rfl⟩)
     go_ret
     exact ⟨by rw [HS.out]; rfl, HB.out⟩
    ·
     rw [if_neg hyx] at hq
     have hc : cmpI x y = 0 := by unfold cmpI; rw [if_neg hxy, if_neg hyx]
     rw [hc] at HCM
     have HS := Lib.hid hq
     clear hq hc hxy hyx
     go_wp2_with (refine (HCM.out _).mono ?_; rintro e w2 ⟨rfl, rfl⟩)
     exact ⟨⟨k + 1, by omega, by go_num, HB, HS⟩, by simp [intOf]; omega⟩
  ·
   have hki : ¬ (k : Int) < (n : Int) := by omega
   have HS : RowKit.Hid (R = 0) := Lib.hid (by rw [HQ.out, List.drop_of_length_le (by rw [HX.out]; omega)]; rfl)
   go_wp2_with fail
   go_ret
   exact ⟨by rw [HS.out]; rfl, HB.out⟩

set_option maxRecDepth 100000 in
set_option maxHeartbeats 4000000 in
theorem before_of (f h l n m f' h' l' n' m' : Int) (hf : 0 ≤ f ∧ f < 256) (hf' : 0 ≤ f' ∧ f' < 256) (hn : IntKind.u64.wrap n = n) (hm : IntKind.u64.wrap m = m) (hn' : IntKind.u64.wrap n' = n') (hm' : IntKind.u64.wrap m' = m') (w : World) :
  Calls Try.prog 68 #[.agg #[.int .u8 f, .int .u64 h, .int .u64 l, .int .i64 n, .int .i64 m], .agg #[.int .u8 f', .int .u64 h', .int .u64 l', .int .i64 n', .int .i64 m']] w fun e w' => e = .returned (.bool (decide (lexI [f, h, l, n, m] [f', h', l', n', m'] < 0))) ∧ Below w.heap.size w w' := by
 have hk1 := fun (V : World) => keyof_any f h l n m hf V
 have hk2 := fun (V : World) => keyof_any f' h' l' n' m' hf' V
 rw [hn, hm] at hk1
 rw [hn', hm'] at hk2
 have HK1 := Lib.hid hk1
 have HK2 := Lib.hid hk2
 have HX0 := Lib.hid (heap_alloc2_oldR w (.cells #[.int .u8 f, .int .u64 h, .int .u64 l, .int .i64 n, .int .i64 m] 75) (.cells #[.int .u8 f', .int .u64 h', .int .u64 l', .int .i64 n', .int .i64 m'] 75))
 have HY0 := Lib.hid (heap_alloc2_newR w (.cells #[.int .u8 f, .int .u64 h, .int .u64 l, .int .i64 n, .int .i64 m] 75) (.cells #[.int .u8 f', .int .u64 h', .int .u64 l', .int .i64 n', .int .i64 m'] 75))
 have HB0 := Lib.hid ((below_new w (.cells #[.int .u8 f, .int .u64 h, .int .u64 l, .int .i64 n, .int .i64 m] 75)).alloc (by simp) (.cells #[.int .u8 f', .int .u64 h', .int .u64 l', .int .i64 n', .int .i64 m'] 75))
 clear hk1 hk2 hf hf' hn hm hn' hm'
 obtain ⟨R, hR⟩ : ∃ R, decide (lexI [f, h, l, n, m] [f', h', l', n', m'] < 0) = R := ⟨_, rfl⟩
 rw [hR]
 have HR := Lib.hid hR
 clear hR
 go_enter Try.func68, Try.ntmps68
 go_upto_region 1 with (fail)
 generalize hV : World.alloc (World.alloc w _) _ = V at HX0 HY0 HB0 ⊢
 clear hV
 go_cut [5, 6] (fun s5 s6 wx => ∃ P Q : Nat, s5 = .pointer (some ⟨P, 0, none⟩) ∧ s6 = .pointer (some ⟨Q, 0, none⟩) ∧ wx.heap[P]? = some (.cells #[.int .u64 f, .int .u64 h, .int .u64 l, .int .u64 n, .int .u64 m] 124 (0, 0)) ∧ wx.heap[Q]? = some (.cells #[.int .u64 f', .int .u64 h', .int .u64 l', .int .u64 n', .int .u64 m'] 124 (0, 0)) ∧ Below V.heap.size V wx)
 case first =>
  refine wp_region_held_drew (S := fun z => z.rangeAt w.heap.size 0 [.int .u8 f, .int .u64 h, .int .u64 l, .int .i64 n, .int .i64 m] ∧ z.rangeAt (w.heap.size + 1) 0 [.int .u8 f', .int .u64 h', .int .u64 l', .int .i64 n', .int .i64 m']) (by kernel_rfl) ⟨row_range (cs := [.int .u8 f, .int .u64 h, .int .u64 l, .int .i64 n, .int .i64 m]) HX0.out, row_range (cs := [.int .u8 f', .int .u64 h', .int .u64 l', .int .i64 n', .int .i64 m']) HY0.out⟩ (fun hHeld => ?_)
  generalize hU : World.drew V = U at hHeld ⊢
  have hbU : Below V.heap.size V U := by rw [← hU]; exact (Below.refl _ _).drew
  have hsz : U.heap.size = V.heap.size := by rw [← hU]; rfl
  clear hU
  have HX1 := Lib.hid (row_on HX0.out hbU)
  have HY1 := Lib.hid (row_on HY0.out hbU)
  have mkS : ∀ z, Below V.heap.size V z → (fun z => z.rangeAt w.heap.size 0 [.int .u8 f, .int .u64 h, .int .u64 l, .int .i64 n, .int .i64 m] ∧ z.rangeAt (w.heap.size + 1) 0 [.int .u8 f', .int .u64 h', .int .u64 l', .int .i64 n', .int .i64 m']) z := fun z hz => ⟨row_range (cs := [.int .u8 f, .int .u64 h, .int .u64 l, .int .i64 n, .int .i64 m]) (row_on HX0.out hz), row_range (cs := [.int .u8 f', .int .u64 h', .int .u64 l', .int .i64 n', .int .i64 m']) (row_on HY0.out hz)⟩
  have HBC := Lib.hid hbU
  clear hbU hsz
  refine wpAnyH_take (i := 0) (oi := { dst := some 7, op := .load 75 (.tmp 2), type := 75, pos := "element.go:31", after := #[], guard := none }) (v := .agg ([.int .u8 f, .int .u64 h, .int .u64 l, .int .i64 n, .int .i64 m]).toArray) rfl (by kernel_rfl) (by kernel_rfl) (by kernel_rfl) (fun _ _ _ h => h) (yieldsIf_load_mid (by rfl) _ _ rfl _ _ rfl ([.int .u8 f, .int .u64 h, .int .u64 l, .int .i64 n, .int .i64 m]) _ (fun w hSw => hSw.1) Try.underlying75 rfl (sz5p _ _ _ _ _)) hHeld ?_
  try simp only [Act.put, List.setIfInBounds_toArray, List.set_cons_zero, List.set_cons_succ]
  refine wpAnyH_take (i := 2) (oi := { dst := some 9, op := .load 75 (.tmp 3), type := 75, pos := "element.go:31", after := #[], guard := none }) (v := .agg ([.int .u8 f', .int .u64 h', .int .u64 l', .int .i64 n', .int .i64 m']).toArray) rfl (by kernel_rfl) (by kernel_rfl) (by kernel_rfl) (fun _ _ _ h => h) (yieldsIf_load_mid (by rfl) _ _ rfl _ _ rfl ([.int .u8 f', .int .u64 h', .int .u64 l', .int .i64 n', .int .i64 m']) _ (fun w hSw => hSw.2) Try.underlying75 rfl (sz5p _ _ _ _ _)) hHeld ?_
  try simp only [Act.put, List.setIfInBounds_toArray, List.set_cons_zero, List.set_cons_succ]
  refine wpAnyH_ready (rs := [1, 4, 5]) (by kernel_rfl) (by simp) (AllReadyH.cons (o := { dst := some 8, op := .call { callee := .value (.func 76), args := #[.tmp 7], argTypes := #[75] }, type := 124, pos := "element.go:31", after := #[{ on := 0, ground := .data }], guard := none }) rfl (fun K hK => ?_) (AllReadyH.cons (o := { dst := some 5, op := .alloc 124, type := 0, pos := "element.go:31", after := #[], guard := none }) rfl (fun K hK => ?_) (AllReadyH.cons (o := { dst := some 6, op := .alloc 124, type := 0, pos := "element.go:31", after := #[], guard := none }) rfl (fun K hK => ?_) AllReadyH.nil)))
  ·
   go_simp
   refine (HK1.out U).mono ?_
   rintro e z1 ⟨rfl, hb⟩
   have HBC := Lib.hid (chain HBC.out hb)
   clear hb 
   go_simp
   refine hK.out _ _ (mkS _ HBC.out) (fun hHeld2 => ?_)
   clear hK K hHeld
   have hHeld := hHeld2
   clear hHeld2
   try simp only [Act.put, List.setIfInBounds_toArray, List.set_cons_zero, List.set_cons_succ]
   refine wpAnyH_ready (rs := [3, 4, 5]) (by kernel_rfl) (by simp) (AllReadyH.cons (o := { dst := some 10, op := .call { callee := .value (.func 76), args := #[.tmp 9], argTypes := #[75] }, type := 124, pos := "element.go:31", after := #[{ on := 2, ground := .data }, { on := 1, ground := .chain }], guard := none }) rfl (fun K hK => ?_) (AllReadyH.cons (o := { dst := some 5, op := .alloc 124, type := 0, pos := "element.go:31", after := #[], guard := none }) rfl (fun K hK => ?_) (AllReadyH.cons (o := { dst := some 6, op := .alloc 124, type := 0, pos := "element.go:31", after := #[], guard := none }) rfl (fun K hK => ?_) AllReadyH.nil)))
   ·
    go_simp
    refine (HK2.out z1).mono ?_
    rintro e z3 ⟨rfl, hb⟩
    have HBC := Lib.hid (chain HBC.out hb)
    clear hb 
    go_simp
    refine hK.out _ _ (mkS _ HBC.out) (fun hHeld2 => ?_)
    clear hK K hHeld
    have hHeld := hHeld2
    clear hHeld2
    try simp only [Act.put, List.setIfInBounds_toArray, List.set_cons_zero, List.set_cons_succ]
    refine wpAnyH_ready (rs := [4, 5]) (by kernel_rfl) (by simp) (AllReadyH.cons (o := { dst := some 5, op := .alloc 124, type := 0, pos := "element.go:31", after := #[], guard := none }) rfl (fun K hK => ?_) (AllReadyH.cons (o := { dst := some 6, op := .alloc 124, type := 0, pos := "element.go:31", after := #[], guard := none }) rfl (fun K hK => ?_) AllReadyH.nil))
    ·
     go_simp
     have hmr := heap_alloc_new z3 (.cells #[.int .u64 0, .int .u64 0, .int .u64 0, .int .u64 0, .int .u64 0] 124)
     have hb := below_new z3 (.cells #[.int .u64 0, .int .u64 0, .int .u64 0, .int .u64 0, .int .u64 0] 124)
     obtain ⟨P, hM⟩ : ∃ M, z3.heap.size = M := ⟨_, rfl⟩
     have HU_P := Lib.hid (show V.heap.size ≤ P by have := HBC.out.size; omega)
     rw [hM] at hmr ⊢
     generalize World.alloc z3 _ = z4 at hmr hb ⊢
     have HBC := Lib.hid (chain HBC.out hb)
     have HR_P := Lib.hid hmr
     clear hb hmr hM
     refine hK.out _ _ (mkS _ HBC.out) (fun hHeld2 => ?_)
     clear hK K hHeld
     have hHeld := hHeld2
     clear hHeld2
     try simp only [Act.put, List.setIfInBounds_toArray, List.set_cons_zero, List.set_cons_succ]
     refine wpAnyH_ready (rs := [5]) (by kernel_rfl) (by simp) (AllReadyH.cons (o := { dst := some 6, op := .alloc 124, type := 0, pos := "element.go:31", after := #[], guard := none }) rfl (fun K hK => ?_) AllReadyH.nil)
     go_simp
     have hmr := heap_alloc_new z4 (.cells #[.int .u64 0, .int .u64 0, .int .u64 0, .int .u64 0, .int .u64 0] 124)
     have hb := below_new z4 (.cells #[.int .u64 0, .int .u64 0, .int .u64 0, .int .u64 0, .int .u64 0] 124)
     obtain ⟨Q, hM⟩ : ∃ M, z4.heap.size = M := ⟨_, rfl⟩
     have HU_Q := Lib.hid (show V.heap.size ≤ Q by have := HBC.out.size; omega)
     have HN_P_Q := Lib.hid (show P ≠ Q by have := (Array.getElem?_eq_some_iff.1 HR_P.out).1; omega)
     rw [hM] at hmr ⊢
     generalize World.alloc z4 _ = z5 at hmr hb ⊢
     have HBC := Lib.hid (chain HBC.out hb)
     have HR_P := Lib.hid (row_on HR_P.out hb)
     have HR_Q := Lib.hid hmr
     clear hb hmr hM
     refine hK.out _ _ (mkS _ HBC.out) (fun hHeld2 => ?_)
     clear hK K hHeld
     have hHeld := hHeld2
     clear hHeld2
     try simp only [Act.put, List.setIfInBounds_toArray, List.set_cons_zero, List.set_cons_succ]
     refine wpAnyH_ready (rs := [6]) (by kernel_rfl) (by simp) (AllReadyH.cons (o := { dst := none, op := .store 124 (.tmp 5) (.tmp 8), type := 0, pos := "element.go:31", after := #[{ on := 4, ground := .data }, { on := 1, ground := .data }, { on := 3, ground := .chain }, { on := 0, ground := .phase }, { on := 1, ground := .phase }, { on := 2, ground := .textOnly .lateStores }, { on := 3, ground := .phase }, { on := 4, ground := .phase }, { on := 5, ground := .phase }], guard := none }) rfl (fun K hK => ?_) AllReadyH.nil)
     try rw [if_pos (by rfl)]
     obtain ⟨z6, hnx⟩ : ∃ nx, World.setCells z5 P 0 (#[.int .u64 f, .int .u64 h, .int .u64 l, .int .u64 n, .int .u64 m] : Array Value).toList = nx := ⟨_, rfl⟩
     refine wp_store_as 124 (.tmp 5) (.tmp 8) rfl P 0 #[.int .u64 f, .int .u64 h, .int .u64 l, .int .u64 n, .int .u64 m] rfl rfl (there_row HR_P.out 5 (show 5 ≤ 5 by decide)) (sz5k _ _ _ _ _) (one5 _ _ _ _ _ rfl rfl rfl rfl rfl) z6 hnx ?_
     have hrw := row_setCells HR_P.out (cs := #[.int .u64 f, .int .u64 h, .int .u64 l, .int .u64 n, .int .u64 m]) rfl
     have hbl := below_setCells (#[.int .u64 f, .int .u64 h, .int .u64 l, .int .u64 n, .int .u64 m] : Array Value).toList 0 z5 HBC.out HU_P.out
     rw [hnx] at hrw hbl
     have HR_P := Lib.hid hrw
     have HR_Q := Lib.hid ((congrArg (fun W : World => W.heap[Q]?) hnx).symm.trans ((heap_setCells_other _ 0 z5 (Ne.symm HN_P_Q.out)).trans HR_Q.out))
     have HBC := Lib.hid hbl
     clear hrw hbl hnx
     refine hK.out _ _ (mkS _ HBC.out) (fun hHeld2 => ?_)
     clear hK K hHeld
     have hHeld := hHeld2
     clear hHeld2
     try simp only [Act.put, List.setIfInBounds_toArray, List.set_cons_zero, List.set_cons_succ]
     refine wpAnyH_ready (rs := [7]) (by kernel_rfl) (by simp) (AllReadyH.cons (o := { dst := none, op := .store 124 (.tmp 6) (.tmp 10), type := 0, pos := "element.go:31", after := #[{ on := 5, ground := .data }, { on := 3, ground := .data }, { on := 6, ground := .chain }, { on := 0, ground := .phase }, { on := 1, ground := .phase }, { on := 2, ground := .phase }, { on := 3, ground := .phase }, { on := 4, ground := .phase }, { on := 5, ground := .phase }, { on := 6, ground := .phase }], guard := none }) rfl (fun K hK => ?_) AllReadyH.nil)
     try rw [if_pos (by rfl)]
     obtain ⟨z7, hnx⟩ : ∃ nx, World.setCells z6 Q 0 (#[.int .u64 f', .int .u64 h', .int .u64 l', .int .u64 n', .int .u64 m'] : Array Value).toList = nx := ⟨_, rfl⟩
     refine wp_store_as 124 (.tmp 6) (.tmp 10) rfl Q 0 #[.int .u64 f', .int .u64 h', .int .u64 l', .int .u64 n', .int .u64 m'] rfl rfl (there_row HR_Q.out 5 (show 5 ≤ 5 by decide)) (sz5k _ _ _ _ _) (one5 _ _ _ _ _ rfl rfl rfl rfl rfl) z7 hnx ?_
     have hrw := row_setCells HR_Q.out (cs := #[.int .u64 f', .int .u64 h', .int .u64 l', .int .u64 n', .int .u64 m']) rfl
     have hbl := below_setCells (#[.int .u64 f', .int .u64 h', .int .u64 l', .int .u64 n', .int .u64 m'] : Array Value).toList 0 z6 HBC.out HU_Q.out
     rw [hnx] at hrw hbl
     have HR_Q := Lib.hid hrw
     have HR_P := Lib.hid ((congrArg (fun W : World => W.heap[P]?) hnx).symm.trans ((heap_setCells_other _ 0 z6 HN_P_Q.out).trans HR_P.out))
     have HBC := Lib.hid hbl
     clear hrw hbl hnx
     refine hK.out _ _ (mkS _ HBC.out) (fun hHeld2 => ?_)
     clear hK K hHeld
     have hHeld := hHeld2
     clear hHeld2
     try simp only [Act.put, List.setIfInBounds_toArray, List.set_cons_zero, List.set_cons_succ]
     refine wpAnyH_done (by kernel_rfl) ?_ _
     go_wp2_with fail
     go_meet
     exact ⟨P, Q, rfl, rfl, HR_P.out, HR_Q.out, HBC.out⟩
    ·
     go_simp
     have hmr := heap_alloc_new z3 (.cells #[.int .u64 0, .int .u64 0, .int .u64 0, .int .u64 0, .int .u64 0] 124)
     have hb := below_new z3 (.cells #[.int .u64 0, .int .u64 0, .int .u64 0, .int .u64 0, .int .u64 0] 124)
     obtain ⟨Q, hM⟩ : ∃ M, z3.heap.size = M := ⟨_, rfl⟩
     have HU_Q := Lib.hid (show V.heap.size ≤ Q by have := HBC.out.size; omega)
     rw [hM] at hmr ⊢
     generalize World.alloc z3 _ = z5 at hmr hb ⊢
     have HBC := Lib.hid (chain HBC.out hb)
     have HR_Q := Lib.hid hmr
     clear hb hmr hM
     refine hK.out _ _ (mkS _ HBC.out) (fun hHeld2 => ?_)
     clear hK K hHeld
     have hHeld := hHeld2
     clear hHeld2
     try simp only [Act.put, List.setIfInBounds_toArray, List.set_cons_zero, List.set_cons_succ]
     refine wpAnyH_ready (rs := [4]) (by kernel_rfl) (by simp) (AllReadyH.cons (o := { dst := some 5, op := .alloc 124, type := 0, pos := "element.go:31", after := #[], guard := none }) rfl (fun K hK => ?_) AllReadyH.nil)
     go_simp
     have hmr := heap_alloc_new z5 (.cells #[.int .u64 0, .int .u64 0, .int .u64 0, .int .u64 0, .int .u64 0] 124)
     have hb := below_new z5 (.cells #[.int .u64 0, .int .u64 0, .int .u64 0, .int .u64 0, .int .u64 0] 124)
     obtain ⟨P, hM⟩ : ∃ M, z5.heap.size = M := ⟨_, rfl⟩
     have HU_P := Lib.hid (show V.heap.size ≤ P by have := HBC.out.size; omega)
     have HN_Q_P := Lib.hid (show Q ≠ P by have := (Array.getElem?_eq_some_iff.1 HR_Q.out).1; omega)
     rw [hM] at hmr ⊢
     generalize World.alloc z5 _ = z4 at hmr hb ⊢
     have HBC := Lib.hid (chain HBC.out hb)
     have HR_Q := Lib.hid (row_on HR_Q.out hb)
     have HR_P := Lib.hid hmr
     clear hb hmr hM
     refine hK.out _ _ (mkS _ HBC.out) (fun hHeld2 => ?_)
     clear hK K hHeld
     have hHeld := hHeld2
     clear hHeld2
     try simp only [Act.put, List.setIfInBounds_toArray, List.set_cons_zero, List.set_cons_succ]
     refine wpAnyH_ready (rs := [6]) (by kernel_rfl) (by simp) (AllReadyH.cons (o := { dst := none, op := .store 124 (.tmp 5) (.tmp 8), type := 0, pos := "element.go:31", after := #[{ on := 4, ground := .data }, { on := 1, ground := .data }, { on := 3, ground := .chain }, { on := 0, ground := .phase }, { on := 1, ground := .phase }, { on := 2, ground := .textOnly .lateStores }, { on := 3, ground := .phase }, { on := 4, ground := .phase }, { on := 5, ground := .phase }], guard := none }) rfl (fun K hK => ?_) AllReadyH.nil)
     try rw [if_pos (by rfl)]
     obtain ⟨z6, hnx⟩ : ∃ nx, World.setCells z4 P 0 (#[.int .u64 f, .int .u64 h, .int .u64 l, .int .u64 n, .int .u64 m] : Array Value).toList = nx := ⟨_, rfl⟩
     refine wp_store_as 124 (.tmp 5) (.tmp 8) rfl P 0 #[.int .u64 f, .int .u64 h, .int .u64 l, .int .u64 n, .int .u64 m] rfl rfl (there_row HR_P.out 5 (show 5 ≤ 5 by decide)) (sz5k _ _ _ _ _) (one5 _ _ _ _ _ rfl rfl rfl rfl rfl) z6 hnx ?_
     have hrw := row_setCells HR_P.out (cs := #[.int .u64 f, .int .u64 h, .int .u64 l, .int .u64 n, .int .u64 m]) rfl
     have hbl := below_setCells (#[.int .u64 f, .int .u64 h, .int .u64 l, .int .u64 n, .int .u64 m] : Array Value).toList 0 z4 HBC.out HU_P.out
     rw [hnx] at hrw hbl
     have HR_P := Lib.hid hrw
     have HR_Q := Lib.hid ((congrArg (fun W : World => W.heap[Q]?) hnx).symm.trans ((heap_setCells_other _ 0 z4 HN_Q_P.out).trans HR_Q.out))
     have HBC := Lib.hid hbl
     clear hrw hbl hnx
     refine hK.out _ _ (mkS _ HBC.out) (fun hHeld2 => ?_)
     clear hK K hHeld
     have hHeld := hHeld2
     clear hHeld2
     try simp only [Act.put, List.setIfInBounds_toArray, List.set_cons_zero, List.set_cons_succ]
     refine wpAnyH_ready (rs := [7]) (by kernel_rfl) (by simp) (AllReadyH.cons (o := { dst := none, op := .store 124 (.tmp 6) (.tmp 10), type := 0, pos := "element.go:31", after := #[{ on := 5, ground := .data }, { on := 3, ground := .data }, { on := 6, ground := .chain }, { on := 0, ground := .phase }, { on := 1, ground := .phase }, { on := 2, ground := .phase }, { on := 3, ground := .phase }, { on := 4, ground := .phase }, { on := 5, ground := .phase }, { on := 6, ground := .phase }], guard := none }) rfl (fun K hK => ?_) AllReadyH.nil)
     try rw [if_pos (by rfl)]
     obtain ⟨z7, hnx⟩ : ∃ nx, World.setCells z6 Q 0 (#[.int .u64 f', .int .u64 h', .int .u64 l', .int .u64 n', .int .u64 m'] : Array Value).toList = nx := ⟨_, rfl⟩
     refine wp_store_as 124 (.tmp 6) (.tmp 10) rfl Q 0 #[.int .u64 f', .int .u64 h', .int .u64 l', .int .u64 n', .int .u64 m'] rfl rfl (there_row HR_Q.out 5 (show 5 ≤ 5 by decide)) (sz5k _ _ _ _ _) (one5 _ _ _ _ _ rfl rfl rfl rfl rfl) z7 hnx ?_
     have hrw := row_setCells HR_Q.out (cs := #[.int .u64 f', .int .u64 h', .int .u64 l', .int .u64 n', .int .u64 m']) rfl
     have hbl := below_setCells (#[.int .u64 f', .int .u64 h', .int .u64 l', .int .u64 n', .int .u64 m'] : Array Value).toList 0 z6 HBC.out HU_Q.out
     rw [hnx] at hrw hbl
     have HR_Q := Lib.hid hrw
     have HR_P := Lib.hid ((congrArg (fun W : World => W.heap[P]?) hnx).symm.trans ((heap_setCells_other _ 0 z6 (Ne.symm HN_Q_P.out)).trans HR_P.out))
     have HBC := Lib.hid hbl
     clear hrw hbl hnx
     refine hK.out _ _ (mkS _ HBC.out) (fun hHeld2 => ?_)
     clear hK K hHeld
     have hHeld := hHeld2
     clear hHeld2
     try simp only [Act.put, List.setIfInBounds_toArray, List.set_cons_zero, List.set_cons_succ]
     refine wpAnyH_done (by kernel_rfl) ?_ _
     go_wp2_with fail
     go_meet
     exact ⟨P, Q, rfl, rfl, HR_P.out, HR_Q.out, HBC.out⟩
   ·
    go_simp
    have hmr := heap_alloc_new z1 (.cells #[.int .u64 0, .int .u64 0, .int .u64 0, .int .u64 0, .int .u64 0] 124)
    have hb := below_new z1 (.cells #[.int .u64 0, .int .u64 0, .int .u64 0, .int .u64 0, .int .u64 0] 124)
    obtain ⟨P, hM⟩ : ∃ M, z1.heap.size = M := ⟨_, rfl⟩
    have HU_P := Lib.hid (show V.heap.size ≤ P by have := HBC.out.size; omega)
    rw [hM] at hmr ⊢
    generalize World.alloc z1 _ = z4 at hmr hb ⊢
    have HBC := Lib.hid (chain HBC.out hb)
    have HR_P := Lib.hid hmr
    clear hb hmr hM
    refine hK.out _ _ (mkS _ HBC.out) (fun hHeld2 => ?_)
    clear hK K hHeld
    have hHeld := hHeld2
    clear hHeld2
    try simp only [Act.put, List.setIfInBounds_toArray, List.set_cons_zero, List.set_cons_succ]
    refine wpAnyH_ready (rs := [3, 5]) (by kernel_rfl) (by simp) (AllReadyH.cons (o := { dst := some 10, op := .call { callee := .value (.func 76), args := #[.tmp 9], argTypes := #[75] }, type := 124, pos := "element.go:31", after := #[{ on := 2, ground := .data }, { on := 1, ground := .chain }], guard := none }) rfl (fun K hK => ?_) (AllReadyH.cons (o := { dst := some 6, op := .alloc 124, type := 0, pos := "element.go:31", after := #[], guard := none }) rfl (fun K hK => ?_) AllReadyH.nil))
    ·
     go_simp
     refine (HK2.out z4).mono ?_
     rintro e z3 ⟨rfl, hb⟩
     have HBC := Lib.hid (chain HBC.out hb)
     have HR_P := Lib.hid (row_on HR_P.out hb)
     clear hb 
     go_simp
     refine hK.out _ _ (mkS _ HBC.out) (fun hHeld2 => ?_)
     clear hK K hHeld
     have hHeld := hHeld2
     clear hHeld2
     try simp only [Act.put, List.setIfInBounds_toArray, List.set_cons_zero, List.set_cons_succ]
     refine wpAnyH_ready (rs := [5]) (by kernel_rfl) (by simp) (AllReadyH.cons (o := { dst := some 6, op := .alloc 124, type := 0, pos := "element.go:31", after := #[], guard := none }) rfl (fun K hK => ?_) AllReadyH.nil)
     go_simp
     have hmr := heap_alloc_new z3 (.cells #[.int .u64 0, .int .u64 0, .int .u64 0, .int .u64 0, .int .u64 0] 124)
     have hb := below_new z3 (.cells #[.int .u64 0, .int .u64 0, .int .u64 0, .int .u64 0, .int .u64 0] 124)
     obtain ⟨Q, hM⟩ : ∃ M, z3.heap.size = M := ⟨_, rfl⟩
     have HU_Q := Lib.hid (show V.heap.size ≤ Q by have := HBC.out.size; omega)
     have HN_P_Q := Lib.hid (show P ≠ Q by have := (Array.getElem?_eq_some_iff.1 HR_P.out).1; omega)
     rw [hM] at hmr ⊢
     generalize World.alloc z3 _ = z5 at hmr hb ⊢
     have HBC := Lib.hid (chain HBC.out hb)
     have HR_P := Lib.hid (row_on HR_P.out hb)
     have HR_Q := Lib.hid hmr
     clear hb hmr hM
     refine hK.out _ _ (mkS _ HBC.out) (fun hHeld2 => ?_)
     clear hK K hHeld
     have hHeld := hHeld2
     clear hHeld2
     try simp only [Act.put, List.setIfInBounds_toArray, List.set_cons_zero, List.set_cons_succ]
     refine wpAnyH_ready (rs := [6]) (by kernel_rfl) (by simp) (AllReadyH.cons (o := { dst := none, op := .store 124 (.tmp 5) (.tmp 8), type := 0, pos := "element.go:31", after := #[{ on := 4, ground := .data }, { on := 1, ground := .data }, { on := 3, ground := .chain }, { on := 0, ground := .phase }, { on := 1, ground := .phase }, { on := 2, ground := .textOnly .lateStores }, { on := 3, ground := .phase }, { on := 4, ground := .phase }, { on := 5, ground := .phase }], guard := none }) rfl (fun K hK => ?_) AllReadyH.nil)
     try rw [if_pos (by rfl)]
     obtain ⟨z6, hnx⟩ : ∃ nx, World.setCells z5 P 0 (#[.int .u64 f, .int .u64 h, .int .u64 l, .int .u64 n, .int .u64 m] : Array Value).toList = nx := ⟨_, rfl⟩
     refine wp_store_as 124 (.tmp 5) (.tmp 8) rfl P 0 #[.int .u64 f, .int .u64 h, .int .u64 l, .int .u64 n, .int .u64 m] rfl rfl (there_row HR_P.out 5 (show 5 ≤ 5 by decide)) (sz5k _ _ _ _ _) (one5 _ _ _ _ _ rfl rfl rfl rfl rfl) z6 hnx ?_
     have hrw := row_setCells HR_P.out (cs := #[.int .u64 f, .int .u64 h, .int .u64 l, .int .u64 n, .int .u64 m]) rfl
     have hbl := below_setCells (#[.int .u64 f, .int .u64 h, .int .u64 l, .int .u64 n, .int .u64 m] : Array Value).toList 0 z5 HBC.out HU_P.out
     rw [hnx] at hrw hbl
     have HR_P := Lib.hid hrw
     have HR_Q := Lib.hid ((congrArg (fun W : World => W.heap[Q]?) hnx).symm.trans ((heap_setCells_other _ 0 z5 (Ne.symm HN_P_Q.out)).trans HR_Q.out))
     have HBC := Lib.hid hbl
     clear hrw hbl hnx
     refine hK.out _ _ (mkS _ HBC.out) (fun hHeld2 => ?_)
     clear hK K hHeld
     have hHeld := hHeld2
     clear hHeld2
     try simp only [Act.put, List.setIfInBounds_toArray, List.set_cons_zero, List.set_cons_succ]
     refine wpAnyH_ready (rs := [7]) (by kernel_rfl) (by simp) (AllReadyH.cons (o := { dst := none, op := .store 124 (.tmp 6) (.tmp 10), type := 0, pos := "element.go:31", after := #[{ on := 5, ground := .data }, { on := 3, ground := .data }, { on := 6, ground := .chain }, { on := 0, ground := .phase }, { on := 1, ground := .phase }, { on := 2, ground := .phase }, { on := 3, ground := .phase }, { on := 4, ground := .phase }, { on := 5, ground := .phase }, { on := 6, ground := .phase }], guard := none }) rfl (fun K hK => ?_) AllReadyH.nil)
     try rw [if_pos (by rfl)]
     obtain ⟨z7, hnx⟩ : ∃ nx, World.setCells z6 Q 0 (#[.int .u64 f', .int .u64 h', .int .u64 l', .int .u64 n', .int .u64 m'] : Array Value).toList = nx := ⟨_, rfl⟩
     refine wp_store_as 124 (.tmp 6) (.tmp 10) rfl Q 0 #[.int .u64 f', .int .u64 h', .int .u64 l', .int .u64 n', .int .u64 m'] rfl rfl (there_row HR_Q.out 5 (show 5 ≤ 5 by decide)) (sz5k _ _ _ _ _) (one5 _ _ _ _ _ rfl rfl rfl rfl rfl) z7 hnx ?_
     have hrw := row_setCells HR_Q.out (cs := #[.int .u64 f', .int .u64 h', .int .u64 l', .int .u64 n', .int .u64 m']) rfl
     have hbl := below_setCells (#[.int .u64 f', .int .u64 h', .int .u64 l', .int .u64 n', .int .u64 m'] : Array Value).toList 0 z6 HBC.out HU_Q.out
     rw [hnx] at hrw hbl
     have HR_Q := Lib.hid hrw
     have HR_P := Lib.hid ((congrArg (fun W : World => W.heap[P]?) hnx).symm.trans ((heap_setCells_other _ 0 z6 HN_P_Q.out).trans HR_P.out))
     have HBC := Lib.hid hbl
     clear hrw hbl hnx
     refine hK.out _ _ (mkS _ HBC.out) (fun hHeld2 => ?_)
     clear hK K hHeld
     have hHeld := hHeld2
     clear hHeld2
     try simp only [Act.put, List.setIfInBounds_toArray, List.set_cons_zero, List.set_cons_succ]
     refine wpAnyH_done (by kernel_rfl) ?_ _
     go_wp2_with fail
     go_meet
     exact ⟨P, Q, rfl, rfl, HR_P.out, HR_Q.out, HBC.out⟩
    ·
     go_simp
     have hmr := heap_alloc_new z4 (.cells #[.int .u64 0, .int .u64 0, .int .u64 0, .int .u64 0, .int .u64 0] 124)
     have hb := below_new z4 (.cells #[.int .u64 0, .int .u64 0, .int .u64 0, .int .u64 0, .int .u64 0] 124)
     obtain ⟨Q, hM⟩ : ∃ M, z4.heap.size = M := ⟨_, rfl⟩
     have HU_Q := Lib.hid (show V.heap.size ≤ Q by have := HBC.out.size; omega)
     have HN_P_Q := Lib.hid (show P ≠ Q by have := (Array.getElem?_eq_some_iff.1 HR_P.out).1; omega)
     rw [hM] at hmr ⊢
     generalize World.alloc z4 _ = z5 at hmr hb ⊢
     have HBC := Lib.hid (chain HBC.out hb)
     have HR_P := Lib.hid (row_on HR_P.out hb)
     have HR_Q := Lib.hid hmr
     clear hb hmr hM
     refine hK.out _ _ (mkS _ HBC.out) (fun hHeld2 => ?_)
     clear hK K hHeld
     have hHeld := hHeld2
     clear hHeld2
     try simp only [Act.put, List.setIfInBounds_toArray, List.set_cons_zero, List.set_cons_succ]
     refine wpAnyH_ready (rs := [3]) (by kernel_rfl) (by simp) (AllReadyH.cons (o := { dst := some 10, op := .call { callee := .value (.func 76), args := #[.tmp 9], argTypes := #[75] }, type := 124, pos := "element.go:31", after := #[{ on := 2, ground := .data }, { on := 1, ground := .chain }], guard := none }) rfl (fun K hK => ?_) AllReadyH.nil)
     go_simp
     refine (HK2.out z5).mono ?_
     rintro e z3 ⟨rfl, hb⟩
     have HBC := Lib.hid (chain HBC.out hb)
     have HR_P := Lib.hid (row_on HR_P.out hb)
     have HR_Q := Lib.hid (row_on HR_Q.out hb)
     clear hb 
     go_simp
     refine hK.out _ _ (mkS _ HBC.out) (fun hHeld2 => ?_)
     clear hK K hHeld
     have hHeld := hHeld2
     clear hHeld2
     try simp only [Act.put, List.setIfInBounds_toArray, List.set_cons_zero, List.set_cons_succ]
     refine wpAnyH_ready (rs := [6]) (by kernel_rfl) (by simp) (AllReadyH.cons (o := { dst := none, op := .store 124 (.tmp 5) (.tmp 8), type := 0, pos := "element.go:31", after := #[{ on := 4, ground := .data }, { on := 1, ground := .data }, { on := 3, ground := .chain }, { on := 0, ground := .phase }, { on := 1, ground := .phase }, { on := 2, ground := .textOnly .lateStores }, { on := 3, ground := .phase }, { on := 4, ground := .phase }, { on := 5, ground := .phase }], guard := none }) rfl (fun K hK => ?_) AllReadyH.nil)
     try rw [if_pos (by rfl)]
     obtain ⟨z6, hnx⟩ : ∃ nx, World.setCells z3 P 0 (#[.int .u64 f, .int .u64 h, .int .u64 l, .int .u64 n, .int .u64 m] : Array Value).toList = nx := ⟨_, rfl⟩
     refine wp_store_as 124 (.tmp 5) (.tmp 8) rfl P 0 #[.int .u64 f, .int .u64 h, .int .u64 l, .int .u64 n, .int .u64 m] rfl rfl (there_row HR_P.out 5 (show 5 ≤ 5 by decide)) (sz5k _ _ _ _ _) (one5 _ _ _ _ _ rfl rfl rfl rfl rfl) z6 hnx ?_
     have hrw := row_setCells HR_P.out (cs := #[.int .u64 f, .int .u64 h, .int .u64 l, .int .u64 n, .int .u64 m]) rfl
     have hbl := below_setCells (#[.int .u64 f, .int .u64 h, .int .u64 l, .int .u64 n, .int .u64 m] : Array Value).toList 0 z3 HBC.out HU_P.out
     rw [hnx] at hrw hbl
     have HR_P := Lib.hid hrw
     have HR_Q := Lib.hid ((congrArg (fun W : World => W.heap[Q]?) hnx).symm.trans ((heap_setCells_other _ 0 z3 (Ne.symm HN_P_Q.out)).trans HR_Q.out))
     have HBC := Lib.hid hbl
     clear hrw hbl hnx
     refine hK.out _ _ (mkS _ HBC.out) (fun hHeld2 => ?_)
     clear hK K hHeld
     have hHeld := hHeld2
     clear hHeld2
     try simp only [Act.put, List.setIfInBounds_toArray, List.set_cons_zero, List.set_cons_succ]
     refine wpAnyH_ready (rs := [7]) (by kernel_rfl) (by simp) (AllReadyH.cons (o := { dst := none, op := .store 124 (.tmp 6) (.tmp 10), type := 0, pos := "element.go:31", after := #[{ on := 5, ground := .data }, { on := 3, ground := .data }, { on := 6, ground := .chain }, { on := 0, ground := .phase }, { on := 1, ground := .phase }, { on := 2, ground := .phase }, { on := 3, ground := .phase }, { on := 4, ground := .phase }, { on := 5, ground := .phase }, { on := 6, ground := .phase }], guard := none }) rfl (fun K hK => ?_) AllReadyH.nil)
     try rw [if_pos (by rfl)]
     obtain ⟨z7, hnx⟩ : ∃ nx, World.setCells z6 Q 0 (#[.int .u64 f', .int .u64 h', .int .u64 l', .int .u64 n', .int .u64 m'] : Array Value).toList = nx := ⟨_, rfl⟩
     refine wp_store_as 124 (.tmp 6) (.tmp 10) rfl Q 0 #[.int .u64 f', .int .u64 h', .int .u64 l', .int .u64 n', .int .u64 m'] rfl rfl (there_row HR_Q.out 5 (show 5 ≤ 5 by decide)) (sz5k _ _ _ _ _) (one5 _ _ _ _ _ rfl rfl rfl rfl rfl) z7 hnx ?_
     have hrw := row_setCells HR_Q.out (cs := #[.int .u64 f', .int .u64 h', .int .u64 l', .int .u64 n', .int .u64 m']) rfl
     have hbl := below_setCells (#[.int .u64 f', .int .u64 h', .int .u64 l', .int .u64 n', .int .u64 m'] : Array Value).toList 0 z6 HBC.out HU_Q.out
     rw [hnx] at hrw hbl
     have HR_Q := Lib.hid hrw
     have HR_P := Lib.hid ((congrArg (fun W : World => W.heap[P]?) hnx).symm.trans ((heap_setCells_other _ 0 z6 HN_P_Q.out).trans HR_P.out))
     have HBC := Lib.hid hbl
     clear hrw hbl hnx
     refine hK.out _ _ (mkS _ HBC.out) (fun hHeld2 => ?_)
     clear hK K hHeld
     have hHeld := hHeld2
     clear hHeld2
     try simp only [Act.put, List.setIfInBounds_toArray, List.set_cons_zero, List.set_cons_succ]
     refine wpAnyH_done (by kernel_rfl) ?_ _
     go_wp2_with fail
     go_meet
     exact ⟨P, Q, rfl, rfl, HR_P.out, HR_Q.out, HBC.out⟩
   ·
    go_simp
    have hmr := heap_alloc_new z1 (.cells #[.int .u64 0, .int .u64 0, .int .u64 0, .int .u64 0, .int .u64 0] 124)
    have hb := below_new z1 (.cells #[.int .u64 0, .int .u64 0, .int .u64 0, .int .u64 0, .int .u64 0] 124)
    obtain ⟨Q, hM⟩ : ∃ M, z1.heap.size = M := ⟨_, rfl⟩
    have HU_Q := Lib.hid (show V.heap.size ≤ Q by have := HBC.out.size; omega)
    rw [hM] at hmr ⊢
    generalize World.alloc z1 _ = z5 at hmr hb ⊢
    have HBC := Lib.hid (chain HBC.out hb)
    have HR_Q := Lib.hid hmr
    clear hb hmr hM
    refine hK.out _ _ (mkS _ HBC.out) (fun hHeld2 => ?_)
    clear hK K hHeld
    have hHeld := hHeld2
    clear hHeld2
    try simp only [Act.put, List.setIfInBounds_toArray, List.set_cons_zero, List.set_cons_succ]
    refine wpAnyH_ready (rs := [3, 4]) (by kernel_rfl) (by simp) (AllReadyH.cons (o := { dst := some 10, op := .call { callee := .value (.func 76), args := #[.tmp 9], argTypes := #[75] }, type := 124, pos := "element.go:31", after := #[{ on := 2, ground := .data }, { on := 1, ground := .chain }], guard := none }) rfl (fun K hK => ?_) (AllReadyH.cons (o := { dst := some 5, op := .alloc 124, type := 0, pos := "element.go:31", after := #[], guard := none }) rfl (fun K hK => ?_) AllReadyH.nil))
    ·
     go_simp
     refine (HK2.out z5).mono ?_
     rintro e z3 ⟨rfl, hb⟩
     have HBC := Lib.hid (chain HBC.out hb)
     have HR_Q := Lib.hid (row_on HR_Q.out hb)
     clear hb 
     go_simp
     refine hK.out _ _ (mkS _ HBC.out) (fun hHeld2 => ?_)
     clear hK K hHeld
     have hHeld := hHeld2
     clear hHeld2
     try simp only [Act.put, List.setIfInBounds_toArray, List.set_cons_zero, List.set_cons_succ]
     refine wpAnyH_ready (rs := [4]) (by kernel_rfl) (by simp) (AllReadyH.cons (o := { dst := some 5, op := .alloc 124, type := 0, pos := "element.go:31", after := #[], guard := none }) rfl (fun K hK => ?_) AllReadyH.nil)
     go_simp
     have hmr := heap_alloc_new z3 (.cells #[.int .u64 0, .int .u64 0, .int .u64 0, .int .u64 0, .int .u64 0] 124)
     have hb := below_new z3 (.cells #[.int .u64 0, .int .u64 0, .int .u64 0, .int .u64 0, .int .u64 0] 124)
     obtain ⟨P, hM⟩ : ∃ M, z3.heap.size = M := ⟨_, rfl⟩
     have HU_P := Lib.hid (show V.heap.size ≤ P by have := HBC.out.size; omega)
     have HN_Q_P := Lib.hid (show Q ≠ P by have := (Array.getElem?_eq_some_iff.1 HR_Q.out).1; omega)
     rw [hM] at hmr ⊢
     generalize World.alloc z3 _ = z4 at hmr hb ⊢
     have HBC := Lib.hid (chain HBC.out hb)
     have HR_Q := Lib.hid (row_on HR_Q.out hb)
     have HR_P := Lib.hid hmr
     clear hb hmr hM
     refine hK.out _ _ (mkS _ HBC.out) (fun hHeld2 => ?_)
     clear hK K hHeld
     have hHeld := hHeld2
     clear hHeld2
     try simp only [Act.put, List.setIfInBounds_toArray, List.set_cons_zero, List.set_cons_succ]
     refine wpAnyH_ready (rs := [6]) (by kernel_rfl) (by simp) (AllReadyH.cons (o := { dst := none, op := .store 124 (.tmp 5) (.tmp 8), type := 0, pos := "element.go:31", after := #[{ on := 4, ground := .data }, { on := 1, ground := .data }, { on := 3, ground := .chain }, { on := 0, ground := .phase }, { on := 1, ground := .phase }, { on := 2, ground := .textOnly .lateStores }, { on := 3, ground := .phase }, { on := 4, ground := .phase }, { on := 5, ground := .phase }], guard := none }) rfl (fun K hK => ?_) AllReadyH.nil)
     try rw [if_pos (by rfl)]
     obtain ⟨z6, hnx⟩ : ∃ nx, World.setCells z4 P 0 (#[.int .u64 f, .int .u64 h, .int .u64 l, .int .u64 n, .int .u64 m] : Array Value).toList = nx := ⟨_, rfl⟩
     refine wp_store_as 124 (.tmp 5) (.tmp 8) rfl P 0 #[.int .u64 f, .int .u64 h, .int .u64 l, .int .u64 n, .int .u64 m] rfl rfl (there_row HR_P.out 5 (show 5 ≤ 5 by decide)) (sz5k _ _ _ _ _) (one5 _ _ _ _ _ rfl rfl rfl rfl rfl) z6 hnx ?_
     have hrw := row_setCells HR_P.out (cs := #[.int .u64 f, .int .u64 h, .int .u64 l, .int .u64 n, .int .u64 m]) rfl
     have hbl := below_setCells (#[.int .u64 f, .int .u64 h, .int .u64 l, .int .u64 n, .int .u64 m] : Array Value).toList 0 z4 HBC.out HU_P.out
     rw [hnx] at hrw hbl
     have HR_P := Lib.hid hrw
     have HR_Q := Lib.hid ((congrArg (fun W : World => W.heap[Q]?) hnx).symm.trans ((heap_setCells_other _ 0 z4 HN_Q_P.out).trans HR_Q.out))
     have HBC := Lib.hid hbl
     clear hrw hbl hnx
     refine hK.out _ _ (mkS _ HBC.out) (fun hHeld2 => ?_)
     clear hK K hHeld
     have hHeld := hHeld2
     clear hHeld2
     try simp only [Act.put, List.setIfInBounds_toArray, List.set_cons_zero, List.set_cons_succ]
     refine wpAnyH_ready (rs := [7]) (by kernel_rfl) (by simp) (AllReadyH.cons (o := { dst := none, op := .store 124 (.tmp 6) (.tmp 10), type := 0, pos := "element.go:31", after := #[{ on := 5, ground := .data }, { on := 3, ground := .data }, { on := 6, ground := .chain }, { on := 0, ground := .phase }, { on := 1, ground := .phase }, { on := 2, ground := .phase }, { on := 3, ground := .phase }, { on := 4, ground := .phase }, { on := 5, ground := .phase }, { on := 6, ground := .phase }], guard := none }) rfl (fun K hK => ?_) AllReadyH.nil)
     try rw [if_pos (by rfl)]
     obtain ⟨z7, hnx⟩ : ∃ nx, World.setCells z6 Q 0 (#[.int .u64 f', .int .u64 h', .int .u64 l', .int .u64 n', .int .u64 m'] : Array Value).toList = nx := ⟨_, rfl⟩
     refine wp_store_as 124 (.tmp 6) (.tmp 10) rfl Q 0 #[.int .u64 f', .int .u64 h', .int .u64 l', .int .u64 n', .int .u64 m'] rfl rfl (there_row HR_Q.out 5 (show 5 ≤ 5 by decide)) (sz5k _ _ _ _ _) (one5 _ _ _ _ _ rfl rfl rfl rfl rfl) z7 hnx ?_
     have hrw := row_setCells HR_Q.out (cs := #[.int .u64 f', .int .u64 h', .int .u64 l', .int .u64 n', .int .u64 m']) rfl
     have hbl := below_setCells (#[.int .u64 f', .int .u64 h', .int .u64 l', .int .u64 n', .int .u64 m'] : Array Value).toList 0 z6 HBC.out HU_Q.out
     rw [hnx] at hrw hbl
     have HR_Q := Lib.hid hrw
     have HR_P := Lib.hid ((congrArg (fun W : World => W.heap[P]?) hnx).symm.trans ((heap_setCells_other _ 0 z6 (Ne.symm HN_Q_P.out)).trans HR_P.out))
     have HBC := Lib.hid hbl
     clear hrw hbl hnx
     refine hK.out _ _ (mkS _ HBC.out) (fun hHeld2 => ?_)
     clear hK K hHeld
     have hHeld := hHeld2
     clear hHeld2
     try simp only [Act.put, List.setIfInBounds_toArray, List.set_cons_zero, List.set_cons_succ]
     refine wpAnyH_done (by kernel_rfl) ?_ _
     go_wp2_with fail
     go_meet
     exact ⟨P, Q, rfl, rfl, HR_P.out, HR_Q.out, HBC.out⟩
    ·
     go_simp
     have hmr := heap_alloc_new z5 (.cells #[.int .u64 0, .int .u64 0, .int .u64 0, .int .u64 0, .int .u64 0] 124)
     have hb := below_new z5 (.cells #[.int .u64 0, .int .u64 0, .int .u64 0, .int .u64 0, .int .u64 0] 124)
     obtain ⟨P, hM⟩ : ∃ M, z5.heap.size = M := ⟨_, rfl⟩
     have HU_P := Lib.hid (show V.heap.size ≤ P by have := HBC.out.size; omega)
     have HN_Q_P := Lib.hid (show Q ≠ P by have := (Array.getElem?_eq_some_iff.1 HR_Q.out).1; omega)
     rw [hM] at hmr ⊢
     generalize World.alloc z5 _ = z4 at hmr hb ⊢
     have HBC := Lib.hid (chain HBC.out hb)
     have HR_Q := Lib.hid (row_on HR_Q.out hb)
     have HR_P := Lib.hid hmr
     clear hb hmr hM
     refine hK.out _ _ (mkS _ HBC.out) (fun hHeld2 => ?_)
     clear hK K hHeld
     have hHeld := hHeld2
     clear hHeld2
     try simp only [Act.put, List.setIfInBounds_toArray, List.set_cons_zero, List.set_cons_succ]
     refine wpAnyH_ready (rs := [3]) (by kernel_rfl) (by simp) (AllReadyH.cons (o := { dst := some 10, op := .call { callee := .value (.func 76), args := #[.tmp 9], argTypes := #[75] }, type := 124, pos := "element.go:31", after := #[{ on := 2, ground := .data }, { on := 1, ground := .chain }], guard := none }) rfl (fun K hK => ?_) AllReadyH.nil)
     go_simp
     refine (HK2.out z4).mono ?_
     rintro e z3 ⟨rfl, hb⟩
     have HBC := Lib.hid (chain HBC.out hb)
     have HR_Q := Lib.hid (row_on HR_Q.out hb)
     have HR_P := Lib.hid (row_on HR_P.out hb)
     clear hb 
     go_simp
     refine hK.out _ _ (mkS _ HBC.out) (fun hHeld2 => ?_)
     clear hK K hHeld
     have hHeld := hHeld2
     clear hHeld2
     try simp only [Act.put, List.setIfInBounds_toArray, List.set_cons_zero, List.set_cons_succ]
     refine wpAnyH_ready (rs := [6]) (by kernel_rfl) (by simp) (AllReadyH.cons (o := { dst := none, op := .store 124 (.tmp 5) (.tmp 8), type := 0, pos := "element.go:31", after := #[{ on := 4, ground := .data }, { on := 1, ground := .data }, { on := 3, ground := .chain }, { on := 0, ground := .phase }, { on := 1, ground := .phase }, { on := 2, ground := .textOnly .lateStores }, { on := 3, ground := .phase }, { on := 4, ground := .phase }, { on := 5, ground := .phase }], guard := none }) rfl (fun K hK => ?_) AllReadyH.nil)
     try rw [if_pos (by rfl)]
     obtain ⟨z6, hnx⟩ : ∃ nx, World.setCells z3 P 0 (#[.int .u64 f, .int .u64 h, .int .u64 l, .int .u64 n, .int .u64 m] : Array Value).toList = nx := ⟨_, rfl⟩
     refine wp_store_as 124 (.tmp 5) (.tmp 8) rfl P 0 #[.int .u64 f, .int .u64 h, .int .u64 l, .int .u64 n, .int .u64 m] rfl rfl (there_row HR_P.out 5 (show 5 ≤ 5 by decide)) (sz5k _ _ _ _ _) (one5 _ _ _ _ _ rfl rfl rfl rfl rfl) z6 hnx ?_
     have hrw := row_setCells HR_P.out (cs := #[.int .u64 f, .int .u64 h, .int .u64 l, .int .u64 n, .int .u64 m]) rfl
     have hbl := below_setCells (#[.int .u64 f, .int .u64 h, .int .u64 l, .int .u64 n, .int .u64 m] : Array Value).toList 0 z3 HBC.out HU_P.out
     rw [hnx] at hrw hbl
     have HR_P := Lib.hid hrw
     have HR_Q := Lib.hid ((congrArg (fun W : World => W.heap[Q]?) hnx).symm.trans ((heap_setCells_other _ 0 z3 HN_Q_P.out).trans HR_Q.out))
     have HBC := Lib.hid hbl
     clear hrw hbl hnx
     refine hK.out _ _ (mkS _ HBC.out) (fun hHeld2 => ?_)
     clear hK K hHeld
     have hHeld := hHeld2
     clear hHeld2
     try simp only [Act.put, List.setIfInBounds_toArray, List.set_cons_zero, List.set_cons_succ]
     refine wpAnyH_ready (rs := [7]) (by kernel_rfl) (by simp) (AllReadyH.cons (o := { dst := none, op := .store 124 (.tmp 6) (.tmp 10), type := 0, pos := "element.go:31", after := #[{ on := 5, ground := .data }, { on := 3, ground := .data }, { on := 6, ground := .chain }, { on := 0, ground := .phase }, { on := 1, ground := .phase }, { on := 2, ground := .phase }, { on := 3, ground := .phase }, { on := 4, ground := .phase }, { on := 5, ground := .phase }, { on := 6, ground := .phase }], guard := none }) rfl (fun K hK => ?_) AllReadyH.nil)
     try rw [if_pos (by rfl)]
     obtain ⟨z7, hnx⟩ : ∃ nx, World.setCells z6 Q 0 (#[.int .u64 f', .int .u64 h', .int .u64 l', .int .u64 n', .int .u64 m'] : Array Value).toList = nx := ⟨_, rfl⟩
     refine wp_store_as 124 (.tmp 6) (.tmp 10) rfl Q 0 #[.int .u64 f', .int .u64 h', .int .u64 l', .int .u64 n', .int .u64 m'] rfl rfl (there_row HR_Q.out 5 (show 5 ≤ 5 by decide)) (sz5k _ _ _ _ _) (one5 _ _ _ _ _ rfl rfl rfl rfl rfl) z7 hnx ?_
     have hrw := row_setCells HR_Q.out (cs := #[.int .u64 f', .int .u64 h', .int .u64 l', .int .u64 n', .int .u64 m']) rfl
     have hbl := below_setCells (#[.int .u64 f', .int .u64 h', .int .u64 l', .int .u64 n', .int .u64 m'] : Array Value).toList 0 z6 HBC.out HU_Q.out
     rw [hnx] at hrw hbl
     have HR_Q := Lib.hid hrw
     have HR_P := Lib.hid ((congrArg (fun W : World => W.heap[P]?) hnx).symm.trans ((heap_setCells_other _ 0 z6 (Ne.symm HN_Q_P.out)).trans HR_P.out))
     have HBC := Lib.hid hbl
     clear hrw hbl hnx
     refine hK.out _ _ (mkS _ HBC.out) (fun hHeld2 => ?_)
     clear hK K hHeld
     have hHeld := hHeld2
     clear hHeld2
     try simp only [Act.put, List.setIfInBounds_toArray, List.set_cons_zero, List.set_cons_succ]
     refine wpAnyH_done (by kernel_rfl) ?_ _
     go_wp2_with fail
     go_meet
     exact ⟨P, Q, rfl, rfl, HR_P.out, HR_Q.out, HBC.out⟩
  ·
   go_simp
   have hmr := heap_alloc_new U (.cells #[.int .u64 0, .int .u64 0, .int .u64 0, .int .u64 0, .int .u64 0] 124)
   have hb := below_new U (.cells #[.int .u64 0, .int .u64 0, .int .u64 0, .int .u64 0, .int .u64 0] 124)
   obtain ⟨P, hM⟩ : ∃ M, U.heap.size = M := ⟨_, rfl⟩
   have HU_P := Lib.hid (show V.heap.size ≤ P by have := HBC.out.size; omega)
   rw [hM] at hmr ⊢
   generalize World.alloc U _ = z4 at hmr hb ⊢
   have HBC := Lib.hid (chain HBC.out hb)
   have HR_P := Lib.hid hmr
   clear hb hmr hM
   refine hK.out _ _ (mkS _ HBC.out) (fun hHeld2 => ?_)
   clear hK K hHeld
   have hHeld := hHeld2
   clear hHeld2
   try simp only [Act.put, List.setIfInBounds_toArray, List.set_cons_zero, List.set_cons_succ]
   refine wpAnyH_ready (rs := [1, 5]) (by kernel_rfl) (by simp) (AllReadyH.cons (o := { dst := some 8, op := .call { callee := .value (.func 76), args := #[.tmp 7], argTypes := #[75] }, type := 124, pos := "element.go:31", after := #[{ on := 0, ground := .data }], guard := none }) rfl (fun K hK => ?_) (AllReadyH.cons (o := { dst := some 6, op := .alloc 124, type := 0, pos := "element.go:31", after := #[], guard := none }) rfl (fun K hK => ?_) AllReadyH.nil))
   ·
    go_simp
    refine (HK1.out z4).mono ?_
    rintro e z1 ⟨rfl, hb⟩
    have HBC := Lib.hid (chain HBC.out hb)
    have HR_P := Lib.hid (row_on HR_P.out hb)
    clear hb 
    go_simp
    refine hK.out _ _ (mkS _ HBC.out) (fun hHeld2 => ?_)
    clear hK K hHeld
    have hHeld := hHeld2
    clear hHeld2
    try simp only [Act.put, List.setIfInBounds_toArray, List.set_cons_zero, List.set_cons_succ]
    refine wpAnyH_ready (rs := [3, 5]) (by kernel_rfl) (by simp) (AllReadyH.cons (o := { dst := some 10, op := .call { callee := .value (.func 76), args := #[.tmp 9], argTypes := #[75] }, type := 124, pos := "element.go:31", after := #[{ on := 2, ground := .data }, { on := 1, ground := .chain }], guard := none }) rfl (fun K hK => ?_) (AllReadyH.cons (o := { dst := some 6, op := .alloc 124, type := 0, pos := "element.go:31", after := #[], guard := none }) rfl (fun K hK => ?_) AllReadyH.nil))
    ·
     go_simp
     refine (HK2.out z1).mono ?_
     rintro e z3 ⟨rfl, hb⟩
     have HBC := Lib.hid (chain HBC.out hb)
     have HR_P := Lib.hid (row_on HR_P.out hb)
     clear hb 
     go_simp
     refine hK.out _ _ (mkS _ HBC.out) (fun hHeld2 => ?_)
     clear hK K hHeld
     have hHeld := hHeld2
     clear hHeld2
     try simp only [Act.put, List.setIfInBounds_toArray, List.set_cons_zero, List.set_cons_succ]
     refine wpAnyH_ready (rs := [5]) (by kernel_rfl) (by simp) (AllReadyH.cons (o := { dst := some 6, op := .alloc 124, type := 0, pos := "element.go:31", after := #[], guard := none }) rfl (fun K hK => ?_) AllReadyH.nil)
     go_simp
     have hmr := heap_alloc_new z3 (.cells #[.int .u64 0, .int .u64 0, .int .u64 0, .int .u64 0, .int .u64 0] 124)
     have hb := below_new z3 (.cells #[.int .u64 0, .int .u64 0, .int .u64 0, .int .u64 0, .int .u64 0] 124)
     obtain ⟨Q, hM⟩ : ∃ M, z3.heap.size = M := ⟨_, rfl⟩
     have HU_Q := Lib.hid (show V.heap.size ≤ Q by have := HBC.out.size; omega)
     have HN_P_Q := Lib.hid (show P ≠ Q by have := (Array.getElem?_eq_some_iff.1 HR_P.out).1; omega)
     rw [hM] at hmr ⊢
     generalize World.alloc z3 _ = z5 at hmr hb ⊢
     have HBC := Lib.hid (chain HBC.out hb)
     have HR_P := Lib.hid (row_on HR_P.out hb)
     have HR_Q := Lib.hid hmr
     clear hb hmr hM
     refine hK.out _ _ (mkS _ HBC.out) (fun hHeld2 => ?_)
     clear hK K hHeld
     have hHeld := hHeld2
     clear hHeld2
     try simp only [Act.put, List.setIfInBounds_toArray, List.set_cons_zero, List.set_cons_succ]
     refine wpAnyH_ready (rs := [6]) (by kernel_rfl) (by simp) (AllReadyH.cons (o := { dst := none, op := .store 124 (.tmp 5) (.tmp 8), type := 0, pos := "element.go:31", after := #[{ on := 4, ground := .data }, { on := 1, ground := .data }, { on := 3, ground := .chain }, { on := 0, ground := .phase }, { on := 1, ground := .phase }, { on := 2, ground := .textOnly .lateStores }, { on := 3, ground := .phase }, { on := 4, ground := .phase }, { on := 5, ground := .phase }], guard := none }) rfl (fun K hK => ?_) AllReadyH.nil)
     try rw [if_pos (by rfl)]
     obtain ⟨z6, hnx⟩ : ∃ nx, World.setCells z5 P 0 (#[.int .u64 f, .int .u64 h, .int .u64 l, .int .u64 n, .int .u64 m] : Array Value).toList = nx := ⟨_, rfl⟩
     refine wp_store_as 124 (.tmp 5) (.tmp 8) rfl P 0 #[.int .u64 f, .int .u64 h, .int .u64 l, .int .u64 n, .int .u64 m] rfl rfl (there_row HR_P.out 5 (show 5 ≤ 5 by decide)) (sz5k _ _ _ _ _) (one5 _ _ _ _ _ rfl rfl rfl rfl rfl) z6 hnx ?_
     have hrw := row_setCells HR_P.out (cs := #[.int .u64 f, .int .u64 h, .int .u64 l, .int .u64 n, .int .u64 m]) rfl
     have hbl := below_setCells (#[.int .u64 f, .int .u64 h, .int .u64 l, .int .u64 n, .int .u64 m] : Array Value).toList 0 z5 HBC.out HU_P.out
     rw [hnx] at hrw hbl
     have HR_P := Lib.hid hrw
     have HR_Q := Lib.hid ((congrArg (fun W : World => W.heap[Q]?) hnx).symm.trans ((heap_setCells_other _ 0 z5 (Ne.symm HN_P_Q.out)).trans HR_Q.out))
     have HBC := Lib.hid hbl
     clear hrw hbl hnx
     refine hK.out _ _ (mkS _ HBC.out) (fun hHeld2 => ?_)
     clear hK K hHeld
     have hHeld := hHeld2
     clear hHeld2
     try simp only [Act.put, List.setIfInBounds_toArray, List.set_cons_zero, List.set_cons_succ]
     refine wpAnyH_ready (rs := [7]) (by kernel_rfl) (by simp) (AllReadyH.cons (o := { dst := none, op := .store 124 (.tmp 6) (.tmp 10), type := 0, pos := "element.go:31", after := #[{ on := 5, ground := .data }, { on := 3, ground := .data }, { on := 6, ground := .chain }, { on := 0, ground := .phase }, { on := 1, ground := .phase }, { on := 2, ground := .phase }, { on := 3, ground := .phase }, { on := 4, ground := .phase }, { on := 5, ground := .phase }, { on := 6, ground := .phase }], guard := none }) rfl (fun K hK => ?_) AllReadyH.nil)
     try rw [if_pos (by rfl)]
     obtain ⟨z7, hnx⟩ : ∃ nx, World.setCells z6 Q 0 (#[.int .u64 f', .int .u64 h', .int .u64 l', .int .u64 n', .int .u64 m'] : Array Value).toList = nx := ⟨_, rfl⟩
     refine wp_store_as 124 (.tmp 6) (.tmp 10) rfl Q 0 #[.int .u64 f', .int .u64 h', .int .u64 l', .int .u64 n', .int .u64 m'] rfl rfl (there_row HR_Q.out 5 (show 5 ≤ 5 by decide)) (sz5k _ _ _ _ _) (one5 _ _ _ _ _ rfl rfl rfl rfl rfl) z7 hnx ?_
     have hrw := row_setCells HR_Q.out (cs := #[.int .u64 f', .int .u64 h', .int .u64 l', .int .u64 n', .int .u64 m']) rfl
     have hbl := below_setCells (#[.int .u64 f', .int .u64 h', .int .u64 l', .int .u64 n', .int .u64 m'] : Array Value).toList 0 z6 HBC.out HU_Q.out
     rw [hnx] at hrw hbl
     have HR_Q := Lib.hid hrw
     have HR_P := Lib.hid ((congrArg (fun W : World => W.heap[P]?) hnx).symm.trans ((heap_setCells_other _ 0 z6 HN_P_Q.out).trans HR_P.out))
     have HBC := Lib.hid hbl
     clear hrw hbl hnx
     refine hK.out _ _ (mkS _ HBC.out) (fun hHeld2 => ?_)
     clear hK K hHeld
     have hHeld := hHeld2
     clear hHeld2
     try simp only [Act.put, List.setIfInBounds_toArray, List.set_cons_zero, List.set_cons_succ]
     refine wpAnyH_done (by kernel_rfl) ?_ _
     go_wp2_with fail
     go_meet
     exact ⟨P, Q, rfl, rfl, HR_P.out, HR_Q.out, HBC.out⟩
    ·
     go_simp
     have hmr := heap_alloc_new z1 (.cells #[.int .u64 0, .int .u64 0, .int .u64 0, .int .u64 0, .int .u64 0] 124)
     have hb := below_new z1 (.cells #[.int .u64 0, .int .u64 0, .int .u64 0, .int .u64 0, .int .u64 0] 124)
     obtain ⟨Q, hM⟩ : ∃ M, z1.heap.size = M := ⟨_, rfl⟩
     have HU_Q := Lib.hid (show V.heap.size ≤ Q by have := HBC.out.size; omega)
     have HN_P_Q := Lib.hid (show P ≠ Q by have := (Array.getElem?_eq_some_iff.1 HR_P.out).1; omega)
     rw [hM] at hmr ⊢
     generalize World.alloc z1 _ = z5 at hmr hb ⊢
     have HBC := Lib.hid (chain HBC.out hb)
     have HR_P := Lib.hid (row_on HR_P.out hb)
     have HR_Q := Lib.hid hmr
     clear hb hmr hM
     refine hK.out _ _ (mkS _ HBC.out) (fun hHeld2 => ?_)
     clear hK K hHeld
     have hHeld := hHeld2
     clear hHeld2
     try simp only [Act.put, List.setIfInBounds_toArray, List.set_cons_zero, List.set_cons_succ]
     refine wpAnyH_ready (rs := [3]) (by kernel_rfl) (by simp) (AllReadyH.cons (o := { dst := some 10, op := .call { callee := .value (.func 76), args := #[.tmp 9], argTypes := #[75] }, type := 124, pos := "element.go:31", after := #[{ on := 2, ground := .data }, { on := 1, ground := .chain }], guard := none }) rfl (fun K hK => ?_) AllReadyH.nil)
     go_simp
     refine (HK2.out z5).mono ?_
     rintro e z3 ⟨rfl, hb⟩
     have HBC := Lib.hid (chain HBC.out hb)
     have HR_P := Lib.hid (row_on HR_P.out hb)
     have HR_Q := Lib.hid (row_on HR_Q.out hb)
     clear hb 
     go_simp
     refine hK.out _ _ (mkS _ HBC.out) (fun hHeld2 => ?_)
     clear hK K hHeld
     have hHeld := hHeld2
     clear hHeld2
     try simp only [Act.put, List.setIfInBounds_toArray, List.set_cons_zero, List.set_cons_succ]
     refine wpAnyH_ready (rs := [6]) (by kernel_rfl) (by simp) (AllReadyH.cons (o := { dst := none, op := .store 124 (.tmp 5) (.tmp 8), type := 0, pos := "element.go:31", after := #[{ on := 4, ground := .data }, { on := 1, ground := .data }, { on := 3, ground := .chain }, { on := 0, ground := .phase }, { on := 1, ground := .phase }, { on := 2, ground := .textOnly .lateStores }, { on := 3, ground := .phase }, { on := 4, ground := .phase }, { on := 5, ground := .phase }], guard := none }) rfl (fun K hK => ?_) AllReadyH.nil)
     try rw [if_pos (by rfl)]
     obtain ⟨z6, hnx⟩ : ∃ nx, World.setCells z3 P 0 (#[.int .u64 f, .int .u64 h, .int .u64 l, .int .u64 n, .int .u64 m] : Array Value).toList = nx := ⟨_, rfl⟩
     refine wp_store_as 124 (.tmp 5) (.tmp 8) rfl P 0 #[.int .u64 f, .int .u64 h, .int .u64 l, .int .u64 n, .int .u64 m] rfl rfl (there_row HR_P.out 5 (show 5 ≤ 5 by decide)) (sz5k _ _ _ _ _) (one5 _ _ _ _ _ rfl rfl rfl rfl rfl) z6 hnx ?_
     have hrw := row_setCells HR_P.out (cs := #[.int .u64 f, .int .u64 h, .int .u64 l, .int .u64 n, .int .u64 m]) rfl
     have hbl := below_setCells (#[.int .u64 f, .int .u64 h, .int .u64 l, .int .u64 n, .int .u64 m] : Array Value).toList 0 z3 HBC.out HU_P.out
     rw [hnx] at hrw hbl
     have HR_P := Lib.hid hrw
     have HR_Q := Lib.hid ((congrArg (fun W : World => W.heap[Q]?) hnx).symm.trans ((heap_setCells_other _ 0 z3 (Ne.symm HN_P_Q.out)).trans HR_Q.out))
     have HBC := Lib.hid hbl
     clear hrw hbl hnx
     refine hK.out _ _ (mkS _ HBC.out) (fun hHeld2 => ?_)
     clear hK K hHeld
     have hHeld := hHeld2
     clear hHeld2
     try simp only [Act.put, List.setIfInBounds_toArray, List.set_cons_zero, List.set_cons_succ]
     refine wpAnyH_ready (rs := [7]) (by kernel_rfl) (by simp) (AllReadyH.cons (o := { dst := none, op := .store 124 (.tmp 6) (.tmp 10), type := 0, pos := "element.go:31", after := #[{ on := 5, ground := .data }, { on := 3, ground := .data }, { on := 6, ground := .chain }, { on := 0, ground := .phase }, { on := 1, ground := .phase }, { on := 2, ground := .phase }, { on := 3, ground := .phase }, { on := 4, ground := .phase }, { on := 5, ground := .phase }, { on := 6, ground := .phase }], guard := none }) rfl (fun K hK => ?_) AllReadyH.nil)
     try rw [if_pos (by rfl)]
     obtain ⟨z7, hnx⟩ : ∃ nx, World.setCells z6 Q 0 (#[.int .u64 f', .int .u64 h', .int .u64 l', .int .u64 n', .int .u64 m'] : Array Value).toList = nx := ⟨_, rfl⟩
     refine wp_store_as 124 (.tmp 6) (.tmp 10) rfl Q 0 #[.int .u64 f', .int .u64 h', .int .u64 l', .int .u64 n', .int .u64 m'] rfl rfl (there_row HR_Q.out 5 (show 5 ≤ 5 by decide)) (sz5k _ _ _ _ _) (one5 _ _ _ _ _ rfl rfl rfl rfl rfl) z7 hnx ?_
     have hrw := row_setCells HR_Q.out (cs := #[.int .u64 f', .int .u64 h', .int .u64 l', .int .u64 n', .int .u64 m']) rfl
     have hbl := below_setCells (#[.int .u64 f', .int .u64 h', .int .u64 l', .int .u64 n', .int .u64 m'] : Array Value).toList 0 z6 HBC.out HU_Q.out
     rw [hnx] at hrw hbl
     have HR_Q := Lib.hid hrw
     have HR_P := Lib.hid ((congrArg (fun W : World => W.heap[P]?) hnx).symm.trans ((heap_setCells_other _ 0 z6 HN_P_Q.out).trans HR_P.out))
     have HBC := Lib.hid hbl
     clear hrw hbl hnx
     refine hK.out _ _ (mkS _ HBC.out) (fun hHeld2 => ?_)
     clear hK K hHeld
     have hHeld := hHeld2
     clear hHeld2
     try simp only [Act.put, List.setIfInBounds_toArray, List.set_cons_zero, List.set_cons_succ]
     refine wpAnyH_done (by kernel_rfl) ?_ _
     go_wp2_with fail
     go_meet
     exact ⟨P, Q, rfl, rfl, HR_P.out, HR_Q.out, HBC.out⟩
   ·
    go_simp
    have hmr := heap_alloc_new z4 (.cells #[.int .u64 0, .int .u64 0, .int .u64 0, .int .u64 0, .int .u64 0] 124)
    have hb := below_new z4 (.cells #[.int .u64 0, .int .u64 0, .int .u64 0, .int .u64 0, .int .u64 0] 124)
    obtain ⟨Q, hM⟩ : ∃ M, z4.heap.size = M := ⟨_, rfl⟩
    have HU_Q := Lib.hid (show V.heap.size ≤ Q by have := HBC.out.size; omega)
    have HN_P_Q := Lib.hid (show P ≠ Q by have := (Array.getElem?_eq_some_iff.1 HR_P.out).1; omega)
    rw [hM] at hmr ⊢
    generalize World.alloc z4 _ = z5 at hmr hb ⊢
    have HBC := Lib.hid (chain HBC.out hb)
    have HR_P := Lib.hid (row_on HR_P.out hb)
    have HR_Q := Lib.hid hmr
    clear hb hmr hM
    refine hK.out _ _ (mkS _ HBC.out) (fun hHeld2 => ?_)
    clear hK K hHeld
    have hHeld := hHeld2
    clear hHeld2
    try simp only [Act.put, List.setIfInBounds_toArray, List.set_cons_zero, List.set_cons_succ]
    refine wpAnyH_ready (rs := [1]) (by kernel_rfl) (by simp) (AllReadyH.cons (o := { dst := some 8, op := .call { callee := .value (.func 76), args := #[.tmp 7], argTypes := #[75] }, type := 124, pos := "element.go:31", after := #[{ on := 0, ground := .data }], guard := none }) rfl (fun K hK => ?_) AllReadyH.nil)
    go_simp
    refine (HK1.out z5).mono ?_
    rintro e z1 ⟨rfl, hb⟩
    have HBC := Lib.hid (chain HBC.out hb)
    have HR_P := Lib.hid (row_on HR_P.out hb)
    have HR_Q := Lib.hid (row_on HR_Q.out hb)
    clear hb 
    go_simp
    refine hK.out _ _ (mkS _ HBC.out) (fun hHeld2 => ?_)
    clear hK K hHeld
    have hHeld := hHeld2
    clear hHeld2
    try simp only [Act.put, List.setIfInBounds_toArray, List.set_cons_zero, List.set_cons_succ]
    refine wpAnyH_ready (rs := [3]) (by kernel_rfl) (by simp) (AllReadyH.cons (o := { dst := some 10, op := .call { callee := .value (.func 76), args := #[.tmp 9], argTypes := #[75] }, type := 124, pos := "element.go:31", after := #[{ on := 2, ground := .data }, { on := 1, ground := .chain }], guard := none }) rfl (fun K hK => ?_) AllReadyH.nil)
    go_simp
    refine (HK2.out z1).mono ?_
    rintro e z3 ⟨rfl, hb⟩
    have HBC := Lib.hid (chain HBC.out hb)
    have HR_P := Lib.hid (row_on HR_P.out hb)
    have HR_Q := Lib.hid (row_on HR_Q.out hb)
    clear hb 
    go_simp
    refine hK.out _ _ (mkS _ HBC.out) (fun hHeld2 => ?_)
    clear hK K hHeld
    have hHeld := hHeld2
    clear hHeld2
    try simp only [Act.put, List.setIfInBounds_toArray, List.set_cons_zero, List.set_cons_succ]
    refine wpAnyH_ready (rs := [6]) (by kernel_rfl) (by simp) (AllReadyH.cons (o := { dst := none, op := .store 124 (.tmp 5) (.tmp 8), type := 0, pos := "element.go:31", after := #[{ on := 4, ground := .data }, { on := 1, ground := .data }, { on := 3, ground := .chain }, { on := 0, ground := .phase }, { on := 1, ground := .phase }, { on := 2, ground := .textOnly .lateStores }, { on := 3, ground := .phase }, { on := 4, ground := .phase }, { on := 5, ground := .phase }], guard := none }) rfl (fun K hK => ?_) AllReadyH.nil)
    try rw [if_pos (by rfl)]
    obtain ⟨z6, hnx⟩ : ∃ nx, World.setCells z3 P 0 (#[.int .u64 f, .int .u64 h, .int .u64 l, .int .u64 n, .int .u64 m] : Array Value).toList = nx := ⟨_, rfl⟩
    refine wp_store_as 124 (.tmp 5) (.tmp 8) rfl P 0 #[.int .u64 f, .int .u64 h, .int .u64 l, .int .u64 n, .int .u64 m] rfl rfl (there_row HR_P.out 5 (show 5 ≤ 5 by decide)) (sz5k _ _ _ _ _) (one5 _ _ _ _ _ rfl rfl rfl rfl rfl) z6 hnx ?_
    have hrw := row_setCells HR_P.out (cs := #[.int .u64 f, .int .u64 h, .int .u64 l, .int .u64 n, .int .u64 m]) rfl
    have hbl := below_setCells (#[.int .u64 f, .int .u64 h, .int .u64 l, .int .u64 n, .int .u64 m] : Array Value).toList 0 z3 HBC.out HU_P.out
    rw [hnx] at hrw hbl
    have HR_P := Lib.hid hrw
    have HR_Q := Lib.hid ((congrArg (fun W : World => W.heap[Q]?) hnx).symm.trans ((heap_setCells_other _ 0 z3 (Ne.symm HN_P_Q.out)).trans HR_Q.out))
    have HBC := Lib.hid hbl
    clear hrw hbl hnx
    refine hK.out _ _ (mkS _ HBC.out) (fun hHeld2 => ?_)
    clear hK K hHeld
    have hHeld := hHeld2
    clear hHeld2
    try simp only [Act.put, List.setIfInBounds_toArray, List.set_cons_zero, List.set_cons_succ]
    refine wpAnyH_ready (rs := [7]) (by kernel_rfl) (by simp) (AllReadyH.cons (o := { dst := none, op := .store 124 (.tmp 6) (.tmp 10), type := 0, pos := "element.go:31", after := #[{ on := 5, ground := .data }, { on := 3, ground := .data }, { on := 6, ground := .chain }, { on := 0, ground := .phase }, { on := 1, ground := .phase }, { on := 2, ground := .phase }, { on := 3, ground := .phase }, { on := 4, ground := .phase }, { on := 5, ground := .phase }, { on := 6, ground := .phase }], guard := none }) rfl (fun K hK => ?_) AllReadyH.nil)
    try rw [if_pos (by rfl)]
    obtain ⟨z7, hnx⟩ : ∃ nx, World.setCells z6 Q 0 (#[.int .u64 f', .int .u64 h', .int .u64 l', .int .u64 n', .int .u64 m'] : Array Value).toList = nx := ⟨_, rfl⟩
    refine wp_store_as 124 (.tmp 6) (.tmp 10) rfl Q 0 #[.int .u64 f', .int .u64 h', .int .u64 l', .int .u64 n', .int .u64 m'] rfl rfl (there_row HR_Q.out 5 (show 5 ≤ 5 by decide)) (sz5k _ _ _ _ _) (one5 _ _ _ _ _ rfl rfl rfl rfl rfl) z7 hnx ?_
    have hrw := row_setCells HR_Q.out (cs := #[.int .u64 f', .int .u64 h', .int .u64 l', .int .u64 n', .int .u64 m']) rfl
    have hbl := below_setCells (#[.int .u64 f', .int .u64 h', .int .u64 l', .int .u64 n', .int .u64 m'] : Array Value).toList 0 z6 HBC.out HU_Q.out
    rw [hnx] at hrw hbl
    have HR_Q := Lib.hid hrw
    have HR_P := Lib.hid ((congrArg (fun W : World => W.heap[P]?) hnx).symm.trans ((heap_setCells_other _ 0 z6 HN_P_Q.out).trans HR_P.out))
    have HBC := Lib.hid hbl
    clear hrw hbl hnx
    refine hK.out _ _ (mkS _ HBC.out) (fun hHeld2 => ?_)
    clear hK K hHeld
    have hHeld := hHeld2
    clear hHeld2
    try simp only [Act.put, List.setIfInBounds_toArray, List.set_cons_zero, List.set_cons_succ]
    refine wpAnyH_done (by kernel_rfl) ?_ _
    go_wp2_with fail
    go_meet
    exact ⟨P, Q, rfl, rfl, HR_P.out, HR_Q.out, HBC.out⟩
  ·
   go_simp
   have hmr := heap_alloc_new U (.cells #[.int .u64 0, .int .u64 0, .int .u64 0, .int .u64 0, .int .u64 0] 124)
   have hb := below_new U (.cells #[.int .u64 0, .int .u64 0, .int .u64 0, .int .u64 0, .int .u64 0] 124)
   obtain ⟨Q, hM⟩ : ∃ M, U.heap.size = M := ⟨_, rfl⟩
   have HU_Q := Lib.hid (show V.heap.size ≤ Q by have := HBC.out.size; omega)
   rw [hM] at hmr ⊢
   generalize World.alloc U _ = z5 at hmr hb ⊢
   have HBC := Lib.hid (chain HBC.out hb)
   have HR_Q := Lib.hid hmr
   clear hb hmr hM
   refine hK.out _ _ (mkS _ HBC.out) (fun hHeld2 => ?_)
   clear hK K hHeld
   have hHeld := hHeld2
   clear hHeld2
   try simp only [Act.put, List.setIfInBounds_toArray, List.set_cons_zero, List.set_cons_succ]
   refine wpAnyH_ready (rs := [1, 4]) (by kernel_rfl) (by simp) (AllReadyH.cons (o := { dst := some 8, op := .call { callee := .value (.func 76), args := #[.tmp 7], argTypes := #[75] }, type := 124, pos := "element.go:31", after := #[{ on := 0, ground := .data }], guard := none }) rfl (fun K hK => ?_) (AllReadyH.cons (o := { dst := some 5, op := .alloc 124, type := 0, pos := "element.go:31", after := #[], guard := none }) rfl (fun K hK => ?_) AllReadyH.nil))
   ·
    go_simp
    refine (HK1.out z5).mono ?_
    rintro e z1 ⟨rfl, hb⟩
    have HBC := Lib.hid (chain HBC.out hb)
    have HR_Q := Lib.hid (row_on HR_Q.out hb)
    clear hb 
    go_simp
    refine hK.out _ _ (mkS _ HBC.out) (fun hHeld2 => ?_)
    clear hK K hHeld
    have hHeld := hHeld2
    clear hHeld2
    try simp only [Act.put, List.setIfInBounds_toArray, List.set_cons_zero, List.set_cons_succ]
    refine wpAnyH_ready (rs := [3, 4]) (by kernel_rfl) (by simp) (AllReadyH.cons (o := { dst := some 10, op := .call { callee := .value (.func 76), args := #[.tmp 9], argTypes := #[75] }, type := 124, pos := "element.go:31", after := #[{ on := 2, ground := .data }, { on := 1, ground := .chain }], guard := none }) rfl (fun K hK => ?_) (AllReadyH.cons (o := { dst := some 5, op := .alloc 124, type := 0, pos := "element.go:31", after := #[], guard := none }) rfl (fun K hK => ?_) AllReadyH.nil))
    ·
     go_simp
     refine (HK2.out z1).mono ?_
     rintro e z3 ⟨rfl, hb⟩
     have HBC := Lib.hid (chain HBC.out hb)
     have HR_Q := Lib.hid (row_on HR_Q.out hb)
     clear hb 
     go_simp
     refine hK.out _ _ (mkS _ HBC.out) (fun hHeld2 => ?_)
     clear hK K hHeld
     have hHeld := hHeld2
     clear hHeld2
     try simp only [Act.put, List.setIfInBounds_toArray, List.set_cons_zero, List.set_cons_succ]
     refine wpAnyH_ready (rs := [4]) (by kernel_rfl) (by simp) (AllReadyH.cons (o := { dst := some 5, op := .alloc 124, type := 0, pos := "element.go:31", after := #[], guard := none }) rfl (fun K hK => ?_) AllReadyH.nil)
     go_simp
     have hmr := heap_alloc_new z3 (.cells #[.int .u64 0, .int .u64 0, .int .u64 0, .int .u64 0, .int .u64 0] 124)
     have hb := below_new z3 (.cells #[.int .u64 0, .int .u64 0, .int .u64 0, .int .u64 0, .int .u64 0] 124)
     obtain ⟨P, hM⟩ : ∃ M, z3.heap.size = M := ⟨_, rfl⟩
     have HU_P := Lib.hid (show V.heap.size ≤ P by have := HBC.out.size; omega)
     have HN_Q_P := Lib.hid (show Q ≠ P by have := (Array.getElem?_eq_some_iff.1 HR_Q.out).1; omega)
     rw [hM] at hmr ⊢
     generalize World.alloc z3 _ = z4 at hmr hb ⊢
     have HBC := Lib.hid (chain HBC.out hb)
     have HR_Q := Lib.hid (row_on HR_Q.out hb)
     have HR_P := Lib.hid hmr
     clear hb hmr hM
     refine hK.out _ _ (mkS _ HBC.out) (fun hHeld2 => ?_)
     clear hK K hHeld
     have hHeld := hHeld2
     clear hHeld2
     try simp only [Act.put, List.setIfInBounds_toArray, List.set_cons_zero, List.set_cons_succ]
     refine wpAnyH_ready (rs := [6]) (by kernel_rfl) (by simp) (AllReadyH.cons (o := { dst := none, op := .store 124 (.tmp 5) (.tmp 8), type := 0, pos := "element.go:31", after := #[{ on := 4, ground := .data }, { on := 1, ground := .data }, { on := 3, ground := .chain }, { on := 0, ground := .phase }, { on := 1, ground := .phase }, { on := 2, ground := .textOnly .lateStores }, { on := 3, ground := .phase }, { on := 4, ground := .phase }, { on := 5, ground := .phase }], guard := none }) rfl (fun K hK => ?_) AllReadyH.nil)
     try rw [if_pos (by rfl)]
     obtain ⟨z6, hnx⟩ : ∃ nx, World.setCells z4 P 0 (#[.int .u64 f, .int .u64 h, .int .u64 l, .int .u64 n, .int .u64 m] : Array Value).toList = nx := ⟨_, rfl⟩
     refine wp_store_as 124 (.tmp 5) (.tmp 8) rfl P 0 #[.int .u64 f, .int .u64 h, .int .u64 l, .int .u64 n, .int .u64 m] rfl rfl (there_row HR_P.out 5 (show 5 ≤ 5 by decide)) (sz5k _ _ _ _ _) (one5 _ _ _ _ _ rfl rfl rfl rfl rfl) z6 hnx ?_
     have hrw := row_setCells HR_P.out (cs := #[.int .u64 f, .int .u64 h, .int .u64 l, .int .u64 n, .int .u64 m]) rfl
     have hbl := below_setCells (#[.int .u64 f, .int .u64 h, .int .u64 l, .int .u64 n, .int .u64 m] : Array Value).toList 0 z4 HBC.out HU_P.out
     rw [hnx] at hrw hbl
     have HR_P := Lib.hid hrw
     have HR_Q := Lib.hid ((congrArg (fun W : World => W.heap[Q]?) hnx).symm.trans ((heap_setCells_other _ 0 z4 HN_Q_P.out).trans HR_Q.out))
     have HBC := Lib.hid hbl
     clear hrw hbl hnx
     refine hK.out _ _ (mkS _ HBC.out) (fun hHeld2 => ?_)
     clear hK K hHeld
     have hHeld := hHeld2
     clear hHeld2
     try simp only [Act.put, List.setIfInBounds_toArray, List.set_cons_zero, List.set_cons_succ]
     refine wpAnyH_ready (rs := [7]) (by kernel_rfl) (by simp) (AllReadyH.cons (o := { dst := none, op := .store 124 (.tmp 6) (.tmp 10), type := 0, pos := "element.go:31", after := #[{ on := 5, ground := .data }, { on := 3, ground := .data }, { on := 6, ground := .chain }, { on := 0, ground := .phase }, { on := 1, ground := .phase }, { on := 2, ground := .phase }, { on := 3, ground := .phase }, { on := 4, ground := .phase }, { on := 5, ground := .phase }, { on := 6, ground := .phase }], guard := none }) rfl (fun K hK => ?_) AllReadyH.nil)
     try rw [if_pos (by rfl)]
     obtain ⟨z7, hnx⟩ : ∃ nx, World.setCells z6 Q 0 (#[.int .u64 f', .int .u64 h', .int .u64 l', .int .u64 n', .int .u64 m'] : Array Value).toList = nx := ⟨_, rfl⟩
     refine wp_store_as 124 (.tmp 6) (.tmp 10) rfl Q 0 #[.int .u64 f', .int .u64 h', .int .u64 l', .int .u64 n', .int .u64 m'] rfl rfl (there_row HR_Q.out 5 (show 5 ≤ 5 by decide)) (sz5k _ _ _ _ _) (one5 _ _ _ _ _ rfl rfl rfl rfl rfl) z7 hnx ?_
     have hrw := row_setCells HR_Q.out (cs := #[.int .u64 f', .int .u64 h', .int .u64 l', .int .u64 n', .int .u64 m']) rfl
     have hbl := below_setCells (#[.int .u64 f', .int .u64 h', .int .u64 l', .int .u64 n', .int .u64 m'] : Array Value).toList 0 z6 HBC.out HU_Q.out
     rw [hnx] at hrw hbl
     have HR_Q := Lib.hid hrw
     have HR_P := Lib.hid ((congrArg (fun W : World => W.heap[P]?) hnx).symm.trans ((heap_setCells_other _ 0 z6 (Ne.symm HN_Q_P.out)).trans HR_P.out))
     have HBC := Lib.hid hbl
     clear hrw hbl hnx
     refine hK.out _ _ (mkS _ HBC.out) (fun hHeld2 => ?_)
     clear hK K hHeld
     have hHeld := hHeld2
     clear hHeld2
     try simp only [Act.put, List.setIfInBounds_toArray, List.set_cons_zero, List.set_cons_succ]
     refine wpAnyH_done (by kernel_rfl) ?_ _
     go_wp2_with fail
     go_meet
     exact ⟨P, Q, rfl, rfl, HR_P.out, HR_Q.out, HBC.out⟩
    ·
     go_simp
     have hmr := heap_alloc_new z1 (.cells #[.int .u64 0, .int .u64 0, .int .u64 0, .int .u64 0, .int .u64 0] 124)
     have hb := below_new z1 (.cells #[.int .u64 0, .int .u64 0, .int .u64 0, .int .u64 0, .int .u64 0] 124)
     obtain ⟨P, hM⟩ : ∃ M, z1.heap.size = M := ⟨_, rfl⟩
     have HU_P := Lib.hid (show V.heap.size ≤ P by have := HBC.out.size; omega)
     have HN_Q_P := Lib.hid (show Q ≠ P by have := (Array.getElem?_eq_some_iff.1 HR_Q.out).1; omega)
     rw [hM] at hmr ⊢
     generalize World.alloc z1 _ = z4 at hmr hb ⊢
     have HBC := Lib.hid (chain HBC.out hb)
     have HR_Q := Lib.hid (row_on HR_Q.out hb)
     have HR_P := Lib.hid hmr
     clear hb hmr hM
     refine hK.out _ _ (mkS _ HBC.out) (fun hHeld2 => ?_)
     clear hK K hHeld
     have hHeld := hHeld2
     clear hHeld2
     try simp only [Act.put, List.setIfInBounds_toArray, List.set_cons_zero, List.set_cons_succ]
     refine wpAnyH_ready (rs := [3]) (by kernel_rfl) (by simp) (AllReadyH.cons (o := { dst := some 10, op := .call { callee := .value (.func 76), args := #[.tmp 9], argTypes := #[75] }, type := 124, pos := "element.go:31", after := #[{ on := 2, ground := .data }, { on := 1, ground := .chain }], guard := none }) rfl (fun K hK => ?_) AllReadyH.nil)
     go_simp
     refine (HK2.out z4).mono ?_
     rintro e z3 ⟨rfl, hb⟩
     have HBC := Lib.hid (chain HBC.out hb)
     have HR_Q := Lib.hid (row_on HR_Q.out hb)
     have HR_P := Lib.hid (row_on HR_P.out hb)
     clear hb 
     go_simp
     refine hK.out _ _ (mkS _ HBC.out) (fun hHeld2 => ?_)
     clear hK K hHeld
     have hHeld := hHeld2
     clear hHeld2
     try simp only [Act.put, List.setIfInBounds_toArray, List.set_cons_zero, List.set_cons_succ]
     refine wpAnyH_ready (rs := [6]) (by kernel_rfl) (by simp) (AllReadyH.cons (o := { dst := none, op := .store 124 (.tmp 5) (.tmp 8), type := 0, pos := "element.go:31", after := #[{ on := 4, ground := .data }, { on := 1, ground := .data }, { on := 3, ground := .chain }, { on := 0, ground := .phase }, { on := 1, ground := .phase }, { on := 2, ground := .textOnly .lateStores }, { on := 3, ground := .phase }, { on := 4, ground := .phase }, { on := 5, ground := .phase }], guard := none }) rfl (fun K hK => ?_) AllReadyH.nil)
     try rw [if_pos (by rfl)]
     obtain ⟨z6, hnx⟩ : ∃ nx, World.setCells z3 P 0 (#[.int .u64 f, .int .u64 h, .int .u64 l, .int .u64 n, .int .u64 m] : Array Value).toList = nx := ⟨_, rfl⟩
     refine wp_store_as 124 (.tmp 5) (.tmp 8) rfl P 0 #[.int .u64 f, .int .u64 h, .int .u64 l, .int .u64 n, .int .u64 m] rfl rfl (there_row HR_P.out 5 (show 5 ≤ 5 by decide)) (sz5k _ _ _ _ _) (one5 _ _ _ _ _ rfl rfl rfl rfl rfl) z6 hnx ?_
     have hrw := row_setCells HR_P.out (cs := #[.int .u64 f, .int .u64 h, .int .u64 l, .int .u64 n, .int .u64 m]) rfl
     have hbl := below_setCells (#[.int .u64 f, .int .u64 h, .int .u64 l, .int .u64 n, .int .u64 m] : Array Value).toList 0 z3 HBC.out HU_P.out
     rw [hnx] at hrw hbl
     have HR_P := Lib.hid hrw
     have HR_Q := Lib.hid ((congrArg (fun W : World => W.heap[Q]?) hnx).symm.trans ((heap_setCells_other _ 0 z3 HN_Q_P.out).trans HR_Q.out))
     have HBC := Lib.hid hbl
     clear hrw hbl hnx
     refine hK.out _ _ (mkS _ HBC.out) (fun hHeld2 => ?_)
     clear hK K hHeld
     have hHeld := hHeld2
     clear hHeld2
     try simp only [Act.put, List.setIfInBounds_toArray, List.set_cons_zero, List.set_cons_succ]
     refine wpAnyH_ready (rs := [7]) (by kernel_rfl) (by simp) (AllReadyH.cons (o := { dst := none, op := .store 124 (.tmp 6) (.tmp 10), type := 0, pos := "element.go:31", after := #[{ on := 5, ground := .data }, { on := 3, ground := .data }, { on := 6, ground := .chain }, { on := 0, ground := .phase }, { on := 1, ground := .phase }, { on := 2, ground := .phase }, { on := 3, ground := .phase }, { on := 4, ground := .phase }, { on := 5, ground := .phase }, { on := 6, ground := .phase }], guard := none }) rfl (fun K hK => ?_) AllReadyH.nil)
     try rw [if_pos (by rfl)]
     obtain ⟨z7, hnx⟩ : ∃ nx, World.setCells z6 Q 0 (#[.int .u64 f', .int .u64 h', .int .u64 l', .int .u64 n', .int .u64 m'] : Array Value).toList = nx := ⟨_, rfl⟩
     refine wp_store_as 124 (.tmp 6) (.tmp 10) rfl Q 0 #[.int .u64 f', .int .u64 h', .int .u64 l', .int .u64 n', .int .u64 m'] rfl rfl (there_row HR_Q.out 5 (show 5 ≤ 5 by decide)) (sz5k _ _ _ _ _) (one5 _ _ _ _ _ rfl rfl rfl rfl rfl) z7 hnx ?_
     have hrw := row_setCells HR_Q.out (cs := #[.int .u64 f', .int .u64 h', .int .u64 l', .int .u64 n', .int .u64 m']) rfl
     have hbl := below_setCells (#[.int .u64 f', .int .u64 h', .int .u64 l', .int .u64 n', .int .u64 m'] : Array Value).toList 0 z6 HBC.out HU_Q.out
     rw [hnx] at hrw hbl
     have HR_Q := Lib.hid hrw
     have HR_P := Lib.hid ((congrArg (fun W : World => W.heap[P]?) hnx).symm.trans ((heap_setCells_other _ 0 z6 (Ne.symm HN_Q_P.out)).trans HR_P.out))
     have HBC := Lib.hid hbl
     clear hrw hbl hnx
     refine hK.out _ _ (mkS _ HBC.out) (fun hHeld2 => ?_)
     clear hK K hHeld
     have hHeld := hHeld2
     clear hHeld2
     try simp only [Act.put, List.setIfInBounds_toArray, List.set_cons_zero, List.set_cons_succ]
     refine wpAnyH_done (by kernel_rfl) ?_ _
     go_wp2_with fail
     go_meet
     exact ⟨P, Q, rfl, rfl, HR_P.out, HR_Q.out, HBC.out⟩
   ·
    go_simp
    have hmr := heap_alloc_new z5 (.cells #[.int .u64 0, .int .u64 0, .int .u64 0, .int .u64 0, .int .u64 0] 124)
    have hb := below_new z5 (.cells #[.int .u64 0, .int .u64 0, .int .u64 0, .int .u64 0, .int .u64 0] 124)
    obtain ⟨P, hM⟩ : ∃ M, z5.heap.size = M := ⟨_, rfl⟩
    have HU_P := Lib.hid (show V.heap.size ≤ P by have := HBC.out.size; omega)
    have HN_Q_P := Lib.hid (show Q ≠ P by have := (Array.getElem?_eq_some_iff.1 HR_Q.out).1; omega)
    rw [hM] at hmr ⊢
    generalize World.alloc z5 _ = z4 at hmr hb ⊢
    have HBC := Lib.hid (chain HBC.out hb)
    have HR_Q := Lib.hid (row_on HR_Q.out hb)
    have HR_P := Lib.hid hmr
    clear hb hmr hM
    refine hK.out _ _ (mkS _ HBC.out) (fun hHeld2 => ?_)
    clear hK K hHeld
    have hHeld := hHeld2
    clear hHeld2
    try simp only [Act.put, List.setIfInBounds_toArray, List.set_cons_zero, List.set_cons_succ]
    refine wpAnyH_ready (rs := [1]) (by kernel_rfl) (by simp) (AllReadyH.cons (o := { dst := some 8, op := .call { callee := .value (.func 76), args := #[.tmp 7], argTypes := #[75] }, type := 124, pos := "element.go:31", after := #[{ on := 0, ground := .data }], guard := none }) rfl (fun K hK => ?_) AllReadyH.nil)
    go_simp
    refine (HK1.out z4).mono ?_
    rintro e z1 ⟨rfl, hb⟩
    have HBC := Lib.hid (chain HBC.out hb)
    have HR_Q := Lib.hid (row_on HR_Q.out hb)
    have HR_P := Lib.hid (row_on HR_P.out hb)
    clear hb 
    go_simp
    refine hK.out _ _ (mkS _ HBC.out) (fun hHeld2 => ?_)
    clear hK K hHeld
    have hHeld := hHeld2
    clear hHeld2
    try simp only [Act.put, List.setIfInBounds_toArray, List.set_cons_zero, List.set_cons_succ]
    refine wpAnyH_ready (rs := [3]) (by kernel_rfl) (by simp) (AllReadyH.cons (o := { dst := some 10, op := .call { callee := .value (.func 76), args := #[.tmp 9], argTypes := #[75] }, type := 124, pos := "element.go:31", after := #[{ on := 2, ground := .data }, { on := 1, ground := .chain }], guard := none }) rfl (fun K hK => ?_) AllReadyH.nil)
    go_simp
    refine (HK2.out z1).mono ?_
    rintro e z3 ⟨rfl, hb⟩
    have HBC := Lib.hid (chain HBC.out hb)
    have HR_Q := Lib.hid (row_on HR_Q.out hb)
    have HR_P := Lib.hid (row_on HR_P.out hb)
    clear hb 
    go_simp
    refine hK.out _ _ (mkS _ HBC.out) (fun hHeld2 => ?_)
    clear hK K hHeld
    have hHeld := hHeld2
    clear hHeld2
    try simp only [Act.put, List.setIfInBounds_toArray, List.set_cons_zero, List.set_cons_succ]
    refine wpAnyH_ready (rs := [6]) (by kernel_rfl) (by simp) (AllReadyH.cons (o := { dst := none, op := .store 124 (.tmp 5) (.tmp 8), type := 0, pos := "element.go:31", after := #[{ on := 4, ground := .data }, { on := 1, ground := .data }, { on := 3, ground := .chain }, { on := 0, ground := .phase }, { on := 1, ground := .phase }, { on := 2, ground := .textOnly .lateStores }, { on := 3, ground := .phase }, { on := 4, ground := .phase }, { on := 5, ground := .phase }], guard := none }) rfl (fun K hK => ?_) AllReadyH.nil)
    try rw [if_pos (by rfl)]
    obtain ⟨z6, hnx⟩ : ∃ nx, World.setCells z3 P 0 (#[.int .u64 f, .int .u64 h, .int .u64 l, .int .u64 n, .int .u64 m] : Array Value).toList = nx := ⟨_, rfl⟩
    refine wp_store_as 124 (.tmp 5) (.tmp 8) rfl P 0 #[.int .u64 f, .int .u64 h, .int .u64 l, .int .u64 n, .int .u64 m] rfl rfl (there_row HR_P.out 5 (show 5 ≤ 5 by decide)) (sz5k _ _ _ _ _) (one5 _ _ _ _ _ rfl rfl rfl rfl rfl) z6 hnx ?_
    have hrw := row_setCells HR_P.out (cs := #[.int .u64 f, .int .u64 h, .int .u64 l, .int .u64 n, .int .u64 m]) rfl
    have hbl := below_setCells (#[.int .u64 f, .int .u64 h, .int .u64 l, .int .u64 n, .int .u64 m] : Array Value).toList 0 z3 HBC.out HU_P.out
    rw [hnx] at hrw hbl
    have HR_P := Lib.hid hrw
    have HR_Q := Lib.hid ((congrArg (fun W : World => W.heap[Q]?) hnx).symm.trans ((heap_setCells_other _ 0 z3 HN_Q_P.out).trans HR_Q.out))
    have HBC := Lib.hid hbl
    clear hrw hbl hnx
    refine hK.out _ _ (mkS _ HBC.out) (fun hHeld2 => ?_)
    clear hK K hHeld
    have hHeld := hHeld2
    clear hHeld2
    try simp only [Act.put, List.setIfInBounds_toArray, List.set_cons_zero, List.set_cons_succ]
    refine wpAnyH_ready (rs := [7]) (by kernel_rfl) (by simp) (AllReadyH.cons (o := { dst := none, op := .store 124 (.tmp 6) (.tmp 10), type := 0, pos := "element.go:31", after := #[{ on := 5, ground := .data }, { on := 3, ground := .data }, { on := 6, ground := .chain }, { on := 0, ground := .phase }, { on := 1, ground := .phase }, { on := 2, ground := .phase }, { on := 3, ground := .phase }, { on := 4, ground := .phase }, { on := 5, ground := .phase }, { on := 6, ground := .phase }], guard := none }) rfl (fun K hK => ?_) AllReadyH.nil)
    try rw [if_pos (by rfl)]
    obtain ⟨z7, hnx⟩ : ∃ nx, World.setCells z6 Q 0 (#[.int .u64 f', .int .u64 h', .int .u64 l', .int .u64 n', .int .u64 m'] : Array Value).toList = nx := ⟨_, rfl⟩
    refine wp_store_as 124 (.tmp 6) (.tmp 10) rfl Q 0 #[.int .u64 f', .int .u64 h', .int .u64 l', .int .u64 n', .int .u64 m'] rfl rfl (there_row HR_Q.out 5 (show 5 ≤ 5 by decide)) (sz5k _ _ _ _ _) (one5 _ _ _ _ _ rfl rfl rfl rfl rfl) z7 hnx ?_
    have hrw := row_setCells HR_Q.out (cs := #[.int .u64 f', .int .u64 h', .int .u64 l', .int .u64 n', .int .u64 m']) rfl
    have hbl := below_setCells (#[.int .u64 f', .int .u64 h', .int .u64 l', .int .u64 n', .int .u64 m'] : Array Value).toList 0 z6 HBC.out HU_Q.out
    rw [hnx] at hrw hbl
    have HR_Q := Lib.hid hrw
    have HR_P := Lib.hid ((congrArg (fun W : World => W.heap[P]?) hnx).symm.trans ((heap_setCells_other _ 0 z6 (Ne.symm HN_Q_P.out)).trans HR_P.out))
    have HBC := Lib.hid hbl
    clear hrw hbl hnx
    refine hK.out _ _ (mkS _ HBC.out) (fun hHeld2 => ?_)
    clear hK K hHeld
    have hHeld := hHeld2
    clear hHeld2
    try simp only [Act.put, List.setIfInBounds_toArray, List.set_cons_zero, List.set_cons_succ]
    refine wpAnyH_done (by kernel_rfl) ?_ _
    go_wp2_with fail
    go_meet
    exact ⟨P, Q, rfl, rfl, HR_P.out, HR_Q.out, HBC.out⟩
 case rest =>
  obtain ⟨P, Q, rfl, rfl, hP, hQ, hbw⟩ := hcut
  obtain ⟨W, hW⟩ : ∃ W, wc = W := ⟨_, rfl⟩
  subst hW
  have HBW := Lib.hid (chain HB0.out hbw)
  have HC := Lib.hid (fun (z : World) (hz : Below wc.heap.size wc z) => scmp_any [f, h, l, n, m] [f', h', l', n', m'] 5 rfl rfl (by decide) (some ⟨P, 0, none⟩) (some ⟨Q, 0, none⟩) 5 5 z (Nums.of5 (row_on hP hz)) (Nums.of5 (row_on hQ hz)))
  clear hP hQ hbw
  go_upto_region 2 with (fail)
  refine wp_region_held_drew (S := fun _ => True) (by kernel_rfl) trivial (fun hHeld => ?_)
  generalize hU : World.drew wc = U2 at hHeld ⊢
  have hbU : Below wc.heap.size wc U2 := by rw [← hU]; exact (Below.refl _ _).drew
  clear hU
  have mkS : ∀ z, Below wc.heap.size wc z → (fun (_ : World) => True) z := fun _ _ => trivial
  have HBC := Lib.hid hbU
  clear hbU
  refine wpAnyH_take (i := 0) (oi := { dst := some 11, op := .slice 124 (.tmp 5) none none none, type := 138, pos := "element.go:32", after := #[], guard := none }) (v := ?_) rfl (by kernel_rfl) (by kernel_rfl) (by kernel_rfl) (fun _ _ _ h => h) (Or.inl ⟨by rfl, ?_⟩) hHeld ?_
  rotate_left
  ·
   intro w hSw
   clear hSw
   go_simp
   try with_reducible rfl
  try simp only [Act.put, List.setIfInBounds_toArray, List.set_cons_zero, List.set_cons_succ]
  refine wpAnyH_take (i := 1) (oi := { dst := some 12, op := .slice 124 (.tmp 6) none none none, type := 138, pos := "element.go:32", after := #[], guard := none }) (v := ?_) rfl (by kernel_rfl) (by kernel_rfl) (by kernel_rfl) (fun _ _ _ h => h) (Or.inl ⟨by rfl, ?_⟩) hHeld ?_
  rotate_left
  ·
   intro w hSw
   clear hSw
   go_simp
   try with_reducible rfl
  try simp only [Act.put, List.setIfInBounds_toArray, List.set_cons_zero, List.set_cons_succ]
  refine wpAnyH_ready (rs := [2]) (by kernel_rfl) (by simp) (AllReadyH.cons (o := { dst := some 13, op := .call { callee := .value (.func 92), args := #[.tmp 11, .tmp 12], argTypes := #[138, 138] }, type := 3, pos := "element.go:32", after := #[{ on := 0, ground := .data }, { on := 1, ground := .data }], guard := none }) rfl (fun K hK => ?_) AllReadyH.nil)
  go_simp
  refine (HC.out U2 HBC.out).mono ?_
  rintro e z2 ⟨rfl, hb⟩
  have HBC := Lib.hid (chain HBC.out hb)
  clear hb 
  go_simp
  refine hK.out _ _ (mkS _ HBC.out) (fun hHeld2 => ?_)
  clear hK K hHeld
  have hHeld := hHeld2
  clear hHeld2
  try simp only [Act.put, List.setIfInBounds_toArray, List.set_cons_zero, List.set_cons_succ]
  refine wpAnyH_take (i := 3) (oi := { dst := some 14, op := .binOp .lss 3 (.tmp 13) (.const (.int .i64 0)) 3, type := 4, pos := "element.go:32", after := #[{ on := 2, ground := .data }], guard := none }) (v := ?_) rfl (by kernel_rfl) (by kernel_rfl) (by kernel_rfl) (fun _ _ _ h => h) (Or.inl ⟨by rfl, ?_⟩) hHeld ?_
  rotate_left
  ·
   intro w hSw
   clear hSw
   go_simp
   try with_reducible rfl
  try simp only [Act.put, List.setIfInBounds_toArray, List.set_cons_zero, List.set_cons_succ]
  refine wpAnyH_take (i := 4) (oi := { dst := some 4, op := .assign (.tmp 14), type := 4, pos := "element.go:32", after := #[{ on := 3, ground := .data }, { on := 2, ground := .chain }, { on := 0, ground := .phase }, { on := 1, ground := .phase }, { on := 2, ground := .phase }, { on := 3, ground := .phase }], guard := none }) (v := ?_) rfl (by kernel_rfl) (by kernel_rfl) (by kernel_rfl) (fun _ _ _ h => h) (Or.inl ⟨by rfl, ?_⟩) hHeld ?_
  rotate_left
  ·
   intro w hSw
   clear hSw
   go_simp
   try with_reducible rfl
  try simp only [Act.put, List.setIfInBounds_toArray, List.set_cons_zero, List.set_cons_succ]
  refine wpAnyH_done (by kernel_rfl) ?_ _
  go_wp2_with fail
  go_ret
  exact ⟨by rw [HR.out]; rfl, chain HBW.out HBC.out⟩
end Ro
end Go.Proofs.Ythfgdgcdicacpaa
