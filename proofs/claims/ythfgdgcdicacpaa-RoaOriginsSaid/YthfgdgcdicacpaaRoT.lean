import Derived.Test.YthfgdgcdicacpaaRoK
namespace Go.Proofs.Ythfgdgcdicacpaa
namespace Ro
open Go.RowKit Sha Oc En Adr
set_option linter.unusedVariables false
set_option linter.unusedSimpArgs false
abbrev cO (s : Int) (x : Ap) : List Value := [.int .u32 s, .int .u8 x.f, .int .u64 x.h, .int .u64 x.l, .int .i64 x.n, .int .i64 x.m]
def rowO (s : Int) : List Ap → List Value
 | [] => []
 | x :: r => cO s x ++ rowO s r
theorem rowO_app (s : Int) : ∀ (l : List Ap) (x : Ap), rowO s (l ++ [x]) = rowO s l ++ cO s x
 | [], x => by rw [List.nil_append, rowO, rowO, rowO, List.append_nil, List.nil_append]
 | y :: r, x => by rw [List.cons_append, rowO, rowO, rowO_app s r x, List.append_assoc]
theorem rowO_at (s : Int) : ∀ (l : List Ap) (k : Nat) (x : Ap), l[k]? = some x → ∀ j v, (cO s x)[j]? = some v → (rowO s l)[k * 6 + j]? = some v
 | [], k, x, h, _, _, _ => by simp at h
 | y :: r, 0, x, h, j, v, hv => by
  obtain rfl := Option.some.inj h
  have hj := (List.getElem?_eq_some_iff.1 hv).1
  rw [rowO, List.getElem?_append_left (by simpa using hj), Nat.zero_mul, Nat.zero_add]
  exact hv
 | y :: r, k + 1, x, h, j, v, hv => by
  rw [rowO, List.getElem?_append_right (by simp; omega)]
  have e : (k + 1) * 6 + j - (cO s y).length = k * 6 + j := by simp; omega
  rw [e]
  exact rowO_at s r k x h j v hv
structure Ogs (s : Int) (A : Option Addr) (ls : List Ap) (w : World) : Prop where
 row : ∀ (k : Nat) (x : Ap), ls[k]? = some x → ∃ g o, A = some ⟨g, o, none⟩ ∧ w.rangeAt g (o + k * 6) (cO s x)
theorem Ogs.on {s : Int} {A : Option Addr} {ls : List Ap} {w V : World} (h : Ogs s A ls w) (hb : Below w.heap.size w V) : Ogs s A ls V :=
 ⟨fun k x hk => by obtain ⟨g, o, e, hr⟩ := h.row k x hk; exact ⟨g, o, e, rangeAt_on hr hb⟩⟩
theorem ogs_own {w : World} {base k : Nat} {s : Int} {A : Option Addr} {c : Nat} {l : List Ap} (h : w.ownsRow base 58 6 (.slice A k c) k (rowO s l)) : (A = none → c = 0) ∧ Ogs s A l w := by
 obtain ⟨h1, ⟨h2, h3⟩ | ⟨g, cap, cur, h2, h3, h4, h5, h6, h7, h8⟩⟩ := h
 ·
  cases h2
  refine ⟨fun _ => rfl, ⟨fun i x hi => ?_⟩⟩
  cases l with
  | nil => simp at hi
  | cons y r => rw [h3, rowO] at h1; simp at h1
 ·
  cases h2
  refine ⟨(fun e => by cases e), ⟨fun i x hi => ⟨g, 0, rfl, fun j v hj => ?_⟩⟩⟩
  have hp := rowO_at s l i x hi j v hj
  rw [cell_of_row _ _ _ _ _ _ h4, ← Array.getElem?_toList, Nat.zero_add]
  rw [← h8, List.getElem?_take] at hp
  split at hp
  ·
   exact hp
  ·
   cases hp
theorem own_slO {w : World} {b n : Nat} {v : Value} {xs : List Value} (h : w.ownsRow b 58 6 v n xs) : ∃ A cap, v = .slice A n cap := by
 obtain ⟨_, ⟨rfl, rfl⟩ | ⟨g, cap, cur, rfl, _⟩⟩ := h
 ·
  exact ⟨_, _, rfl⟩
 ·
  exact ⟨_, cap, rfl⟩
theorem Try.info_og : (Try.prog.info? 58).map (fun i => (i.zero, i.size, i.bytes)) = some (some (.agg #[.int .u32 0, .int .u8 0, .int .u64 0, .int .u64 0, .int .i64 0, .int .i64 0]), 6, 48) := by kernel_rfl
theorem sz6o (a b c d e f : Value) : (Try.prog.info? 58).map (·.size) = some ([a, b, c, d, e, f] : List Value).length := by
 show _ = some 6
 kernel_rfl
theorem cell_six_new (w : World) (a b c d e f : Value) (t : TypeId) : ∀ j u, ([a, b, c, d, e, f] : List Value)[j]? = some u → (w.alloc (.cells #[a, b, c, d, e, f] t)).cell? ((⟨w.heap.size, 0, none⟩ : Addr).add j) = some u := fun j u hj => by
 have h := heap_alloc_new w (.cells #[a, b, c, d, e, f] t)
 have e2 : (⟨w.heap.size, 0, none⟩ : Addr).add j = ⟨w.heap.size, j, none⟩ := by unfold Addr.add; split <;> simp_all
 rw [e2, cell_of_row _ _ _ _ _ _ h]
 simpa using hj
theorem f61 {V : World} {M : Nat} {a b c d e f : Value} {T : TypeId} (H : V.heap[M]? = some (.cells #[a, b, c, d, e, f] T (0, 0))) : V.frozen? ⟨M, 0, none⟩ = false ∧ V.frozen? ⟨M, 1, none⟩ = false ∧ V.frozen? ⟨M, 2, none⟩ = false ∧ V.frozen? ⟨M, 3, none⟩ = false ∧ V.frozen? ⟨M, 4, none⟩ = false ∧ V.frozen? ⟨M, 5, none⟩ = false := ⟨frozen_of_row _ _ _ _ _ H, frozen_of_row _ _ _ _ _ H, frozen_of_row _ _ _ _ _ H, frozen_of_row _ _ _ _ _ H, frozen_of_row _ _ _ _ _ H, frozen_of_row _ _ _ _ _ H⟩
theorem facts6 {V : World} {M : Nat} {a b c d e f : Value} {T : TypeId} (H : V.heap[M]? = some (.cells #[a, b, c, d, e, f] T (0, 0))) : M < V.heap.size ∧ V.cell? ⟨M, 0, none⟩ = some a ∧ V.cell? ⟨M, 1, none⟩ = some b ∧ V.cell? ⟨M, 2, none⟩ = some c ∧ V.cell? ⟨M, 3, none⟩ = some d ∧ V.cell? ⟨M, 4, none⟩ = some e ∧ V.cell? ⟨M, 5, none⟩ = some f :=
 ⟨(Array.getElem?_eq_some_iff.1 H).1, cell_of_row _ _ _ _ _ _ H, cell_of_row _ _ _ _ _ _ H, cell_of_row _ _ _ _ _ _ H, cell_of_row _ _ _ _ _ _ H, cell_of_row _ _ _ _ _ _ H, cell_of_row _ _ _ _ _ _ H⟩
set_option maxRecDepth 100000 in
set_option maxHeartbeats 2000000 in
theorem org1_any (s : Int) (v9 : Value) (f h l n m : Int) (P : Nat) (w : World) (hP : w.heap[P]? = some (.cells #[.int .u32 s, v9] 25 (0, 0))) :
  Calls Try.prog 41 #[.agg #[.int .u8 f, .int .u64 h, .int .u64 l, .int .i64 n, .int .i64 m], .pointer (some ⟨P, 0, none⟩)] w fun e w' => e = .returned (.tuple #[.agg #[.int .u32 s, .int .u8 f, .int .u64 h, .int .u64 l, .int .i64 n, .int .i64 m], .bool true]) ∧ Below w.heap.size w w' := by
 have HB0 := Lib.hid ((below_new w (.cells #[.int .u8 f, .int .u64 h, .int .u64 l, .int .i64 n, .int .i64 m] 75)).alloc (by simp) (.cells #[.int .u32 0, .int .u8 0, .int .u64 0, .int .u64 0, .int .i64 0, .int .i64 0] 58))
 have HR0 := Lib.hid (heap_alloc2_oldR w (.cells #[.int .u8 f, .int .u64 h, .int .u64 l, .int .i64 n, .int .i64 m] 75) (.cells #[.int .u32 0, .int .u8 0, .int .u64 0, .int .u64 0, .int .i64 0, .int .i64 0] 58))
 have HO0 := Lib.hid (heap_alloc2_newR w (.cells #[.int .u8 f, .int .u64 h, .int .u64 l, .int .i64 n, .int .i64 m] 75) (.cells #[.int .u32 0, .int .u8 0, .int .u64 0, .int .u64 0, .int .i64 0, .int .i64 0] 58))
 have HP0 := Lib.hid (row_on hP HB0.out)
 clear hP
 go_enter Try.func41, Try.ntmps41
 go_upto_region 1 with (fail)
 generalize hV : World.alloc (World.alloc w _) _ = V at HB0 HR0 HO0 HP0 ⊢
 clear hV
 obtain ⟨hlt, c0, c1, c2, c3, c4⟩ := facts5 HR0.out
 obtain ⟨hlt', p0, p1⟩ := facts2 HP0.out
 obtain ⟨hlo, o0, o1, o2, o3, o4, o5⟩ := facts6 HO0.out
 obtain ⟨f0, f1, f2, f3, f4, f5⟩ := f61 HO0.out
 go_wp2_with fail
 have hrw := row_setCells HO0.out (cs := #[.int .u32 s, .int .u8 f, .int .u64 h, .int .u64 l, .int .i64 n, .int .i64 m]) rfl
 have hbl := below_setCells (#[.int .u32 s, .int .u8 f, .int .u64 h, .int .u64 l, .int .i64 n, .int .i64 m] : Array Value).toList 0 V HB0.out (show w.heap.size ≤ w.heap.size + 1 by omega)
 have e9 : ∀ a b c d e g : Value, (((((V.setCell ⟨w.heap.size + 1, 0, none⟩ a).setCell ⟨w.heap.size + 1, 1, none⟩ b).setCell ⟨w.heap.size + 1, 2, none⟩ c).setCell ⟨w.heap.size + 1, 3, none⟩ d).setCell ⟨w.heap.size + 1, 4, none⟩ e).setCell ⟨w.heap.size + 1, 5, none⟩ g = V.setCells (w.heap.size + 1) 0 (#[a, b, c, d, e, g] : Array Value).toList := fun _ _ _ _ _ _ => rfl
 rw [e9]
 generalize World.setCells V _ _ _ = W9 at hrw hbl ⊢
 refine bodyPost_ret (v := .tuple #[.agg #[.int .u32 s, .int .u8 f, .int .u64 h, .int .u64 l, .int .i64 n, .int .i64 m], .bool true]) (results_ctr rfl _ _ (w.heap.size + 1) 58 _ (0, 0) _ rfl hrw Try.underlying58 rfl (sz6o _ _ _ _ _ _) _ rfl) rfl ?_
 exact ⟨rfl, hbl⟩
set_option maxRecDepth 100000 in
set_option maxHeartbeats 4000000 in
theorem collect_any (s : Int) (v9 : Value) (P : Nat) (ps : List Ap) (A : Option Addr) (c : Nat) (hl : ps.length ≤ 100000) (w : World) (hp : Aps A ps w) (hP : w.heap[P]? = some (.cells #[.int .u32 s, v9] 25 (0, 0))) :
  Calls Try.prog 40 #[.slice A ps.length c, .func (.func 41) #[] #[.pointer (some ⟨P, 0, none⟩)]] w fun e w' => ∃ v, e = .returned v ∧ w'.ownsRow w.heap.size 58 6 v ps.length (rowO s ps) ∧ Below w.heap.size w w' := by
 obtain ⟨i0, hi, hz0, hz1, hz2⟩ := info_parts Try.info_og
 have HI := Lib.hid hi
 have HCL := Lib.hid (fun (x : Ap) (V : World) (hb : Below w.heap.size w V) => org1_any s v9 x.f x.h x.l x.n x.m P V (row_on hP hb))
 obtain ⟨n, hn⟩ : ∃ n, ps.length = n := ⟨_, rfl⟩
 have HN := Lib.hid hn
 have HP := Lib.hid hp
 rw [hn] at hl ⊢
 have HZ := Lib.hid (Below.refl w.heap.size w)
 clear hn hp hi hP
 go_enter Try.func40, Try.ntmps40
 go_wp2_with fail
 go_loopw [5, 7, 8, 9, 12] (fun out _ _ _ i wr => ∃ k : Nat, k ≤ n ∧ i = .int .i64 (k : Int) ∧ RowKit.Hid (wr.ownsRow w.heap.size 58 6 out k (rowO s (ps.take k))) ∧ RowKit.Hid (Below w.heap.size w wr)) (fun _ _ _ _ i _ => n - (intOf i).toNat)
 case atStart => exact ⟨0, by omega, rfl, Lib.hid ⟨rfl, .inl ⟨rfl, rfl⟩⟩, HZ⟩
 case round =>
  clear HZ
  obtain ⟨k, hk, rfl, HO, HB⟩ := hrel
  by_cases hlt : k < n
  ·
   obtain ⟨x, hx⟩ : ∃ x, ps[k]? = some x := ⟨_, List.getElem?_eq_getElem (by rw [HN.out]; exact hlt)⟩
   have HTK := Lib.hid (show ps.take (k + 1) = ps.take k ++ [x] by rw [List.take_add_one, hx]; rfl)
   obtain ⟨g, o, hA, r1⟩ := HP.out.row k x hx
   subst hA
   obtain ⟨c0, c1, c2, c3, c4⟩ := cells5 (rangeAt_on r1 HB.out)
   have hki : (k : Int) < (n : Int) := by omega
   have HCX := Lib.hid (fun (V : World) (hb : Below wr.heap.size wr V) => HCL.out x V (HB.out.trans (hb.mono HB.out.size)))
   have HLT := Lib.hid hlt
   have HL := Lib.hid hl
   obtain ⟨xf, xh, xl, xn, xm⟩ := x
   dsimp only at HCX
   clear r1 hx hlt
   go_wp2_with fail
   refine (HCX.out _ (below_new _ _)).mono ?_
   rintro e w2 ⟨rfl, hb2⟩
   have hbw : Below wr.heap.size wr w2 := (below_new wr _).trans (hb2.mono (by simp))
   have HBW := Lib.hid hbw
   clear hb2 hbw c0 c1 c2 c3 c4
   go_wp2_with (at_builtin; go_loud (refine wpList_append_own_at _ rfl (.tmp 23) (.tmp 25) 53 rfl w.heap.size 58 i0 (.agg #[.int .u32 0, .int .u8 0, .int .u64 0, .int .u64 0, .int .i64 0, .int .i64 0]) 6 48 Try.underlying53 HI.out hz0 hz1 hz2 rfl (by decide) _ _ _ rfl (((own_on14 HO.out HBW.out).alloc _).alloc _) ⟨w2.heap.size + 1, 0, none⟩ 1 1 [.int .u32 s, .int .u8 xf, .int .u64 xh, .int .u64 xl, .int .i64 xn, .int .i64 xm] rfl rfl (by have h9 := cell_six_new (w2.alloc (.cells #[.int .u32 s, .int .u8 xf, .int .u64 xh, .int .u64 xl, .int .i64 xn, .int .i64 xm] 58)) (.int .u32 s) (.int .u8 xf) (.int .u64 xh) (.int .u64 xl) (.int .i64 xn) (.int .i64 xm) 58; simpa using h9) (by simp [Value.oneCell']) (by have := HLT.out; have := HL.out; unfold maxLen; omega) (by have := HLT.out; have := HL.out; omega) (by have h8 := HB.out.size; have h9 := HBW.out.size; simp; omega) ?_); intro v' w5 hown5 hgrow5 _ hloc5; have HO5 := Lib.hid hown5; have HG5 := Lib.hid hgrow5; clear hown5 hgrow5 hloc5)
   have hlo := HO.out.lt
   have hszr := HB.out.size
   have hszw := HBW.out.size
   have HB5 := Lib.hid ((((HB.out.trans (HBW.out.mono HB.out.size)).alloc (by omega) (.cells #[.int .u32 s, .int .u8 xf, .int .u64 xh, .int .u64 xl, .int .i64 xn, .int .i64 xm] 58)).alloc (by simp; omega) (.cells #[.int .u32 s, .int .u8 xf, .int .u64 xh, .int .u64 xl, .int .i64 xn, .int .i64 xm] 58)).grown HG5.out (by simp; omega) (fun j hj => (hlo j hj).1))
   clear hlo hszr hszw
   have hl2 := HL.out
   have hlt := HLT.out
   refine ⟨⟨k + 1, by have := HLT.out; omega, by go_num, Lib.hid (by rw [HTK.out, rowO_app]; exact HO5.out), HB5⟩, by have := HLT.out; simp [intOf]; omega⟩
  ·
   have hki : ¬ (k : Int) < (n : Int) := by omega
   have hkk : k = n := by omega
   subst hkk
   have HTA := Lib.hid (show ps.take k = ps from List.take_of_length_le (by rw [HN.out]; omega))
   go_wp2_with fail
   go_ret
   exact ⟨_, rfl, by rw [← HTA.out]; exact HO.out, HB.out⟩
def OrP (s : Int) (ps : List Ap) (w : World) (e : Ending) (w' : World) : Prop := Below w.heap.size w w' ∧
 ((raC ps = 0 ∧ ∃ A c, e = .returned (.tuple #[.slice A ps.length c, .int .i64 0]) ∧ Ogs s A ps w') ∨ (raC ps ≠ 0 ∧ e = .returned (.tuple #[.slice none 0 0, .int .i64 (raC ps)])))
set_option maxRecDepth 100000 in
set_option maxHeartbeats 4000000 in
theorem origins_any (sy : Int) (ps : List Ap) (A : Option Addr) (c : Nat) (hl : ps.length ≤ 100000) (hwf : ∀ x ∈ ps, WfE x) (w : World) (hp : Aps A ps w) :
  Calls Try.prog 19 #[.agg #[.int .u32 sy, .slice A ps.length c]] w (OrP sy ps w) := by
 have HCK := Lib.hid (fun (V : World) (hb : Below w.heap.size w V) => rcheck_any sy ps A c hl hwf V (hp.on hb))
 have HCO := Lib.hid (fun (V : World) (hb : Below w.heap.size w V) (P : Nat) (v9 : Value) (hP : V.heap[P]? = some (.cells #[.int .u32 sy, v9] 25 (0, 0))) => (show Calls Try.prog 40 #[.slice A ps.length c, .func (.func 41) #[] #[.pointer (some ⟨P, 0, none⟩)]] V (fun e w' => ∃ A' c', e = .returned (.slice A' ps.length c') ∧ Ogs sy A' ps w' ∧ Below V.heap.size V w') from
  (collect_any sy v9 P ps A c hl V (hp.on hb) hP).mono fun e z ⟨v, he, hown, hb⟩ => by
   obtain ⟨A', c', rfl⟩ := own_slO hown
   exact ⟨A', c', he, (ogs_own hown).2, hb⟩))
 unfold OrP
 generalize raC ps = E at HCK ⊢
 obtain ⟨n, hn⟩ : ∃ n, ps.length = n := ⟨_, rfl⟩
 rw [hn] at HCK HCO ⊢
 have HR0 := Lib.hid (heap_alloc_new w (.cells #[.int .u32 sy, .slice A n c] 25))
 have HB0 := Lib.hid (below_new w (.cells #[.int .u32 sy, .slice A n c] 25))
 clear hl hwf hp hn
 go_enter Try.func19, Try.ntmps19
 go_upto_region 1 with (fail)
 generalize hV : World.alloc w _ = V at HR0 HB0 ⊢
 clear hV
 obtain ⟨hl0, f0, f1⟩ := facts2 HR0.out
 go_wp2_with fail
 refine (HCK.out V HB0.out).mono ?_
 rintro e w1 ⟨rfl, hb1⟩
 have HR1 := Lib.hid (row_on HR0.out hb1)
 have HB1 := Lib.hid (chain HB0.out hb1)
 clear hl0 f0 f1 hb1
 by_cases h0 : E = 0
 ·
  have HCO1 := Lib.hid (HCO.out w1 HB1.out _ _ HR1.out)
  subst h0
  obtain ⟨hl0, f0, f1⟩ := facts2 HR1.out
  go_wp2_with fail
  refine HCO1.out.mono ?_
  rintro e w2 ⟨A', c', rfl, hog, hb2⟩
  have HB2 := Lib.hid (chain HB1.out hb2)
  have HOG := Lib.hid hog
  clear hog hb2 hl0 f0 f1
  go_wp2_with fail
  go_ret2
  first | exact ⟨HB2.out, .inl ⟨rfl, A', c', rfl, HOG.out⟩⟩ | exact ⟨HB2.out, A', ⟨c', rfl⟩, HOG.out⟩
 ·
  have h0i : (E != 0) = true := by simp [h0]
  have H0 := Lib.hid h0
  clear h0
  go_wp2_with fail
  go_ret2
  exact ⟨HB1.out, .inr ⟨H0.out, rfl⟩⟩
end Ro
end Go.Proofs.Ythfgdgcdicacpaa
