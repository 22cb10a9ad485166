/-
  THE WALKS over layer 8: the reader at every fuel; simpleOrList; the iterator over a value and all values in it.
-/
import Derived.Test.YtlbchefdkdngnaaOcRB
import Derived.RangeFuncNested
import Derived.RangeFuncBound
import Derived.RangeFuncCalls
import Derived.RangeFuncLeaves
import Derived.Shelf.Abstract
import Derived.OwnWalkIn
import Derived.TacticsInMore
import Derived.LoopNIn
import Derived.LoopIn
namespace Go.Proofs.Ytlbchefdkdngnaa
open Go.RowKit Sha Oc
set_option linter.unusedVariables false
set_option linter.unusedSimpArgs false
attribute [local go_sem] Oper.semAt_some
theorem value_all : ∀ (k : Nat) (lo : Nat) (W : World) (g : Nat) (A : Option Addr) (L : List UInt8) (c : Nat), Rdr lo W g A L c → lo ≤ W.heap.size → L.length < k → Calls Try.prog 50 #[.pointer (some ⟨g, 0, none⟩)] W (VlPost lo k g L W)
  | 0, _, _, _, _, _, _, _, _, h => by omega
  | k + 1, lo, W, g, A, L, c, h, hl, hk => value_of k (value_all k) lo W g A L c h hl hk
mutual
/-- a value and all values in it, each with how deep it is -/
def vis : Nat → Oct → List (Nat × Oct)
  | d, .mk t b l => (d, .mk t b l) :: viss (d + 1) l
def viss : Nat → List Oct → List (Nat × Oct)
  | _, [] => []
  | d, v :: r => vis d v ++ viss d r
end
theorem viss_app (d : Nat) : ∀ l r : List Oct, viss d (l ++ r) = viss d l ++ viss d r
  | [], r => by rw [List.nil_append, viss, List.nil_append]
  | v :: q, r => by rw [List.cons_append, viss, viss_app d q r, viss, List.append_assoc]
theorem viss_one (d : Nat) (o : Oct) : viss d [o] = vis d o := by rw [viss, viss, List.append_nil]
mutual
theorem vis_len : ∀ (d : Nat) (o : Oct), (vis d o).length = cnt o
  | d, .mk t b l => by rw [vis, List.length_cons, viss_len (d + 1) l, cnt]; omega
theorem viss_len : ∀ (d : Nat) (l : List Oct), (viss d l).length = cnts l
  | _, [] => by rw [viss, cnts]; rfl
  | d, v :: r => by rw [viss, List.length_append, vis_len d v, viss_len d r, cnts]
end
mutual
theorem vis_dep : ∀ (d : Nat) (o : Oct), (∀ e ∈ vis d o, e.1 + 1 ≤ d + dep o) ∧ ∃ e ∈ vis d o, e.1 + 1 = d + dep o
  | d, .mk t b l => by
    obtain ⟨h1, h2⟩ := viss_dep (d + 1) l
    rw [vis, dep]
    refine ⟨fun e he => ?_, ?_⟩
    · rcases List.mem_cons.1 he with rfl | he
      · show d + 1 ≤ _; omega
      · have := h1 e he; omega
    · rcases h2 with rfl | ⟨e, he, h3⟩
      · exact ⟨_, List.mem_cons_self .., by rw [deps]⟩
      · exact ⟨e, List.mem_cons_of_mem _ he, by omega⟩
theorem viss_dep : ∀ (d : Nat) (l : List Oct), (∀ e ∈ viss d l, e.1 + 1 ≤ d + deps l) ∧ (l = [] ∨ ∃ e ∈ viss d l, e.1 + 1 = d + deps l)
  | _, [] => ⟨fun e he => (by rw [viss] at he; cases he), .inl rfl⟩
  | d, v :: r => by
    obtain ⟨h1, e, he, h2⟩ := vis_dep d v
    obtain ⟨h3, h4⟩ := viss_dep d r
    rw [viss, deps]
    refine ⟨fun e he => ?_, .inr ?_⟩
    · rcases List.mem_append.1 he with he | he
      · have := h1 e he; omega
      · have := h3 e he; omega
    · by_cases hm : deps r ≤ dep v
      · exact ⟨e, List.mem_append_left _ he, by omega⟩
      · rcases h4 with rfl | ⟨e', he', h5⟩
        · rw [deps] at hm; omega
        · exact ⟨e', List.mem_append_right _ he', by omega⟩
end
/-- is a value simple, or a list? -/
def topB (o : Oct) : Bool := okTop (tagO o) (bytO o).length (kids o).length
mutual
theorem vis_shp : ∀ (d : Nat) (o : Oct), shpB o = (vis d o).all fun e => topB e.2
  | d, .mk t b l => by rw [shpB, vis, List.all_cons, viss_shp (d + 1) l]; rfl
theorem viss_shp : ∀ (d : Nat) (l : List Oct), shpsB l = (viss d l).all fun e => topB e.2
  | _, [] => by rw [shpsB, viss]; rfl
  | d, v :: r => by rw [shpsB, viss, List.all_append, vis_shp d v, viss_shp d r]
end
set_option maxRecDepth 100000 in
set_option maxHeartbeats 4000000 in
theorem simple_any (t : UInt8) (A B : Option Addr) (m n c d : Nat) (w : World) : Calls Try.prog 45 #[.agg #[.int .u8 (t.toNat : Int), .slice A m c, .slice B n d]] w fun e w' => e = .returned (.bool (okTop t m n)) ∧ Below w.heap.size w w' := by
  have hz : t.toNat < 256 := t.toNat_lt
  unfold okTop
  obtain ⟨z, hzz⟩ : ∃ z, t.toNat = z := ⟨_, rfl⟩
  rw [hzz] at hz ⊢
  clear hzz
  by_cases h1 : z < 128
  · have h1i : (z : Int) < 128 := by omega
    by_cases h2 : z = 0
    · subst h2
      rw [decide_eq_false (by omega)]
      go_enter Try.func45, Try.ntmps45
      go_wp2_with fail
      go_ret
      exact ⟨rfl, below_new w _⟩
    · have h2i : ((z : Int) != 0) = true := by simp [h2]
      by_cases h3 : n = 0
      · subst h3
        rw [decide_eq_true (by omega)]
        go_enter Try.func45, Try.ntmps45
        go_wp2_with fail
        go_ret
        exact ⟨rfl, below_new w _⟩
      · have h3i : ((n : Int) == 0) = false := by simp [h3]
        rw [decide_eq_false (by omega)]
        go_enter Try.func45, Try.ntmps45
        go_wp2_with fail
        go_ret
        exact ⟨rfl, below_new w _⟩
  · have h1i : ¬ (z : Int) < 128 := by omega
    by_cases h3 : m = 0
    · subst h3
      rw [decide_eq_true (by omega)]
      go_enter Try.func45, Try.ntmps45
      go_wp2_with fail
      go_ret
      exact ⟨rfl, below_new w _⟩
    · have h3i : ((m : Int) == 0) = false := by simp [h3]
      rw [decide_eq_false (by omega)]
      go_enter Try.func45, Try.ntmps45
      go_wp2_with fail
      go_ret
      exact ⟨rfl, below_new w _⟩
/-- what a round keeps: what lay below n0, and the cells from n1 on -/
structure Kp8 (n0 n1 : Nat) (W W' : World) : Prop where
  bl : Below n0 W W'
  up : ∀ b cs t fr, n1 ≤ b → W.heap[b]? = some (.cells cs t fr) → W'.heap[b]? = some (.cells cs t fr)
theorem Kp8.refl (n0 n1 : Nat) (W : World) : Kp8 n0 n1 W W := ⟨Below.refl _ _, fun _ _ _ _ _ h => h⟩
theorem Kp8.trans {n0 n1 : Nat} {A B C : World} (h : Kp8 n0 n1 A B) (k : Kp8 n0 n1 B C) : Kp8 n0 n1 A C := ⟨h.bl.trans k.bl, fun b cs t fr hb hc => k.up b cs t fr hb (h.up b cs t fr hb hc)⟩
theorem Kp8.of {n0 n1 : Nat} {A B : World} (h : Below A.heap.size A B) (hn : n0 ≤ A.heap.size) : Kp8 n0 n1 A B := ⟨h.mono hn, fun b cs t fr _ hc => row_on hc h⟩
/-- an element of the iterator -/
abbrev El := Nat × Oct × (Option Addr × Nat) × (Option Addr × Nat)
abbrev encE (a : El) : Array Value := #[.int .i64 (a.1 : Int), .agg #[.int .u8 ((tagO a.2.1).toNat : Int), .slice a.2.2.1.1 (bytO a.2.1).length a.2.2.1.2, .slice a.2.2.2.1 (kids a.2.1).length a.2.2.2.2]]
abbrev prjE (a : El) : Nat × Oct := (a.1, a.2.1)
def VsPost (J Jx : List El → World → Prop) (n0 n1 : Nat) (pre : List El) (d : Nat) (o : Oct) (W : World) (e : Ending) (W' : World) : Prop :=
  (e = .returned (.bool true) ∧ ∃ q, q.map prjE = vis d o ∧ J (pre ++ q) W' ∧ Kp8 n0 n1 W W') ∨ (e = .returned (.bool false) ∧ ∃ q, q.map prjE <+: vis d o ∧ Jx (pre ++ q) W')
set_option maxRecDepth 100000 in
set_option maxHeartbeats 4000000 in
theorem visit_of (l : Nat) (n0 n1 N lo : Nat) (J Jx : List El → World → Prop) (hJ : AbidesFrom lo J) (hn : n0 ≤ n1)
    (hY : ∀ m pre x W, J pre W → pre.length < N → YieldAt Fence.wide m Try.prog l (encE x) W fun e W' => (e = .returned (.bool true) ∧ J (pre ++ [x]) W' ∧ Kp8 n0 n1 W W') ∨ (e = .returned (.bool false) ∧ Jx (pre ++ [x]) W'))
    (t : UInt8) (b : List UInt8) (ls : List Oct)
    (ih : ∀ (k : Nat) (o : Oct), ls[k]? = some o → ∀ (n d : Nat) (x y : Value) (pre : List El) (W : World), n1 ≤ W.heap.size → d + cnt o ≤ 1000000 → At (fun g => g < n0) W o x y → J pre W → pre.length + cnt o ≤ N → CallsIn Fence.wide n Try.prog 65 #[.int .i64 (d : Int), .agg (cell3 o x y), .func (.yield l) #[] #[]] W (VsPost J Jx n0 n1 pre d o W))
    (n d : Nat) (x y : Value) (pre : List El) (W : World) (hW : n1 ≤ W.heap.size) (hd : d + cnt (.mk t b ls) ≤ 1000000) (hat : At (fun g => g < n0) W (.mk t b ls) x y) (h0 : J pre W) (hN : pre.length + cnt (.mk t b ls) ≤ N) :
    CallsIn Fence.wide n Try.prog 65 #[.int .i64 (d : Int), .agg (cell3 (.mk t b ls) x y), .func (.yield l) #[] #[]] W (VsPost J Jx n0 n1 pre d (.mk t b ls) W) := by
  obtain ⟨A, c, B, dd, g, off, vb, vl, rfl, rfl, hc, hbm, hcn0, hs, hsA, hdl, hdn, he⟩ := hat.elsR
  obtain ⟨m, hm⟩ : ∃ m, b.length = m := ⟨_, rfl⟩
  obtain ⟨q, hq⟩ : ∃ q, ls.length = q := ⟨_, rfl⟩
  have hll := len_cnts ls
  have hcc : cnt (.mk t b ls) = 1 + cnts ls := by rw [cnt]
  unfold VsPost at ih ⊢
  have hal : ∀ (s : List El) (W : World) (o : Obj), J s W → J s (W.alloc o) := fun s W o hs => hJ s W _ none hs (World.grownBy_alloc W o none) (fun r e => by cases e)
  have HAL := Lib.hid hal
  have HIH := Lib.hid ih
  have HE := Lib.hid he
  have HQ := Lib.hid hq
  have HCC := Lib.hid hcc
  have HDB := Lib.hid hd
  have HNB := Lib.hid hN
  have HW := Lib.hid hW
  have HN01 := Lib.hid hn
  show CallsIn Fence.wide n Try.prog 65 #[.int .i64 (d : Int), .agg #[.int .u8 (t.toNat : Int), .slice A b.length c, .slice B ls.length dd], .func (.yield l) #[] #[]] W _
  have hYY := hY (n - 1) pre (d, .mk t b ls, (A, c), (B, dd)) (W.alloc (.cells #[.int .u8 (t.toNat : Int), .slice A m c, .slice B q dd] 28)) (hal _ _ _ h0) (by omega)
  obtain ⟨fn, tmps, assign, body, hy, hR⟩ := hYY
  have HR := Lib.hid hR
  have HLB := Lib.hid (show q ≤ 1000000 by omega)
  have hy2 : _ := hy
  dsimp only [encE, tagO, bytO, kids] at hy
  rw [hm, hq] at hy ⊢
  have HRW := Lib.hid (heap_alloc_new W (.cells #[.int .u8 (t.toNat : Int), .slice A m c, .slice B q dd] 28))
  clear ih he hq hcc hd hN hW hn hR hal h0 hat hc hbm hcn0 hs hsA hdl hdn hll hm hJ hY hy2
  refine callsIn_of_wp Try.func65 rfl trivial ?_ rfl
  simp only [Try.ntmps65, List.size_toArray, List.length_cons, List.length_nil, Nat.reduceAdd, Nat.reduceSub, Array.replicate_succ, Array.replicate_zero, List.push_toArray, List.append_toArray, List.nil_append, List.cons_append]
  gi_wp2_with fail
  refine ⟨fun h => (by cases h), HR.out.mono ?_⟩
  rintro e W2 (⟨rfl, hJ2, hk2⟩ | ⟨rfl, hx2⟩)
  · have HJ2 := Lib.hid hJ2
    have HR2 := Lib.hid (hk2.up W.heap.size _ _ _ HW.out HRW.out)
    have HK2 : RowKit.Hid (Kp8 n0 n1 W W2) := Lib.hid ((Kp8.of (below_new W _) (Nat.le_trans HN01.out HW.out)).trans hk2)
    clear hJ2 hk2 HR hy HRW
    have hlt := (Array.getElem?_eq_some_iff.1 HR2.out).1
    obtain ⟨_, hc0, hc1, hc2⟩ := facts3 HR2.out
    gi_wp2_with fail
    clear hlt hc0 hc1 hc2
    gi_loopw [8, 17] (fun _ ix wr => ∃ (k : Nat) (qs : List El), k ≤ q ∧ ix = .int .i64 (k : Int) ∧ RowKit.Hid (qs.map prjE = (d, .mk t b ls) :: viss (d + 1) (ls.take k)) ∧ RowKit.Hid (J (pre ++ qs) wr) ∧ RowKit.Hid (Kp8 n0 n1 W wr)) (fun _ ix _ => q - (intOf ix).toNat)
    case atStart => exact ⟨0, [(d, .mk t b ls, (A, c), (B, dd))], by omega, rfl, Lib.hid (by rw [List.take_zero, viss]; rfl), HJ2, HK2⟩
    case round =>
      clear HJ2 HK2
      obtain ⟨k, qs, hk, rfl, HQS, HJS, HKS⟩ := hrel
      by_cases hlt : k < q
      · have hki : (k : Int) < (q : Int) := by omega
        have hn5 := HLB.out
        obtain ⟨o, ho⟩ : ∃ o, ls[k]? = some o := ⟨_, List.getElem?_eq_getElem (by rw [HQ.out]; exact hlt)⟩
        have hne : ls ≠ [] := fun e => by rw [e] at ho; simp at ho
        have hBB := (HE.out.hB hne).1
        subst hBB
        have hew := HE.out.low HKS.out.bl
        have hc0 := hew.h0 k o ho
        have hc1 := hew.h1 k o ho
        have hc2 := hew.h2 k o ho
        have hat := hew.hr k o ho
        obtain ⟨A1, m1, c1, B1, n2, d1, e1, e2⟩ := hat.any.slices
        rw [e1] at hc1 hat
        rw [e2] at hc2 hat
        have htk : ls.take (k + 1) = ls.take k ++ [o] := by rw [List.take_add_one, ho]; rfl
        have HTK := Lib.hid htk
        have hlen : qs.length = 1 + cnts (ls.take k) := by
          have h1 := congrArg List.length HQS.out
          rw [List.length_map, List.length_cons, viss_len] at h1
          omega
        have hbnd : cnts (ls.take k) + cnt o ≤ cnts ls := by
          have h1 := cnts_take ls (k + 1)
          rw [htk, cnts_snoc] at h1
          omega
        have hlow : wr.heap.size ≤ (wr.alloc (.cells #[.int .u8 ((tagO o).toNat : Int), .slice A1 m1 c1, .slice B1 n2 d1] 28)).heap.size := by simp
        have hsz := HKS.out.bl.size
        have hcall := fun n => HIH.out k o ho n (d + 1) _ _ (pre ++ qs) (wr.alloc (.cells #[.int .u8 ((tagO o).toNat : Int), .slice A1 m1 c1, .slice B1 n2 d1] 28)) (by have h1 := HW.out; omega) (by have h1 := HDB.out; have h2 := HCC.out; omega) (hat.low (((Below.refl n0 wr).alloc (by have h1 := HW.out; have h2 := HN01.out; omega) _))) (HAL.out _ _ _ HJS.out) (by rw [List.length_append]; have h1 := HNB.out; have h2 := HCC.out; omega)
        rw [show (((d + 1 : Nat)) : Int) = (d : Int) + 1 by omega] at hcall
        have HCALL := Lib.hid hcall
        have hd5 : d ≤ 1000000 := by have h1 := HDB.out; omega
        clear hne hew hat ho e1 e2 htk hlen hbnd hlow hsz hcall
        gi_wp2_with fail
        refine ⟨trivial, fun h => (by cases h), (HCALL.out _).mono ?_⟩
        rintro e W3 (⟨rfl, q3, hq3, hj3, hk3⟩ | ⟨rfl, q3, hq3, hx3⟩)
        · have HQ3 : RowKit.Hid ((qs ++ q3).map prjE = (d, .mk t b ls) :: viss (d + 1) (ls.take (k + 1))) := Lib.hid (by rw [List.map_append, HQS.out, hq3, HTK.out, viss_app, viss_one, List.cons_append])
          have HJ3 : RowKit.Hid (J (pre ++ (qs ++ q3)) W3) := Lib.hid (by rw [← List.append_assoc]; exact hj3)
          have HK3 : RowKit.Hid (Kp8 n0 n1 W W3) := Lib.hid ((HKS.out.trans (Kp8.of (below_new wr _) (by have h1 := HW.out; have h2 := HN01.out; have h3 := HKS.out.bl.size; omega))).trans hk3)
          clear hq3 hj3 hk3 hc0 hc1 hc2
          gi_wp2_with fail
          exact ⟨⟨k + 1, qs ++ q3, by omega, by go_num, HQ3, HJ3, HK3⟩, by simp [intOf]; omega⟩
        · have HQ3 : RowKit.Hid ((qs ++ q3).map prjE <+: vis d (.mk t b ls)) := Lib.hid (by
            obtain ⟨r, hr⟩ := hq3
            refine ⟨r ++ viss (d + 1) (ls.drop (k + 1)), ?_⟩
            have h1 : viss (d + 1) ls = viss (d + 1) (ls.take k) ++ (q3.map prjE ++ r) ++ viss (d + 1) (ls.drop (k + 1)) := by
              rw [hr, ← viss_one (d + 1) o, ← viss_app, ← HTK.out, ← viss_app, List.take_append_drop]
            rw [vis, h1, List.map_append, HQS.out]
            simp only [List.cons_append, List.append_assoc])
          have HX3 : RowKit.Hid (Jx (pre ++ (qs ++ q3)) W3) := Lib.hid (by rw [← List.append_assoc]; exact hx3)
          clear hq3 hx3 hc0 hc1 hc2
          gi_wp2_with fail
          go_ret
          exact .inr ⟨rfl, _, HQ3.out, HX3.out⟩
      · have hkk : k = q := by omega
        have HKK := Lib.hid hkk
        have hge : ¬ (k : Int) < (q : Int) := by omega
        clear hkk
        gi_wp2_with fail
        go_ret
        refine .inl ⟨rfl, qs, ?_, HJS.out, HKS.out⟩
        have h1 := HQS.out
        rw [HKK.out, List.take_of_length_le (by rw [HQ.out]; exact Nat.le_refl _)] at h1
        rw [h1, vis]
  · gi_wp2_with fail
    go_ret
    exact .inr ⟨rfl, _, ⟨viss (d + 1) ls, by rw [vis]; rfl⟩, hx2⟩
theorem visit_all (l : Nat) (n0 n1 N lo : Nat) (J Jx : List El → World → Prop) (hJ : AbidesFrom lo J) (hn : n0 ≤ n1)
    (hY : ∀ m pre x W, J pre W → pre.length < N → YieldAt Fence.wide m Try.prog l (encE x) W fun e W' => (e = .returned (.bool true) ∧ J (pre ++ [x]) W' ∧ Kp8 n0 n1 W W') ∨ (e = .returned (.bool false) ∧ Jx (pre ++ [x]) W')) :
    ∀ (m : Nat) (o : Oct), cnt o ≤ m → ∀ (n d : Nat) (x y : Value) (pre : List El) (W : World), n1 ≤ W.heap.size → d + cnt o ≤ 1000000 → At (fun g => g < n0) W o x y → J pre W → pre.length + cnt o ≤ N → CallsIn Fence.wide n Try.prog 65 #[.int .i64 (d : Int), .agg (cell3 o x y), .func (.yield l) #[] #[]] W (VsPost J Jx n0 n1 pre d o W) := fun m => by
  induction m with
  | zero => intro o h; have := cnt_pos o; omega
  | succ m ih =>
    intro o h n d x y pre W hW hd hat h0 hN
    cases o with
    | mk t b ls =>
      exact visit_of l n0 n1 N lo J Jx hJ hn hY t b ls (fun k o ho => ih o (by rw [cnt] at h; have := cnt_le ls o (List.mem_of_getElem? ho); omega)) n d x y pre W hW hd hat h0 hN
theorem room_none {F : Fence} (hd : F.depth = none) (k : Nat) : F.room k := fun d h => by rw [hd] at h; cases h
theorem yield_any {m m' : Nat} {P : Program} {l : Nat} {args : Array Value} {W : World} {R : Ending → World → Prop} (h : YieldAt Fence.wide m P l args W R) : YieldAt Fence.wide m' P l args W R := by
  obtain ⟨fn, tmps, assign, body, hy, hR⟩ := h
  exact ⟨fn, tmps, assign, body, hy, hR.1, fun c cs _ => hR.2 c cs (room_none rfl _)⟩
theorem within_any (t : UInt8) (A B : Option Addr) (m n c d : Nat) (w : World) : Calls Try.prog 44 #[.agg #[.int .u8 (t.toNat : Int), .slice A m c, .slice B n d]] w fun e w' => e = .returned (.func (.func 64) #[] #[.pointer (some ⟨w.heap.size, 0, none⟩)]) ∧ w' = w.alloc (.cells #[.int .u8 (t.toNat : Int), .slice A m c, .slice B n d] 28) := by
  go_enter Try.func44, Try.ntmps44
  go_wp2
  go_ret
  exact ⟨rfl, rfl⟩
set_option maxRecDepth 100000 in
set_option maxHeartbeats 4000000 in
/-- the iterator of a value: it hands over the value and all values in it, or is stopped -/
theorem within_stops (n : Nat) (X n0 n1 : Nat) (hn : n0 ≤ n1) (o : Oct) (hcn : cnt o ≤ 900000) (A B : Option Addr) (c d : Nat) (w : World) (hX : w.heap[X]? = some (.cells #[.int .u8 ((tagO o).toNat : Int), .slice A (bytO o).length c, .slice B (kids o).length d] 28 (0, 0))) (hw : n1 ≤ w.heap.size)
    (hat : At (fun g => g < n0) w o (.slice A (bytO o).length c) (.slice B (kids o).length d)) :
    SeqStopsK Fence.wide n Try.prog 64 #[.pointer (some ⟨X, 0, none⟩)] encE (Kp8 n0 n1) (fun q => q.map prjE = vis 1 o) (fun q => q.map prjE <+: vis 1 o) (cnt o) w := by
  intro l J Jx W hb hJ hJx hY h0
  have hv := visit_all l n0 n1 (cnt o) _ J Jx hJ hn (fun m pre x W hj hl => yield_any (hY pre x W hj hl)) (cnt o) o (Nat.le_refl _) (n - 1) 1 _ _ [] W (Nat.le_trans hw hb.size) (by omega) (hat.low (hb.mono (by omega))) h0 (by simp)
  unfold VsPost at hv
  have HV := Lib.hid hv
  have hXW := row_on hX hb
  obtain ⟨tz, htz⟩ : ∃ tz : Int, ((tagO o).toNat : Int) = tz := ⟨_, rfl⟩
  obtain ⟨m1, hm1⟩ : ∃ m, (bytO o).length = m := ⟨_, rfl⟩
  obtain ⟨m2, hm2⟩ : ∃ m, (kids o).length = m := ⟨_, rfl⟩
  unfold cell3 at HV
  rw [htz, hm1, hm2] at HV
  rw [htz, hm1, hm2] at hXW
  have hlt := (Array.getElem?_eq_some_iff.1 hXW).1
  obtain ⟨_, hc0, hc1, hc2⟩ := facts3 hXW
  have hrg := range3o hc0 hc1 hc2
  clear hv hY h0 hJ hJx hat hX hb htz hm1 hm2 hXW
  refine callsIn_of_wp Try.func64 rfl trivial ?_ rfl
  simp only [Try.ntmps64, List.size_toArray, List.length_cons, List.length_nil, Nat.reduceAdd, Nat.reduceSub, Array.replicate_succ, Array.replicate_zero, List.push_toArray, List.append_toArray, List.nil_append, List.cons_append]
  gi_wp2_with fail
  refine ⟨trivial, fun h => (by cases h), HV.out.mono ?_⟩
  rintro e W3 (⟨rfl, q3, hq3, hj3, _⟩ | ⟨rfl, q3, hq3, hx3⟩)
  · clear hc0 hc1 hc2 hrg hlt
    gi_wp2_with fail
    go_end0
    exact ⟨⟨_, rfl⟩, .inl ⟨q3, hq3, hj3⟩⟩
  · clear hc0 hc1 hc2 hrg hlt
    gi_wp2_with fail
    go_end0
    exact ⟨⟨_, rfl⟩, .inr ⟨q3, hq3, hx3⟩⟩
end Go.Proofs.Ytlbchefdkdngnaa
