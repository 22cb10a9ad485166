/-
  THE WALK over the reference's public key.
-/
import Derived.Test.YtgnemclpopjhoaaDoorOneRC
namespace Go.Proofs.YtgnemclpopjhoaaDoor
open Go.RowKit Sha Ots
set_option linter.unusedVariables false
set_option linter.unusedSimpArgs false
/-- append of short digests to an own row -/
theorem append_shorts {w : World} {ops : Array Oper} {rest : List Oper} {o : Oper} {a : Act} {Q : Exit → Act → World → Prop} (hgd : o.guard = none) (s x : Operand)
    (ho : o.op = .call { callee := .builtin .append, args := #[s, x], argTypes := #[29, 29] }) (base : Nat) (v : Value) (n : Nat) (xs : List Value) (hs : a.eval s = v) (hown : w.ownsRow base 23 16 v n xs)
    (ad : Addr) (m c : Nat) (L : List UInt8) (hx : a.eval x = .slice (some ad) m c) (hm : L.length = m * 16) (hc : ∀ j u, (bvals L)[j]? = some u → w.cell? (ad.add j) = some u) (h63 : n + m ≤ 1000000) (hbase : base ≤ w.heap.size)
    (h : ∀ v' w', w'.ownsRow base 23 16 v' (n + m) (xs ++ bvals L) → w.grownBy w' v.ownBlock → wpList Tryd.prog ops Q rest (a.put o.dst v') w') : wpList Tryd.prog ops Q (o :: rest) a w := by
  obtain ⟨i0, hi, hz0, hz1, hz2⟩ := info_parts Tryd.info_short
  exact wpList_append_own _ hgd s x 29 ho base 23 i0 (.agg (bcells (List.replicate 16 0))) 16 16 Tryd.underlying29 hi hz0 hz1 hz2 rfl (by decide) v n xs hs hown ad m c (bvals L) hx (by rw [bvals_len, hm]) hc (fun u hu => by
    unfold bvals at hu
    obtain ⟨x, _, rfl⟩ := List.mem_map.1 hu
    rfl) (by unfold maxLen; omega) (by omega) hbase (fun v' w' h1 h2 _ => h v' w' h1 h2)
theorem fold_set : ∀ (l : List Value) (k : Nat) (A : Array Value), k + l.length ≤ A.size → ∀ j, ((l.zipIdx k).foldl (fun cs x => cs.setIfInBounds x.snd x.fst) A)[j]? = if k ≤ j ∧ j < k + l.length then l[j - k]? else A[j]?
  | [], k, A, _, j => by
    rw [if_neg (by simp <;> omega)]
    rfl
  | v :: r, k, A, h, j => by
    rw [List.length_cons] at h
    rw [List.zipIdx_cons, List.foldl_cons, fold_set r (k + 1) (A.setIfInBounds k v) (by simp; omega) j, List.length_cons]
    by_cases e : j = k
    · subst e
      rw [if_neg (by omega), if_pos (by omega), Nat.sub_self, Array.getElem?_setIfInBounds]
      rw [if_pos rfl, if_pos (by omega)]
      rfl
    · by_cases h1 : k + 1 ≤ j ∧ j < k + 1 + r.length
      · rw [if_pos h1, if_pos (by omega), show j - k = (j - (k + 1)) + 1 by omega, List.getElem?_cons_succ]
      · rw [if_neg h1, if_neg (by omega), Array.getElem?_setIfInBounds, if_neg (by omega)]
theorem fill_row (cs Z : Array Value) (h : Z.size = cs.size) : Array.foldl (fun cs x => cs.setIfInBounds x.snd x.fst) Z cs.zipIdx 0 cs.size = cs := by
  have e1 : Array.foldl (fun (cs : Array Value) (x : Value × Nat) => cs.setIfInBounds x.snd x.fst) Z cs.zipIdx 0 cs.size = (cs.toList.zipIdx 0).foldl (fun cs x => cs.setIfInBounds x.snd x.fst) Z := by
    have hz : cs.size = cs.zipIdx.size := by simp
    rw [hz, ← Array.foldl_toList, Array.toList_zipIdx]
  rw [e1]
  apply Array.ext_getElem?
  intro j
  rw [fold_set _ _ _ (by simp [h]) j]
  by_cases hj : j < cs.size
  · rw [if_pos (by simp [hj])]
    simp
  · rw [if_neg (by simp; omega), Array.getElem?_eq_none (by omega), Array.getElem?_eq_none (by omega)]
/-- a slice of one short digest, made -/
theorem fill_short (C : List UInt8) (hC : C.length = 16) (V : World) : (V.alloc (.cells (Array.foldl (fun cs x => cs.setIfInBounds x.snd x.fst) #[.int .u8 0, .int .u8 0, .int .u8 0, .int .u8 0, .int .u8 0, .int .u8 0, .int .u8 0, .int .u8 0, .int .u8 0, .int .u8 0, .int .u8 0, .int .u8 0, .int .u8 0, .int .u8 0, .int .u8 0, .int .u8 0] (bcells C).zipIdx 0 16) 23)).heap[V.heap.size]? = some (.cells (bcells C) 23 (0, 0)) := by
  have h16 : (bcells C).size = 16 := by rw [bcells_size, hC]
  have hf := fill_row (bcells C) #[.int .u8 0, .int .u8 0, .int .u8 0, .int .u8 0, .int .u8 0, .int .u8 0, .int .u8 0, .int .u8 0, .int .u8 0, .int .u8 0, .int .u8 0, .int .u8 0, .int .u8 0, .int .u8 0, .int .u8 0, .int .u8 0] h16.symm
  rw [h16] at hf
  rw [hf]
  exact heap_alloc_new _ _
theorem row_bvals {w : World} {g : Nat} {L : List UInt8} {t : TypeId} {fr : Nat × Nat} (h : w.heap[g]? = some (.cells (bcells L) t fr)) : ∀ j u, (bvals L)[j]? = some u → w.cell? ((⟨g, 0, none⟩ : Addr).add j) = some u := fun j u hj => by
  rw [add_eq, Nat.zero_add, cell_of_row _ _ _ _ _ _ h]
  unfold bcells
  unfold bvals at hj
  simpa using hj
theorem own_geS {w : World} {b n k : Nat} {v : Value} {xs : List Value} (h : w.ownsRow b 23 16 v n xs) (hk : v.ownBlock = some k) : b ≤ k ∧ k < w.heap.size := by
  obtain ⟨h1, ⟨rfl, _⟩ | ⟨g, cap, cur, rfl, h3, h4, _⟩⟩ := h
  · cases hk
  · obtain rfl : g = k := by simpa [Value.ownBlock] using hk
    exact ⟨h3, (Array.getElem?_eq_some_iff.1 h4).1⟩
theorem own_onS {w V : World} {b n : Nat} {v : Value} {xs : List Value} (h : w.ownsRow b 23 16 v n xs) (hb : Below w.heap.size w V) : V.ownsRow b 23 16 v n xs := by
  obtain ⟨h1, h2 | ⟨g, cap, cur, h3, h4, h5, h6⟩⟩ := h
  · exact ⟨h1, .inl h2⟩
  · exact ⟨h1, .inr ⟨g, cap, cur, h3, h4, (hb.block g (Array.getElem?_eq_some_iff.1 h5).1).trans h5, h6⟩⟩
theorem flat_at : ∀ (ls : List (List UInt8)), (∀ l ∈ ls, l.length = 16) → ∀ i l, ls[i]? = some l → ∀ j x, l[j]? = some x → ls.flatten[16 * i + j]? = some x
  | [], _, i, l, h, _, _, _ => by simp at h
  | a :: r, hl, 0, l, h, j, x, hj => by
    obtain rfl : a = l := by simpa using h
    rw [List.flatten_cons, List.getElem?_append_left (by have := (List.getElem?_eq_some_iff.1 hj).1; omega), Nat.mul_zero, Nat.zero_add]
    exact hj
  | a :: r, hl, i + 1, l, h, j, x, hj => by
    have ha := hl a (List.mem_cons_self ..)
    rw [List.flatten_cons, List.getElem?_append_right (by omega), ha, show 16 * (i + 1) + j - 16 = 16 * i + j by omega]
    exact flat_at r (fun l hl' => hl l (List.mem_cons_of_mem _ hl')) i l (by simpa using h) j x hj
/-- an own row of short digests, as a slice that is read -/
theorem shorts_own {w : World} {b : Nat} {v : Value} {ls : List (List UInt8)} (hl : ∀ l ∈ ls, l.length = 16) (h : w.ownsRow b 23 16 v ls.length (bvals ls.flatten)) : ∃ A c, v = .slice A ls.length c ∧ ls.length ≤ c ∧ (A = none → c = 0) ∧ Shorts A ls w := by
  obtain ⟨h1, ⟨rfl, h2⟩ | ⟨g, cap, cur, rfl, h3, h4, h5, h6, h7, h8⟩⟩ := h
  · have : ls = [] := List.length_eq_zero_iff.1 h2
    subst this
    exact ⟨none, 0, rfl, Nat.le_refl _, fun _ => rfl, fun i l hi => by simp at hi, fun l hl => by simp at hl⟩
  · refine ⟨some ⟨g, 0, none⟩, cap, rfl, h5, (fun e => by cases e), fun i l hi => ⟨g, 0, rfl, fun j u hj => ?_⟩, hl⟩
    unfold bvals at hj
    rw [List.getElem?_map] at hj
    obtain ⟨x, hx, rfl⟩ := Option.map_eq_some_iff.1 hj
    have hf := flat_at ls hl i l hi j x hx
    rw [cell_of_row w g _ cur _ _ h4, Nat.zero_add, ← Array.getElem?_toList]
    have h9 : (cur.toList.take (ls.length * 16))[16 * i + j]? = some (.int .u8 (x.toNat : Int)) := by
      rw [h8]
      unfold bvals
      rw [List.getElem?_map, hf]
      rfl
    rw [List.getElem?_take] at h9
    split at h9
    · exact h9
    · cases h9
set_option maxRecDepth 100000 in
set_option maxHeartbeats 2000000 in
theorem public_ref (seed : List UInt8) (hs : seed.length = 16) (w : World) :
    Calls Tryd.prog 55 #[.agg (bcells seed)] w fun e w' => e = .returned (.agg (bcells (pub seed))) ∧ Below w.heap.size w w' := by
  have hch := fun (i : Nat) (hi : i < 35) (V : World) => chain_ref seed hs i 15 (by omega) (by decide) V
  have hl2 := fun k => chn_len seed k 15
  have hpb : pub seed = sh ((List.range 35).map fun i => chn seed i 15).flatten := rfl
  rw [hpb]
  obtain ⟨G, hG⟩ : ∃ G : Nat → List UInt8, ∀ k, chn seed k 15 = G k := ⟨_, fun _ => rfl⟩
  simp only [hG] at hch hl2 ⊢
  have hj := fun (V : World) (A : Option Addr) (c : Nat) (hsh : Shorts A ((List.range 35).map fun i => G i) V) => joined_ref ((List.range 35).map fun i => G i) A c (by rw [List.length_map, List.length_range]; decide) V hsh
  have hj2 : ∀ (V : World) (v : Value), V.ownsRow (w.heap.size + 2) 23 16 v 35 (bvals ((List.range 35).map fun i => G i).flatten) → Calls Tryd.prog 61 #[v] V fun e w' => e = .returned (.agg (bcells (sh ((List.range 35).map fun i => G i).flatten))) ∧ Below V.heap.size V w' := fun V v ho => by
    have hll : ((List.range 35).map fun i => G i).length = 35 := by rw [List.length_map, List.length_range]
    rw [← hll] at ho
    obtain ⟨A, c, rfl, _, _, hsh⟩ := shorts_own (fun l hl => by obtain ⟨i, _, rfl⟩ := List.mem_map.1 hl; exact hl2 i) ho
    exact hj V A c hsh
  have hsuc : ∀ k, ((List.range (k + 1)).map fun i => G i).flatten = ((List.range k).map fun i => G i).flatten ++ G k := fun k => by
    rw [List.range_succ, List.map_append, List.flatten_append]
    simp
  obtain ⟨FL, hFL⟩ : ∃ FL : Nat → List UInt8, ∀ k, ((List.range k).map fun i => G i).flatten = FL k := ⟨_, fun _ => rfl⟩
  have hF0 : FL 0 = [] := by rw [← hFL]; rfl
  simp only [hFL] at hj2 hsuc ⊢
  obtain ⟨R, hR⟩ : ∃ R, sh (FL 35) = R := ⟨_, rfl⟩
  have hR16 : R.length = 16 := by rw [← hR]; exact sh_len _
  rw [hR] at hj2 ⊢
  have CH := Lib.hid hch
  have HL := Lib.hid hl2
  have HJ := Lib.hid hj2
  have HSUC := Lib.hid hsuc
  have HF0 := Lib.hid hF0
  have HSZL := Lib.hid (sz16 seed hs)
  have HSZ := Lib.hid (sz16 R hR16)
  have hso : (16 : Nat) = (bcells R).size := by rw [bcells_size, hR16]
  have HSO := Lib.hid hso
  clear hch hl2 hpb hG hj hj2 hsuc hFL hF0 hR hR16 hso hs
  go_enter Tryd.func55, Tryd.ntmps55
  go_upto_region 1 with (fail)
  generalize hV : World.alloc (World.alloc w _) _ = V
  have hb0 : Below w.heap.size w V := by rw [← hV]; exact (below_new _ _).alloc (by simp) _
  have hr0 : V.heap[w.heap.size]? = some (.cells (bcells seed) 23 (0, 0)) := by rw [← hV]; exact heap_alloc2_old _ _ _
  have hr1 : V.heap[w.heap.size + 1]? = some (.cells (bcells (List.replicate 16 0)) 23 (0, 0)) := by rw [← hV]; exact (heap_alloc2_new _ _ _).trans rfl
  have hz : V.heap.size = w.heap.size + 2 := by rw [← hV]; simp
  have HC0 := Lib.hid (And.intro hb0 (And.intro hr0 (And.intro hr1 (show w.heap.size + 2 ≤ V.heap.size by omega))))
  clear hV hb0 hr0 hr1 hz
  go_wp2_with fail
  go_loopw [3, 4] (fun v x wr => ∃ k : Nat, k ≤ 35 ∧ x = .int .i64 (k : Int) ∧ RowKit.Hid (wr.ownsRow (w.heap.size + 2) 23 16 v k (bvals (FL k))) ∧ RowKit.Hid (Below w.heap.size w wr ∧ wr.heap[w.heap.size]? = some (.cells (bcells seed) 23 (0, 0)) ∧ wr.heap[w.heap.size + 1]? = some (.cells (bcells (List.replicate 16 0)) 23 (0, 0)) ∧ w.heap.size + 2 ≤ wr.heap.size)) (fun _ x _ => 35 - (intOf x).toNat)
  case atStart => exact ⟨0, by omega, rfl, Lib.hid (by rw [HF0.out]; exact ⟨rfl, Or.inl ⟨rfl, rfl⟩⟩), HC0⟩
  case round =>
    clear HC0
    obtain ⟨k, hk, rfl, HO, HC⟩ := hrel
    by_cases hlt : k < 35
    · have hki : (k : Int) < 35 := by omega
      have hcall := fun V => CH.out k hlt V
      have hsuc := HSUC.out k
      have hg16 := HL.out k
      obtain ⟨C, hC⟩ : ∃ C, G k = C := ⟨_, rfl⟩
      rw [hC] at hcall hsuc hg16
      have HCALL := Lib.hid hcall
      have HSU := Lib.hid hsuc
      have HG16 := Lib.hid hg16
      have hbs : (bcells C).size = 16 := by rw [bcells_size, hg16]
      clear hcall hsuc hg16 hC
      go_wp2_with (refine wpList_load_row rfl 23 (.tmp 1) rfl w.heap.size rfl 23 (bcells seed) (0, 0) _ HC.out.2.1 Tryd.underlying23 rfl HSZL.out ?_)
      refine (HCALL.out wr).mono ?_
      rintro e w2 ⟨rfl, hb2⟩
      have HB2 := Lib.hid hb2
      clear hb2
      go_wp2_with (at_builtin; go_loud (refine append_shorts rfl (.tmp 9) (.tmp 13) rfl (w.heap.size + 2) _ _ _ rfl ((own_onS HO.out HB2.out).alloc _) ⟨w2.heap.size, 0, none⟩ 1 1 C rfl (by rw [HG16.out]) (row_bvals (fill_short C HG16.out w2)) (by omega) (by have h1 := HC.out.2.2.2; have h2 := HB2.out.size; rw [World.size_alloc]; omega) ?_); go_loud (intro v' w5 hown5 hgrow5); go_loud (have HO5 := Lib.hid hown5); go_loud (have HG5 := Lib.hid hgrow5); go_loud (clear hown5 hgrow5))
      have hne : ∀ j, Value.ownBlock u3 = some j → w.heap.size + 2 ≤ j := fun j hj => (own_geS HO.out hj).1
      have h9 := HC.out.2.2.2
      have h10 := HB2.out.size
      have hsz5 := HG5.out.size
      rw [World.size_alloc] at hsz5
      have hbw : Below w.heap.size w w2 := chain HC.out.1 HB2.out
      refine ⟨⟨k + 1, by omega, by go_num, Lib.hid ?_, Lib.hid ⟨(hbw.alloc hbw.size _).grown HG5.out (by rw [World.size_alloc]; omega) (fun j hj => (by have := hne j hj; omega)), ?_, ?_, by omega⟩⟩, by simp [intOf]; omega⟩
      · rw [HSU.out, bvals_app]
        exact HO5.out
      · rw [HG5.out.block w.heap.size (by rw [World.size_alloc]; omega) (fun e => by have := hne _ e.symm; omega), Below.heap_alloc _ _ _ (by omega)]
        exact (HB2.out.block _ (by omega)).trans HC.out.2.1
      · rw [HG5.out.block (w.heap.size + 1) (by rw [World.size_alloc]; omega) (fun e => by have := hne _ e.symm; omega), Below.heap_alloc _ _ _ (by omega)]
        exact (HB2.out.block _ (by omega)).trans HC.out.2.2.1
    · have hkk : k = 35 := by omega
      subst hkk
      have hge : ¬ ((35 : Nat) : Int) < 35 := by omega
      go_wp2_with fail
      refine (HJ.out wr u3 HO.out).mono ?_
      rintro e w2 ⟨rfl, hb2⟩
      have HR2 := Lib.hid ((hb2.block (w.heap.size + 1) (by have := HC.out.2.2.2; omega)).trans HC.out.2.2.1)
      have HB2 := Lib.hid (chain HC.out.1 hb2)
      clear hb2
      go_wp2_with (refine wpList_store_row rfl 23 (.tmp 2) (.tmp 16) rfl (w.heap.size + 1) (bcells R) rfl rfl 23 _ HR2.out HSZ.out HSO.out (bcells_one _) ?_)
      refine bodyPost_ret (v := .agg (bcells R)) (results_cell_row rfl _ _ (w.heap.size + 1) 23 _ (0, 0) _ rfl (setRow_heap _ _ _ _ _ _ HR2.out) Tryd.underlying23 rfl HSZ.out) rfl ⟨rfl, ?_⟩
      exact below_row HB2.out (by omega) _
end Go.Proofs.YtgnemclpopjhoaaDoor
