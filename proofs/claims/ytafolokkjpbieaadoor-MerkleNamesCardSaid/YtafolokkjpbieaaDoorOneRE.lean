/-
  THE WALKS over the reference's signature, and over the comparison of short digests. (The drawn regions: written by wip/gen-onere.py.)
-/
import Derived.Test.YtafolokkjpbieaaDoorOneRabcd
import Derived.Test.YtafolokkjpbieaaDoorOneI
namespace Go.Proofs.YtafolokkjpbieaaDoor
open Go.RowKit Sha Ots
set_option linter.unusedVariables false
set_option linter.unusedSimpArgs false
theorem wp_append_shorts {w : World} {o : Oper} {a : Act} {K : Act → World → Prop} {Q : Exit → Act → World → Prop} (s x : Operand)
    (ho : o.op = .call { callee := .builtin .append, args := #[s, x], argTypes := #[29, 29] }) (base : Nat) (v : Value) (n : Nat) (xs : List Value) (hs : a.eval s = v) (hown : w.ownsRow base 23 16 v n xs)
    (ad : Addr) (m c : Nat) (L : List UInt8) (hx : a.eval x = .slice (some ad) m c) (hm : L.length = m * 16) (hc : ∀ j u, (bvals L)[j]? = some u → w.cell? (ad.add j) = some u) (h63 : n + m ≤ 1000000) (hbase : base ≤ w.heap.size)
    (h : ∀ v' w', w'.ownsRow base 23 16 v' (n + m) (xs ++ bvals L) → w.grownBy w' v.ownBlock → K (a.put o.dst v') w') : o.wp Tryd.prog a w K Q := by
  obtain ⟨i0, hi, hz0, hz1, hz2⟩ := info_parts Tryd.info_short
  exact wp_append_own _ s x 29 ho base 23 i0 (.agg (bcells (List.replicate 16 0))) 16 16 Tryd.underlying29 hi hz0 hz1 hz2 rfl (by decide) v n xs hs hown ad m c (bvals L) hx (by rw [bvals_len, hm]) hc (fun u hu => by
    unfold bvals at hu
    obtain ⟨x, _, rfl⟩ := List.mem_map.1 hu
    rfl) (by unfold maxLen; omega) (by omega) hbase (fun v' w' h1 h2 _ => h v' w' h1 h2)
theorem bel_size2 {n : Nat} {u v : World} (h : Below n u v) (hn : u.heap.size = n) : n ≤ v.heap.size := by rw [← hn]; exact h.size
theorem bel_drew {v w : World} (h : Below v.drew.heap.size v.drew w) : Below v.heap.size v w := ⟨h.os, h.tape, h.output, h.size, h.block⟩
set_option maxRecDepth 100000 in
set_option maxHeartbeats 2000000 in
theorem sign_ref (seed : List UInt8) (hs : seed.length = 16) (l : List UInt8) (A : Option Addr) (c : Nat) (hl : l.length ≤ 100000) (hc : l.length ≤ c) (hA : A = none → c = 0) (w : World) (hsrc : SrcAt A l w) :
    Calls Tryd.prog 37 #[.agg (bcells seed), .slice A l.length c] w fun e w' => ∃ B cb, e = .returned (.slice B 35 cb) ∧ Shorts B (sgn seed l) w' ∧ Below w.heap.size w w' := by
  have hdi := fun (V : World) (hb : Below w.heap.size w V) => digits_ref l A c hl hc hA V (hsrc.on hb)
  have hlen := dig_len l
  have hle : ∀ i, (dig l).getD i 0 ≤ 15 := getD_le15 _ (dig_le l)
  have hsg : sgn seed l = (List.range 35).map fun i => chn seed i ((dig l).getD i 0) := rfl
  rw [hsg]
  obtain ⟨DG, hDG⟩ : ∃ DG, dig l = DG := ⟨_, rfl⟩
  rw [hDG] at hdi hlen hle ⊢
  have hch := fun (i : Nat) (hi : i < 35) (V : World) => chain_ref seed hs i (DG.getD i 0) (by omega) (by have := hle i; omega) V
  have hl2 := fun k => chn_len seed k (DG.getD k 0)
  obtain ⟨G, hG⟩ : ∃ G : Nat → List UInt8, ∀ k, chn seed k (DG.getD k 0) = G k := ⟨_, fun _ => rfl⟩
  simp only [hG] at hch hl2 ⊢
  have hsuc : ∀ k, ((List.range (k + 1)).map fun i => G i).flatten = ((List.range k).map fun i => G i).flatten ++ G k := fun k => by
    rw [List.range_succ, List.map_append, List.flatten_append]
    simp
  have hfin : ∀ (V : World) (v : Value), V.ownsRow 0 23 16 v 35 (bvals ((List.range 35).map fun i => G i).flatten) → ∃ A c, v = .slice A 35 c ∧ Shorts A ((List.range 35).map fun i => G i) V := fun V v ho => by
    have hll : ((List.range 35).map fun i => G i).length = 35 := by rw [List.length_map, List.length_range]
    rw [← hll] at ho
    obtain ⟨A, c, h1, _, _, hsh⟩ := shorts_own (fun l hl => by obtain ⟨i, _, rfl⟩ := List.mem_map.1 hl; exact hl2 i) ho
    exact ⟨A, c, h1, hsh⟩
  obtain ⟨Z, hZ⟩ : ∃ Z, ((List.range 35).map fun i => G i) = Z := ⟨_, rfl⟩
  obtain ⟨FL, hFL⟩ : ∃ FL : Nat → List UInt8, ∀ k, ((List.range k).map fun i => G i).flatten = FL k := ⟨_, fun _ => rfl⟩
  have hF0 : FL 0 = [] := by rw [← hFL]; rfl
  simp only [hFL] at hsuc hfin
  simp only [hZ] at hfin
  rw [hZ]
  have DI := Lib.hid hdi
  have CH := Lib.hid hch
  have HL := Lib.hid hl2
  have HLE := Lib.hid hle
  have HLEN := Lib.hid hlen
  have HSUC := Lib.hid hsuc
  have HFIN := Lib.hid hfin
  have HF0 := Lib.hid hF0
  have HS16 := Lib.hid hs
  obtain ⟨n, hn⟩ : ∃ n, l.length = n := ⟨_, rfl⟩
  rw [hn] at DI ⊢
  clear hdi hlen hle hsg hDG hch hl2 hG hsuc hfin hZ hFL hF0 hn hs hsrc
  go_enter Tryd.func37, Tryd.ntmps37
  go_wp2_with fail
  refine (DI.out _ (below_new _ _)).mono ?_
  rintro e w1 ⟨X, cap, rfl, hX, hin, hb1⟩
  have hr1 : w1.heap[w.heap.size]? = some (.cells (bcells seed) 23 (0, 0)) := (hb1.block w.heap.size (by simp)).trans (heap_alloc_new _ _)
  have HB1 := Lib.hid ((below_new w _).trans (hb1.mono (by simp)))
  have HR1 := Lib.hid (rangeAt_row hr1)
  have HIN := Lib.hid hin
  clear hX hin hb1 hr1
  go_wp2_with fail
  obtain ⟨VB, hVB⟩ : ∃ VB, w1.heap.size = VB := ⟨_, rfl⟩
  have HVB := Lib.hid hVB
  clear hVB
  go_loopw [6, 7] (fun v x wr => ∃ k : Nat, k ≤ 35 ∧ x = .int .i64 (k : Int) ∧ RowKit.Hid (wr.ownsRow VB 23 16 v k (bvals (FL k))) ∧ RowKit.Hid (Below VB w1 wr)) (fun _ x _ => 35 - (intOf x).toNat)
  case atStart => exact ⟨0, by omega, rfl, Lib.hid (by rw [HF0.out]; exact ⟨rfl, Or.inl ⟨rfl, rfl⟩⟩), Lib.hid (Below.refl _ _)⟩
  case round =>
    obtain ⟨k, hk, rfl, HO, HBW⟩ := hrel
    by_cases hlt : k < 35
    · have hki : (k : Int) < 35 := by omega
      have cx := HIN.out.at k (by rw [HLEN.out]; exact hlt)
      have hd15 := HLE.out k
      have hcall := fun V => CH.out k hlt V
      have hsuc := HSUC.out k
      have hg16 := HL.out k
      obtain ⟨d, hd⟩ : ∃ d, DG.getD k 0 = d := ⟨_, rfl⟩
      rw [hd] at cx hd15 hcall
      obtain ⟨C, hC⟩ : ∃ C, G k = C := ⟨_, rfl⟩
      rw [hC] at hcall hsuc hg16
      have chc : ∀ V, Calls Tryd.prog 53 #[.agg (bvals seed).toArray, .int .i64 (k : Int), .int .i64 (d : Int)] V fun e w' => e = .returned (.agg (bcells C)) ∧ Below V.heap.size V w' := hcall
      have CHC := Lib.hid chc
      have HSU := Lib.hid hsuc
      have HG16 := Lib.hid hg16
      have hbs : (bcells C).size = 16 := by rw [bcells_size, hg16]
      have mkS : ∀ z, Below VB w1 z → Below VB w1 z ∧ z.rangeAt w.heap.size 0 (bvals seed) ∧ z.cell? ⟨X, k, none⟩ = some (.int .i64 (d : Int)) := fun z hz => by
        have hz2 : Below w1.heap.size w1 z := by rw [HVB.out]; exact hz
        exact ⟨hz, rangeAt_on HR1.out hz2, by rw [hz2.cell (World.block_lt_of_cell? _ _ cx)]; exact cx⟩
      have hiS : (Tryd.prog.info? 23).map (·.size) = some (bvals seed).length := by rw [bvals_len, HS16.out]; kernel_rfl
      have hu := Tryd.underlying23
      clear hcall chc hsuc hg16 hC hd
      go_upto_region 6 with (fail)
      try simp only [Act.put]
      refine wp_region_held_drew (S := fun z => Below VB w1 z ∧ z.rangeAt w.heap.size 0 (bvals seed) ∧ z.cell? ⟨X, k, none⟩ = some (.int .i64 (d : Int))) (by kernel_rfl) (mkS _ HBW.out.drew) (fun hHeld => ?_)
      refine wpAnyH_take (i := 0) (oi := { dst := some 14, op := Go.Op.move (Go.Operand.tmp 6), type := 29, pos := "ref.go:75", after := #[], guard := none }) (v := ?_) rfl (by kernel_rfl) (by kernel_rfl) (by kernel_rfl) (fun _ _ _ h => h) (Or.inl ⟨by rfl, ?_⟩) hHeld ?_
      rotate_left
      · intro w hSw
        clear hSw
        go_simp
        try with_reducible rfl
      try simp only [Act.put, List.setIfInBounds_toArray, List.set_cons_zero, List.set_cons_succ]
      refine wpAnyH_take (i := 1) (oi := { dst := some 15, op := Go.Op.load 23 (Go.Operand.tmp 2), type := 23, pos := "ref.go:75", after := #[], guard := none }) (v := .agg (bvals seed).toArray) rfl (by kernel_rfl) (by kernel_rfl) (by kernel_rfl) (fun _ _ _ h => h) (yieldsIf_load_mid (by rfl) _ _ rfl _ _ rfl (bvals seed) _ (fun w hSw => hSw.2.1) hu rfl hiS) hHeld ?_
      try simp only [Act.put, List.setIfInBounds_toArray, List.set_cons_zero, List.set_cons_succ]
      refine wpAnyH_take (i := 2) (oi := { dst := some 16, op := Go.Op.move (Go.Operand.tmp 7), type := 3, pos := "ref.go:75", after := #[], guard := none }) (v := ?_) rfl (by kernel_rfl) (by kernel_rfl) (by kernel_rfl) (fun _ _ _ h => h) (Or.inl ⟨by rfl, ?_⟩) hHeld ?_
      rotate_left
      · intro w hSw
        clear hSw
        go_simp
        try with_reducible rfl
      try simp only [Act.put, List.setIfInBounds_toArray, List.set_cons_zero, List.set_cons_succ]
      refine wpAnyH_take (i := 3) (oi := { dst := some 17, op := Go.Op.move (Go.Operand.tmp 5), type := 70, pos := "ref.go:75", after := #[], guard := none }) (v := ?_) rfl (by kernel_rfl) (by kernel_rfl) (by kernel_rfl) (fun _ _ _ h => h) (Or.inl ⟨by rfl, ?_⟩) hHeld ?_
      rotate_left
      · intro w hSw
        clear hSw
        go_simp
        try with_reducible rfl
      try simp only [Act.put, List.setIfInBounds_toArray, List.set_cons_zero, List.set_cons_succ]
      refine wpAnyH_take (i := 4) (oi := { dst := some 18, op := Go.Op.move (Go.Operand.tmp 7), type := 3, pos := "ref.go:75", after := #[], guard := none }) (v := ?_) rfl (by kernel_rfl) (by kernel_rfl) (by kernel_rfl) (fun _ _ _ h => h) (Or.inl ⟨by rfl, ?_⟩) hHeld ?_
      rotate_left
      · intro w hSw
        clear hSw
        go_simp
        try with_reducible rfl
      try simp only [Act.put, List.setIfInBounds_toArray, List.set_cons_zero, List.set_cons_succ]
      refine wpAnyH_take (i := 5) (oi := { dst := some 19, op := Go.Op.indexAddr 70 (Go.Operand.tmp 17) (Go.Operand.tmp 18), type := 0, pos := "ref.go:75", after := #[{ on := 3, ground := Go.Ground.data }, { on := 4, ground := Go.Ground.data }], guard := none }) (v := ?_) rfl (by kernel_rfl) (by kernel_rfl) (by kernel_rfl) (fun _ _ _ h => h) (Or.inl ⟨by rfl, ?_⟩) hHeld ?_
      rotate_left
      · intro w hSw
        clear hSw
        go_simp
        try with_reducible rfl
      try simp only [Act.put, List.setIfInBounds_toArray, List.set_cons_zero, List.set_cons_succ]
      refine wpAnyH_take (i := 6) (oi := { dst := some 20, op := Go.Op.load 3 (Go.Operand.tmp 19), type := 3, pos := "ref.go:75", after := #[{ on := 5, ground := Go.Ground.data }], guard := none }) (v := ?_) rfl (by kernel_rfl) (by kernel_rfl) (by kernel_rfl) (fun _ _ _ h => h) (Or.inl ⟨by rfl, ?_⟩) hHeld ?_
      rotate_left
      · intro w hSw
        have hfc0 := hSw.2.2
        clear hSw
        go_simp
        try with_reducible rfl
      try simp only [Act.put, List.setIfInBounds_toArray, List.set_cons_zero, List.set_cons_succ]
      refine wpAnyH_ready (rs := [7]) (by kernel_rfl) (by simp) (AllReadyH.cons (o := { dst := some 21, op := Go.Op.call { callee := Go.Callee.value (Go.Operand.func 53), args := #[Go.Operand.tmp 15, Go.Operand.tmp 16, Go.Operand.tmp 20], argTypes := #[23, 3, 3] }, type := 23, pos := "ref.go:75", after := #[{ on := 1, ground := Go.Ground.data }, { on := 2, ground := Go.Ground.data }, { on := 6, ground := Go.Ground.data }], guard := none }) rfl (fun K hK => ?_) AllReadyH.nil)
      go_simp
      refine (CHC.out _).mono ?_
      rintro e w8 ⟨rfl, hb8⟩
      go_simp
      have hbz := hHeld.1.trans (hb8.mono (bel_size2 hHeld.1 HVB.out))
      refine hK.out _ _ (mkS _ hbz) (fun hHeld2 => ?_)
      clear hK K hHeld
      have hHeld := hHeld2
      clear hHeld2
      try simp only [Act.put, List.setIfInBounds_toArray, List.set_cons_zero, List.set_cons_succ]
      refine wpAnyH_ready (rs := [8]) (by kernel_rfl) (by simp) (AllReadyH.cons (o := { dst := some 22, op := Go.Op.buildSlice 29 1 #[(0, Go.Operand.tmp 21)], type := 29, pos := "ref.go:75", after := #[{ on := 7, ground := Go.Ground.data }], guard := none }) rfl (fun K hK => ?_) AllReadyH.nil)
      go_simp
      refine hK.out _ _ (mkS _ (hbz.alloc (bel_size2 hbz HVB.out) _)) (fun hHeld3 => ?_)
      clear hK K hHeld
      have hHeld := hHeld3
      clear hHeld3
      try simp only [Act.put, List.setIfInBounds_toArray, List.set_cons_zero, List.set_cons_succ]
      refine wpAnyH_ready (rs := [9]) (by kernel_rfl) (by simp) (AllReadyH.cons (o := { dst := some 23, op := Go.Op.call { callee := Go.Callee.builtin Go.Builtin.append, args := #[Go.Operand.tmp 14, Go.Operand.tmp 22], argTypes := #[29, 29] }, type := 29, pos := "ref.go:75", after := #[{ on := 0, ground := Go.Ground.data }, { on := 8, ground := Go.Ground.data }, { on := 7, ground := Go.Ground.chain }], guard := none }) rfl (fun K hK => ?_) AllReadyH.nil)
      rw [if_pos (by rfl)]
      refine wp_append_shorts (.tmp 14) (.tmp 22) rfl VB _ _ _ rfl ((own_onS HO.out (bel_drew hb8)).alloc _) ⟨w8.heap.size, 0, none⟩ 1 1 C rfl (by rw [HG16.out]) (row_bvals (fill_short C HG16.out w8)) (by omega) (by have h1 := bel_size2 hbz HVB.out; rw [World.size_alloc]; omega) ?_
      intro v2 w9 ho9 hg9
      have hbq : Below VB w1 w9 := (hbz.alloc (bel_size2 hbz HVB.out) _).grown hg9 (by have h1 := bel_size2 hbz HVB.out; rw [World.size_alloc]; omega) (fun j hj => (own_geS HO.out hj).1)
      refine hK.out _ _ (mkS _ hbq) (fun hHeld5 => ?_)
      clear hK K hHeld
      have hHeld := hHeld5
      clear hHeld5
      try simp only [Act.put, List.setIfInBounds_toArray, List.set_cons_zero, List.set_cons_succ]
      refine wpAnyH_take (i := 10) (oi := { dst := some 6, op := Go.Op.assign (Go.Operand.tmp 23), type := 29, pos := "ref.go:75", after := #[{ on := 9, ground := Go.Ground.data }, { on := 9, ground := Go.Ground.chain }, { on := 0, ground := Go.Ground.phase }, { on := 1, ground := Go.Ground.phase }, { on := 2, ground := Go.Ground.phase }, { on := 3, ground := Go.Ground.phase }, { on := 4, ground := Go.Ground.phase }, { on := 5, ground := Go.Ground.phase }, { on := 6, ground := Go.Ground.phase }, { on := 7, ground := Go.Ground.phase }, { on := 8, ground := Go.Ground.phase }, { on := 9, ground := Go.Ground.phase }], guard := none }) (v := ?_) rfl (by kernel_rfl) (by kernel_rfl) (by kernel_rfl) (fun _ _ _ h => h) (Or.inl ⟨by rfl, ?_⟩) hHeld ?_
      rotate_left
      · intro w hSw
        clear hSw
        go_simp
        try with_reducible rfl
      try simp only [Act.put, List.setIfInBounds_toArray, List.set_cons_zero, List.set_cons_succ]
      refine wpAnyH_done (by kernel_rfl) ?_ _
      go_wp2_with fail
      refine ⟨⟨k + 1, by omega, by go_num, Lib.hid ?_, Lib.hid hbq⟩, by simp [intOf]; omega⟩
      rw [HSU.out, bvals_app]
      exact ho9
    · have hkk : k = 35 := by omega
      subst hkk
      have hge : ¬ ((35 : Nat) : Int) < 35 := by omega
      have hfin := HFIN.out wr u6
      obtain ⟨B, cb, hv, hsh⟩ := hfin (by
        obtain ⟨h1, h2 | ⟨g, cap, cur, h3, h4, h5⟩⟩ := HO.out
        · exact ⟨h1, .inl h2⟩
        · exact ⟨h1, .inr ⟨g, cap, cur, h3, Nat.zero_le _, h5⟩⟩)
      subst hv
      have HSHF := Lib.hid hsh
      clear hfin hsh
      go_wp2_with fail
      go_ret
      refine ⟨B, ⟨cb, rfl⟩, HSHF.out, ?_⟩
      have hz2 : Below w1.heap.size w1 wr := by rw [HVB.out]; exact HBW.out
      exact chain HB1.out hz2
set_option maxRecDepth 100000 in
set_option maxHeartbeats 2000000 in
theorem same_ref (ls : List (List UInt8)) (A1 A2 : Option Addr) (c1 c2 : Nat) (hl : ls.length ≤ 100000) (w : World) (s1 : Shorts A1 ls w) (s2 : Shorts A2 ls w) :
    Calls Tryd.prog 39 #[.slice A1 ls.length c1, .slice A2 ls.length c2] w fun e w' => e = .returned (.bool true) ∧ Below w.heap.size w w' := by
  obtain ⟨n, hn⟩ : ∃ n, ls.length = n := ⟨_, rfl⟩
  rw [hn] at hl ⊢
  have HN := Lib.hid hn
  have S1 := Lib.hid s1
  have S2 := Lib.hid s2
  have hnn : ((n : Int) != (n : Int)) = false := by simp
  clear hn s1 s2
  go_enter Tryd.func39, Tryd.ntmps39
  go_wp2_with fail
  go_loopw [5] (fun i wr => ∃ k : Nat, k ≤ n ∧ i = .int .i64 (k : Int) ∧ RowKit.Hid (Below w.heap.size w wr)) (fun i _ => n - (intOf i).toNat)
  case atStart => exact ⟨0, by omega, rfl, Lib.hid (Below.refl _ _)⟩
  case round =>
    obtain ⟨k, hk, rfl, HB⟩ := hrel
    by_cases hlt : k < n
    · obtain ⟨x, hx⟩ : ∃ x, ls[k]? = some x := ⟨_, List.getElem?_eq_getElem (by rw [HN.out]; exact hlt)⟩
      obtain ⟨g1, o1, rfl, r1⟩ := S1.out.row k x hx
      obtain ⟨g2, o2, rfl, r2⟩ := S2.out.row k x hx
      have hx16 : x.length = 16 := S1.out.len x (List.mem_of_getElem? hx)
      rw [Nat.mul_comm] at r1 r2
      have HG1 : RowKit.Hid (wr.drew.rangeAt g1 (o1 + k * 16) (bvals x)) := Lib.hid (rangeAt_on r1 HB.out.drew)
      have HG2 : RowKit.Hid (wr.drew.rangeAt g2 (o2 + k * 16) (bvals x)) := Lib.hid (rangeAt_on r2 HB.out.drew)
      have hq1 : ∀ w, (binOp .neq 23 (.agg (bvals x).toArray) (.agg (bvals x).toArray)).run Tryd.prog w = .ok (.bool false) w := fun w => by
        have h := neq_short x x hx16 hx16 w
        rw [show (!(x == x)) = false by simp] at h
        exact h
      have hix : (Tryd.prog.info? 23).map (·.size) = some (bvals x).length := by rw [bvals_len, hx16]; kernel_rfl
      have hu := Tryd.underlying23
      have hki : (k : Int) < (n : Int) := by omega
      clear hx r1 r2 hx16
      go_upto_region 6 with (fail)
      try simp only [Act.put]
      refine wp_region_held_drew (S := fun z => Below w.heap.size w z ∧ z.rangeAt g1 (o1 + k * 16) (bvals x) ∧ z.rangeAt g2 (o2 + k * 16) (bvals x)) (by kernel_rfl) ⟨HB.out.drew, HG1.out, HG2.out⟩ (fun hHeld => ?_)
      refine wpAnyH_take (i := 0) (oi := { dst := some 17, op := Go.Op.move (Go.Operand.tmp 0), type := 29, pos := "ref.go:103", after := #[], guard := none }) (v := ?_) rfl (by kernel_rfl) (by kernel_rfl) (by kernel_rfl) (fun _ _ _ h => h) (Or.inl ⟨by rfl, ?_⟩) hHeld ?_
      rotate_left
      · intro w hSw
        clear hSw
        go_simp
        try with_reducible rfl
      try simp only [Act.put, List.setIfInBounds_toArray, List.set_cons_zero, List.set_cons_succ]
      refine wpAnyH_take (i := 1) (oi := { dst := some 18, op := Go.Op.move (Go.Operand.tmp 5), type := 3, pos := "ref.go:103", after := #[], guard := none }) (v := ?_) rfl (by kernel_rfl) (by kernel_rfl) (by kernel_rfl) (fun _ _ _ h => h) (Or.inl ⟨by rfl, ?_⟩) hHeld ?_
      rotate_left
      · intro w hSw
        clear hSw
        go_simp
        try with_reducible rfl
      try simp only [Act.put, List.setIfInBounds_toArray, List.set_cons_zero, List.set_cons_succ]
      refine wpAnyH_take (i := 2) (oi := { dst := some 19, op := Go.Op.indexAddr 29 (Go.Operand.tmp 17) (Go.Operand.tmp 18), type := 0, pos := "ref.go:103", after := #[{ on := 0, ground := Go.Ground.data }, { on := 1, ground := Go.Ground.data }], guard := none }) (v := ?_) rfl (by kernel_rfl) (by kernel_rfl) (by kernel_rfl) (fun _ _ _ h => h) (Or.inl ⟨by rfl, ?_⟩) hHeld ?_
      rotate_left
      · intro w hSw
        clear hSw
        go_simp
        try with_reducible rfl
      try simp only [Act.put, List.setIfInBounds_toArray, List.set_cons_zero, List.set_cons_succ]
      refine wpAnyH_take (i := 3) (oi := { dst := some 20, op := Go.Op.load 23 (Go.Operand.tmp 19), type := 23, pos := "ref.go:103", after := #[{ on := 2, ground := Go.Ground.data }], guard := none }) (v := .agg (bvals x).toArray) rfl (by kernel_rfl) (by kernel_rfl) (by kernel_rfl) (fun _ _ _ h => h) (yieldsIf_load_mid (by rfl) _ _ rfl _ _ rfl (bvals x) _ (fun w hSw => hSw.2.1) hu rfl hix) hHeld ?_
      try simp only [Act.put, List.setIfInBounds_toArray, List.set_cons_zero, List.set_cons_succ]
      refine wpAnyH_take (i := 4) (oi := { dst := some 21, op := Go.Op.move (Go.Operand.tmp 1), type := 29, pos := "ref.go:103", after := #[], guard := none }) (v := ?_) rfl (by kernel_rfl) (by kernel_rfl) (by kernel_rfl) (fun _ _ _ h => h) (Or.inl ⟨by rfl, ?_⟩) hHeld ?_
      rotate_left
      · intro w hSw
        clear hSw
        go_simp
        try with_reducible rfl
      try simp only [Act.put, List.setIfInBounds_toArray, List.set_cons_zero, List.set_cons_succ]
      refine wpAnyH_take (i := 5) (oi := { dst := some 22, op := Go.Op.move (Go.Operand.tmp 5), type := 3, pos := "ref.go:103", after := #[], guard := none }) (v := ?_) rfl (by kernel_rfl) (by kernel_rfl) (by kernel_rfl) (fun _ _ _ h => h) (Or.inl ⟨by rfl, ?_⟩) hHeld ?_
      rotate_left
      · intro w hSw
        clear hSw
        go_simp
        try with_reducible rfl
      try simp only [Act.put, List.setIfInBounds_toArray, List.set_cons_zero, List.set_cons_succ]
      refine wpAnyH_take (i := 6) (oi := { dst := some 23, op := Go.Op.indexAddr 29 (Go.Operand.tmp 21) (Go.Operand.tmp 22), type := 0, pos := "ref.go:103", after := #[{ on := 4, ground := Go.Ground.data }, { on := 5, ground := Go.Ground.data }], guard := none }) (v := ?_) rfl (by kernel_rfl) (by kernel_rfl) (by kernel_rfl) (fun _ _ _ h => h) (Or.inl ⟨by rfl, ?_⟩) hHeld ?_
      rotate_left
      · intro w hSw
        clear hSw
        go_simp
        try with_reducible rfl
      try simp only [Act.put, List.setIfInBounds_toArray, List.set_cons_zero, List.set_cons_succ]
      refine wpAnyH_take (i := 7) (oi := { dst := some 24, op := Go.Op.load 23 (Go.Operand.tmp 23), type := 23, pos := "ref.go:103", after := #[{ on := 6, ground := Go.Ground.data }], guard := none }) (v := .agg (bvals x).toArray) rfl (by kernel_rfl) (by kernel_rfl) (by kernel_rfl) (fun _ _ _ h => h) (yieldsIf_load_mid (by rfl) _ _ rfl _ _ rfl (bvals x) _ (fun w hSw => hSw.2.2) hu rfl hix) hHeld ?_
      try simp only [Act.put, List.setIfInBounds_toArray, List.set_cons_zero, List.set_cons_succ]
      refine wpAnyH_take (i := 8) (oi := { dst := some 25, op := Go.Op.binOp Go.BinOp.neq 23 (Go.Operand.tmp 20) (Go.Operand.tmp 24) 23, type := 4, pos := "ref.go:103", after := #[{ on := 3, ground := Go.Ground.data }, { on := 7, ground := Go.Ground.data }], guard := none }) (v := ?_) rfl (by kernel_rfl) (by kernel_rfl) (by kernel_rfl) (fun _ _ _ h => h) (Or.inl ⟨by rfl, ?_⟩) hHeld ?_
      rotate_left
      · intro w hSw
        clear hSw
        go_simp
        try with_reducible rfl
      try simp only [Act.put, List.setIfInBounds_toArray, List.set_cons_zero, List.set_cons_succ]
      refine wpAnyH_done (by kernel_rfl) ?_ _
      go_wp2_with fail
      refine ⟨⟨k + 1, by omega, by go_num, Lib.hid hHeld.1⟩, by simp [intOf]; omega⟩
    · have hge : ¬ ((k : Int) < (n : Int)) := by omega
      go_wp2_with fail
      go_ret
      exact ⟨rfl, HB.out⟩
end Go.Proofs.YtafolokkjpbieaaDoor
