import Derived.Test.YtcgffkkfeimifaaGreatDoorOneH
import Derived.Test.YtcgffkkfeimifaaGreatDoorOneRabcd
namespace Go.Proofs.YtcgffkkfeimifaaGreatDoor
open Go.RowKit Sha Ots
set_option linter.unusedVariables false
set_option linter.unusedSimpArgs false
theorem rangeAt_row {z : World} {X : Nat} {F : List UInt8} {T : TypeId} {fr : Nat × Nat} (h : z.heap[X]? = some (.cells (bcells F) T fr)) : z.rangeAt X 0 (bvals F) := fun j v hv => by
 rw [Nat.zero_add, cell_of_row _ _ _ _ _ _ h]
 unfold bcells
 simpa [bvals] using hv
end Go.Proofs.YtcgffkkfeimifaaGreatDoor
namespace Go.Proofs.YtcgffkkfeimifaaGreatDoor
open Go.RowKit Sha Ots
set_option linter.unusedVariables false
set_option linter.unusedSimpArgs false
theorem wp_append_shorts {w : World} {o : Oper} {a : Act} {K : Act → World → Prop} {Q : Exit → Act → World → Prop} (s x : Operand)
  (ho : o.op = .call { callee := .builtin .append, args := #[s, x], argTypes := #[28, 28] }) (base : Nat) (v : Value) (n : Nat) (xs : List Value) (hs : a.eval s = v) (hown : w.ownsRow base 41 16 v n xs)
  (ad : Addr) (m c : Nat) (L : List UInt8) (hx : a.eval x = .slice (some ad) m c) (hm : L.length = m * 16) (hc : ∀ j u, (bvals L)[j]? = some u → w.cell? (ad.add j) = some u) (h63 : n + m ≤ 1000000) (hbase : base ≤ w.heap.size)
  (h : ∀ v' w', w'.ownsRow base 41 16 v' (n + m) (xs ++ bvals L) → w.grownBy w' v.ownBlock → K (a.put o.dst v') w') : o.wp Tryz.prog a w K Q := by
 obtain ⟨i0, hi, hz0, hz1, hz2⟩ := info_parts Tryz.info_short
 exact wp_append_own _ s x 28 ho base 41 i0 (.agg (bcells (List.replicate 16 0))) 16 16 Tryz.underlying28 hi hz0 hz1 hz2 rfl (by decide) v n xs hs hown ad m c (bvals L) hx (by rw [bvals_len, hm]) hc (fun u hu => by
  unfold bvals at hu
  obtain ⟨x, _, rfl⟩ := List.mem_map.1 hu
  rfl) (by unfold maxLen; omega) (by omega) hbase (fun v' w' h1 h2 _ => h v' w' h1 h2)
theorem bel_size2 {n : Nat} {u v : World} (h : Below n u v) (hn : u.heap.size = n) : n ≤ v.heap.size := by rw [← hn]; exact h.size
theorem bel_drew {v w : World} (h : Below v.drew.heap.size v.drew w) : Below v.heap.size v w := ⟨h.os, h.tape, h.output, h.size, h.block⟩
set_option maxRecDepth 100000 in
set_option maxHeartbeats 2000000 in
theorem sign_ref (seed : List UInt8) (hs : seed.length = 16) (l : List UInt8) (A : Option Addr) (c : Nat) (hl : l.length ≤ 100000) (hc : l.length ≤ c) (hA : A = none → c = 0) (w : World) (hsrc : SrcAt A l w) :
  Calls Tryz.prog 82 #[.agg (bcells seed), .slice A l.length c] w fun e w' => ∃ B cb, e = .returned (.slice B 35 cb) ∧ Shorts B (sgn seed l) w' ∧ Below w.heap.size w w' := by
 have hdi := fun (V : World) (hb : Below w.heap.size w V) => digits_ref l A c hl hc hA V (hsrc.on hb)
 have hlen := dig_len l
 have hle : ∀ i, (dig l).getD i 0 ≤ 15 := getD_le15 _ (dig_le l)
 have hsg : sgn seed l = (List.range 35).map fun i => chn seed i ((dig l).getD i 0) := rfl
 rw [hsg]
 obtain ⟨DG, hDG⟩ : ∃ DG, dig l = DG := ⟨_, rfl⟩
 rw [hDG] at hdi hlen hle ⊢
 have hch := fun (i : Nat) (hi : i < 35) (V : World) => chain_ref seed hs i (DG.getD i 0) (by omega) (by have := hle i; omega) V
 have hl2 := fun k => chn_len seed k (DG.getD k 0)
 obtain ⟨G, hG⟩ : ∃ G : Nat → List UInt8, ∀ k, chn seed k (DG.getD k 0) = G k := ⟨_, fun _ => rfl⟩
 simp only [hG] at hch hl2 ⊢
 have hsuc : ∀ k, ((List.range (k + 1)).map fun i => G i).flatten = ((List.range k).map fun i => G i).flatten ++ G k := fun k => by
  rw [List.range_succ, List.map_append, List.flatten_append]
  simp
 have hfin : ∀ (V : World) (v : Value), V.ownsRow 0 41 16 v 35 (bvals ((List.range 35).map fun i => G i).flatten) → ∃ A c, v = .slice A 35 c ∧ Shorts A ((List.range 35).map fun i => G i) V := fun V v ho => by
  have hll : ((List.range 35).map fun i => G i).length = 35 := by rw [List.length_map, List.length_range]
  rw [← hll] at ho
  obtain ⟨A, c, h1, _, _, hsh⟩ := shorts_own (fun l hl => by obtain ⟨i, _, rfl⟩ := List.mem_map.1 hl; exact hl2 i) ho
  exact ⟨A, c, h1, hsh⟩
 obtain ⟨Z, hZ⟩ : ∃ Z, ((List.range 35).map fun i => G i) = Z := ⟨_, rfl⟩
 obtain ⟨FL, hFL⟩ : ∃ FL : Nat → List UInt8, ∀ k, ((List.range k).map fun i => G i).flatten = FL k := ⟨_, fun _ => rfl⟩
 have hF0 : FL 0 = [] := by rw [← hFL]; rfl
 simp only [hFL] at hsuc hfin
 simp only [hZ] at hfin
 rw [hZ]
 have DI := Lib.hid hdi
 have CH := Lib.hid hch
 have HL := Lib.hid hl2
 have HLE := Lib.hid hle
 have HLEN := Lib.hid hlen
 have HSUC := Lib.hid hsuc
 have HFIN := Lib.hid hfin
 have HF0 := Lib.hid hF0
 have HS16 := Lib.hid hs
 obtain ⟨n, hn⟩ : ∃ n, l.length = n := ⟨_, rfl⟩
 rw [hn] at DI ⊢
 clear hdi hlen hle hsg hDG hch hl2 hG hsuc hfin hZ hFL hF0 hn hs hsrc
 go_enter Tryz.func82, Tryz.ntmps82
 go_wp2_with fail
 refine (DI.out _ (below_new _ _)).mono ?_
 rintro e w1 ⟨X, cap, rfl, hX, hin, hb1⟩
 have hr1 : w1.heap[w.heap.size]? = some (.cells (bcells seed) 41 (0, 0)) := (hb1.block w.heap.size (by simp)).trans (heap_alloc_new _ _)
 have HB1 := Lib.hid ((below_new w _).trans (hb1.mono (by simp)))
 have HR1 := Lib.hid (rangeAt_row hr1)
 have HIN := Lib.hid hin
 clear hX hin hb1 hr1
 go_wp2_with fail
 obtain ⟨VB, hVB⟩ : ∃ VB, w1.heap.size = VB := ⟨_, rfl⟩
 have HVB := Lib.hid hVB
 clear hVB
 go_loopw [6, 7] (fun v x wr => ∃ k : Nat, k ≤ 35 ∧ x = .int .i64 (k : Int) ∧ RowKit.Hid (wr.ownsRow VB 41 16 v k (bvals (FL k))) ∧ RowKit.Hid (Below VB w1 wr)) (fun _ x _ => 35 - (intOf x).toNat)
 case atStart => exact ⟨0, by omega, rfl, Lib.hid (by rw [HF0.out]; exact ⟨rfl, Or.inl ⟨rfl, rfl⟩⟩), Lib.hid (Below.refl _ _)⟩
 case round =>
  obtain ⟨k, hk, rfl, HO, HBW⟩ := hrel
  by_cases hlt : k < 35
  ·
   have hki : (k : Int) < 35 := by omega
   have cx := HIN.out.at k (by rw [HLEN.out]; exact hlt)
   have hd15 := HLE.out k
   have hcall := fun V => CH.out k hlt V
   have hsuc := HSUC.out k
   have hg16 := HL.out k
   obtain ⟨d, hd⟩ : ∃ d, DG.getD k 0 = d := ⟨_, rfl⟩
   rw [hd] at cx hd15 hcall
   obtain ⟨C, hC⟩ : ∃ C, G k = C := ⟨_, rfl⟩
   rw [hC] at hcall hsuc hg16
   have chc : ∀ V, Calls Tryz.prog 120 #[.agg (bvals seed).toArray, .int .i64 (k : Int), .int .i64 (d : Int)] V fun e w' => e = .returned (.agg (bcells C)) ∧ Below V.heap.size V w' := hcall
   have CHC := Lib.hid chc
   have HSU := Lib.hid hsuc
   have HG16 := Lib.hid hg16
   have hbs : (bcells C).size = 16 := by rw [bcells_size, hg16]
   have mkS : ∀ z, Below VB w1 z → Below VB w1 z ∧ z.rangeAt w.heap.size 0 (bvals seed) ∧ z.cell? ⟨X, k, none⟩ = some (.int .i64 (d : Int)) := fun z hz => by
    have hz2 : Below w1.heap.size w1 z := by rw [HVB.out]; exact hz
    exact ⟨hz, rangeAt_on HR1.out hz2, by rw [hz2.cell (World.block_lt_of_cell? _ _ cx)]; exact cx⟩
   have hiS : (Tryz.prog.info? 41).map (·.size) = some (bvals seed).length := by rw [bvals_len, HS16.out]; kernel_rfl
   have hu := Tryz.underlying41
   clear hcall chc hsuc hg16 hC hd
   go_upto_region 6 with (fail)
   try simp only [Act.put]
   refine wp_region_held_drew (S := fun z => Below VB w1 z ∧ z.rangeAt w.heap.size 0 (bvals seed) ∧ z.cell? ⟨X, k, none⟩ = some (.int .i64 (d : Int))) (by kernel_rfl) (mkS _ HBW.out.drew) (fun hHeld => ?_)
   refine wpAnyH_take (i := 0) (oi := { dst := some 14, op := .move (.tmp 6), type := 28, pos := "ref.go:75", after := #[], guard := none }) (v := ?_) rfl (by kernel_rfl) (by kernel_rfl) (by kernel_rfl) (fun _ _ _ h => h) (Or.inl ⟨by rfl, ?_⟩) hHeld ?_
   rotate_left
   ·
    intro w hSw
    clear hSw
    go_simp
    try with_reducible rfl
   try simp only [Act.put, List.setIfInBounds_toArray, List.set_cons_zero, List.set_cons_succ]
   refine wpAnyH_take (i := 1) (oi := { dst := some 15, op := .load 41 (.tmp 2), type := 41, pos := "ref.go:75", after := #[], guard := none }) (v := .agg (bvals seed).toArray) rfl (by kernel_rfl) (by kernel_rfl) (by kernel_rfl) (fun _ _ _ h => h) (yieldsIf_load_mid (by rfl) _ _ rfl _ _ rfl (bvals seed) _ (fun w hSw => hSw.2.1) hu rfl hiS) hHeld ?_
   try simp only [Act.put, List.setIfInBounds_toArray, List.set_cons_zero, List.set_cons_succ]
   refine wpAnyH_take (i := 2) (oi := { dst := some 16, op := .move (.tmp 7), type := 3, pos := "ref.go:75", after := #[], guard := none }) (v := ?_) rfl (by kernel_rfl) (by kernel_rfl) (by kernel_rfl) (fun _ _ _ h => h) (Or.inl ⟨by rfl, ?_⟩) hHeld ?_
   rotate_left
   ·
    intro w hSw
    clear hSw
    go_simp
    try with_reducible rfl
   try simp only [Act.put, List.setIfInBounds_toArray, List.set_cons_zero, List.set_cons_succ]
   refine wpAnyH_take (i := 3) (oi := { dst := some 17, op := .move (.tmp 5), type := 145, pos := "ref.go:75", after := #[], guard := none }) (v := ?_) rfl (by kernel_rfl) (by kernel_rfl) (by kernel_rfl) (fun _ _ _ h => h) (Or.inl ⟨by rfl, ?_⟩) hHeld ?_
   rotate_left
   ·
    intro w hSw
    clear hSw
    go_simp
    try with_reducible rfl
   try simp only [Act.put, List.setIfInBounds_toArray, List.set_cons_zero, List.set_cons_succ]
   refine wpAnyH_take (i := 4) (oi := { dst := some 18, op := .move (.tmp 7), type := 3, pos := "ref.go:75", after := #[], guard := none }) (v := ?_) rfl (by kernel_rfl) (by kernel_rfl) (by kernel_rfl) (fun _ _ _ h => h) (Or.inl ⟨by rfl, ?_⟩) hHeld ?_
   rotate_left
   ·
    intro w hSw
    clear hSw
    go_simp
    try with_reducible rfl
   try simp only [Act.put, List.setIfInBounds_toArray, List.set_cons_zero, List.set_cons_succ]
   refine wpAnyH_take (i := 5) (oi := { dst := some 19, op := .indexAddr 145 (.tmp 17) (.tmp 18), type := 0, pos := "ref.go:75", after := #[{ on := 3, ground := .data }, { on := 4, ground := .data }], guard := none }) (v := ?_) rfl (by kernel_rfl) (by kernel_rfl) (by kernel_rfl) (fun _ _ _ h => h) (Or.inl ⟨by rfl, ?_⟩) hHeld ?_
   rotate_left
   ·
    intro w hSw
    clear hSw
    go_simp
    try with_reducible rfl
   try simp only [Act.put, List.setIfInBounds_toArray, List.set_cons_zero, List.set_cons_succ]
   refine wpAnyH_take (i := 6) (oi := { dst := some 20, op := .load 3 (.tmp 19), type := 3, pos := "ref.go:75", after := #[{ on := 5, ground := .data }], guard := none }) (v := ?_) rfl (by kernel_rfl) (by kernel_rfl) (by kernel_rfl) (fun _ _ _ h => h) (Or.inl ⟨by rfl, ?_⟩) hHeld ?_
   rotate_left
   ·
    intro w hSw
    have hfc0 := hSw.2.2
    clear hSw
    go_simp
    try with_reducible rfl
   try simp only [Act.put, List.setIfInBounds_toArray, List.set_cons_zero, List.set_cons_succ]
   refine wpAnyH_ready (rs := [7]) (by kernel_rfl) (by simp) (AllReadyH.cons (o := { dst := some 21, op := .call { callee := .value (.func 120), args := #[.tmp 15, .tmp 16, .tmp 20], argTypes := #[41, 3, 3] }, type := 41, pos := "ref.go:75", after := #[{ on := 1, ground := .data }, { on := 2, ground := .data }, { on := 6, ground := .data }], guard := none }) rfl (fun K hK => ?_) AllReadyH.nil)
   go_simp
   refine (CHC.out _).mono ?_
   rintro e w8 ⟨rfl, hb8⟩
   go_simp
   have hbz := hHeld.1.trans (hb8.mono (bel_size2 hHeld.1 HVB.out))
   refine hK.out _ _ (mkS _ hbz) (fun hHeld2 => ?_)
   clear hK K hHeld
   have hHeld := hHeld2
   clear hHeld2
   try simp only [Act.put, List.setIfInBounds_toArray, List.set_cons_zero, List.set_cons_succ]
   refine wpAnyH_ready (rs := [8]) (by kernel_rfl) (by simp) (AllReadyH.cons (o := { dst := some 22, op := .buildSlice 28 1 #[(0, .tmp 21)], type := 28, pos := "ref.go:75", after := #[{ on := 7, ground := .data }], guard := none }) rfl (fun K hK => ?_) AllReadyH.nil)
   go_simp
   refine hK.out _ _ (mkS _ (hbz.alloc (bel_size2 hbz HVB.out) _)) (fun hHeld3 => ?_)
   clear hK K hHeld
   have hHeld := hHeld3
   clear hHeld3
   try simp only [Act.put, List.setIfInBounds_toArray, List.set_cons_zero, List.set_cons_succ]
   refine wpAnyH_ready (rs := [9]) (by kernel_rfl) (by simp) (AllReadyH.cons (o := { dst := some 23, op := .call { callee := .builtin .append, args := #[.tmp 14, .tmp 22], argTypes := #[28, 28] }, type := 28, pos := "ref.go:75", after := #[{ on := 0, ground := .data }, { on := 8, ground := .data }, { on := 7, ground := .chain }], guard := none }) rfl (fun K hK => ?_) AllReadyH.nil)
   rw [if_pos (by rfl)]
   refine wp_append_shorts (.tmp 14) (.tmp 22) rfl VB _ _ _ rfl ((own_onS HO.out (bel_drew hb8)).alloc _) ⟨w8.heap.size, 0, none⟩ 1 1 C rfl (by rw [HG16.out]) (row_bvals (fill_short C HG16.out w8)) (by omega) (by have h1 := bel_size2 hbz HVB.out; rw [World.size_alloc]; omega) ?_
   intro v2 w9 ho9 hg9
   have hbq : Below VB w1 w9 := (hbz.alloc (bel_size2 hbz HVB.out) _).grown hg9 (by have h1 := bel_size2 hbz HVB.out; rw [World.size_alloc]; omega) (fun j hj => (own_geS HO.out hj).1)
   refine hK.out _ _ (mkS _ hbq) (fun hHeld5 => ?_)
   clear hK K hHeld
   have hHeld := hHeld5
   clear hHeld5
   try simp only [Act.put, List.setIfInBounds_toArray, List.set_cons_zero, List.set_cons_succ]
   refine wpAnyH_take (i := 10) (oi := { dst := some 6, op := .assign (.tmp 23), type := 28, pos := "ref.go:75", after := #[{ on := 9, ground := .data }, { on := 9, ground := .chain }, { on := 0, ground := .phase }, { on := 1, ground := .phase }, { on := 2, ground := .phase }, { on := 3, ground := .phase }, { on := 4, ground := .phase }, { on := 5, ground := .phase }, { on := 6, ground := .phase }, { on := 7, ground := .phase }, { on := 8, ground := .phase }, { on := 9, ground := .phase }], guard := none }) (v := ?_) rfl (by kernel_rfl) (by kernel_rfl) (by kernel_rfl) (fun _ _ _ h => h) (Or.inl ⟨by rfl, ?_⟩) hHeld ?_
   rotate_left
   ·
    intro w hSw
    clear hSw
    go_simp
    try with_reducible rfl
   try simp only [Act.put, List.setIfInBounds_toArray, List.set_cons_zero, List.set_cons_succ]
   refine wpAnyH_done (by kernel_rfl) ?_ _
   go_wp2_with fail
   refine ⟨⟨k + 1, by omega, by go_num, Lib.hid ?_, Lib.hid hbq⟩, by simp [intOf]; omega⟩
   rw [HSU.out, bvals_app]
   exact ho9
  ·
   have hkk : k = 35 := by omega
   subst hkk
   have hge : ¬ ((35 : Nat) : Int) < 35 := by omega
   have hfin := HFIN.out wr u6
   obtain ⟨B, cb, hv, hsh⟩ := hfin (by
    obtain ⟨h1, h2 | ⟨g, cap, cur, h3, h4, h5⟩⟩ := HO.out
    ·
     exact ⟨h1, .inl h2⟩
    ·
     exact ⟨h1, .inr ⟨g, cap, cur, h3, Nat.zero_le _, h5⟩⟩)
   subst hv
   have HSHF := Lib.hid hsh
   clear hfin hsh
   go_wp2_with fail
   go_ret
   refine ⟨B, ⟨cb, rfl⟩, HSHF.out, ?_⟩
   have hz2 : Below w1.heap.size w1 wr := by rw [HVB.out]; exact HBW.out
   exact chain HB1.out hz2
end Go.Proofs.YtcgffkkfeimifaaGreatDoor
namespace Go.Proofs.YtcgffkkfeimifaaGreatDoor
open Go.RowKit Sha Ots
set_option linter.unusedVariables false
set_option linter.unusedSimpArgs false
set_option maxRecDepth 100000 in
set_option maxHeartbeats 1500000 in
theorem recover_ref (l : List UInt8) (A : Option Addr) (c : Nat) (hl : l.length ≤ 100000) (hc : l.length ≤ c) (hA : A = none → c = 0) (ls : List (List UInt8)) (CA : Option Addr) (cc : Nat) (h35 : ls.length = 35) (w : World) (hsrc : SrcAt A l w) (hsh : Shorts CA ls w) :
  Calls Tryz.prog 127 #[.slice A l.length c, .slice CA ls.length cc] w fun e w' => e = .returned (.tuple #[.agg (bcells (key l ls)), .int .i64 0]) ∧ Below w.heap.size w w' := by
 have hdi := fun (V : World) (hb : Below w.heap.size w V) => digits_ref l A c hl hc hA V (hsrc.on hb)
 have hlen := dig_len l
 have hle : ∀ i, (dig l).getD i 0 ≤ 15 := getD_le15 _ (dig_le l)
 have hkey : key l ls = sh (enD (dig l) ls).flatten := rfl
 have hK16 := key_len l ls
 obtain ⟨DG, hDG⟩ : ∃ DG, dig l = DG := ⟨_, rfl⟩
 rw [hDG] at hdi hlen hle hkey
 have hlen16 : ∀ x ∈ enD DG ls, x.length = 16 := fun x hx => by
  unfold enD at hx
  obtain ⟨i, hi, rfl⟩ := List.mem_map.1 hx
  refine clm_len _ _ _ ?_ _
  have h := List.getElem?_eq_getElem (show i < ls.length by have := List.mem_range.1 hi; omega)
  rw [List.getD_eq_getElem?_getD, h]
  exact hsh.len _ (List.mem_of_getElem? h)
 have hZ35 : (enD DG ls).length = 35 := by unfold enD; rw [List.length_map, List.length_range]
 have hsuc : ∀ k, k < 35 → ((enD DG ls).take (k + 1)).flatten = ((enD DG ls).take k).flatten ++ clm (ls.getD k []) k (DG.getD k 0) (15 - DG.getD k 0) := fun k hk => by
  have hx : (enD DG ls)[k]? = some (clm (ls.getD k []) k (DG.getD k 0) (15 - DG.getD k 0)) := by
   unfold enD
   rw [List.getElem?_map, List.getElem?_range hk]
   rfl
  rw [List.take_add_one, hx, List.flatten_append, Option.toList_some, List.flatten_cons, List.flatten_nil, List.append_nil]
 have hjo : ∀ (V : World) (v : Value), V.ownsRow 0 41 16 v 35 (bvals (enD DG ls).flatten) → Calls Tryz.prog 146 #[v] V fun e w' => e = .returned (.agg (bcells (sh (enD DG ls).flatten))) ∧ Below V.heap.size V w' := fun V v ho => by
  rw [← hZ35] at ho
  obtain ⟨A, c, rfl, _, _, hsh⟩ := shorts_own hlen16 ho
  exact joined_ref _ A c (by rw [hZ35]; decide) V hsh
 have hst := fun (x : List UInt8) (hx : x.length = 16) (i j : Nat) (hi : i < 35) (hj : j < 15) (V : World) => step_ref x hx i j (by omega) (by omega) V
 rw [hkey] at hK16 ⊢
 obtain ⟨Z, hZ⟩ : ∃ Z, enD DG ls = Z := ⟨_, rfl⟩
 rw [hZ] at hZ35 hjo hK16 ⊢
 simp only [hZ] at hsuc
 obtain ⟨R, hR⟩ : ∃ R, sh Z.flatten = R := ⟨_, rfl⟩
 rw [hR] at hK16 ⊢
 simp only [hR] at hjo
 have DI := Lib.hid hdi
 have HLE := Lib.hid hle
 have HLEN := Lib.hid hlen
 have HSUC := Lib.hid hsuc
 have HJO := Lib.hid hjo
 have HST := Lib.hid hst
 have HZ35 := Lib.hid hZ35
 have HSRC := Lib.hid hsh.row
 have HSLN := Lib.hid hsh.len
 have H35 := Lib.hid h35
 have HSZ := Lib.hid (sz16 R hK16)
 have hso : (16 : Nat) = (bcells R).size := by rw [bcells_size, hK16]
 have HSO := Lib.hid hso
 rw [h35]
 obtain ⟨n, hn⟩ : ∃ n, l.length = n := ⟨_, rfl⟩
 rw [hn] at DI ⊢
 clear hdi hlen hle hkey hK16 hDG hlen16 hZ35 hsuc hjo hst hZ hR hso hn hsrc hsh h35
 go_enter Tryz.func127, Tryz.ntmps127
 go_wp2_with fail
 refine (DI.out _ (below_new _ _)).mono ?_
 rintro e w1 ⟨X, cap, rfl, hX, hin, hb1⟩
 have HR1 : RowKit.Hid (w1.heap[w.heap.size]? = some (.cells (bcells (List.replicate 16 0)) 41 (0, 0))) := Lib.hid ((hb1.block w.heap.size (by simp)).trans (heap_alloc_new _ _))
 have HB1 := Lib.hid ((below_new w _).trans (hb1.mono (by simp)))
 have HIN := Lib.hid hin
 clear hX hin hb1
 go_wp2_with fail
 obtain ⟨VB, hVB⟩ : ∃ VB, w1.heap.size = VB := ⟨_, rfl⟩
 have HVB := Lib.hid hVB
 clear hVB
 go_loopw [7, 8, 9, 10] (fun v x _ _ wr => ∃ k : Nat, k ≤ 35 ∧ x = .int .i64 (k : Int) ∧ RowKit.Hid (wr.ownsRow VB 41 16 v k (bvals (Z.take k).flatten)) ∧ RowKit.Hid (Below VB w1 wr)) (fun _ x _ _ _ => 35 - (intOf x).toNat)
 case atStart => exact ⟨0, by omega, rfl, Lib.hid ⟨rfl, Or.inl ⟨rfl, rfl⟩⟩, Lib.hid (Below.refl _ _)⟩
 case round =>
  obtain ⟨k, hk, rfl, HO, HBW⟩ := hrel
  by_cases hlt : k < 35
  ·
   have hki : (k : Int) < 35 := by omega
   obtain ⟨wo, rfl⟩ : ∃ wo, wo = wr := ⟨wr, rfl⟩
   have hbo : Below w1.heap.size w1 wo := by rw [HVB.out]; exact HBW.out
   have cx := (HIN.out.on hbo).at k (by rw [HLEN.out]; exact hlt)
   have hd15 := HLE.out k
   obtain ⟨s, hs⟩ : ∃ s, ls[k]? = some s := ⟨_, List.getElem?_eq_getElem (by rw [H35.out]; exact hlt)⟩
   have hs16 : s.length = 16 := HSLN.out s (List.mem_of_getElem? hs)
   obtain ⟨g, o, rfl, hrg⟩ := HSRC.out k s hs
   have hrw := rangeAt_on (rangeAt_on hrg HB1.out) hbo
   rw [Nat.mul_comm] at hrw
   have hsg : ls.getD k [] = s := by rw [List.getD_eq_getElem?_getD, hs]; rfl
   have hsuc := HSUC.out k hlt
   rw [hsg] at hsuc
   obtain ⟨d, hd⟩ : ∃ d, DG.getD k 0 = d := ⟨_, rfl⟩
   rw [hd] at cx hd15 hsuc
   have hstp := fun (q : Nat) (hq : d + q < 15) (V : World) => HST.out (clm s k d q) (clm_len _ _ _ hs16 q) k (d + q) hlt hq V
   have hms : ∀ q, stp (clm s k d q) k (d + q) = clm s k d (q + 1) := fun q => by rw [clm]
   simp only [hms] at hstp
   have hl2 := fun q => clm_len s k d hs16 q
   obtain ⟨G, hG⟩ : ∃ G : Nat → List UInt8, ∀ q, clm s k d q = G q := ⟨_, fun _ => rfl⟩
   have hG0 : s = G 0 := hG 0
   simp only [hG] at hstp hl2 hsuc
   rw [hG0] at hrw
   have HRW := Lib.hid hrw
   have hxi : (Tryz.prog.info? 41).map (·.size) = some (bvals (G 0)).length := by rw [bvals_len, hl2 0]; kernel_rfl
   have HXI := Lib.hid hxi
   have HSZ0 := Lib.hid (sz16 (G 0) (hl2 0))
   have hso0 : (16 : Nat) = (bcells (G 0)).size := by rw [bcells_size, hl2 0]
   have HSO0 := Lib.hid hso0
   have STP := Lib.hid hstp
   have HL := Lib.hid hl2
   have HSU := Lib.hid hsuc
   have HBO := Lib.hid hbo
   clear hs hs16 hrg hrw hsg hsuc hd hstp hms hl2 hG hG0 hxi hso0 hbo
   have hcx : ∀ o : Obj, (wo.alloc o).cell? ⟨X, k, none⟩ = some (.int .i64 (d : Int)) := fun o => by
    rw [(below_new wo o).cell (p := ⟨X, k, none⟩) (World.block_lt_of_cell? _ _ cx)]
    exact cx
   have HCX := Lib.hid hcx
   clear hcx cx
   go_upto_region 9 with (first | (refine wpList_load_mid rfl 41 (.tmp 23) rfl g (o + k * 16) rfl (bvals (G 0)) _ HRW.out Tryz.underlying41 rfl HXI.out ?_) | (refine wpList_store_row rfl 41 (.tmp 9) (.tmp 24) rfl wo.heap.size (bcells (G 0)) rfl rfl 41 _ (heap_alloc_new _ _) HSZ0.out HSO0.out (bcells_one _) ?_))
   rw [World.setRow_alloc_new]
   obtain ⟨Y, hY⟩ : ∃ Y, wo.heap.size = Y := ⟨_, rfl⟩
   have hcx := HCX.out (.cells (bcells (G 0)) 41)
   generalize hV : World.alloc wo _ = V at hcx ⊢
   have hb0 : Below wo.heap.size wo V := by rw [← hV]; exact below_new _ _
   have hr0 : V.heap[Y]? = some (.cells (bcells (G 0)) 41 (0, 0)) := by rw [← hV, ← hY]; exact heap_alloc_new _ _
   have HC0 : RowKit.Hid (Below Y wo V ∧ V.heap[Y]? = some (.cells (bcells (G 0)) 41 (0, 0))) := Lib.hid ⟨by rw [← hY]; exact hb0, hr0⟩
   have HY := Lib.hid hY
   try simp only [hY]
   try simp only [Act.put]
   clear hV hb0 hr0 hY HCX
   go_wp2_with fail
   go_loopw [10] (fun y wz => ∃ q : Nat, q ≤ 15 - d ∧ y = .int .i64 ((d + q : Nat) : Int) ∧ RowKit.Hid (Below Y wo wz ∧ wz.heap[Y]? = some (.cells (bcells (G q)) 41 (0, 0)))) (fun y _ => 15 - (intOf y).toNat)
   case atStart => exact ⟨0, by omega, rfl, HC0⟩
   case round =>
    clear HC0 hcx
    obtain ⟨q, hq, rfl, HC⟩ := hrel
    by_cases hlq : d + q < 15
    ·
     have hqi : ((d + q : Nat) : Int) < 15 := by omega
     have HSZq := Lib.hid (sz16 _ (HL.out q))
     have hcall := fun V => STP.out q hlq V
     obtain ⟨F, hF⟩ : ∃ F, G (q + 1) = F := ⟨_, rfl⟩
     have hF16 : F.length = 16 := by rw [← hF]; exact HL.out _
     rw [hF] at hcall
     have hsoF : (bcells (G q)).size = (bcells F).size := by rw [bcells_size, bcells_size, hF16]; exact HL.out q
     have HSOF := Lib.hid hsoF
     have HSZF := Lib.hid (sz16 F hF16)
     have HF2 := Lib.hid hF
     have HCALL := Lib.hid hcall
     obtain ⟨C, hC⟩ : ∃ C, G q = C := ⟨_, rfl⟩
     have HC1 := Lib.hid HC.out.1
     have HC2 := Lib.hid HC.out.2
     rw [hC] at HSZq HCALL HSOF HC2
     clear hcall hF hF16 hsoF hC HC
     go_wp2_with (refine wpList_load_row rfl 41 (.tmp 9) rfl Y rfl 41 (bcells C) (0, 0) _ HC2.out Tryz.underlying41 rfl HSZq.out ?_)
     refine (HCALL.out _).mono ?_
     rintro e w5 ⟨rfl, hb5⟩
     have HR5 := Lib.hid ((hb5.block Y (Array.getElem?_eq_some_iff.1 HC2.out).1).trans HC2.out)
     have HB5 := Lib.hid (HC1.out.trans (hb5.mono (Nat.le_of_lt (Array.getElem?_eq_some_iff.1 HC2.out).1)))
     clear hb5
     go_wp2_with (refine wpList_store_row rfl 41 (.tmp 9) (.tmp 36) rfl Y (bcells F) rfl rfl 41 _ HR5.out HSZF.out HSOF.out (bcells_one _) ?_)
     refine ⟨⟨q + 1, by omega, by go_num, Lib.hid ⟨below_row HB5.out (Nat.le_refl _) _, ?_⟩⟩, by simp [intOf]; omega⟩
     rw [HF2.out]
     exact setRow_heap _ _ _ _ _ _ HR5.out
    ·
     have hge : ¬ ((d + q : Nat) : Int) < 15 := by omega
     have hqq : q = 15 - d := by omega
     subst hqq
     have HSZq := Lib.hid (sz16 _ (HL.out (15 - d)))
     obtain ⟨C, hC⟩ : ∃ C, G (15 - d) = C := ⟨_, rfl⟩
     have hC16 : C.length = 16 := by rw [← hC]; exact HL.out _
     have HSU2 := HSU.out
     have HC1 := Lib.hid HC.out.1
     have HC2 := Lib.hid HC.out.2
     rw [hC] at HSZq HC2 HSU2
     have HSU3 := Lib.hid HSU2
     have HG16 := Lib.hid hC16
     have hbs : (bcells C).size = 16 := by rw [bcells_size, hC16]
     have hbo : Below wo.heap.size wo wr := by rw [HY.out]; exact HC1.out
     have hsw : VB ≤ wr.heap.size := by have h1 := hbo.size; have h2 := HBO.out.size; have h3 := HVB.out; omega
     have HBO2 := Lib.hid hbo
     have HSW := Lib.hid hsw
     clear hC hC16 HC HSU2 hbo hsw
     go_wp2_with (first | (refine wpList_load_row rfl 41 (.tmp 9) rfl Y rfl 41 (bcells C) (0, 0) _ HC2.out Tryz.underlying41 rfl HSZq.out ?_) | (at_builtin; go_loud (refine append_shorts rfl (.tmp 37) (.tmp 39) rfl VB _ _ _ rfl ((own_onS HO.out HBO2.out).alloc _) ⟨wr.heap.size, 0, none⟩ 1 1 C rfl (by rw [HG16.out]) (row_bvals (fill_short C HG16.out wr)) (by omega) (by rw [World.size_alloc]; exact Nat.le_succ_of_le HSW.out) ?_); intro v' w5 hown5 hgrow5; have HO5 := Lib.hid hown5; have HG5 := Lib.hid hgrow5; clear hown5 hgrow5))
     refine ⟨⟨k + 1, by omega, by go_num, Lib.hid ?_, Lib.hid ?_⟩, by simp [intOf]; omega⟩
     ·
      rw [HSU3.out, bvals_app]
      exact HO5.out
     ·
      have h1 := (chain HBO.out HBO2.out).alloc (by have := HSW.out; have h3 := HVB.out; omega) (.cells (bcells C) 41)
      have h2 : Below VB w1 wr := by have := chain HBO.out HBO2.out; rw [HVB.out] at this; exact this
      exact (h2.alloc HSW.out _).grown HG5.out (by rw [World.size_alloc]; exact Nat.le_succ_of_le HSW.out) (fun j hj => (own_geS HO.out hj).1)
  ·
   have hkk : k = 35 := by omega
   subst hkk
   have hge : ¬ ((35 : Nat) : Int) < 35 := by omega
   have hst : Z.take 35 = Z := List.take_of_length_le (by rw [HZ35.out]; exact Nat.le_refl _)
   have hjo := HJO.out wr u7 (by
    have h := HO.out
    rw [hst] at h
    obtain ⟨h1, h2 | ⟨g, cap, cur, h3, h4, h5⟩⟩ := h
    ·
     exact ⟨h1, .inl h2⟩
    ·
     exact ⟨h1, .inr ⟨g, cap, cur, h3, Nat.zero_le _, h5⟩⟩)
   have hbo : Below w1.heap.size w1 wr := by rw [HVB.out]; exact HBW.out
   have HJ2 := Lib.hid hjo
   have HBO := Lib.hid hbo
   have HR2 := Lib.hid ((hbo.block _ (Array.getElem?_eq_some_iff.1 HR1.out).1).trans HR1.out)
   clear hst hjo hbo
   go_wp2_with fail
   refine HJ2.out.mono ?_
   rintro e w5 ⟨rfl, hb5⟩
   have HR5 := Lib.hid ((hb5.block _ (Array.getElem?_eq_some_iff.1 HR2.out).1).trans HR2.out)
   have HB5 := Lib.hid (chain (chain HB1.out HBO.out) hb5)
   clear hb5
   go_wp2_with (refine wpList_store_row rfl 41 (.tmp 4) (.tmp 42) rfl w.heap.size (bcells R) rfl rfl 41 _ HR5.out HSZ.out HSO.out (bcells_one _) ?_)
   refine bodyPost_ret (v := .tuple #[.agg (bcells R), .int .i64 0]) (results_two rfl _ _ w.heap.size 41 _ (0, 0) _ _ _ rfl rfl (setRow_heap _ _ _ _ _ _ HR5.out) Tryz.underlying41 HSZ.out) rfl ⟨rfl, ?_⟩
   exact below_row HB5.out (Nat.le_refl _) _
end Go.Proofs.YtcgffkkfeimifaaGreatDoor
