/- OnetimeSigns, for every input: Digits, Public and Sign return what the reference returns, and change nothing that they are given. Condition: what the row lists of the program's tables (tied by the card). -/
import Derived.Test.YtpacfbhofgbhkaaDoorOneRG
import Derived.Test.YtpacfbhofgbhkaaDoorDigSame
import Derived.Test.YtpacfbhofgbhkaaDoorOneO
import Derived.Test.YtpacfbhofgbhkaaDoorLawKit
import Derived.Test.YtpacfbhofgbhkaaDoorCards
namespace Go.Proofs.YtpacfbhofgbhkaaDoor
open Go.ChangeShapes Go.WideShapes Go.ChangeAt Go.RowKit Sha Ots
open Go.WideMaps Go.WideElems
set_option linter.unusedVariables false
set_option linter.unusedSimpArgs false
theorem keepS2 {v z w : World} {S : Nat} {A : List Value} (h : Below v.heap.size v z ∧ z.rangeAt S 0 A) (hb : Below z.heap.size z w) : Below v.heap.size v w ∧ w.rangeAt S 0 A := ⟨chain h.1 hb, rangeAt_on h.2 hb⟩
theorem own_empty {w : World} {Y : Nat} (hY : w.heap[Y]? = some (.cells #[] 5 (0, 0))) : w.ownsRow Y 5 1 (.slice (some ⟨Y, 0, none⟩) 0 0) 0 [] := ⟨rfl, .inr ⟨Y, 0, #[], rfl, Nat.le_refl _, hY, Nat.le_refl _, Nat.zero_le _, rfl, rfl⟩⟩
set_option maxRecDepth 100000 in
set_option maxHeartbeats 4000000 in
theorem signs6_true (seed l : List UInt8) (A : Option Addr) (c : Nat) (hs : seed.length = 16) (hc : l.length ≤ c) (hcm : c ≤ maxLen) (hcn : A = none → c = 0) (w : World) (sa : SrcAt A l w) (env : DEnv w) :
    Calls Tryd.prog 4 #[.agg (bcells seed), .slice A l.length c] w fun e w' => e = .returned (.bool true) ∧ Below w.heap.size w w' := by
  have hlm1 : l.length ≤ 9223372036854775807 := by unfold maxLen at hcm; omega
  by_cases h1 : l.length ≤ 2000
  · have hdi := fun (A' : Option Addr) (c' : Nat) (h1' : l.length ≤ c') (h2' : c' ≤ maxLen) (V : World) (hb : Below w.heap.size w V) (hsr : SrcAt A' l V) => digits_any l A' c' (by omega) h1' h2' V hsr (env.on hb)
    have hdr := fun (V : World) (hb : Below w.heap.size w V) => digits_ref l A c (by omega) hc hcn V (sa.on hb)
    have hd35 := dig_len l
    have hsi := fun (V : World) (X1 X2 : Nat) (c2 : Nat) (s1 : Ints (some ⟨X1, 0, none⟩) (dig l) V) (s2 : Ints (some ⟨X2, 0, none⟩) (dig l) V) => sameints_eq (dig l) (some ⟨X1, 0, none⟩) (some ⟨X2, 0, none⟩) 35 c2 (by omega) V s1 s2
    rw [hd35] at hsi
    have hpu := fun (V : World) (hb : Below w.heap.size w V) => public_any seed hs V (env.on hb)
    have hpr := fun (V : World) => public_ref seed hs V
    have hgs := fun (A' : Option Addr) (c' : Nat) (h1' : l.length ≤ c') (h2' : c' ≤ maxLen) (V : World) (hb : Below w.heap.size w V) (hsr : SrcAt A' l V) => sign_any seed hs l A' c' (by omega) h1' h2' V hsr (env.on hb)
    have hgr := fun (V : World) (hb : Below w.heap.size w V) => sign_ref seed hs l A c (by omega) hc hcn V (sa.on hb)
    have hgl : (sgn seed l).length = 35 := by unfold sgn sgD; rw [List.length_map, List.length_range]
    have hsm := fun (V : World) (X3 : Nat) (B4 : Option Addr) (c4 : Nat) (s1 : Shorts (some ⟨X3, 0, none⟩) (sgn seed l) V) (s2 : Shorts B4 (sgn seed l) V) => same_ref (sgn seed l) (some ⟨X3, 0, none⟩) B4 35 c4 (by omega) V s1 s2
    rw [hgl] at hsm
    have hsb := fun (A' : Option Addr) (c' : Nat) (h1' : l.length ≤ c') (V : World) (hb : Below w.heap.size w V) (hsr : SrcAt A' l V) => same_eq l A' A c' c (by omega) h1' hc V hsr (sa.on hb)
    have hk1 : (pub seed).length = 16 := sh_len _
    obtain ⟨SG, hSG⟩ : ∃ SG, sgn seed l = SG := ⟨_, rfl⟩
    obtain ⟨DG, hDG⟩ : ∃ DG, dig l = DG := ⟨_, rfl⟩
    obtain ⟨K, hK⟩ : ∃ K, pub seed = K := ⟨_, rfl⟩
    rw [hSG] at hgs hgr hsm
    rw [hDG] at hdi hdr hsi
    rw [hK] at hpu hpr hk1
    have hq1 : ∀ w, (binOp .eql 25 (.agg (bvals K).toArray) (.agg (bvals K).toArray)).run Tryd.prog w = .ok (.bool true) w := fun w => by
      have h := eql_short K K hk1 hk1 w
      rw [show (K == K) = true by simp] at h
      exact h
    have HDI := Lib.hid hdi
    have HDR := Lib.hid hdr
    have HSI := Lib.hid hsi
    have HPU := Lib.hid hpu
    have HPR := Lib.hid hpr
    have HGS := Lib.hid hgs
    have HGR := Lib.hid hgr
    have HSM := Lib.hid hsm
    have HSB := Lib.hid hsb
    have Q1 := Lib.hid hq1
    have SA := Lib.hid sa
    have HCN := Lib.hid hcn
    have HS16 := Lib.hid hs
    have HLL := Lib.hid (show l.length ≤ 2000 from h1)
    obtain ⟨n, hn⟩ : ∃ n, l.length = n := ⟨_, rfl⟩
    have HN := Lib.hid hn
    rw [hn] at HDI HDR HGS HGR HSB h1 hlm1 ⊢
    clear hdi hdr hd35 hsi hpu hpr hgs hgr hgl hsm hsb hk1 hSG hDG hK hq1 hn hs hc hcm hcn sa env
    go_enter Tryd.func4, Tryd.ntmps4
    go_wp2_with (at_builtin; refine append_src rfl (.tmp 10) (.tmp 11) rfl (w.heap.size + 1) (.slice (some ⟨w.heap.size + 1, 0, none⟩) 0 0) 0 [] rfl (own_empty (heap_alloc2_new _ _ _)) A l c n HN.out rfl HCN.out (SA.out.on ((below_new _ _).alloc (by simp) _)) (by omega) (by simp) ?_; intro v1 V hown1 hgrow1; have HO1 := Lib.hid hown1; have HG1 := Lib.hid hgrow1; clear hown1 hgrow1)
    have hbV : Below w.heap.size w V := ((below_new w _).alloc (by simp) _).grown HG1.out (by simp; omega) (fun j hj => (by have : w.heap.size + 1 = j := (by simpa [Value.ownBlock] using hj); omega))
    have hrV : V.heap[w.heap.size]? = some (.cells (bcells seed) 25 (0, 0)) := (HG1.out.block w.heap.size (by simp; omega) (by simp [Value.ownBlock])).trans (heap_alloc2_old _ _ _)
    have ho : V.ownsRow (w.heap.size + 1) 5 1 v1 l.length (bvals l) := by
      have h := HO1.out
      rw [Nat.zero_add, List.nil_append] at h
      rw [HN.out]
      exact h
    obtain ⟨A', c', rfl, hv1, hv2, hv3, hv4⟩ := own_rd2 ho
    rw [HN.out] at hv1 ⊢
    have HBV := Lib.hid hbV
    have HRV := Lib.hid hrV
    have DI : RowKit.Hid (∀ z, Below V.heap.size V z → Calls Tryd.prog 13 #[.slice A' n c'] z fun e w' => ∃ X, e = .returned (.slice (some ⟨X, 0, none⟩) 35 35) ∧ z.heap.size ≤ X ∧ Ints (some ⟨X, 0, none⟩) DG w' ∧ Below z.heap.size z w') := Lib.hid fun z hz => HDI.out A' c' hv1 hv2 z (chain hbV hz) (hv4.on hz)
    have DR : RowKit.Hid (∀ z, Below V.heap.size V z → Calls Tryd.prog 16 #[.slice A n c] z fun e w' => ∃ X cap, e = .returned (.slice (some ⟨X, 0, none⟩) 35 cap) ∧ z.heap.size ≤ X ∧ Ints (some ⟨X, 0, none⟩) DG w' ∧ Below z.heap.size z w') := Lib.hid fun z hz => HDR.out z (chain hbV hz)
    have SI := HSI
    have PU : RowKit.Hid (∀ z, Below V.heap.size V z → Calls Tryd.prog 17 #[.agg (bvals seed).toArray] z fun e w' => e = .returned (.agg (bvals K).toArray) ∧ Below z.heap.size z w') := Lib.hid fun z hz => HPU.out z (chain hbV hz)
    have PR : RowKit.Hid (∀ z, Calls Tryd.prog 18 #[.agg (bvals seed).toArray] z fun e w' => e = .returned (.agg (bvals K).toArray) ∧ Below z.heap.size z w') := Lib.hid fun z => HPR.out z
    have HW := Lib.hid (And.intro hv1 (And.intro hv2 hv4))
    have HS0 : RowKit.Hid (Below V.heap.size V V.drew ∧ V.drew.rangeAt w.heap.size 0 (bvals seed)) := Lib.hid ⟨(Below.refl _ _).drew, rangeAt_row HRV.out⟩
    have hq1 := Q1.out
    have hu := Tryd.underlying25
    have hiS : (Tryd.prog.info? 25).map (·.size) = some (bvals seed).length := by rw [bvals_len, HS16.out]; kernel_rfl
    clear hbV hrV ho hv1 hv2 hv3 hv4 HO1 HG1
    go_upto_region 4 with (fail)
    try simp only [Act.put]
    refine wp_region_held_drew (S := fun z => Below V.heap.size V z ∧ z.rangeAt w.heap.size 0 (bvals seed)) (by kernel_rfl) HS0.out (fun hHeld => ?_)
    refine wpAnyH_take (i := 0) (oi := { dst := some 13, op := Go.Op.move (Go.Operand.tmp 5), type := 33, pos := "law.go:18", after := #[], guard := none }) (v := ?_) rfl (by kernel_rfl) (by kernel_rfl) (by kernel_rfl) (fun _ _ _ h => h) (Or.inl ⟨by rfl, ?_⟩) hHeld ?_
    rotate_left
    · intro w hSw
      clear hSw
      go_simp
      try with_reducible rfl
    try simp only [Act.put, List.setIfInBounds_toArray, List.set_cons_zero, List.set_cons_succ]
    refine wpAnyH_take (i := 2) (oi := { dst := some 15, op := Go.Op.move (Go.Operand.tmp 1), type := 33, pos := "law.go:18", after := #[], guard := none }) (v := ?_) rfl (by kernel_rfl) (by kernel_rfl) (by kernel_rfl) (fun _ _ _ h => h) (Or.inl ⟨by rfl, ?_⟩) hHeld ?_
    rotate_left
    · intro w hSw
      clear hSw
      go_simp
      try with_reducible rfl
    try simp only [Act.put, List.setIfInBounds_toArray, List.set_cons_zero, List.set_cons_succ]
    refine wpAnyH_ready (rs := [1]) (by kernel_rfl) (by simp) (AllReadyH.cons (o := { dst := some 14, op := Go.Op.call { callee := Go.Callee.value (Go.Operand.func 13), args := #[Go.Operand.tmp 13], argTypes := #[33] }, type := 29, pos := "law.go:18", after := #[{ on := 0, ground := Go.Ground.data }], guard := none }) rfl (fun K hK => ?_) AllReadyH.nil)
    go_simp
    refine (DI.out _ hHeld.1).mono ?_
    rintro e w5 ⟨X1, rfl, hX1, hi1, hb5⟩
    go_simp
    refine hK.out _ _ (keepS2 hHeld hb5) (fun hHeld2 => ?_)
    clear hK K
    have hHeldP := hHeld
    clear hHeld
    have hHeld := hHeld2
    clear hHeld2 hHeldP
    try simp only [Act.put, List.setIfInBounds_toArray, List.set_cons_zero, List.set_cons_succ]
    refine wpAnyH_ready (rs := [3]) (by kernel_rfl) (by simp) (AllReadyH.cons (o := { dst := some 16, op := Go.Op.call { callee := Go.Callee.value (Go.Operand.func 16), args := #[Go.Operand.tmp 15], argTypes := #[33] }, type := 29, pos := "law.go:18", after := #[{ on := 2, ground := Go.Ground.data }, { on := 1, ground := Go.Ground.chain }], guard := none }) rfl (fun K hK => ?_) AllReadyH.nil)
    go_simp
    refine (DR.out _ hHeld.1).mono ?_
    rintro e w6 ⟨X2, cap2, rfl, hX2, hi2, hb6⟩
    go_simp
    refine hK.out _ _ (keepS2 hHeld hb6) (fun hHeld2 => ?_)
    clear hK K
    have hHeldP := hHeld
    clear hHeld
    have hHeld := hHeld2
    clear hHeld2 hHeldP
    try simp only [Act.put, List.setIfInBounds_toArray, List.set_cons_zero, List.set_cons_succ]
    refine wpAnyH_ready (rs := [4]) (by kernel_rfl) (by simp) (AllReadyH.cons (o := { dst := some 17, op := Go.Op.call { callee := Go.Callee.value (Go.Operand.func 12), args := #[Go.Operand.tmp 14, Go.Operand.tmp 16], argTypes := #[29, 29] }, type := 4, pos := "law.go:18", after := #[{ on := 1, ground := Go.Ground.data }, { on := 3, ground := Go.Ground.data }, { on := 3, ground := Go.Ground.chain }], guard := none }) rfl (fun K hK => ?_) AllReadyH.nil)
    go_simp
    refine (SI.out _ X1 X2 cap2 (hi1.on hb6) hi2).mono ?_
    rintro e w7 ⟨rfl, mm, rfl⟩
    go_simp
    refine hK.out _ _ (⟨below_drewN hHeld.1 _, hHeld.2⟩) (fun hHeld2 => ?_)
    clear hK K
    have hHeldP := hHeld
    clear hHeld
    have hHeld := hHeld2
    clear hHeld2 hHeldP
    try simp only [Act.put, List.setIfInBounds_toArray, List.set_cons_zero, List.set_cons_succ]
    refine wpAnyH_take (i := 5) (oi := { dst := some 18, op := Go.Op.move (Go.Operand.tmp 17), type := 4, pos := "law.go:18", after := #[{ on := 4, ground := Go.Ground.data }, { on := 4, ground := Go.Ground.chain }], guard := none }) (v := ?_) rfl (by kernel_rfl) (by kernel_rfl) (by kernel_rfl) (fun _ _ _ h => h) (Or.inl ⟨by rfl, ?_⟩) hHeld ?_
    rotate_left
    · intro w hSw
      clear hSw
      go_simp
      try with_reducible rfl
    try simp only [Act.put, List.setIfInBounds_toArray, List.set_cons_zero, List.set_cons_succ]
    refine wpAnyH_take (i := 6) (oi := { dst := some 19, op := Go.Op.load 25 (Go.Operand.tmp 2), type := 25, pos := "law.go:18", after := #[{ on := 5, ground := Go.Ground.guard }], guard := some (5, true) }) (v := .agg (bvals seed).toArray) rfl (by kernel_rfl) (by kernel_rfl) (by kernel_rfl) (fun _ _ _ h => h) (yieldsIf_load_mid (by rfl) _ _ rfl _ _ rfl (bvals seed) _ (fun w hSw => hSw.2) hu rfl hiS) hHeld ?_
    try simp only [Act.put, List.setIfInBounds_toArray, List.set_cons_zero, List.set_cons_succ]
    refine wpAnyH_take (i := 8) (oi := { dst := some 21, op := Go.Op.load 25 (Go.Operand.tmp 2), type := 25, pos := "law.go:18", after := #[{ on := 5, ground := Go.Ground.guard }], guard := some (5, true) }) (v := .agg (bvals seed).toArray) rfl (by kernel_rfl) (by kernel_rfl) (by kernel_rfl) (fun _ _ _ h => h) (yieldsIf_load_mid (by rfl) _ _ rfl _ _ rfl (bvals seed) _ (fun w hSw => hSw.2) hu rfl hiS) hHeld ?_
    try simp only [Act.put, List.setIfInBounds_toArray, List.set_cons_zero, List.set_cons_succ]
    refine wpAnyH_ready (rs := [7]) (by kernel_rfl) (by simp) (AllReadyH.cons (o := { dst := some 20, op := Go.Op.call { callee := Go.Callee.value (Go.Operand.func 17), args := #[Go.Operand.tmp 19], argTypes := #[25] }, type := 25, pos := "law.go:18", after := #[{ on := 6, ground := Go.Ground.data }, { on := 5, ground := Go.Ground.chain }, { on := 5, ground := Go.Ground.guard }], guard := some (5, true) }) rfl (fun K hK => ?_) AllReadyH.nil)
    go_simp
    refine (PU.out _ hHeld.1).mono ?_
    rintro e w8 ⟨rfl, hb8⟩
    go_simp
    refine hK.out _ _ (keepS2 hHeld hb8) (fun hHeld2 => ?_)
    clear hK K
    have hHeldP := hHeld
    clear hHeld
    have hHeld := hHeld2
    clear hHeld2 hHeldP
    try simp only [Act.put, List.setIfInBounds_toArray, List.set_cons_zero, List.set_cons_succ]
    refine wpAnyH_ready (rs := [9]) (by kernel_rfl) (by simp) (AllReadyH.cons (o := { dst := some 22, op := Go.Op.call { callee := Go.Callee.value (Go.Operand.func 18), args := #[Go.Operand.tmp 21], argTypes := #[25] }, type := 25, pos := "law.go:18", after := #[{ on := 8, ground := Go.Ground.data }, { on := 7, ground := Go.Ground.chain }, { on := 5, ground := Go.Ground.guard }], guard := some (5, true) }) rfl (fun K hK => ?_) AllReadyH.nil)
    go_simp
    refine (PR.out _).mono ?_
    rintro e w9 ⟨rfl, hb9⟩
    go_simp
    refine hK.out _ _ (keepS2 hHeld hb9) (fun hHeld2 => ?_)
    clear hK K
    have hHeldP := hHeld
    clear hHeld
    have hHeld := hHeld2
    clear hHeld2 hHeldP
    try simp only [Act.put, List.setIfInBounds_toArray, List.set_cons_zero, List.set_cons_succ]
    refine wpAnyH_take (i := 10) (oi := { dst := some 23, op := Go.Op.binOp Go.BinOp.eql 25 (Go.Operand.tmp 20) (Go.Operand.tmp 22) 25, type := 4, pos := "law.go:18", after := #[{ on := 7, ground := Go.Ground.data }, { on := 9, ground := Go.Ground.data }, { on := 5, ground := Go.Ground.guard }], guard := some (5, true) }) (v := ?_) rfl (by kernel_rfl) (by kernel_rfl) (by kernel_rfl) (fun _ _ _ h => h) (Or.inl ⟨by rfl, ?_⟩) hHeld ?_
    rotate_left
    · intro w hSw
      clear hSw
      go_simp
      try with_reducible rfl
    try simp only [Act.put, List.setIfInBounds_toArray, List.set_cons_zero, List.set_cons_succ]
    refine wpAnyH_take (i := 11) (oi := { dst := some 24, op := Go.Op.pick (Go.Operand.tmp 18) (Go.Operand.tmp 23) (Go.Operand.const (Go.Value.bool false)), type := 4, pos := "law.go:18", after := #[{ on := 5, ground := Go.Ground.data }, { on := 10, ground := Go.Ground.data }], guard := none }) (v := ?_) rfl (by kernel_rfl) (by kernel_rfl) (by kernel_rfl) (fun _ _ _ h => h) (Or.inl ⟨by rfl, ?_⟩) hHeld ?_
    rotate_left
    · intro w hSw
      clear hSw
      go_simp
      try with_reducible rfl
    try simp only [Act.put, List.setIfInBounds_toArray, List.set_cons_zero, List.set_cons_succ]
    refine wpAnyH_take (i := 12) (oi := { dst := some 6, op := Go.Op.assign (Go.Operand.tmp 24), type := 4, pos := "law.go:18", after := #[{ on := 11, ground := Go.Ground.data }, { on := 9, ground := Go.Ground.chain }, { on := 0, ground := Go.Ground.phase }, { on := 1, ground := Go.Ground.phase }, { on := 2, ground := Go.Ground.phase }, { on := 3, ground := Go.Ground.phase }, { on := 4, ground := Go.Ground.phase }, { on := 5, ground := Go.Ground.phase }, { on := 6, ground := Go.Ground.phase }, { on := 7, ground := Go.Ground.phase }, { on := 8, ground := Go.Ground.phase }, { on := 9, ground := Go.Ground.phase }, { on := 10, ground := Go.Ground.phase }, { on := 11, ground := Go.Ground.phase }], guard := none }) (v := ?_) rfl (by kernel_rfl) (by kernel_rfl) (by kernel_rfl) (fun _ _ _ h => h) (Or.inl ⟨by rfl, ?_⟩) hHeld ?_
    rotate_left
    · intro w hSw
      clear hSw
      go_simp
      try with_reducible rfl
    try simp only [Act.put, List.setIfInBounds_toArray, List.set_cons_zero, List.set_cons_succ]
    refine wpAnyH_done (by kernel_rfl) ?_ _
    have HB9 := Lib.hid (chain HBV.out hHeld.1)
    have HV9 := Lib.hid hHeld.1
    have GS : RowKit.Hid (∀ z, Below w.heap.size w z ∧ Below V.heap.size V z → Calls Tryd.prog 10 #[.agg (bvals seed).toArray, .slice A' n c'] z fun e w' => ∃ X, e = .returned (.slice (some ⟨X, 0, none⟩) 35 35) ∧ z.heap.size ≤ X ∧ Shorts (some ⟨X, 0, none⟩) SG w' ∧ Below z.heap.size z w') := Lib.hid fun z hz => HGS.out A' c' HW.out.1 HW.out.2.1 z hz.1 (HW.out.2.2.on hz.2)
    have GR : RowKit.Hid (∀ z, Below w.heap.size w z → Calls Tryd.prog 20 #[.agg (bvals seed).toArray, .slice A n c] z fun e w' => ∃ B cb, e = .returned (.slice B 35 cb) ∧ Shorts B SG w' ∧ Below z.heap.size z w') := Lib.hid fun z hz => HGR.out z hz
    have SM := HSM
    have SB : RowKit.Hid (∀ z, Below w.heap.size w z ∧ Below V.heap.size V z → Calls Tryd.prog 21 #[.slice A' n c', .slice A n c] z fun e w' => e = .returned (.bool true) ∧ ∃ m, w' = z.drewN m) := Lib.hid fun z hz => HSB.out A' c' HW.out.1 z hz.1 (HW.out.2.2.on hz.2)
    clear hX1 hi1 hb5 hX2 hi2 hb6 hb8
    go_upto_region 5 with (fail)
    try simp only [Act.put]
    refine wp_region_held_drew (S := fun z => Below w9.heap.size w9 z ∧ z.rangeAt w.heap.size 0 (bvals seed)) (by kernel_rfl) ⟨(Below.refl _ _).drew, hHeld.2⟩ (fun hHeld => ?_)
    refine wpAnyH_take (i := 0) (oi := { dst := some 25, op := Go.Op.move (Go.Operand.tmp 6), type := 4, pos := "law.go:19", after := #[], guard := none }) (v := ?_) rfl (by kernel_rfl) (by kernel_rfl) (by kernel_rfl) (fun _ _ _ h => h) (Or.inl ⟨by rfl, ?_⟩) hHeld ?_
    rotate_left
    · intro w hSw
      clear hSw
      go_simp
      try with_reducible rfl
    try simp only [Act.put, List.setIfInBounds_toArray, List.set_cons_zero, List.set_cons_succ]
    refine wpAnyH_take (i := 1) (oi := { dst := some 26, op := Go.Op.move (Go.Operand.tmp 25), type := 4, pos := "law.go:19", after := #[{ on := 0, ground := Go.Ground.data }], guard := none }) (v := ?_) rfl (by kernel_rfl) (by kernel_rfl) (by kernel_rfl) (fun _ _ _ h => h) (Or.inl ⟨by rfl, ?_⟩) hHeld ?_
    rotate_left
    · intro w hSw
      clear hSw
      go_simp
      try with_reducible rfl
    try simp only [Act.put, List.setIfInBounds_toArray, List.set_cons_zero, List.set_cons_succ]
    refine wpAnyH_take (i := 2) (oi := { dst := some 27, op := Go.Op.load 25 (Go.Operand.tmp 2), type := 25, pos := "law.go:19", after := #[{ on := 1, ground := Go.Ground.guard }], guard := some (1, true) }) (v := .agg (bvals seed).toArray) rfl (by kernel_rfl) (by kernel_rfl) (by kernel_rfl) (fun _ _ _ h => h) (yieldsIf_load_mid (by rfl) _ _ rfl _ _ rfl (bvals seed) _ (fun w hSw => hSw.2) hu rfl hiS) hHeld ?_
    try simp only [Act.put, List.setIfInBounds_toArray, List.set_cons_zero, List.set_cons_succ]
    refine wpAnyH_take (i := 3) (oi := { dst := some 28, op := Go.Op.move (Go.Operand.tmp 5), type := 33, pos := "law.go:19", after := #[{ on := 1, ground := Go.Ground.guard }], guard := some (1, true) }) (v := ?_) rfl (by kernel_rfl) (by kernel_rfl) (by kernel_rfl) (fun _ _ _ h => h) (Or.inl ⟨by rfl, ?_⟩) hHeld ?_
    rotate_left
    · intro w hSw
      clear hSw
      go_simp
      try with_reducible rfl
    try simp only [Act.put, List.setIfInBounds_toArray, List.set_cons_zero, List.set_cons_succ]
    refine wpAnyH_take (i := 5) (oi := { dst := some 30, op := Go.Op.load 25 (Go.Operand.tmp 2), type := 25, pos := "law.go:19", after := #[{ on := 1, ground := Go.Ground.guard }], guard := some (1, true) }) (v := .agg (bvals seed).toArray) rfl (by kernel_rfl) (by kernel_rfl) (by kernel_rfl) (fun _ _ _ h => h) (yieldsIf_load_mid (by rfl) _ _ rfl _ _ rfl (bvals seed) _ (fun w hSw => hSw.2) hu rfl hiS) hHeld ?_
    try simp only [Act.put, List.setIfInBounds_toArray, List.set_cons_zero, List.set_cons_succ]
    refine wpAnyH_take (i := 6) (oi := { dst := some 31, op := Go.Op.move (Go.Operand.tmp 1), type := 33, pos := "law.go:19", after := #[{ on := 1, ground := Go.Ground.guard }], guard := some (1, true) }) (v := ?_) rfl (by kernel_rfl) (by kernel_rfl) (by kernel_rfl) (fun _ _ _ h => h) (Or.inl ⟨by rfl, ?_⟩) hHeld ?_
    rotate_left
    · intro w hSw
      clear hSw
      go_simp
      try with_reducible rfl
    try simp only [Act.put, List.setIfInBounds_toArray, List.set_cons_zero, List.set_cons_succ]
    refine wpAnyH_ready (rs := [4]) (by kernel_rfl) (by simp) (AllReadyH.cons (o := { dst := some 29, op := Go.Op.call { callee := Go.Callee.value (Go.Operand.func 10), args := #[Go.Operand.tmp 27, Go.Operand.tmp 28], argTypes := #[25, 33] }, type := 22, pos := "law.go:19", after := #[{ on := 2, ground := Go.Ground.data }, { on := 3, ground := Go.Ground.data }, { on := 1, ground := Go.Ground.chain }, { on := 1, ground := Go.Ground.guard }], guard := some (1, true) }) rfl (fun K hK => ?_) AllReadyH.nil)
    go_simp
    refine (GS.out _ ⟨chain HB9.out hHeld.1, chain HV9.out hHeld.1⟩).mono ?_
    rintro e w10 ⟨X3, rfl, hX3, hs3, hb10⟩
    go_simp
    refine hK.out _ _ (keepS2 hHeld hb10) (fun hHeld2 => ?_)
    clear hK K
    have hHeldP := hHeld
    clear hHeld
    have hHeld := hHeld2
    clear hHeld2 hHeldP
    try simp only [Act.put, List.setIfInBounds_toArray, List.set_cons_zero, List.set_cons_succ]
    refine wpAnyH_ready (rs := [7]) (by kernel_rfl) (by simp) (AllReadyH.cons (o := { dst := some 32, op := Go.Op.call { callee := Go.Callee.value (Go.Operand.func 20), args := #[Go.Operand.tmp 30, Go.Operand.tmp 31], argTypes := #[25, 33] }, type := 22, pos := "law.go:19", after := #[{ on := 5, ground := Go.Ground.data }, { on := 6, ground := Go.Ground.data }, { on := 4, ground := Go.Ground.chain }, { on := 1, ground := Go.Ground.guard }], guard := some (1, true) }) rfl (fun K hK => ?_) AllReadyH.nil)
    go_simp
    refine (GR.out _ (chain HB9.out hHeld.1)).mono ?_
    rintro e w11 ⟨B4, cb4, rfl, hs4, hb11⟩
    go_simp
    refine hK.out _ _ (keepS2 hHeld hb11) (fun hHeld2 => ?_)
    clear hK K
    have hHeldP := hHeld
    clear hHeld
    have hHeld := hHeld2
    clear hHeld2 hHeldP
    try simp only [Act.put, List.setIfInBounds_toArray, List.set_cons_zero, List.set_cons_succ]
    refine wpAnyH_ready (rs := [8]) (by kernel_rfl) (by simp) (AllReadyH.cons (o := { dst := some 33, op := Go.Op.call { callee := Go.Callee.value (Go.Operand.func 19), args := #[Go.Operand.tmp 29, Go.Operand.tmp 32], argTypes := #[22, 22] }, type := 4, pos := "law.go:19", after := #[{ on := 4, ground := Go.Ground.data }, { on := 7, ground := Go.Ground.data }, { on := 7, ground := Go.Ground.chain }, { on := 1, ground := Go.Ground.guard }], guard := some (1, true) }) rfl (fun K hK => ?_) AllReadyH.nil)
    go_simp
    refine (SM.out _ X3 B4 cb4 (hs3.on hb11) hs4).mono ?_
    rintro e w12 ⟨rfl, hb12⟩
    go_simp
    refine hK.out _ _ (keepS2 hHeld hb12) (fun hHeld2 => ?_)
    clear hK K
    have hHeldP := hHeld
    clear hHeld
    have hHeld := hHeld2
    clear hHeld2 hHeldP
    try simp only [Act.put, List.setIfInBounds_toArray, List.set_cons_zero, List.set_cons_succ]
    refine wpAnyH_take (i := 9) (oi := { dst := some 34, op := Go.Op.pick (Go.Operand.tmp 26) (Go.Operand.tmp 33) (Go.Operand.const (Go.Value.bool false)), type := 4, pos := "law.go:19", after := #[{ on := 1, ground := Go.Ground.data }, { on := 8, ground := Go.Ground.data }], guard := none }) (v := ?_) rfl (by kernel_rfl) (by kernel_rfl) (by kernel_rfl) (fun _ _ _ h => h) (Or.inl ⟨by rfl, ?_⟩) hHeld ?_
    rotate_left
    · intro w hSw
      clear hSw
      go_simp
      try with_reducible rfl
    try simp only [Act.put, List.setIfInBounds_toArray, List.set_cons_zero, List.set_cons_succ]
    refine wpAnyH_take (i := 10) (oi := { dst := some 35, op := Go.Op.move (Go.Operand.tmp 34), type := 4, pos := "law.go:19", after := #[{ on := 9, ground := Go.Ground.data }, { on := 8, ground := Go.Ground.chain }], guard := none }) (v := ?_) rfl (by kernel_rfl) (by kernel_rfl) (by kernel_rfl) (fun _ _ _ h => h) (Or.inl ⟨by rfl, ?_⟩) hHeld ?_
    rotate_left
    · intro w hSw
      clear hSw
      go_simp
      try with_reducible rfl
    try simp only [Act.put, List.setIfInBounds_toArray, List.set_cons_zero, List.set_cons_succ]
    refine wpAnyH_take (i := 11) (oi := { dst := some 36, op := Go.Op.move (Go.Operand.tmp 5), type := 33, pos := "law.go:19", after := #[{ on := 10, ground := Go.Ground.guard }], guard := some (10, true) }) (v := ?_) rfl (by kernel_rfl) (by kernel_rfl) (by kernel_rfl) (fun _ _ _ h => h) (Or.inl ⟨by rfl, ?_⟩) hHeld ?_
    rotate_left
    · intro w hSw
      clear hSw
      go_simp
      try with_reducible rfl
    try simp only [Act.put, List.setIfInBounds_toArray, List.set_cons_zero, List.set_cons_succ]
    refine wpAnyH_take (i := 12) (oi := { dst := some 37, op := Go.Op.move (Go.Operand.tmp 1), type := 33, pos := "law.go:19", after := #[{ on := 10, ground := Go.Ground.guard }], guard := some (10, true) }) (v := ?_) rfl (by kernel_rfl) (by kernel_rfl) (by kernel_rfl) (fun _ _ _ h => h) (Or.inl ⟨by rfl, ?_⟩) hHeld ?_
    rotate_left
    · intro w hSw
      clear hSw
      go_simp
      try with_reducible rfl
    try simp only [Act.put, List.setIfInBounds_toArray, List.set_cons_zero, List.set_cons_succ]
    refine wpAnyH_ready (rs := [13]) (by kernel_rfl) (by simp) (AllReadyH.cons (o := { dst := some 38, op := Go.Op.call { callee := Go.Callee.value (Go.Operand.func 21), args := #[Go.Operand.tmp 36, Go.Operand.tmp 37], argTypes := #[33, 33] }, type := 4, pos := "law.go:19", after := #[{ on := 11, ground := Go.Ground.data }, { on := 12, ground := Go.Ground.data }, { on := 10, ground := Go.Ground.chain }, { on := 10, ground := Go.Ground.guard }], guard := some (10, true) }) rfl (fun K hK => ?_) AllReadyH.nil)
    go_simp
    refine (SB.out _ ⟨chain HB9.out hHeld.1, chain HV9.out hHeld.1⟩).mono ?_
    rintro e w13 ⟨rfl, m13, rfl⟩
    go_simp
    refine hK.out _ _ (⟨below_drewN hHeld.1 _, hHeld.2⟩) (fun hHeld2 => ?_)
    clear hK K
    have hHeldP := hHeld
    clear hHeld
    have hHeld := hHeld2
    clear hHeld2 hHeldP
    try simp only [Act.put, List.setIfInBounds_toArray, List.set_cons_zero, List.set_cons_succ]
    refine wpAnyH_take (i := 14) (oi := { dst := some 39, op := Go.Op.pick (Go.Operand.tmp 35) (Go.Operand.tmp 38) (Go.Operand.const (Go.Value.bool false)), type := 4, pos := "law.go:19", after := #[{ on := 10, ground := Go.Ground.data }, { on := 13, ground := Go.Ground.data }], guard := none }) (v := ?_) rfl (by kernel_rfl) (by kernel_rfl) (by kernel_rfl) (fun _ _ _ h => h) (Or.inl ⟨by rfl, ?_⟩) hHeld ?_
    rotate_left
    · intro w hSw
      clear hSw
      go_simp
      try with_reducible rfl
    try simp only [Act.put, List.setIfInBounds_toArray, List.set_cons_zero, List.set_cons_succ]
    refine wpAnyH_take (i := 15) (oi := { dst := some 4, op := Go.Op.assign (Go.Operand.tmp 39), type := 4, pos := "law.go:19", after := #[{ on := 14, ground := Go.Ground.data }, { on := 13, ground := Go.Ground.chain }, { on := 0, ground := Go.Ground.phase }, { on := 1, ground := Go.Ground.phase }, { on := 2, ground := Go.Ground.phase }, { on := 3, ground := Go.Ground.phase }, { on := 4, ground := Go.Ground.phase }, { on := 5, ground := Go.Ground.phase }, { on := 6, ground := Go.Ground.phase }, { on := 7, ground := Go.Ground.phase }, { on := 8, ground := Go.Ground.phase }, { on := 9, ground := Go.Ground.phase }, { on := 10, ground := Go.Ground.phase }, { on := 11, ground := Go.Ground.phase }, { on := 12, ground := Go.Ground.phase }, { on := 13, ground := Go.Ground.phase }, { on := 14, ground := Go.Ground.phase }], guard := none }) (v := ?_) rfl (by kernel_rfl) (by kernel_rfl) (by kernel_rfl) (fun _ _ _ h => h) (Or.inl ⟨by rfl, ?_⟩) hHeld ?_
    rotate_left
    · intro w hSw
      clear hSw
      go_simp
      try with_reducible rfl
    try simp only [Act.put, List.setIfInBounds_toArray, List.set_cons_zero, List.set_cons_succ]
    refine wpAnyH_done (by kernel_rfl) ?_ _
    go_wp2_with fail
    go_ret
    exact ⟨rfl, chain HB9.out hHeld.1⟩
  · have h6 : (2000 : Int) < (l.length : Int) := by omega
    obtain ⟨n, hn⟩ : ∃ n, l.length = n := ⟨_, rfl⟩
    rw [hn] at h6 hlm1 ⊢
    clear hn sa env hc hcm hcn hs
    go_enter Tryd.func4, Tryd.ntmps4
    go_wp2_with fail
    go_ret
    exact ⟨rfl, below_new _ _⟩
set_option maxRecDepth 100000 in
theorem signs6_lifted (os : Os) (started : os.Started) (H : Type) (enc : TypeId × Value → H) :
    ReturnsInHanded {} Tryd.checked os 4 .any (fun w args => (Rows.onetimeSignsSpec.pre enc Tryd.prog Tryd.f4 Rows.onetimeSignsRow.domain false w args ∧ laidMet Tryd.prog laidDig w) ∧ sizedMet enc Tryd.prog Tryd.f4 (OpenSpec.ofChange Rows.onetimeSignsSpec) false w args)
      (Rows.onetimeSignsSpec.post enc Tryd.prog Tryd.f4 false true false false) := by
  refine returns_laid (C := Tryd.checked) (X := fun w => laidMet Tryd.prog laidDig w) (fun _ _ hh h => h.of_heap hh) Tryd.own started (by kernel_rfl) Tryd.func4
    (ChangeSpec.witness_at (enc := enc) (C := Tryd.checked) (os := os) (X := fun w _ => laidMet Tryd.prog laidDig w) false (laidWorldD os) #[.agg #[.int .u8 0, .int .u8 0, .int .u8 0, .int .u8 0, .int .u8 0, .int .u8 0, .int .u8 0, .int .u8 0, .int .u8 0, .int .u8 0, .int .u8 0, .int .u8 0, .int .u8 0, .int .u8 0, .int .u8 0, .int .u8 0], .slice none 0 0] 8 rfl (by kernel_rfl) (by kernel_rfl) (by kernel_rfl) (by kernel_rfl) (by kernel_rfl) (laidWorldD_met os _)) ?_
  intro W base args ds gs before hval0 hW hL hsh
  have hval : ∀ (j : Nat) t v, Tryd.f4.params[j]? = some t → args[j]? = some v → Value.okWide Tryd.prog W .any base t v := hval0
  have env := denv_of_laid hL
  have hW' := hW
  obtain ⟨p, q, hA0, hV, rfl, hfz, hnd⟩ := hW
  have hA : DataW.TrodAll enc Tryd.prog W 0 (fun _ => true) true Tryd.f4.params.toList args.toList ds p := hA0
  rw [Tryd.params4] at hA hval
  obtain ⟨v0, vs0, d0, ds0, p0, q0, hargs, rfl, rfl, h0, r0⟩ := trodAll_cons hA
  obtain ⟨v1, vs1, d1, ds1, p1, q1, rfl, rfl, rfl, h1, r1⟩ := trodAll_cons r0
  obtain ⟨rfl, rfl, rfl⟩ := trodAll_nil r1
  obtain rfl : args = #[v0, v1] := by cases args; simp_all
  obtain ⟨rfl, rfl⟩ := trodVars_none hV
  obtain ⟨l0, g0, rfl⟩ := open_short (hval 0 25 v0 rfl rfl) h0
  obtain ⟨A1, l1, c1, rfl, hc1, hm1, hn1, hs1⟩ := open_bytesN (hval 1 33 v1 rfl rfl) h1
  refine (signs6_true l0 l1 A1 c1 g0 hc1 hm1 hn1 W hs1 env).mono fun e W' ⟨he, hg⟩ => ?_
  subst he
  exact ⟨_, rfl, law_post Tryd.laidOut (by kernel_rfl) (by kernel_rfl) hW' hg (trodAll_cons_mk (shut_bool Tryd.underlying4 _) trodAll_mk0) rfl rfl⟩
/-- the row -/
theorem signs6_row : Rows.OnetimeSignsSaid :=
  OpenClaim.holds_of_wide 4 Tryd.f4 rfl rfl rfl rfl rfl rfl rfl ⟨rfl, rfl, rfl, rfl, rfl⟩ rfl rfl rfl rfl rfl (by kernel_rfl) Tryd.func4 (by kernel_rfl)
    (of_decide_eq_true (by kernel_rfl)) (by unfold Func.isWrapper; rw [if_neg (of_decide_eq_false (by kernel_rfl))]; exact ⟨rfl, rfl⟩)
    (fun os started H enc _ => signs6_lifted os started H enc)
/-- the statement -/
theorem signs6_holds : Rows.OnetimeSignsCardSaid :=
  Claim7.holds_tied_plain_at .later [] [.data, .data] true (true, "40e343a43b00d35708239691a34d580eaa57c938b9af9db3cff3c6339d6703bd") false
    signs6_row (fun _ h => by cases h) (by kernel_rfl) (fun _ h => by cases h) onetimeSigns_row_tie rfl ⟨rfl, rfl⟩ (by kernel_rfl) rfl
    (fun f fn hf hfn => by
      obtain rfl : f = 4 := Option.some.inj ((show Tryd.prog.funcNamed "gatepath/gatepathlaw06.OnetimeSigns" = some 4 by kernel_rfl).symm.trans hf) |>.symm
      obtain rfl : fn = Tryd.f4 := (Option.some.inj (Tryd.func4.symm.trans hfn)).symm
      exact ⟨by kernel_rfl, fun j t ht => by
        rw [Tryd.params4] at ht
        have hp : t = 25 ∨ t = 33 := by
          rcases j with _ | _ | j
          · left; simpa using ht.symm
          · right; simpa using ht.symm
          · simp at ht
        rcases hp with rfl | rfl
        · exact (show Tryd.prog.wantsStandIn 25 = false by kernel_rfl)
        · exact (show Tryd.prog.wantsStandIn 33 = false by kernel_rfl)⟩)
    (by kernel_rfl)
#print axioms signs6_holds
end Go.Proofs.YtpacfbhofgbhkaaDoor
