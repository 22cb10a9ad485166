/- OnetimeEnds, for every input: the key that follows is the short digest of the ends of the chains, or ErrForm. Condition: what the row lists of the program's tables (tied by the card). -/
import Derived.Test.YtpacfbhofgbhkaaDoorOneI
import Derived.Test.YtpacfbhofgbhkaaDoorOneO
import Derived.Test.YtpacfbhofgbhkaaDoorLawKit
import Derived.Test.YtpacfbhofgbhkaaDoorCards
namespace Go.Proofs.YtpacfbhofgbhkaaDoor
open Go.ChangeShapes Go.WideShapes Go.ChangeAt Go.RowKit Sha Ots
open Go.WideMaps Go.WideElems
set_option linter.unusedVariables false
set_option linter.unusedSimpArgs false
theorem own_on {w V : World} {b n : Nat} {v : Value} {xs : List Value} (h : w.ownsRow b 5 1 v n xs) (hb : Below w.heap.size w V) : V.ownsRow b 5 1 v n xs := by
  obtain ⟨h1, h2 | ⟨g, cap, cur, h3, h4, h5, h6⟩⟩ := h
  · exact ⟨h1, .inl h2⟩
  · exact ⟨h1, .inr ⟨g, cap, cur, h3, h4, (hb.block g (Array.getElem?_eq_some_iff.1 h5).1).trans h5, h6⟩⟩
/-- a load whose guard is wanted -/
theorem wpList_load_wanted {ops : Array Oper} {rest : List Oper} {o : Oper} {a : Act} {w : World} {Q : Exit → Act → World → Prop} (hw : Region.wanted o (yielded ops a.tmps) = true) (ty : TypeId) (x : Operand) (ho : o.op = .load ty x)
    (g : Nat) (hx : a.eval x = .pointer (some ⟨g, 0, none⟩)) (t : TypeId) (cs : Array Value) (fr : Nat × Nat) (n : Nat) (el : TypeId) (hg : w.heap[g]? = some (.cells cs t fr)) (hu : Tryd.prog.underlying ty = some (.array n el)) (hi : (Tryd.prog.info? ty).map (·.size) = some cs.size)
    (h : wpList Tryd.prog ops Q rest (a.put o.dst (.agg cs)) w) : wpList Tryd.prog ops Q (o :: rest) a w :=
  wpList_step fun K hK => by
    simp only [hw, if_true]
    exact wp_load_row ty x ho g hx t cs fr _ hg hu rfl hi (hK _ _ h)
theorem enD_drop (D : List Nat) (ls : List (List UInt8)) (k : Nat) (hk : k < 35) : (enD D ls).drop k = clm (ls.getD k []) k (D.getD k 0) (15 - D.getD k 0) :: (enD D ls).drop (k + 1) := by
  have hl : (enD D ls).length = 35 := by unfold enD; rw [List.length_map, List.length_range]
  rw [List.drop_eq_getElem_cons (by omega)]
  congr 1
  unfold enD
  rw [List.getElem_map, List.getElem_range]
def z16 : List UInt8 := List.replicate 16 0
theorem z16_len : z16.length = 16 := rfl
theorem zz16 : (#[.int .u8 0, .int .u8 0, .int .u8 0, .int .u8 0, .int .u8 0, .int .u8 0, .int .u8 0, .int .u8 0, .int .u8 0, .int .u8 0, .int .u8 0, .int .u8 0, .int .u8 0, .int .u8 0, .int .u8 0, .int .u8 0] : Array Value) = bcells z16 := rfl
theorem zrow (V : World) : (V.alloc (.cells (bcells z16) 25)).heap[V.heap.size]? = some (.cells (bcells z16) 25 (0, 0)) := heap_alloc_new _ _
set_option maxRecDepth 100000 in
set_option maxHeartbeats 4000000 in
theorem ends6_true (l : List UInt8) (A : Option Addr) (c : Nat) (ls : List (List UInt8)) (B : Option Addr) (cb : Nat) (hc : l.length ≤ c) (hcm : c ≤ maxLen) (hcb : ls.length ≤ cb) (hcbm : cb ≤ maxLen) (hcn : B = none → cb = 0) (w : World) (sa : SrcAt A l w) (sb : Shorts B ls w) (env : DEnv w) :
    Calls Tryd.prog 9 #[.slice A l.length c, .slice B ls.length cb] w fun e w' => e = .returned (.bool true) ∧ Below w.heap.size w w' := by
  have hal : ∀ V : World, Below w.heap.size w V → Calls Tryd.prog 15 #[] V fun e w' => e = .returned (.bool true) ∧ Below V.heap.size V w' := fun V hb => alive6_any V (env.on hb)
  have hlm1 : l.length ≤ 9223372036854775807 := by unfold maxLen at hcm; omega
  have hlm2 : ls.length ≤ 9223372036854775807 := by unfold maxLen at hcbm; omega
  have AL := Lib.hid hal
  by_cases h1 : l.length ≤ 2000
  · by_cases h2 : ls.length ≤ 100
    · have hd := fun (V : World) (hb : Below w.heap.size w V) => digits_any l A c (by omega) hc hcm V (sa.on hb) (env.on hb)
      have DA := Lib.hid hd
      by_cases h35 : ls.length = 35
      · have hre := fun (V : World) (hb : Below w.heap.size w V) => recover_any l A c (by omega) hc hcm ls B cb h35 V (sa.on hb) (sb.on hb) (env.on hb)
        have hkey : key l ls = sh (enD (dig l) ls).flatten := rfl
        rw [hkey] at hre
        have hsh := fun (V : World) (v : Value) (hb : Below w.heap.size w V) (ho : V.ownsRow w.heap.size 5 1 v (enD (dig l) ls).flatten.length (bvals (enD (dig l) ls).flatten)) (hfl : (enD (dig l) ls).flatten.length ≤ 16000) => (by
          obtain ⟨A, c, rfl, h1, h2, h3, h4⟩ := own_rd2 ho
          exact short_any _ A c (by omega) h1 h2 V h4 (env.on hb) : Calls Tryd.prog 14 #[v] V fun e w' => e = .returned (.agg (bcells (sh (enD (dig l) ls).flatten))) ∧ Below V.heap.size V w')
        have hcl := fun (l : List UInt8) (hl : l.length = 16) (i a b : Nat) (hi : i < 256) (hb : b ≤ 256) (V : World) (hbV : Below w.heap.size w V) => climbed_any l hl i a b hi hb V (env.on hbV)
        have hdr := enD_drop (dig l) ls
        have d1 := dig_len l
        have e1 := getD_le15 _ (dig_le l)
        have hlen16 : ∀ x ∈ enD (dig l) ls, x.length = 16 := fun x hx => by
          unfold enD at hx
          obtain ⟨i, hi, rfl⟩ := List.mem_map.1 hx
          refine clm_len _ _ _ ?_ _
          have h := List.getElem?_eq_getElem (show i < ls.length by have := List.mem_range.1 hi; omega)
          rw [List.getD_eq_getElem?_getD, h]
          exact sb.len _ (List.mem_of_getElem? h)
        have hlZ : (enD (dig l) ls).length = 35 := by unfold enD; rw [List.length_map, List.length_range]
        have hfl := flat_len _ hlen16
        rw [hlZ] at hfl
        have hk1 : (sh (enD (dig l) ls).flatten).length = 16 := sh_len _
        have hsrc := sb.row
        have hsl := sb.len
        obtain ⟨x, hx⟩ : ∃ x, dig l = x := ⟨_, rfl⟩
        rw [hx] at hre hsh hdr d1 e1 hlen16 hlZ hfl hk1 hd
        obtain ⟨Z, hZ⟩ : ∃ Z, enD x ls = Z := ⟨_, rfl⟩
        rw [hZ] at hre hsh hlen16 hlZ hfl hk1
        obtain ⟨FZ, hFZ⟩ : ∃ FZ, Z.flatten = FZ := ⟨_, rfl⟩
        simp only [hZ] at hdr
        obtain ⟨K, hK⟩ : ∃ K, sh Z.flatten = K := ⟨_, rfl⟩
        rw [hK] at hre hk1
        simp only [hK] at hsh
        rw [hFZ] at hsh hfl
        have hq1 : ∀ w, (binOp .eql 25 (.agg (bvals K).toArray) (.agg (bvals K).toArray)).run Tryd.prog w = .ok (.bool true) w := fun w => by
          have h := eql_short K K hk1 hk1 w
          rw [show (K == K) = true by simp] at h
          exact h
        have RE := Lib.hid hre
        have DA2 := Lib.hid hd
        have SHO := Lib.hid hsh
        have CLB := Lib.hid hcl
        have HDR := Lib.hid hdr
        have HL := Lib.hid d1
        have HE := Lib.hid e1
        have H16 := Lib.hid hlen16
        have HFL := Lib.hid hfl
        have HZL := Lib.hid hlZ
        have HFZ := Lib.hid hFZ
        have HK1 := Lib.hid hk1
        have Q1 := Lib.hid hq1
        have HSRC := Lib.hid hsrc
        have HSLN := Lib.hid hsl
        have H35 := Lib.hid h35
        have HSZ := Lib.hid (sz16 K hk1)
        have hso : (16 : Nat) = (bcells K).size := by rw [bcells_size, hk1]
        have HSO := Lib.hid hso
        rw [h35] at RE ⊢
        obtain ⟨n, hn⟩ : ∃ n, l.length = n := ⟨_, rfl⟩
        rw [hn] at DA2 RE h1 hlm1 ⊢
        clear DA hal hd hre hkey hsh hcl hdr d1 e1 hlen16 hlZ hfl hk1 hsrc hsl hx hZ hFZ hK hq1 hso hn hc hcm hcb hcbm hcn sa sb env h2 hlm2 h35
        have s1 := slice_short
        go_enter Tryd.func9, Tryd.ntmps9
        go_wp2_with fail
        refine (AL.out _ (Below.refl _ _)).mono ?_
        rintro e w1 ⟨rfl, hb1⟩
        have HB1 := Lib.hid hb1
        clear hb1
        go_wp2_with fail
        refine (RE.out _ HB1.out).mono ?_
        rintro e w2 ⟨rfl, hb2⟩
        have HB2 := Lib.hid (chain HB1.out hb2)
        clear hb2 HB1
        go_upto_region 5 with (refine wpList_store_row rfl 25 (.tmp 6) (.tmp 30) rfl w2.heap.size (bcells K) rfl rfl 25 _ (heap_alloc_new _ _) HSZ.out HSO.out (bcells_one _) ?_)
        rw [World.setRow_alloc_new]
        obtain ⟨KB, hKB⟩ : ∃ KB, w2.heap.size = KB := ⟨_, rfl⟩
        generalize hV : World.alloc w2 _ = V
        have hbb : Below w2.heap.size w2 V := by rw [← hV]; exact below_new _ _
        have HRK2 : RowKit.Hid (V.heap[KB]? = some (.cells (bcells K) 25 (0, 0))) := Lib.hid (by rw [← hV, ← hKB]; exact heap_alloc_new _ _)
        have HBV := Lib.hid (chain HB2.out hbb)
        try simp only [hKB]
        try simp only [Act.put]
        clear hV hbb HB2 hKB
        go_wp2_with fail
        refine (DA2.out _ HBV.out).mono ?_
        rintro e w3 ⟨X, rfl, hX, hix, hb3⟩
        have HB3 := Lib.hid (chain HBV.out hb3)
        have HIX := Lib.hid hix
        have HRK3 := Lib.hid ((hb3.block _ (Array.getElem?_eq_some_iff.1 HRK2.out).1).trans HRK2.out)
        clear hX hix hb3 HBV HRK2
        go_wp2_with fail
        obtain ⟨VB, hVB⟩ : ∃ VB, w3.heap.size = VB := ⟨_, rfl⟩
        have HVB := Lib.hid hVB
        clear hVB
        go_loopw [9, 10, 11] (fun v i _ wr => ∃ (k : Nat) (done : List UInt8), k ≤ 35 ∧ i = .int .i64 (k : Int) ∧ RowKit.Hid (FZ = done ++ (Z.drop k).flatten) ∧ RowKit.Hid (wr.ownsRow VB 5 1 v done.length (bvals done)) ∧ RowKit.Hid (Below VB w3 wr)) (fun _ i _ _ => 35 - (intOf i).toNat)
        case atStart => exact ⟨0, [], by omega, rfl, Lib.hid HFZ.out.symm, Lib.hid ⟨rfl, Or.inl ⟨rfl, rfl⟩⟩, Lib.hid (Below.refl _ _)⟩
        case round =>
          obtain ⟨k, done, hk, rfl, HD, HO, HW0⟩ := hrel
          have HWR : RowKit.Hid (Below w3.heap.size w3 wr) := Lib.hid (by rw [HVB.out]; exact HW0.out)
          clear HW0
          by_cases hlt : k < 35
          · have hki : (k : Int) < 35 := by omega
            have cx := (HIX.out.on HWR.out).at k (by rw [HL.out]; exact hlt)
            have b1 := HE.out k
            obtain ⟨s, hs⟩ : ∃ s, ls[k]? = some s := ⟨_, List.getElem?_eq_getElem (by rw [H35.out]; exact hlt)⟩
            have hs16 : s.length = 16 := HSLN.out s (List.mem_of_getElem? hs)
            obtain ⟨g, o, rfl, hrg⟩ := HSRC.out k s hs
            have hrw := rangeAt_on (rangeAt_on hrg HB3.out) HWR.out
            rw [Nat.mul_comm] at hrw
            have hsg : ls.getD k [] = s := by rw [List.getD_eq_getElem?_getD, hs]; rfl
            have hdr := HDR.out k hlt
            rw [hsg] at hdr
            obtain ⟨d, hd⟩ : ∃ d, x.getD k 0 = d := ⟨_, rfl⟩
            rw [hd] at cx b1 hdr
            have hclm := fun (z : World) (hz : Below wr.heap.size wr z) => CLB.out s hs16 k d 15 (by omega) (by omega) z (chain (chain HB3.out HWR.out) hz)
            obtain ⟨f, hf⟩ : ∃ f, clm s k d (15 - d) = f := ⟨_, rfl⟩
            have hf16 : f.length = 16 := by rw [← hf]; exact clm_len _ _ _ hs16 _
            rw [hf] at hdr hclm
            have clm1 : ∀ z : World, Below wr.heap.size wr z → Calls Tryd.prog 23 #[.agg (bvals s).toArray, .int .i64 (k : Int), .int .i64 (d : Int), .int .i64 15] z fun e w' => e = .returned (.agg (bcells f)) ∧ Below z.heap.size z w' := hclm
            have hd2 : FZ = (done ++ f) ++ (Z.drop (k + 1)).flatten := by rw [HD.out, hdr, List.flatten_cons, List.append_assoc]
            have hdl : done.length + 16 ≤ 16000 := by
              have h := congrArg List.length hd2
              have h2 := HFL.out
              rw [List.length_append, List.length_append] at h
              omega
            have mkS : ∀ z, Below wr.heap.size wr z → Below wr.heap.size wr z ∧ z.rangeAt g (o + k * 16) (bvals s) ∧ z.cell? ⟨X, k, none⟩ = some (.int .i64 (d : Int)) := fun z hz => ⟨hz, rangeAt_on hrw hz, by rw [hz.cell (World.block_lt_of_cell? _ _ cx)]; exact cx⟩
            have HF16 := Lib.hid hf16
            have HD2 := Lib.hid hd2
            have HDL := Lib.hid hdl
            have CLM := Lib.hid clm1
            have HSZF := Lib.hid (sz16 f hf16)
            have his : (Tryd.prog.info? 25).map (·.size) = some (bvals s).length := by rw [bvals_len, hs16]; kernel_rfl
            have hu := Tryd.underlying25
            have ZROW := zrow
            have ZROWB : ∀ w8 : World, Below (wr.drew.alloc (.cells (bcells z16) 25)).heap.size (wr.drew.alloc (.cells (bcells z16) 25)) w8 → w8.heap[wr.heap.size]? = some (.cells (bcells z16) 25 (0, 0)) := fun w8 h => (h.block wr.heap.size (by rw [World.size_alloc]; exact Nat.lt_succ_self _)).trans (zrow wr.drew)
            have b3 : ¬ ((d : Int) < 0) := by omega
            have b4 : ¬ ((15 : Int) < (d : Int)) := by omega
            have hcx2 := cx
            clear hs hrg hsg hdr hd hclm hf hf16 clm1 hd2 hdl HD hs16
            go_upto_region 14 with (fail)
            try simp only [Act.put]
            clear hcx2
            refine wp_region_held_drew (S := fun z => Below wr.heap.size wr z ∧ z.rangeAt g (o + k * 16) (bvals s) ∧ z.cell? ⟨X, k, none⟩ = some (.int .i64 (d : Int))) (by kernel_rfl) (mkS _ (Below.refl _ _).drew) (fun hHeld => ?_)
            refine wpAnyH_take (i := 0) (oi := { dst := some 75, op := Go.Op.move (Go.Operand.tmp 1), type := 22, pos := "law.go:146", after := #[], guard := none }) (v := ?_) rfl (by kernel_rfl) (by kernel_rfl) (by kernel_rfl) (fun _ _ _ h => h) (Or.inl ⟨by rfl, ?_⟩) hHeld ?_
            rotate_left
            · intro w hSw
              clear hSw
              go_simp
              try with_reducible rfl
            try simp only [Act.put, List.setIfInBounds_toArray, List.set_cons_zero, List.set_cons_succ]
            refine wpAnyH_take (i := 1) (oi := { dst := some 76, op := Go.Op.move (Go.Operand.tmp 10), type := 3, pos := "law.go:146", after := #[], guard := none }) (v := ?_) rfl (by kernel_rfl) (by kernel_rfl) (by kernel_rfl) (fun _ _ _ h => h) (Or.inl ⟨by rfl, ?_⟩) hHeld ?_
            rotate_left
            · intro w hSw
              clear hSw
              go_simp
              try with_reducible rfl
            try simp only [Act.put, List.setIfInBounds_toArray, List.set_cons_zero, List.set_cons_succ]
            refine wpAnyH_take (i := 2) (oi := { dst := some 77, op := Go.Op.indexAddr 22 (Go.Operand.tmp 75) (Go.Operand.tmp 76), type := 0, pos := "law.go:146", after := #[{ on := 0, ground := Go.Ground.data }, { on := 1, ground := Go.Ground.data }], guard := none }) (v := ?_) rfl (by kernel_rfl) (by kernel_rfl) (by kernel_rfl) (fun _ _ _ h => h) (Or.inl ⟨by rfl, ?_⟩) hHeld ?_
            rotate_left
            · intro w hSw
              clear hSw
              go_simp
              try with_reducible rfl
            try simp only [Act.put, List.setIfInBounds_toArray, List.set_cons_zero, List.set_cons_succ]
            refine wpAnyH_take (i := 3) (oi := { dst := some 78, op := Go.Op.load 25 (Go.Operand.tmp 77), type := 25, pos := "law.go:146", after := #[{ on := 2, ground := Go.Ground.data }], guard := none }) (v := .agg (bvals s).toArray) rfl (by kernel_rfl) (by kernel_rfl) (by kernel_rfl) (fun _ _ _ h => h) (yieldsIf_load_mid (by rfl) _ _ rfl _ _ rfl (bvals s) _ (fun w hSw => hSw.2.1) hu rfl his) hHeld ?_
            try simp only [Act.put, List.setIfInBounds_toArray, List.set_cons_zero, List.set_cons_succ]
            refine wpAnyH_take (i := 4) (oi := { dst := some 79, op := Go.Op.move (Go.Operand.tmp 10), type := 3, pos := "law.go:146", after := #[], guard := none }) (v := ?_) rfl (by kernel_rfl) (by kernel_rfl) (by kernel_rfl) (fun _ _ _ h => h) (Or.inl ⟨by rfl, ?_⟩) hHeld ?_
            rotate_left
            · intro w hSw
              clear hSw
              go_simp
              try with_reducible rfl
            try simp only [Act.put, List.setIfInBounds_toArray, List.set_cons_zero, List.set_cons_succ]
            refine wpAnyH_take (i := 5) (oi := { dst := some 80, op := Go.Op.move (Go.Operand.tmp 8), type := 29, pos := "law.go:146", after := #[], guard := none }) (v := ?_) rfl (by kernel_rfl) (by kernel_rfl) (by kernel_rfl) (fun _ _ _ h => h) (Or.inl ⟨by rfl, ?_⟩) hHeld ?_
            rotate_left
            · intro w hSw
              clear hSw
              go_simp
              try with_reducible rfl
            try simp only [Act.put, List.setIfInBounds_toArray, List.set_cons_zero, List.set_cons_succ]
            refine wpAnyH_take (i := 6) (oi := { dst := some 81, op := Go.Op.move (Go.Operand.tmp 10), type := 3, pos := "law.go:146", after := #[], guard := none }) (v := ?_) rfl (by kernel_rfl) (by kernel_rfl) (by kernel_rfl) (fun _ _ _ h => h) (Or.inl ⟨by rfl, ?_⟩) hHeld ?_
            rotate_left
            · intro w hSw
              clear hSw
              go_simp
              try with_reducible rfl
            try simp only [Act.put, List.setIfInBounds_toArray, List.set_cons_zero, List.set_cons_succ]
            refine wpAnyH_take (i := 7) (oi := { dst := some 82, op := Go.Op.indexAddr 29 (Go.Operand.tmp 80) (Go.Operand.tmp 81), type := 0, pos := "law.go:146", after := #[{ on := 5, ground := Go.Ground.data }, { on := 6, ground := Go.Ground.data }], guard := none }) (v := ?_) rfl (by kernel_rfl) (by kernel_rfl) (by kernel_rfl) (fun _ _ _ h => h) (Or.inl ⟨by rfl, ?_⟩) hHeld ?_
            rotate_left
            · intro w hSw
              clear hSw
              go_simp
              try with_reducible rfl
            try simp only [Act.put, List.setIfInBounds_toArray, List.set_cons_zero, List.set_cons_succ]
            refine wpAnyH_take (i := 8) (oi := { dst := some 83, op := Go.Op.load 3 (Go.Operand.tmp 82), type := 3, pos := "law.go:146", after := #[{ on := 7, ground := Go.Ground.data }], guard := none }) (v := ?_) rfl (by kernel_rfl) (by kernel_rfl) (by kernel_rfl) (fun _ _ _ h => h) (Or.inl ⟨by rfl, ?_⟩) hHeld ?_
            rotate_left
            · intro w hSw
              have hfc0 := hSw.2.2
              clear hSw
              go_simp
              try with_reducible rfl
            try simp only [Act.put, List.setIfInBounds_toArray, List.set_cons_zero, List.set_cons_succ]
            refine wpAnyH_ready (rs := [9, 10]) (by kernel_rfl) (by simp) (AllReadyH.cons (o := { dst := some 84, op := Go.Op.call { callee := Go.Callee.value (Go.Operand.func 23), args := #[Go.Operand.tmp 78, Go.Operand.tmp 79, Go.Operand.tmp 83, Go.Operand.const (Go.Value.int Go.IntKind.i64 15)], argTypes := #[25, 3, 3, 3] }, type := 25, pos := "law.go:146", after := #[{ on := 3, ground := Go.Ground.data }, { on := 4, ground := Go.Ground.data }, { on := 8, ground := Go.Ground.data }], guard := none }) rfl (fun K hK => ?_) (AllReadyH.cons (o := { dst := some 11, op := Go.Op.alloc 25, type := 0, pos := "law.go:146", after := #[], guard := none }) rfl (fun K hK => ?_) AllReadyH.nil))
            · go_simp
              refine (CLM.out _ hHeld.1).mono ?_
              rintro e w8 ⟨rfl, hb8⟩
              go_simp
              refine hK.out _ _ (mkS _ (chain hHeld.1 hb8)) (fun hHeld2 => ?_)
              clear hK K
              try simp only [Act.put, List.setIfInBounds_toArray, List.set_cons_zero, List.set_cons_succ]
              have hHeld3 := hHeld2
              refine wpAnyH_ready (rs := [10]) (by kernel_rfl) (by simp) (AllReadyH.cons (o := { dst := some 11, op := Go.Op.alloc 25, type := 0, pos := "law.go:146", after := #[], guard := none }) rfl (fun K hK => ?_) AllReadyH.nil)
              go_simp
              try simp only [zz16]
              refine hK.out _ _ (mkS _ (hHeld3.1.alloc hHeld3.1.size _)) (fun hHeld5 => ?_)
              clear hK K
              try simp only [Act.put, List.setIfInBounds_toArray, List.set_cons_zero, List.set_cons_succ]
              refine wpAnyH_ready (rs := [11]) (by kernel_rfl) (by simp) (AllReadyH.cons (o := { dst := none, op := Go.Op.store 25 (Go.Operand.tmp 11) (Go.Operand.tmp 84), type := 0, pos := "law.go:146", after := #[{ on := 10, ground := Go.Ground.data }, { on := 9, ground := Go.Ground.data }, { on := 9, ground := Go.Ground.chain }, { on := 0, ground := Go.Ground.phase }, { on := 1, ground := Go.Ground.phase }, { on := 2, ground := Go.Ground.phase }, { on := 3, ground := Go.Ground.phase }, { on := 4, ground := Go.Ground.phase }, { on := 5, ground := Go.Ground.phase }, { on := 6, ground := Go.Ground.phase }, { on := 7, ground := Go.Ground.phase }, { on := 8, ground := Go.Ground.phase }, { on := 9, ground := Go.Ground.phase }, { on := 10, ground := Go.Ground.phase }], guard := none }) rfl (fun K hK => ?_) AllReadyH.nil)
              rw [if_pos (by rfl)]
              refine wp_store_mid _ _ _ rfl (w8.heap.size) 0 (bcells f) rfl rfl (there_row (ZROW w8) _ (by rw [bcells_size, bcells_size, HF16.out, z16_len]; exact Nat.le_refl _)) HSZF.out (bcells_one _) ?_
              have hrz := row_setCells (ZROW w8) (show (bcells z16).size = (bcells f).size by rw [bcells_size, bcells_size, HF16.out, z16_len])
              have hbz : Below wr.heap.size wr (World.setCells (w8.alloc (.cells (bcells z16) 25)) (w8.heap.size) 0 (bcells f).toList) := below_setCells _ _ _ (hHeld3.1.alloc hHeld3.1.size _) hHeld3.1.size
              refine hK.out _ _ (mkS _ hbz) (fun hHeld4 => ?_)
              have HRZ := Lib.hid hrz
              have HBZ := Lib.hid hbz
              clear hK K hrz hbz hHeld4
              try simp only [Act.put, List.setIfInBounds_toArray, List.set_cons_zero, List.set_cons_succ]
              refine wpAnyH_done (by kernel_rfl) ?_ _
              go_wp2_with (at_builtin; go_loud (refine append_src rfl (.tmp 85) (.tmp 86) rfl VB _ _ _ rfl (own_on HO.out HBZ.out) (some ⟨w8.heap.size, 0, none⟩) f 16 16 HF16.out rfl (fun e => by cases e) (srcAt_row HRZ.out) (by have := HDL.out; omega) (by have h9 := HBZ.out.size; have h10 := HWR.out.size; have h11 := HVB.out; omega) ?_); intro v' w5 hown5 hgrow5; have HO5 := Lib.hid hown5; have HG5 := Lib.hid hgrow5; clear hown5 hgrow5)
              refine ⟨⟨k + 1, done ++ f, by omega, by go_num, HD2, Lib.hid ?_, Lib.hid ?_⟩, by simp [intOf]; omega⟩
              · rw [List.length_append, bvals_app, HF16.out]
                exact HO5.out
              · rw [← HVB.out]
                exact (chain HWR.out HBZ.out).grown HG5.out (by have h9 := HBZ.out.size; have h10 := HWR.out.size; omega) (fun j hj => (by have h11 := HVB.out; have h12 := (own_ge HO.out hj).1; omega))
            · go_simp
              try simp only [zz16]
              refine hK.out _ _ (mkS _ (hHeld.1.alloc hHeld.1.size _)) (fun hHeld3 => ?_)
              clear hK K hHeld
              have hHeld := hHeld3
              clear hHeld3
              try simp only [Act.put, List.setIfInBounds_toArray, List.set_cons_zero, List.set_cons_succ]
              refine wpAnyH_ready (rs := [9]) (by kernel_rfl) (by simp) (AllReadyH.cons (o := { dst := some 84, op := Go.Op.call { callee := Go.Callee.value (Go.Operand.func 23), args := #[Go.Operand.tmp 78, Go.Operand.tmp 79, Go.Operand.tmp 83, Go.Operand.const (Go.Value.int Go.IntKind.i64 15)], argTypes := #[25, 3, 3, 3] }, type := 25, pos := "law.go:146", after := #[{ on := 3, ground := Go.Ground.data }, { on := 4, ground := Go.Ground.data }, { on := 8, ground := Go.Ground.data }], guard := none }) rfl (fun K hK => ?_) AllReadyH.nil)
              go_simp
              refine (CLM.out _ hHeld.1).mono ?_
              rintro e w8 ⟨rfl, hb8⟩
              go_simp
              refine hK.out _ _ (mkS _ (chain hHeld.1 hb8)) (fun hHeld2 => ?_)
              clear hK K
              try simp only [Act.put, List.setIfInBounds_toArray, List.set_cons_zero, List.set_cons_succ]
              have hHeld3 := hHeld2
              refine wpAnyH_ready (rs := [11]) (by kernel_rfl) (by simp) (AllReadyH.cons (o := { dst := none, op := Go.Op.store 25 (Go.Operand.tmp 11) (Go.Operand.tmp 84), type := 0, pos := "law.go:146", after := #[{ on := 10, ground := Go.Ground.data }, { on := 9, ground := Go.Ground.data }, { on := 9, ground := Go.Ground.chain }, { on := 0, ground := Go.Ground.phase }, { on := 1, ground := Go.Ground.phase }, { on := 2, ground := Go.Ground.phase }, { on := 3, ground := Go.Ground.phase }, { on := 4, ground := Go.Ground.phase }, { on := 5, ground := Go.Ground.phase }, { on := 6, ground := Go.Ground.phase }, { on := 7, ground := Go.Ground.phase }, { on := 8, ground := Go.Ground.phase }, { on := 9, ground := Go.Ground.phase }, { on := 10, ground := Go.Ground.phase }], guard := none }) rfl (fun K hK => ?_) AllReadyH.nil)
              rw [if_pos (by rfl)]
              refine wp_store_mid _ _ _ rfl (wr.heap.size) 0 (bcells f) rfl rfl (there_row (ZROWB w8 hb8) _ (by rw [bcells_size, bcells_size, HF16.out, z16_len]; exact Nat.le_refl _)) HSZF.out (bcells_one _) ?_
              have hrz := row_setCells (ZROWB w8 hb8) (show (bcells z16).size = (bcells f).size by rw [bcells_size, bcells_size, HF16.out, z16_len])
              have hbz : Below wr.heap.size wr (World.setCells w8 (wr.heap.size) 0 (bcells f).toList) := below_setCells _ _ _ hHeld3.1 (Nat.le_refl _)
              refine hK.out _ _ (mkS _ hbz) (fun hHeld4 => ?_)
              have HRZ := Lib.hid hrz
              have HBZ := Lib.hid hbz
              clear hK K hrz hbz hHeld4
              try simp only [Act.put, List.setIfInBounds_toArray, List.set_cons_zero, List.set_cons_succ]
              refine wpAnyH_done (by kernel_rfl) ?_ _
              go_wp2_with (at_builtin; go_loud (refine append_src rfl (.tmp 85) (.tmp 86) rfl VB _ _ _ rfl (own_on HO.out HBZ.out) (some ⟨wr.heap.size, 0, none⟩) f 16 16 HF16.out rfl (fun e => by cases e) (srcAt_row HRZ.out) (by have := HDL.out; omega) (by have h9 := HBZ.out.size; have h10 := HWR.out.size; have h11 := HVB.out; omega) ?_); intro v' w5 hown5 hgrow5; have HO5 := Lib.hid hown5; have HG5 := Lib.hid hgrow5; clear hown5 hgrow5)
              refine ⟨⟨k + 1, done ++ f, by omega, by go_num, HD2, Lib.hid ?_, Lib.hid ?_⟩, by simp [intOf]; omega⟩
              · rw [List.length_append, bvals_app, HF16.out]
                exact HO5.out
              · rw [← HVB.out]
                exact (chain HWR.out HBZ.out).grown HG5.out (by have h9 := HBZ.out.size; have h10 := HWR.out.size; omega) (fun j hj => (by have h11 := HVB.out; have h12 := (own_ge HO.out hj).1; omega))
          · have hkk : k = 35 := by omega
            subst hkk
            have hge : ¬ ((35 : Nat) : Int) < 35 := by omega
            have hfin : FZ = done := by rw [HD.out, List.drop_of_length_le (by rw [HZL.out]; exact Nat.le_refl _)]; simp
            have HO2 : RowKit.Hid (wr.ownsRow w.heap.size 5 1 u9 FZ.length (bvals FZ)) := Lib.hid (by rw [hfin]; exact own_base HO.out (by rw [← HVB.out]; exact HB3.out.size))
            have HRK := Lib.hid ((HWR.out.block _ (Array.getElem?_eq_some_iff.1 HRK3.out).1).trans HRK3.out)
            have SHC : RowKit.Hid (∀ z : World, Below wr.heap.size wr z → Calls Tryd.prog 14 #[u9] z fun e w' => e = .returned (.agg (bvals K).toArray) ∧ Below z.heap.size z w') := Lib.hid fun z hz => SHO.out z u9 (chain (chain HB3.out HWR.out) hz) (own_on HO2.out hz) (by rw [HFL.out]; decide)
            have hq1 := Q1.out
            have hu := Tryd.underlying25
            have hiK : (Tryd.prog.info? 25).map (·.size) = some (bvals K).length := by rw [bvals_len, HK1.out]; kernel_rfl
            clear hfin HO HD
            go_upto_region 16 with (fail)
            try simp only [Act.put]
            refine wp_region_held_drew (S := fun z => Below wr.heap.size wr z ∧ z.rangeAt KB 0 (bvals K)) (by kernel_rfl) ⟨(Below.refl _ _).drew, rangeAt_row HRK.out⟩ (fun hHeld => ?_)
            refine wpAnyH_take (i := 0) (oi := { dst := some 88, op := Go.Op.move (Go.Operand.tmp 5), type := 4, pos := "law.go:149", after := #[], guard := none }) (v := ?_) rfl (by kernel_rfl) (by kernel_rfl) (by kernel_rfl) (fun _ _ _ h => h) (Or.inl ⟨by rfl, ?_⟩) hHeld ?_
            rotate_left
            · intro w hSw
              clear hSw
              go_simp
              try with_reducible rfl
            try simp only [Act.put, List.setIfInBounds_toArray, List.set_cons_zero, List.set_cons_succ]
            refine wpAnyH_take (i := 1) (oi := { dst := some 89, op := Go.Op.move (Go.Operand.tmp 88), type := 4, pos := "law.go:149", after := #[{ on := 0, ground := Go.Ground.data }], guard := none }) (v := ?_) rfl (by kernel_rfl) (by kernel_rfl) (by kernel_rfl) (fun _ _ _ h => h) (Or.inl ⟨by rfl, ?_⟩) hHeld ?_
            rotate_left
            · intro w hSw
              clear hSw
              go_simp
              try with_reducible rfl
            try simp only [Act.put, List.setIfInBounds_toArray, List.set_cons_zero, List.set_cons_succ]
            refine wpAnyH_take (i := 2) (oi := { dst := some 90, op := Go.Op.move (Go.Operand.tmp 7), type := 26, pos := "law.go:149", after := #[{ on := 1, ground := Go.Ground.guard }], guard := some (1, true) }) (v := ?_) rfl (by kernel_rfl) (by kernel_rfl) (by kernel_rfl) (fun _ _ _ h => h) (Or.inl ⟨by rfl, ?_⟩) hHeld ?_
            rotate_left
            · intro w hSw
              clear hSw
              go_simp
              try with_reducible rfl
            try simp only [Act.put, List.setIfInBounds_toArray, List.set_cons_zero, List.set_cons_succ]
            refine wpAnyH_take (i := 3) (oi := { dst := some 91, op := Go.Op.binOp Go.BinOp.eql 26 (Go.Operand.tmp 90) (Go.Operand.const (Go.Value.int Go.IntKind.i64 0)) 26, type := 4, pos := "law.go:149", after := #[{ on := 2, ground := Go.Ground.data }, { on := 1, ground := Go.Ground.guard }], guard := some (1, true) }) (v := ?_) rfl (by kernel_rfl) (by kernel_rfl) (by kernel_rfl) (fun _ _ _ h => h) (Or.inl ⟨by rfl, ?_⟩) hHeld ?_
            rotate_left
            · intro w hSw
              clear hSw
              go_simp
              try with_reducible rfl
            try simp only [Act.put, List.setIfInBounds_toArray, List.set_cons_zero, List.set_cons_succ]
            refine wpAnyH_take (i := 4) (oi := { dst := some 92, op := Go.Op.pick (Go.Operand.tmp 89) (Go.Operand.tmp 91) (Go.Operand.const (Go.Value.bool false)), type := 4, pos := "law.go:149", after := #[{ on := 1, ground := Go.Ground.data }, { on := 3, ground := Go.Ground.data }], guard := none }) (v := ?_) rfl (by kernel_rfl) (by kernel_rfl) (by kernel_rfl) (fun _ _ _ h => h) (Or.inl ⟨by rfl, ?_⟩) hHeld ?_
            rotate_left
            · intro w hSw
              clear hSw
              go_simp
              try with_reducible rfl
            try simp only [Act.put, List.setIfInBounds_toArray, List.set_cons_zero, List.set_cons_succ]
            refine wpAnyH_take (i := 5) (oi := { dst := some 93, op := Go.Op.move (Go.Operand.tmp 92), type := 4, pos := "law.go:149", after := #[{ on := 4, ground := Go.Ground.data }, { on := 1, ground := Go.Ground.chain }], guard := none }) (v := ?_) rfl (by kernel_rfl) (by kernel_rfl) (by kernel_rfl) (fun _ _ _ h => h) (Or.inl ⟨by rfl, ?_⟩) hHeld ?_
            rotate_left
            · intro w hSw
              clear hSw
              go_simp
              try with_reducible rfl
            try simp only [Act.put, List.setIfInBounds_toArray, List.set_cons_zero, List.set_cons_succ]
            refine wpAnyH_take (i := 6) (oi := { dst := some 94, op := Go.Op.load 25 (Go.Operand.tmp 6), type := 25, pos := "law.go:149", after := #[{ on := 5, ground := Go.Ground.guard }], guard := some (5, true) }) (v := .agg (bvals K).toArray) rfl (by kernel_rfl) (by kernel_rfl) (by kernel_rfl) (fun _ _ _ h => h) (yieldsIf_load_mid (by rfl) _ _ rfl _ _ rfl (bvals K) _ (fun w hSw => hSw.2) hu rfl hiK) hHeld ?_
            try simp only [Act.put, List.setIfInBounds_toArray, List.set_cons_zero, List.set_cons_succ]
            refine wpAnyH_take (i := 7) (oi := { dst := some 95, op := Go.Op.move (Go.Operand.tmp 9), type := 33, pos := "law.go:149", after := #[{ on := 5, ground := Go.Ground.guard }], guard := some (5, true) }) (v := ?_) rfl (by kernel_rfl) (by kernel_rfl) (by kernel_rfl) (fun _ _ _ h => h) (Or.inl ⟨by rfl, ?_⟩) hHeld ?_
            rotate_left
            · intro w hSw
              clear hSw
              go_simp
              try with_reducible rfl
            try simp only [Act.put, List.setIfInBounds_toArray, List.set_cons_zero, List.set_cons_succ]
            refine wpAnyH_ready (rs := [8]) (by kernel_rfl) (by simp) (AllReadyH.cons (o := { dst := some 96, op := Go.Op.call { callee := Go.Callee.value (Go.Operand.func 14), args := #[Go.Operand.tmp 95], argTypes := #[33] }, type := 25, pos := "law.go:149", after := #[{ on := 7, ground := Go.Ground.data }, { on := 5, ground := Go.Ground.chain }, { on := 5, ground := Go.Ground.guard }], guard := some (5, true) }) rfl (fun K hK => ?_) AllReadyH.nil)
            go_simp
            refine (SHC.out _ hHeld.1).mono ?_
            rintro e w10 ⟨rfl, hb8⟩
            go_simp
            refine hK.out _ _ ⟨chain hHeld.1 hb8, rangeAt_on hHeld.2 hb8⟩ (fun hHeld2 => ?_)
            clear hK K hHeld
            have hHeld := hHeld2
            clear hHeld2
            try simp only [Act.put, List.setIfInBounds_toArray, List.set_cons_zero, List.set_cons_succ]
            refine wpAnyH_take (i := 9) (oi := { dst := some 97, op := Go.Op.binOp Go.BinOp.eql 25 (Go.Operand.tmp 94) (Go.Operand.tmp 96) 25, type := 4, pos := "law.go:149", after := #[{ on := 6, ground := Go.Ground.data }, { on := 8, ground := Go.Ground.data }, { on := 5, ground := Go.Ground.guard }], guard := some (5, true) }) (v := ?_) rfl (by kernel_rfl) (by kernel_rfl) (by kernel_rfl) (fun _ _ _ h => h) (Or.inl ⟨by rfl, ?_⟩) hHeld ?_
            rotate_left
            · intro w hSw
              clear hSw
              go_simp
              try with_reducible rfl
            try simp only [Act.put, List.setIfInBounds_toArray, List.set_cons_zero, List.set_cons_succ]
            refine wpAnyH_take (i := 10) (oi := { dst := some 98, op := Go.Op.pick (Go.Operand.tmp 93) (Go.Operand.tmp 97) (Go.Operand.const (Go.Value.bool false)), type := 4, pos := "law.go:149", after := #[{ on := 5, ground := Go.Ground.data }, { on := 9, ground := Go.Ground.data }], guard := none }) (v := ?_) rfl (by kernel_rfl) (by kernel_rfl) (by kernel_rfl) (fun _ _ _ h => h) (Or.inl ⟨by rfl, ?_⟩) hHeld ?_
            rotate_left
            · intro w hSw
              clear hSw
              go_simp
              try with_reducible rfl
            try simp only [Act.put, List.setIfInBounds_toArray, List.set_cons_zero, List.set_cons_succ]
            refine wpAnyH_take (i := 11) (oi := { dst := some 4, op := Go.Op.assign (Go.Operand.tmp 98), type := 4, pos := "law.go:149", after := #[{ on := 10, ground := Go.Ground.data }, { on := 8, ground := Go.Ground.chain }, { on := 0, ground := Go.Ground.phase }, { on := 1, ground := Go.Ground.phase }, { on := 2, ground := Go.Ground.phase }, { on := 3, ground := Go.Ground.phase }, { on := 4, ground := Go.Ground.phase }, { on := 5, ground := Go.Ground.phase }, { on := 6, ground := Go.Ground.phase }, { on := 7, ground := Go.Ground.phase }, { on := 8, ground := Go.Ground.phase }, { on := 9, ground := Go.Ground.phase }, { on := 10, ground := Go.Ground.phase }], guard := none }) (v := ?_) rfl (by kernel_rfl) (by kernel_rfl) (by kernel_rfl) (fun _ _ _ h => h) (Or.inl ⟨by rfl, ?_⟩) hHeld ?_
            rotate_left
            · intro w hSw
              clear hSw
              go_simp
              try with_reducible rfl
            try simp only [Act.put, List.setIfInBounds_toArray, List.set_cons_zero, List.set_cons_succ]
            refine wpAnyH_done (by kernel_rfl) ?_ _
            go_wp2_with fail
            go_ret
            exact ⟨rfl, chain (chain HB3.out HWR.out) hHeld.1⟩
      · have hre := fun (V : World) (hb : Below w.heap.size w V) => recover_bad (.slice A l.length c) ls B cb h35 V
        have hne : (((ls.length : Nat) : Int) != 35) = true := by
          simp
          omega
        have hz16 : (List.replicate 16 (0 : UInt8)).length = 16 := rfl
        have hq0 := fun w => eql_short (List.replicate 16 0) (List.replicate 16 0) hz16 hz16 w
        have hq1 : ∀ w, (binOp .eql 25 (.agg (bcells (List.replicate 16 0))) (.agg #[.int .u8 0, .int .u8 0, .int .u8 0, .int .u8 0, .int .u8 0, .int .u8 0, .int .u8 0, .int .u8 0, .int .u8 0, .int .u8 0, .int .u8 0, .int .u8 0, .int .u8 0, .int .u8 0, .int .u8 0, .int .u8 0])).run Tryd.prog w = .ok (.bool true) w := hq0
        obtain ⟨R, hR⟩ : ∃ R, List.replicate 16 (0 : UInt8) = R := ⟨_, rfl⟩
        rw [hR] at hz16 hq1
        have hq2 : ∀ w, (binOp .eql 25 (.agg (bvals R).toArray) (.agg #[.int .u8 0, .int .u8 0, .int .u8 0, .int .u8 0, .int .u8 0, .int .u8 0, .int .u8 0, .int .u8 0, .int .u8 0, .int .u8 0, .int .u8 0, .int .u8 0, .int .u8 0, .int .u8 0, .int .u8 0, .int .u8 0])).run Tryd.prog w = .ok (.bool true) w := hq1
        have HQ1 := Lib.hid hq2
        have HR16 := Lib.hid hz16
        simp only [hR] at hre
        have HSZ := Lib.hid (sz16 R hz16)
        have hso : (16 : Nat) = (bcells R).size := by rw [bcells_size, hz16]
        have HSO := Lib.hid hso
        have RE := Lib.hid hre
        obtain ⟨n, hn⟩ : ∃ n, l.length = n := ⟨_, rfl⟩
        obtain ⟨m, hm⟩ : ∃ m, ls.length = m := ⟨_, rfl⟩
        rw [hn] at DA RE h1 hlm1 ⊢
        rw [hm] at RE hne h2 hlm2 ⊢
        clear hal hd hre hq0 hq1 hq2 hR hso hn hm hc hcm hcb hcbm hcn sa sb env h35 hz16
        go_enter Tryd.func9, Tryd.ntmps9
        go_wp2_with fail
        refine (AL.out _ (Below.refl _ _)).mono ?_
        rintro e w1 ⟨rfl, hb1⟩
        have HB1 := Lib.hid hb1
        clear hb1
        go_wp2_with fail
        refine (RE.out _ HB1.out).mono ?_
        rintro e w2 ⟨rfl, hb2⟩
        have HB2 := Lib.hid (chain HB1.out hb2)
        clear hb2 HB1
        go_upto_region 5 with (refine wpList_store_row rfl 25 (.tmp 6) (.tmp 30) rfl w2.heap.size (bcells R) rfl rfl 25 _ (heap_alloc_new _ _) HSZ.out HSO.out (bcells_one _) ?_)
        rw [World.setRow_alloc_new]
        obtain ⟨KB, hKB⟩ : ∃ KB, w2.heap.size = KB := ⟨_, rfl⟩
        generalize hV : World.alloc w2 _ = V
        have hbb : Below w2.heap.size w2 V := by rw [← hV]; exact below_new _ _
        have HRK2 : RowKit.Hid (V.heap[KB]? = some (.cells (bcells R) 25 (0, 0))) := Lib.hid (by rw [← hV, ← hKB]; exact heap_alloc_new _ _)
        have HBV := Lib.hid (chain HB2.out hbb)
        try simp only [hKB]
        try simp only [Act.put]
        clear hV hbb HB2 hKB
        go_wp2_with fail
        refine (DA.out _ HBV.out).mono ?_
        rintro e w3 ⟨X, rfl, hX, hix, hb3⟩
        have HB3 := Lib.hid (chain HBV.out hb3)
        have HRK3 := Lib.hid ((hb3.block _ (Array.getElem?_eq_some_iff.1 HRK2.out).1).trans HRK2.out)
        clear hX hix hb3 HBV HRK2
        have hq1 := HQ1.out
        go_wp2_with (refine wpList_load_wanted (by rfl) 25 (.tmp 6) rfl KB rfl 25 (bvals R).toArray (0, 0) _ _ HRK3.out Tryd.underlying25 HSZ.out ?_)
        go_ret
        exact ⟨rfl, HB3.out⟩
    · have h6 : (100 : Int) < (ls.length : Int) := by omega
      obtain ⟨n, hn⟩ : ∃ n, l.length = n := ⟨_, rfl⟩
      obtain ⟨m, hm⟩ : ∃ m, ls.length = m := ⟨_, rfl⟩
      rw [hn] at h1 hlm1 ⊢
      rw [hm] at h6 hlm2 ⊢
      clear hal hn hm sa sb env hc hcm hcb hcbm hcn
      go_enter Tryd.func9, Tryd.ntmps9
      go_wp2_with fail
      refine (AL.out _ (Below.refl _ _)).mono ?_
      rintro e w1 ⟨rfl, hb1⟩
      have HB1 := Lib.hid hb1
      clear hb1
      go_wp2_with fail
      go_ret
      exact ⟨rfl, HB1.out⟩
  · have h6 : (2000 : Int) < (l.length : Int) := by omega
    obtain ⟨n, hn⟩ : ∃ n, l.length = n := ⟨_, rfl⟩
    obtain ⟨m, hm⟩ : ∃ m, ls.length = m := ⟨_, rfl⟩
    rw [hn] at h6 hlm1 ⊢
    rw [hm] at hlm2 ⊢
    clear hal hn hm sa sb env hc hcm hcb hcbm hcn
    go_enter Tryd.func9, Tryd.ntmps9
    go_wp2_with fail
    refine (AL.out _ (Below.refl _ _)).mono ?_
    rintro e w1 ⟨rfl, hb1⟩
    have HB1 := Lib.hid hb1
    clear hb1
    go_wp2_with fail
    go_ret
    exact ⟨rfl, HB1.out⟩
set_option maxRecDepth 100000 in
theorem ends6_lifted (os : Os) (started : os.Started) (H : Type) (enc : TypeId × Value → H) :
    ReturnsInHanded {} Tryd.checked os 9 .any (fun w args => (Rows.onetimeEndsSpec.pre enc Tryd.prog Tryd.f9 Rows.onetimeEndsRow.domain false w args ∧ laidMet Tryd.prog laidDig w) ∧ sizedMet enc Tryd.prog Tryd.f9 (OpenSpec.ofChange Rows.onetimeEndsSpec) false w args)
      (Rows.onetimeEndsSpec.post enc Tryd.prog Tryd.f9 false true false false) := by
  refine returns_laid (C := Tryd.checked) (X := fun w => laidMet Tryd.prog laidDig w) (fun _ _ hh h => h.of_heap hh) Tryd.own started (by kernel_rfl) Tryd.func9
    (ChangeSpec.witness_at (enc := enc) (C := Tryd.checked) (os := os) (X := fun w _ => laidMet Tryd.prog laidDig w) false (laidWorldD os) #[.slice none 0 0, .slice none 0 0] 8 rfl (by kernel_rfl) (by kernel_rfl) (by kernel_rfl) (by kernel_rfl) (by kernel_rfl) (laidWorldD_met os _)) ?_
  intro W base args ds gs before hval0 hW hL hsh
  have hval : ∀ (j : Nat) t v, Tryd.f9.params[j]? = some t → args[j]? = some v → Value.okWide Tryd.prog W .any base t v := hval0
  have env := denv_of_laid hL
  have hW' := hW
  obtain ⟨p, q, hA0, hV, rfl, hfz, hnd⟩ := hW
  have hA : DataW.TrodAll enc Tryd.prog W 0 (fun _ => true) true Tryd.f9.params.toList args.toList ds p := hA0
  rw [Tryd.params9] at hA hval
  obtain ⟨v0, vs0, d0, ds0, p0, q0, hargs, rfl, rfl, h0, r0⟩ := trodAll_cons hA
  obtain ⟨v1, vs1, d1, ds1, p1, q1, rfl, rfl, rfl, h1, r1⟩ := trodAll_cons r0
  obtain ⟨rfl, rfl, rfl⟩ := trodAll_nil r1
  obtain rfl : args = #[v0, v1] := by cases args; simp_all
  obtain ⟨rfl, rfl⟩ := trodVars_none hV
  obtain ⟨A0, l0, c0, rfl, hc0, hm0, hs0⟩ := open_bytes (hval 0 33 v0 rfl rfl) h0
  obtain ⟨A1, ls1, c1, rfl, hc1, hm1, hn1, hs1⟩ := open_shorts (hval 1 22 v1 rfl rfl) h1
  refine (ends6_true l0 A0 c0 ls1 A1 c1 hc0 hm0 hc1 hm1 hn1 W hs0 hs1 env).mono fun e W' ⟨he, hg⟩ => ?_
  subst he
  exact ⟨_, rfl, law_post Tryd.laidOut (by kernel_rfl) (by kernel_rfl) hW' hg (trodAll_cons_mk (shut_bool Tryd.underlying4 _) trodAll_mk0) rfl rfl⟩
/-- the row -/
theorem ends6_row : Rows.OnetimeEndsSaid :=
  OpenClaim.holds_of_wide 9 Tryd.f9 rfl rfl rfl rfl rfl rfl rfl ⟨rfl, rfl, rfl, rfl, rfl⟩ rfl rfl rfl rfl rfl (by kernel_rfl) Tryd.func9 (by kernel_rfl)
    (of_decide_eq_true (by kernel_rfl)) (by unfold Func.isWrapper; rw [if_neg (of_decide_eq_false (by kernel_rfl))]; exact ⟨rfl, rfl⟩)
    (fun os started H enc _ => ends6_lifted os started H enc)
/-- the statement -/
theorem ends6_holds : Rows.OnetimeEndsCardSaid :=
  Claim7.holds_tied_plain_at .later [] [.data, .data] true (true, "40e343a43b00d35708239691a34d580eaa57c938b9af9db3cff3c6339d6703bd") false
    ends6_row (fun _ h => by cases h) (by kernel_rfl) (fun _ h => by cases h) onetimeEnds_row_tie rfl ⟨rfl, rfl⟩ (by kernel_rfl) rfl
    (fun f fn hf hfn => by
      obtain rfl : f = 9 := Option.some.inj ((show Tryd.prog.funcNamed "gatepath/gatepathlaw06.OnetimeEnds" = some 9 by kernel_rfl).symm.trans hf) |>.symm
      obtain rfl : fn = Tryd.f9 := (Option.some.inj (Tryd.func9.symm.trans hfn)).symm
      exact ⟨by kernel_rfl, fun j t ht => by
        rw [Tryd.params9] at ht
        have hp : t = 33 ∨ t = 22 := by
          rcases j with _ | _ | j
          · left; simpa using ht.symm
          · right; simpa using ht.symm
          · simp at ht
        rcases hp with rfl | rfl
        · exact (show Tryd.prog.wantsStandIn 33 = false by kernel_rfl)
        · exact (show Tryd.prog.wantsStandIn 22 = false by kernel_rfl)⟩)
    (by kernel_rfl)
#print axioms ends6_holds
end Go.Proofs.YtpacfbhofgbhkaaDoor
