/- LocatorNames: the examples, the limits, further locators and errors of layer 9 hold. No input, no condition. -/
import Derived.Test.YthagoafcphaadaaDoorLocNB
import Derived.Test.YthagoafcphaadaaDoorLocDoor
import Derived.Test.YthagoafcphaadaaDoorLocWrap
namespace Go.Proofs.YthagoafcphaadaaDoor
open Go.ChangeShapes Go.WideShapes Go.ChangeAt Go.RowKit Lo
open Go.WideMaps Go.WideElems
open Go.ChangeMaps (open_string shut_string)
set_option linter.unusedVariables false
set_option linter.unusedSimpArgs false
set_option maxRecDepth 100000 in
set_option maxHeartbeats 32000000 in
theorem locnames_true (w : World) (env : LEnv true w) : Calls Tryd.prog 3 #[] w (fun e w' => e = .returned (.bool true) ∧ Below w.heap.size w w') := by
  have hG := env.big
  have HE := Lib.hid env
  clear env
  have HLE : RowKit.Hid (∀ V, Below w.heap.size w V → LEnv true V) := Lib.hid (fun V hb => HE.out.below hb hG)
  clear hG HE
  have HZN : RowKit.Hid (∀ V, Below w.heap.size w V → w.heap.size ≤ V.heap.size) := Lib.hid (fun V h => h.size)
  have hmk := mk_parts w
  have hrow := heap_alloc_new w (.cells (ps 0) 9)
  have hbel := below_new w (.cells (ps 0) 9)
  obtain ⟨N, hN⟩ : ∃ N, w.heap.size = N := ⟨_, rfl⟩
  have HNN := Lib.hid hN
  go_enter Tryd.func3, Tryd.ntmps3
  go_wp2_with fail
  generalize hV0 : World.alloc w _ = V0
  rw [hV0] at hrow hbel
  rw [hN] at hrow hbel HLE
  have HZN : RowKit.Hid (∀ V, Below N w V → N ≤ V.heap.size) := Lib.hid (fun V h => by rw [← HNN.out]; exact h.size)
  try simp only [hN]
  have HR0 := Lib.hid hrow
  have HB0 := Lib.hid hbel
  clear hmk hrow hbel hV0 hN
  go_loopw [2] (fun i wr => ∃ k : Nat, k ≤ 10 ∧ i = .int .i64 k ∧ RowKit.Hid (wr.heap[N]? = some (.cells (ps k) 9 (0, 0)) ∧ Below N w wr)) (fun i _ => 10 - (intOf i).toNat)
  case atStart => exact ⟨0, Nat.zero_le _, by go_num, Lib.hid ⟨HR0.out, HB0.out⟩⟩
  case round =>
    clear HR0 HB0
    obtain ⟨k, hk, rfl, HK⟩ := hrel
    obtain ⟨V, hV⟩ : ∃ V, V = wr := ⟨_, rfl⟩
    subst hV
    by_cases hlt : k < 10
    · have hki : (k : Int) < 10 := by omega
      have hsz := ps_size k hk
      obtain ⟨z, hz⟩ : ∃ z, (ps k)[k]? = some z := ⟨_, Array.getElem?_eq_getElem (by omega)⟩
      have hc := (cell_row (j := k) HK.out.1).trans hz
      have hl := row_lt HK.out.1
      have hf : V.frozen? ⟨N, k, none⟩ = false := frozen_of_row _ _ _ _ _ HK.out.1
      have HS := Lib.hid (show (V.setCell ⟨N, k, none⟩ (.string ⟨#[112]⟩)).heap[N]? = some (.cells (ps (k + 1)) 9 (0, 0)) by rw [← ps_set k hlt]; exact heap_setCell_same _ _ _ _ _ _ HK.out.1)
      have HB := Lib.hid (HK.out.2.setCell (p := ⟨N, k, none⟩) (Nat.le_refl N) (.string ⟨#[112]⟩))
      have HLT := Lib.hid hlt
      clear hz hsz
      go_wp2_with fail
      exact ⟨⟨k + 1, HLT.out, by go_num, Lib.hid ⟨HS.out, HB.out⟩⟩, by have := HLT.out; simp [intOf]; omega⟩
    · have hkk : k = 10 := by omega
      subst hkk
      have hki : ¬ ((10 : Nat) : Int) < 10 := by omega
      have HP := Lib.hid (pp_at HK.out.1)
      have HBV : RowKit.Hid (Below N w V) := Lib.hid HK.out.2
      clear HK hk hlt
      go_upto_region 7 with (fail)
      have hn := heap_alloc_new V (.cells #[.int .u8 2, .string ⟨#[104]⟩, .int .i64 0, .slice (some ⟨N, 0, none⟩) 10 10, .bool false] 24)
      have hb := below_new V (.cells #[.int .u8 2, .string ⟨#[104]⟩, .int .i64 0, .slice (some ⟨N, 0, none⟩) 10 10, .bool false] 24)
      generalize World.alloc V _ = a1 at hn hb ⊢
      have HBa1 := Lib.hid (HBV.out.trans (hb.mono (HZN.out _ HBV.out)))
      have HP := Lib.hid (HP.out.on hb)
      clear hb HBV
      have RF := Lib.hid hn
      clear hn
      obtain ⟨hz, m0, m1, m2, m3, m4, -, -, -, -, -⟩ := locfacts RF.out
      have hc := Text_any lFull (some ⟨N, 0, none⟩) 10 a1 (HLE.out a1 HBa1.out) (at_of HP.out (by decide) (by decide) (by decide) pp_big)
      rw [t_full] at hc
      clear RF
      go_wp2_with fail
      refine (hc).mono ?_
      rintro e a2 ⟨rfl, hb⟩
      have HBa2 := Lib.hid (HBa1.out.trans (hb.mono (HZN.out _ HBa1.out)))
      have HP := Lib.hid (HP.out.on hb)
      clear hb HBa1
      clear hc hz m0 m1 m2 m3 m4
      have HPN : RowKit.Hid ((some ⟨N, 0, none⟩ : Option Addr) = none → (10 : Nat) = 0) := Lib.hid (fun h => by cases h)
      have HZ2 : RowKit.Hid (N < a2.heap.size) := Lib.hid (by obtain ⟨g, o, e, hg, _⟩ := HP.out (by decide); injection (Option.some.inj e) with e1; rw [e1]; exact hg)
      go_upto_region 9 with (first | (at_builtin; go_loud (refine append_strs_copy rfl (.tmp 57) (.tmp 58) rfl a2.heap.size rfl (heap_alloc_new _ _) (some ⟨N, 0, none⟩) pp 10 rfl HPN.out (HP.out.on (below_new _ _)) (by decide) ?_); intro A3 c3 a3 ho3 hb3; have HO3 := Lib.hid ho3; have hb : Below a2.heap.size a2 a3 := (below_new a2 (.cells #[] 9)).trans hb3; have HBa3 := Lib.hid (HBa2.out.trans (hb.mono (HZN.out _ HBa2.out))); have HP := Lib.hid (HP.out.on hb); have HZ3 := Lib.hid hb.size; clear ho3 hb3 hb) | (at_builtin; go_loud (refine append_strs rfl (.tmp 59) (.tmp 60) rfl a2.heap.size _ pp.length (strsV pp) rfl (own_on HO3.out (below_new _ _)) ⟨a3.heap.size, 0, none⟩ 1 1 [.string ⟨#[112]⟩] rfl rfl (cell_one_s _ _ _) (by simp [Value.oneCell']) (by decide) (by have := HZ3.out; rw [World.size_alloc]; omega) ?_); intro v' a4 ho4 hg4; obtain ⟨A4, c4, rfl⟩ := own_sl ho4; have HO4 := Lib.hid ho4; have HG4 := Lib.hid hg4; clear ho4 hg4))
      have hlo := fun k (hk : (Value.slice A3 pp.length c3).ownBlock = some k) => (own_blk HO3.out hk).1
      have hba := below_new a3 (.cells #[.string ⟨#[112]⟩] 9)
      have hz3 : a2.heap.size ≤ (a3.alloc (.cells #[.string ⟨#[112]⟩] 9)).heap.size := by have := HZ3.out; rw [World.size_alloc]; omega
      have hzn : N ≤ (a3.alloc (.cells #[.string ⟨#[112]⟩] 9)).heap.size := by have := HZ2.out; omega
      have HBa4 : RowKit.Hid (Below N w a4) := Lib.hid ((HBa3.out.trans (hba.mono (HZN.out _ HBa3.out))).grown HG4.out hzn (fun k hk => Nat.le_trans (Nat.le_of_lt HZ2.out) (hlo k hk)))
      have HP : RowKit.Hid (StrsAt (some ⟨N, 0, none⟩) pp a4) := Lib.hid ((HP.out.on hba).under (n := a2.heap.size) (fun g o e => by injection (Option.some.inj e) with e1; rw [← e1]; exact HZ2.out) ((Below.refl a2.heap.size _).grown HG4.out hz3 (fun k hk => hlo k hk)))
      clear hlo hba hz3 hzn HG4
      clear HBa2 HBa3 HO3 HZ3
      have hst : StrsAt A4 lOver.parts a4 ∧ lOver.parts.length ≤ c4 := own_strs (xs := pp ++ [[112]]) (by have h := HO4.out; rw [show strsV pp ++ [Value.string ⟨#[112]⟩] = strsV (pp ++ [[112]]) from (strsV_snoc pp [112]).symm] at h; exact h)
      have HAO := Lib.hid (at_of (l := lOver) hst.1 (by decide) (by decide) hst.2 (by decide))
      clear hst HO4
      have hn := heap_alloc_new a4 (.cells #[.int .u8 9, .string ⟨#[104]⟩, .int .i64 0, .slice A4 (pp.length + 1) c4, .bool false] 24)
      have hb := below_new a4 (.cells #[.int .u8 9, .string ⟨#[104]⟩, .int .i64 0, .slice A4 (pp.length + 1) c4, .bool false] 24)
      generalize World.alloc a4 _ = a5 at hn hb ⊢
      have HBa5 := Lib.hid (HBa4.out.trans (hb.mono (HZN.out _ HBa4.out)))
      have HP := Lib.hid (HP.out.on hb)
      have HAO := Lib.hid (HAO.out.on hb)
      clear hb HBa4
      have RO := Lib.hid hn
      clear hn
      generalize a4.heap.size = O at RO ⊢
      have hc := Text_any lDirF (some ⟨N, 0, none⟩) 10 a5 (HLE.out a5 HBa5.out) (at_of HP.out (by decide) (by decide) (by decide) pp_big)
      rw [t_dir] at hc
      clear HP HPN HZ2
      go_wp2_with fail
      refine (hc).mono ?_
      rintro e a6 ⟨rfl, hb⟩
      have HBa6 := Lib.hid (HBa5.out.trans (hb.mono (HZN.out _ HBa5.out)))
      have HAO := Lib.hid (HAO.out.on hb)
      have RO := Lib.hid (row_on RO.out hb)
      clear hb HBa5
      clear hc
      have hc := Join_any tDir [120] (by decide) (by decide) a6 (HLE.out a6 HBa6.out)
      rw [j_dir] at hc
      go_wp2_with fail
      refine (hc).mono ?_
      rintro e a7 ⟨rfl, hb⟩
      have HBa7 := Lib.hid (HBa6.out.trans (hb.mono (HZN.out _ HBa6.out)))
      have HAO := Lib.hid (HAO.out.on hb)
      have RO := Lib.hid (row_on RO.out hb)
      clear hb HBa6
      clear hc
      have hc : Calls Tryd.prog 8 #[.int .i64 60] a7 _ := letters_any 60 (by decide) (by decide) a7
      go_wp2_with fail
      refine (hc).mono ?_
      rintro e b0 ⟨rfl, hb⟩
      have HBb0 := Lib.hid (HBa7.out.trans (hb.mono (HZN.out _ HBa7.out)))
      have HAO := Lib.hid (HAO.out.on hb)
      have RO := Lib.hid (row_on RO.out hb)
      clear hb HBa7
      clear hc
      have hc : Calls Tryd.prog 8 #[.int .i64 40] b0 _ := letters_any 40 (by decide) (by decide) b0
      go_wp2_with fail
      refine (hc).mono ?_
      rintro e b1 ⟨rfl, hb⟩
      have HBb1 := Lib.hid (HBb0.out.trans (hb.mono (HZN.out _ HBb0.out)))
      have HAO := Lib.hid (HAO.out.on hb)
      have RO := Lib.hid (row_on RO.out hb)
      clear hb HBb0
      clear hc
      have hc : Calls Tryd.prog 8 #[.int .i64 40] b1 _ := letters_any 40 (by decide) (by decide) b1
      go_wp2_with fail
      refine (hc).mono ?_
      rintro e b2 ⟨rfl, hb⟩
      have HBb2 := Lib.hid (HBb1.out.trans (hb.mono (HZN.out _ HBb1.out)))
      have HAO := Lib.hid (HAO.out.on hb)
      have RO := Lib.hid (row_on RO.out hb)
      clear hb HBb1
      clear hc
      have hc : Calls Tryd.prog 8 #[.int .i64 40] b2 _ := letters_any 40 (by decide) (by decide) b2
      go_wp2_with fail
      refine (hc).mono ?_
      rintro e b3 ⟨rfl, hb⟩
      have HBb3 := Lib.hid (HBb2.out.trans (hb.mono (HZN.out _ HBb2.out)))
      have HAO := Lib.hid (HAO.out.on hb)
      have RO := Lib.hid (row_on RO.out hb)
      clear hb HBb2
      clear hc
      have hc : Calls Tryd.prog 8 #[.int .i64 8] b3 _ := letters_any 8 (by decide) (by decide) b3
      go_wp2_with fail
      refine (hc).mono ?_
      rintro e b4 ⟨rfl, hb⟩
      have HBb4 := Lib.hid (HBb3.out.trans (hb.mono (HZN.out _ HBb3.out)))
      have HAO := Lib.hid (HAO.out.on hb)
      have RO := Lib.hid (row_on RO.out hb)
      clear hb HBb3
      clear hc
      go_upto_region 12 with (fail)
      have hsz : (World.alloc b4 (.cells #[.string (str (aa 40)), .string (str (aa 40)), .string (str (aa 40)), .string (str (aa 8))] 9)).heap.size = b4.heap.size + 1 := World.size_alloc ..
      have hn := heap_alloc_new b4 (.cells #[.string (str (aa 40)), .string (str (aa 40)), .string (str (aa 40)), .string (str (aa 8))] 9)
      have hb := below_new b4 (.cells #[.string (str (aa 40)), .string (str (aa 40)), .string (str (aa 40)), .string (str (aa 8))] 9)
      generalize World.alloc b4 _ = b5 at hn hb hsz ⊢
      have HNG := Lib.hid (HZN.out _ HBb4.out)
      have HOG0 := Lib.hid (row_lt RO.out)
      have HFAR0 : RowKit.Hid (∀ g o, A4 = some ⟨g, o, none⟩ → g < b4.heap.size) := Lib.hid (fun g o e => by obtain ⟨g2, o2, e2, h2, _⟩ := HAO.out.parts (by decide); rw [e] at e2; injection (Option.some.inj e2) with e3; rw [e3]; exact h2)
      have HBb5 := Lib.hid (HBb4.out.trans (hb.mono (HZN.out _ HBb4.out)))
      have HAO := Lib.hid (HAO.out.on hb)
      have RO := Lib.hid (row_on RO.out hb)
      clear hb HBb4
      have RG := Lib.hid hn
      clear hn
      obtain ⟨G, hGG⟩ : ∃ G, b4.heap.size = G := ⟨_, rfl⟩
      rw [hGG] at RG hsz HNG HOG0 HFAR0 ⊢
      try simp only [hGG]
      clear hGG
      have hn := heap_alloc_new b5 (.cells #[.int .u8 1, .string (str (aa 60)), .int .i64 0, .slice (some ⟨G, 0, none⟩) 4 4, .bool false] 24)
      have hb := below_new b5 (.cells #[.int .u8 1, .string (str (aa 60)), .int .i64 0, .slice (some ⟨G, 0, none⟩) 4 4, .bool false] 24)
      generalize World.alloc b5 _ = b6 at hn hb ⊢
      have HBb6 := Lib.hid (HBb5.out.trans (hb.mono (HZN.out _ HBb5.out)))
      have HAO := Lib.hid (HAO.out.on hb)
      have RO := Lib.hid (row_on RO.out hb)
      have RG := Lib.hid (row_on RG.out hb)
      clear hb HBb5
      have RL := Lib.hid hn
      clear hn
      rw [hsz] at RL
      obtain ⟨M, hM⟩ : ∃ M, G + 1 = M := ⟨_, rfl⟩
      rw [hM] at RL
      try simp only [hM]
      have HOG : RowKit.Hid (O ≠ G) := Lib.hid (fun e => by have := HOG0.out; omega)
      have HFAR : RowKit.Hid (∀ g o, A4 = some ⟨g, o, none⟩ → g ≠ G) := Lib.hid (fun g o e => by have := HFAR0.out g o e; omega)
      clear hsz hM HOG0 HFAR0
      obtain ⟨hz, m0, m1, m2, m3, m4, -, -, -, -, -⟩ := locfacts RL.out
      have hc := Text_any (lLong 8) (some ⟨G, 0, none⟩) 4 b6 (HLE.out b6 HBb6.out) (at_of (l := lLong 8) (strs_row [aa 40, aa 40, aa 40, aa 8] RG.out rfl) (by decide) (by show (aa 60).length < _; rw [aa_len]; decide) (by decide) (fun p hp => by unfold lLong at hp; simp only [List.mem_cons, List.mem_nil_iff, or_false] at hp; rcases hp with rfl | rfl | rfl | rfl <;> (rw [aa_len]; decide)))
      obtain ⟨hl0, hl1⟩ := t_long
      generalize textL (lLong 8) = TL at hc hl0 hl1
      obtain ⟨most, he⟩ := TL
      simp only at hc hl0 hl1
      subst hl0
      have HMOST : RowKit.Hid (((str most).size : Int) = 200) := Lib.hid (by rw [str_size, hl1]; rfl)
      clear hl1
      go_wp2_with fail
      refine (hc).mono ?_
      rintro e b7 ⟨rfl, hb⟩
      have HBb7 := Lib.hid (HBb6.out.trans (hb.mono (HZN.out _ HBb6.out)))
      have HAO := Lib.hid (HAO.out.on hb)
      have RO := Lib.hid (row_on RO.out hb)
      have RG := Lib.hid (row_on RG.out hb)
      have RL := Lib.hid (row_on RL.out hb)
      clear hb HBb6
      clear hc hz m0 m1 m2 m3 m4
      have hbx := cell_row (j := 3) RL.out
      have HLT := Lib.hid (fun (V : World) => show Calls Tryd.prog 8 #[.int .i64 9] V (fun e w' => e = .returned (.string (str (aa 9))) ∧ Below V.heap.size V w') from letters_any 9 (by decide) (by decide) V)
      go_wp2_with fail
      have HGM := Lib.hid (show G ≠ M from fun e => by have h1 := RG.out; have h2 := RL.out; rw [e] at h1; rw [h1] at h2; cases h2)
      refine wp_region_held_drew (S := (fun v => v.cell? ⟨M, 3, none⟩ = some (.slice (some ⟨G, 0, none⟩) 4 4))) (by kernel_rfl) (hbx.trans rfl) (fun hHeld => ?_)
      clear hbx
      generalize hU : World.drew b7 = U at hHeld ⊢
      have hb : Below b7.heap.size b7 U := by rw [← hU]; exact ⟨rfl, rfl, rfl, Nat.le_refl _, fun _ _ => rfl⟩
      clear hU
      have HBU := Lib.hid (HBb7.out.trans (hb.mono (HZN.out _ HBb7.out)))
      have HAO := Lib.hid (HAO.out.on hb)
      have RO := Lib.hid (row_on RO.out hb)
      have RG := Lib.hid (row_on RG.out hb)
      have RL := Lib.hid (row_on RL.out hb)
      clear hb HBb7
      refine wpAnyH_take (i := 0) (oi := { dst := Option.some 86, op := Go.Op.fieldAddr 24 (Go.Operand.tmp 11) 3, type := 0, pos := "law.go:86", after := #[], guard := Option.none }) (v := ?_) rfl (by kernel_rfl) (by kernel_rfl) (by kernel_rfl) (fun _ _ _ h => h) (Or.inl ⟨by rfl, ?_⟩) hHeld ?_
      rotate_left
      · intro w hSw
        skip
        clear hSw
        go_simp
        try with_reducible rfl
      try simp only [Act.put, List.setIfInBounds_toArray, List.set_cons_zero, List.set_cons_succ]
      refine wpAnyH_take (i := 1) (oi := { dst := Option.some 87, op := Go.Op.load 22 (Go.Operand.tmp 86), type := 22, pos := "law.go:86", after := #[{ on := 0, ground := Go.Ground.data }], guard := Option.none }) (v := ?_) rfl (by kernel_rfl) (by kernel_rfl) (by kernel_rfl) (fun _ _ _ h => h) (Or.inl ⟨by rfl, ?_⟩) hHeld ?_
      rotate_left
      · intro w hSw
        have hfc := hSw
        clear hSw
        go_simp
        try with_reducible rfl
      try simp only [Act.put, List.setIfInBounds_toArray, List.set_cons_zero, List.set_cons_succ]
      refine wpAnyH_ready (rs := [2]) (by kernel_rfl) (by simp) (AllReadyH.cons (o := { dst := Option.some 88, op := Go.Op.call { callee := Go.Callee.value (Go.Operand.func 8), args := #[Go.Operand.const (Go.Value.int Go.IntKind.i64 9)], argTypes := #[3] }, type := 9, pos := "law.go:86", after := #[], guard := Option.none }) rfl (fun K hK => ?_) AllReadyH.nil)
      go_simp
      refine (HLT.out U).mono ?_
      rintro e b8 ⟨rfl, hb⟩
      go_simp
      have HBb8 := Lib.hid (HBU.out.trans (hb.mono (HZN.out _ HBU.out)))
      have HAO := Lib.hid (HAO.out.on hb)
      have RO := Lib.hid (row_on RO.out hb)
      have RG := Lib.hid (row_on RG.out hb)
      have RL := Lib.hid (row_on RL.out hb)
      clear hb HBU
      refine hK.out _ _ ((cell_row (j := 3) RL.out).trans rfl) (fun hHeld2 => ?_)
      clear hK K hHeld
      have hHeld := hHeld2
      clear hHeld2
      try simp only [Act.put, List.setIfInBounds_toArray, List.set_cons_zero, List.set_cons_succ]
      refine wpAnyH_take (i := 3) (oi := { dst := Option.some 89, op := Go.Op.indexAddr 22 (Go.Operand.tmp 87) (Go.Operand.const (Go.Value.int Go.IntKind.i64 3)), type := 0, pos := "law.go:86", after := #[{ on := 1, ground := Go.Ground.data }, { on := 0, ground := Go.Ground.phase }, { on := 1, ground := Go.Ground.phase }, { on := 2, ground := Go.Ground.phase }], guard := Option.none }) (v := ?_) rfl (by kernel_rfl) (by kernel_rfl) (by kernel_rfl) (fun _ _ _ h => h) (Or.inl ⟨by rfl, ?_⟩) hHeld ?_
      rotate_left
      · intro w hSw
        skip
        clear hSw
        go_simp
        try with_reducible rfl
      try simp only [Act.put, List.setIfInBounds_toArray, List.set_cons_zero, List.set_cons_succ]
      refine wpAnyH_ready (rs := [4]) (by kernel_rfl) (by simp) (AllReadyH.cons (o := { dst := Option.none, op := Go.Op.store 9 (Go.Operand.tmp 89) (Go.Operand.tmp 88), type := 0, pos := "law.go:86", after := #[{ on := 3, ground := Go.Ground.data }, { on := 2, ground := Go.Ground.data }, { on := 2, ground := Go.Ground.chain }, { on := 0, ground := Go.Ground.phase }, { on := 1, ground := Go.Ground.phase }, { on := 2, ground := Go.Ground.phase }], guard := Option.none }) rfl (fun K hK => ?_) AllReadyH.nil)
      have hc3 := cell_row (j := 3) RG.out
      have hg3 := row_lt RG.out
      have hf3 : b8.frozen? ⟨G, 3, none⟩ = false := frozen_of_row _ _ _ _ _ RG.out
      go_simp
      clear hc3 hg3 hf3
      have RG2 := Lib.hid (show (b8.setCell ⟨G, 3, none⟩ (.string (str (aa 9)))).heap[G]? = some (.cells #[.string (str (aa 40)), .string (str (aa 40)), .string (str (aa 40)), .string (str (aa 9))] 9 (0, 0)) from heap_setCell_same _ _ _ _ _ _ RG.out)
      have RL2 := Lib.hid (show (b8.setCell ⟨G, 3, none⟩ (.string (str (aa 9)))).heap[M]? = _ from row_far RL.out (Ne.symm HGM.out))
      have RO2 := Lib.hid (show (b8.setCell ⟨G, 3, none⟩ (.string (str (aa 9)))).heap[O]? = _ from row_far RO.out HOG.out)
      have HBb9 := Lib.hid (show Below N w (b8.setCell ⟨G, 3, none⟩ (.string (str (aa 9)))) from HBb8.out.setCell (p := ⟨G, 3, none⟩) HNG.out _)
      have HAO2 : RowKit.Hid (LocAt lOver A4 c4 (b8.setCell ⟨G, 3, none⟩ (.string (str (aa 9))))) := Lib.hid (at_far HAO.out HFAR.out _)
      generalize World.setCell b8 _ _ = b9 at RG2 RL2 RO2 HBb9 HAO2 ⊢
      refine hK.out _ _ ((cell_row (j := 3) RL2.out).trans rfl) (fun hHeld2 => ?_)
      clear hK K hHeld
      have hHeld := hHeld2
      clear hHeld2
      try simp only [Act.put, List.setIfInBounds_toArray, List.set_cons_zero, List.set_cons_succ]
      refine wpAnyH_done (by kernel_rfl) ?_ _
      clear RG RL RO HAO HBb8 HLT HGM HOG HNG HFAR hHeld
      have RG := RG2
      have RL := RL2
      have RO := RO2
      have HAO := HAO2
      clear RG2 RL2 RO2 HAO2
      obtain ⟨hz, m0, m1, m2, m3, m4, -, -, -, -, -⟩ := locfacts RL.out
      have hc := Text_any (lLong 9) (some ⟨G, 0, none⟩) 4 b9 (HLE.out b9 HBb9.out) (at_of (l := lLong 9) (strs_row [aa 40, aa 40, aa 40, aa 9] RG.out rfl) (by decide) (by show (aa 60).length < _; rw [aa_len]; decide) (by decide) (fun p hp => by unfold lLong at hp; simp only [List.mem_cons, List.mem_nil_iff, or_false] at hp; rcases hp with rfl | rfl | rfl | rfl <;> (rw [aa_len]; decide)))
      rw [t_over] at hc
      clear RG
      go_wp2_with fail
      refine (hc).mono ?_
      rintro e c0 ⟨rfl, hb⟩
      have HBc0 := Lib.hid (HBb9.out.trans (hb.mono (HZN.out _ HBb9.out)))
      have HAO := Lib.hid (HAO.out.on hb)
      have RO := Lib.hid (row_on RO.out hb)
      clear hb HBb9
      clear hc hz m0 m1 m2 m3 m4 RL
      obtain ⟨hz, m0, m1, m2, m3, m4, -, -, -, -, -⟩ := locfacts RO.out
      have hf1 : ((str tFull).toList == [104, 116, 116, 112, 115, 58, 47, 47, 104, 47, 112, 47, 112, 47, 112, 47, 112, 47, 112, 47, 112, 47, 112, 47, 112, 47, 112, 47, 112]) = true := by rw [eqS, str_dat]; decide +kernel
      have hf2 : ((str tDir).toList == (str tFull ++ ⟨#[47]⟩).toList) = true := by rw [show str tDir = str tFull ++ ⟨#[47]⟩ from str_app tFull [47]]; exact beq_self_eq_true _
      have hf3 : (str tFull).size ≤ 600 := by rw [str_size]; decide
      have hf4 := HMOST.out
      have hc := check_any lOver A4 c4 c0 (HLE.out c0 HBc0.out) HAO.out
      rw [c_over] at hc
      clear HMOST HAO RO
      go_wp2_with fail
      refine (hc).mono ?_
      rintro e c1 ⟨rfl, hb⟩
      have HBc1 := Lib.hid (HBc0.out.trans (hb.mono (HZN.out _ HBc0.out)))
      clear hb HBc0
      clear hc hz m0 m1 m2 m3 m4
      have hc : Calls Tryd.prog 8 #[.int .i64 61] c1 _ := letters_any 61 (by decide) (by decide) c1
      go_wp2_with fail
      refine (hc).mono ?_
      rintro e c2 ⟨rfl, hb⟩
      have HBc2 := Lib.hid (HBc1.out.trans (hb.mono (HZN.out _ HBc1.out)))
      clear hb HBc1
      clear hc hf1 hf2 hf3 hf4
      have HL41 := Lib.hid (fun (V : World) => show Calls Tryd.prog 8 #[.int .i64 41] V (fun e w' => e = .returned (.string (str (aa 41))) ∧ Below V.heap.size V w') from letters_any 41 (by decide) (by decide) V)
      go_wp2_with fail
      obtain ⟨n1, n2, n3, hb, hz3⟩ := three_rows c2 (.cells #[.string ⟨#[]⟩] 9) (.cells #[.string ⟨#[46]⟩] 9) (.cells #[.string ⟨#[97]⟩, .string ⟨#[46, 46]⟩] 9)
      generalize World.alloc (World.alloc (World.alloc c2 _) _) _ = c3 at n1 n2 n3 hb hz3 ⊢
      obtain ⟨B, hB⟩ : ∃ B, c2.heap.size = B := ⟨_, rfl⟩
      rw [hB] at n1 n2 n3 hz3
      rw [show Below c2.heap.size c2 c3 = Below B c2 c3 by rw [hB]] at hb
      try simp only [hB]
      have hb : Below c2.heap.size c2 c3 := by rw [hB]; exact hb
      have HBc3 := Lib.hid (HBc2.out.trans (hb.mono (HZN.out _ HBc2.out)))
      clear hb HBc2
      have N1 := Lib.hid n1
      have N2 := Lib.hid n2
      have N3 := Lib.hid n3
      clear n1 n2 n3 hB hz3
      refine (HL41.out c3).mono ?_
      rintro e c4 ⟨rfl, hb⟩
      have N1 := Lib.hid (row_on N1.out hb)
      have N2 := Lib.hid (row_on N2.out hb)
      have N3 := Lib.hid (row_on N3.out hb)
      have HBc4 := Lib.hid (HBc3.out.trans (hb.mono (HZN.out _ HBc3.out)))
      clear hb HBc3
      clear HL41
      go_upto_region 17 with (fail)
      obtain ⟨n4, n5, n6, hb, hz6⟩ := three_rows c4 (.cells #[.string (str (aa 41))] 9) (.cells #[.string ⟨#[97, 32, 98]⟩] 9) (.cells #[.int .u8 0, .string ⟨#[]⟩, .int .i64 0, .slice none 0 0, .bool false, .int .u8 3, .string ⟨#[104]⟩, .int .i64 0, .slice none 0 0, .bool true, .int .u8 1, .string ⟨#[]⟩, .int .i64 0, .slice none 0 0, .bool true, .int .u8 1, .string (str (aa 61)), .int .i64 0, .slice none 0 0, .bool true, .int .u8 1, .string ⟨#[104]⟩, .int .i64 0, .slice none 0 0, .bool false, .int .u8 1, .string ⟨#[104]⟩, .int .i64 873, .slice none 0 0, .bool true, .int .u8 2, .string ⟨#[104]⟩, .int .i64 443, .slice none 0 0, .bool true, .int .u8 1, .string ⟨#[104]⟩, .int .i64 65536, .slice none 0 0, .bool true, .int .u8 1, .string ⟨#[104]⟩, .int .i64 (-1), .slice none 0 0, .bool true, .int .u8 1, .string ⟨#[45, 104]⟩, .int .i64 0, .slice none 0 0, .bool true, .int .u8 1, .string ⟨#[104, 45]⟩, .int .i64 0, .slice none 0 0, .bool true, .int .u8 1, .string ⟨#[46, 104]⟩, .int .i64 0, .slice none 0 0, .bool true, .int .u8 1, .string ⟨#[104, 46]⟩, .int .i64 0, .slice none 0 0, .bool true, .int .u8 1, .string ⟨#[97, 46, 45, 98]⟩, .int .i64 0, .slice none 0 0, .bool true, .int .u8 1, .string ⟨#[104, 95]⟩, .int .i64 0, .slice none 0 0, .bool true, .int .u8 1, .string ⟨#[104]⟩, .int .i64 0, .slice (some ⟨B, 0, none⟩) 1 1, .bool false, .int .u8 1, .string ⟨#[104]⟩, .int .i64 0, .slice (some ⟨B + 1, 0, none⟩) 1 1, .bool false, .int .u8 1, .string ⟨#[104]⟩, .int .i64 0, .slice (some ⟨B + 2, 0, none⟩) 2 2, .bool false, .int .u8 1, .string ⟨#[104]⟩, .int .i64 0, .slice (some ⟨c4.heap.size, 0, none⟩) 1 1, .bool false, .int .u8 1, .string ⟨#[104]⟩, .int .i64 0, .slice (some ⟨c4.heap.size + 1, 0, none⟩) 1 1, .bool false] 24)
      generalize World.alloc (World.alloc (World.alloc c4 _) _) _ = c5 at n4 n5 n6 hb hz6 ⊢
      have N1 := Lib.hid (row_on N1.out hb)
      have N2 := Lib.hid (row_on N2.out hb)
      have N3 := Lib.hid (row_on N3.out hb)
      have HBc5 := Lib.hid (HBc4.out.trans (hb.mono (HZN.out _ HBc4.out)))
      clear hb HBc4
      obtain ⟨D, hD⟩ : ∃ D, c4.heap.size = D := ⟨_, rfl⟩
      rw [hD] at n4 n5 n6
      try simp only [hD]
      have HAT := Lib.hid (bad_at N1.out N2.out N3.out n4 n5)
      have N6 := Lib.hid (show c5.heap[D + 2]? = some (.cells (rowL (badT B (B + 1) (B + 2) D (D + 1))).toArray 24 (0, 0)) from n6)
      clear n4 n5 n6 hD hz6 N1 N2 N3
      have HCK : RowKit.Hid (∀ (k : Nat) (t : LT), (badT B (B + 1) (B + 2) D (D + 1))[k]? = some t → chk t.l = 8 ∧ LocAt t.l t.A t.c c5) := Lib.hid (fun k t h => ⟨bad_chk _ (by rw [← bad_map B (B + 1) (B + 2) D (D + 1)]; exact List.mem_map_of_mem (List.mem_of_getElem? h)), HAT.out t (List.mem_of_getElem? h)⟩)
      have HLN := Lib.hid (bad_len B (B + 1) (B + 2) D (D + 1))
      clear HAT
      generalize badT B (B + 1) (B + 2) D (D + 1) = BT at N6 HCK HLN
      generalize D + 2 = G2 at N6 ⊢
      go_wp2_with fail
      go_loopw [18] (fun i wr => ∃ k : Nat, k ≤ 20 ∧ i = .int .i64 k ∧ RowKit.Hid (Below c5.heap.size c5 wr)) (fun i _ => 20 - (intOf i).toNat)
      case atStart => exact ⟨0, Nat.zero_le _, by go_num, Lib.hid (Below.refl _ _)⟩
      case round =>
        obtain ⟨k, hk, rfl, HK⟩ := hrel
        obtain ⟨V, hV⟩ : ∃ V, V = wr := ⟨_, rfl⟩
        subst hV
        by_cases hlt : k < 20
        · have hki : (k : Int) < 20 := by omega
          obtain ⟨t, ht⟩ : ∃ t, BT[k]? = some t := ⟨_, List.getElem?_eq_getElem (by rw [HLN.out]; exact hlt)⟩
          obtain ⟨q0, q1, q2, q3, q4⟩ := rowL_at BT k t ht
          obtain ⟨hck, hat⟩ := HCK.out k t ht
          have hrw := row_on N6.out HK.out
          have hc0 := cell_row (j := k * 5) hrw
          have hc1 := cell_row (j := k * 5 + 1) hrw
          have hc2 := cell_row (j := k * 5 + 2) hrw
          have hc3 := cell_row (j := k * 5 + 3) hrw
          have hc4 := cell_row (j := k * 5 + 4) hrw
          rw [List.getElem?_toArray, q0] at hc0
          rw [List.getElem?_toArray, q1] at hc1
          rw [List.getElem?_toArray, q2] at hc2
          rw [List.getElem?_toArray, q3] at hc3
          rw [List.getElem?_toArray, q4] at hc4
          have hg := row_lt hrw
          have hc := check_any t.l t.A t.c V (HLE.out V (HBc5.out.trans (HK.out.mono (HZN.out _ HBc5.out)))) (hat.on HK.out)
          rw [hck] at hc
          obtain ⟨⟨S, H, pt_, Lp, dd⟩, A, c⟩ := t
          unfold locV at hc
          simp only at hc hc0 hc1 hc2 hc3 hc4
          have HC := Lib.hid hc
          have HLT := Lib.hid hlt
          clear ht q0 q1 q2 q3 q4 hck hat hrw hc
          go_wp2_with fail
          refine HC.out.mono ?_
          rintro e V2 ⟨rfl, hb⟩
          have HK2 := Lib.hid (HK.out.trans (hb.mono HK.out.size))
          clear hb hc0 hc1 hc2 hc3 hc4 hg
          go_wp2_with fail
          exact ⟨⟨k + 1, HLT.out, by go_num, HK2⟩, by have := HLT.out; simp [intOf]; omega⟩
        · have hkk : k = 20 := by omega
          subst hkk
          have hki : ¬ ((20 : Nat) : Int) < 20 := by omega
          have HBV2 : RowKit.Hid (Below N w V) := Lib.hid (HBc5.out.trans (HK.out.mono (HZN.out _ HBc5.out)))
          have HBV := HBV2
          clear HBV2 HK HBc5 N6 HCK HLN hk hlt
          have hc := refused_any [] (by decide) (bad_s _ (by decide)) V (HLE.out V HBV.out)
          go_wp2_with fail
          refine (hc).mono ?_
          rintro e t0 ⟨rfl, hb⟩
          have HBt0 := Lib.hid (HBV.out.trans (hb.mono (HZN.out _ HBV.out)))
          clear hb HBV
          clear hc
          have hc := refused_any [114, 115, 121, 110, 99, 58, 47, 47] (by decide) (bad_s _ (by decide)) t0 (HLE.out t0 HBt0.out)
          go_wp2_with fail
          refine (hc).mono ?_
          rintro e t1 ⟨rfl, hb⟩
          have HBt1 := Lib.hid (HBt0.out.trans (hb.mono (HZN.out _ HBt0.out)))
          clear hb HBt0
          clear hc
          have hc := refused_any [114, 115, 121, 110, 99, 58, 47, 47, 47] (by decide) (bad_s _ (by decide)) t1 (HLE.out t1 HBt1.out)
          go_wp2_with fail
          refine (hc).mono ?_
          rintro e t2 ⟨rfl, hb⟩
          have HBt2 := Lib.hid (HBt1.out.trans (hb.mono (HZN.out _ HBt1.out)))
          clear hb HBt1
          clear hc
          have hc := refused_any [104, 116, 116, 112, 58, 47, 47, 104, 47] (by decide) (bad_s _ (by decide)) t2 (HLE.out t2 HBt2.out)
          go_wp2_with fail
          refine (hc).mono ?_
          rintro e t3 ⟨rfl, hb⟩
          have HBt3 := Lib.hid (HBt2.out.trans (hb.mono (HZN.out _ HBt2.out)))
          clear hb HBt2
          clear hc
          have hc := refused_any [72, 84, 84, 80, 83, 58, 47, 47, 104, 47] (by decide) (bad_s _ (by decide)) t3 (HLE.out t3 HBt3.out)
          go_wp2_with fail
          refine (hc).mono ?_
          rintro e t4 ⟨rfl, hb⟩
          have HBt4 := Lib.hid (HBt3.out.trans (hb.mono (HZN.out _ HBt3.out)))
          clear hb HBt3
          clear hc
          have hc := refused_any [114, 115, 121, 110, 99, 58, 47, 47, 104, 58, 47] (by decide) (bad_s _ (by decide)) t4 (HLE.out t4 HBt4.out)
          go_wp2_with fail
          refine (hc).mono ?_
          rintro e t5 ⟨rfl, hb⟩
          have HBt5 := Lib.hid (HBt4.out.trans (hb.mono (HZN.out _ HBt4.out)))
          clear hb HBt4
          clear hc
          have hc := refused_any [114, 115, 121, 110, 99, 58, 47, 47, 104, 58, 48, 47] (by decide) (bad_s _ (by decide)) t5 (HLE.out t5 HBt5.out)
          go_wp2_with fail
          refine (hc).mono ?_
          rintro e t6 ⟨rfl, hb⟩
          have HBt6 := Lib.hid (HBt5.out.trans (hb.mono (HZN.out _ HBt5.out)))
          clear hb HBt5
          clear hc
          have hc := refused_any [114, 115, 121, 110, 99, 58, 47, 47, 104, 58, 48, 49, 47] (by decide) (bad_s _ (by decide)) t6 (HLE.out t6 HBt6.out)
          go_wp2_with fail
          refine (hc).mono ?_
          rintro e t7 ⟨rfl, hb⟩
          have HBt7 := Lib.hid (HBt6.out.trans (hb.mono (HZN.out _ HBt6.out)))
          clear hb HBt6
          clear hc
          have hc := refused_any [114, 115, 121, 110, 99, 58, 47, 47, 104, 58, 54, 53, 53, 51, 54, 47] (by decide) (bad_s _ (by decide)) t7 (HLE.out t7 HBt7.out)
          go_wp2_with fail
          refine (hc).mono ?_
          rintro e t8 ⟨rfl, hb⟩
          have HBt8 := Lib.hid (HBt7.out.trans (hb.mono (HZN.out _ HBt7.out)))
          clear hb HBt7
          clear hc
          have hc := refused_any [114, 115, 121, 110, 99, 58, 47, 47, 104, 58, 43, 53, 47] (by decide) (bad_s _ (by decide)) t8 (HLE.out t8 HBt8.out)
          go_wp2_with fail
          refine (hc).mono ?_
          rintro e t9 ⟨rfl, hb⟩
          have HBt9 := Lib.hid (HBt8.out.trans (hb.mono (HZN.out _ HBt8.out)))
          clear hb HBt8
          clear hc
          have hc := refused_any [114, 115, 121, 110, 99, 58, 47, 47, 104, 47, 97, 63, 98] (by decide) (bad_s _ (by decide)) t9 (HLE.out t9 HBt9.out)
          go_wp2_with fail
          refine (hc).mono ?_
          rintro e t10 ⟨rfl, hb⟩
          have HBt10 := Lib.hid (HBt9.out.trans (hb.mono (HZN.out _ HBt9.out)))
          clear hb HBt9
          clear hc
          have hc := refused_any [114, 115, 121, 110, 99, 58, 47, 47, 104, 47, 97, 47, 46] (by decide) (bad_s _ (by decide)) t10 (HLE.out t10 HBt10.out)
          go_wp2_with fail
          refine (hc).mono ?_
          rintro e t11 ⟨rfl, hb⟩
          have HBt11 := Lib.hid (HBt10.out.trans (hb.mono (HZN.out _ HBt10.out)))
          clear hb HBt10
          clear hc
          have hc := refused_any [114, 115, 121, 110, 99, 58, 47, 47, 104, 47, 47] (by decide) (bad_s _ (by decide)) t11 (HLE.out t11 HBt11.out)
          go_wp2_with fail
          refine (hc).mono ?_
          rintro e t12 ⟨rfl, hb⟩
          have HBt12 := Lib.hid (HBt11.out.trans (hb.mono (HZN.out _ HBt11.out)))
          clear hb HBt11
          clear hc
          have hc := Kind_any [97, 46, 99, 114, 108] (by decide) t12 (HLE.out t12 HBt12.out)
          rw [show kindL [97, 46, 99, 114, 108] = 2 by decide +kernel] at hc
          go_wp2_with fail
          refine (hc).mono ?_
          rintro e k0 ⟨rfl, hb⟩
          have HBk0 := Lib.hid (HBt12.out.trans (hb.mono (HZN.out _ HBt12.out)))
          clear hb HBt12
          clear hc
          have hc := Kind_any [97, 46, 109, 102, 116] (by decide) k0 (HLE.out k0 HBk0.out)
          rw [show kindL [97, 46, 109, 102, 116] = 3 by decide +kernel] at hc
          go_wp2_with fail
          refine (hc).mono ?_
          rintro e k1 ⟨rfl, hb⟩
          have HBk1 := Lib.hid (HBk0.out.trans (hb.mono (HZN.out _ HBk0.out)))
          clear hb HBk0
          clear hc
          have hc := Kind_any [97, 46, 98, 46, 114, 111, 97] (by decide) k1 (HLE.out k1 HBk1.out)
          rw [show kindL [97, 46, 98, 46, 114, 111, 97] = 4 by decide +kernel] at hc
          go_wp2_with fail
          refine (hc).mono ?_
          rintro e k2 ⟨rfl, hb⟩
          have HBk2 := Lib.hid (HBk1.out.trans (hb.mono (HZN.out _ HBk1.out)))
          clear hb HBk1
          clear hc
          have hc := Kind_any [45, 46, 97, 115, 97] (by decide) k2 (HLE.out k2 HBk2.out)
          rw [show kindL [45, 46, 97, 115, 97] = 5 by decide +kernel] at hc
          go_wp2_with fail
          refine (hc).mono ?_
          rintro e k3 ⟨rfl, hb⟩
          have HBk3 := Lib.hid (HBk2.out.trans (hb.mono (HZN.out _ HBk2.out)))
          clear hb HBk2
          clear hc
          have hc := Kind_any [46, 99, 101, 114] (by decide) k3 (HLE.out k3 HBk3.out)
          rw [show kindL [46, 99, 101, 114] = 0 by decide +kernel] at hc
          go_wp2_with fail
          refine (hc).mono ?_
          rintro e k4 ⟨rfl, hb⟩
          have HBk4 := Lib.hid (HBk3.out.trans (hb.mono (HZN.out _ HBk3.out)))
          clear hb HBk3
          clear hc
          have hc := Kind_any [97, 46, 67, 69, 82] (by decide) k4 (HLE.out k4 HBk4.out)
          rw [show kindL [97, 46, 67, 69, 82] = 0 by decide +kernel] at hc
          go_wp2_with fail
          refine (hc).mono ?_
          rintro e k5 ⟨rfl, hb⟩
          have HBk5 := Lib.hid (HBk4.out.trans (hb.mono (HZN.out _ HBk4.out)))
          clear hb HBk4
          clear hc
          have hc := Kind_any [97, 32, 98, 46, 99, 101, 114] (by decide) k5 (HLE.out k5 HBk5.out)
          rw [show kindL [97, 32, 98, 46, 99, 101, 114] = 0 by decide +kernel] at hc
          go_wp2_with fail
          refine (hc).mono ?_
          rintro e k6 ⟨rfl, hb⟩
          have HBk6 := Lib.hid (HBk5.out.trans (hb.mono (HZN.out _ HBk5.out)))
          clear hb HBk5
          clear hc
          have hc := Kind_any [99, 101, 114] (by decide) k6 (HLE.out k6 HBk6.out)
          rw [show kindL [99, 101, 114] = 0 by decide +kernel] at hc
          go_wp2_with fail
          refine (hc).mono ?_
          rintro e k7 ⟨rfl, hb⟩
          have HBk7 := Lib.hid (HBk6.out.trans (hb.mono (HZN.out _ HBk6.out)))
          clear hb HBk6
          clear hc
          have hc := name_any ⟨#[46, 46, 46]⟩ k7 (HLE.out k7 HBk7.out) (by decide)
          rw [show nameB (⟨#[46, 46, 46]⟩ : ByteArray).data.toList = true by decide +kernel] at hc
          go_wp2_with fail
          refine (hc).mono ?_
          rintro e n0 ⟨rfl, hb⟩
          have HBn0 := Lib.hid (HBk7.out.trans (hb.mono (HZN.out _ HBk7.out)))
          clear hb HBk7
          clear hc
          have hc := name_any ⟨#[46, 46]⟩ n0 (HLE.out n0 HBn0.out) (by decide)
          rw [show nameB (⟨#[46, 46]⟩ : ByteArray).data.toList = false by decide +kernel] at hc
          go_wp2_with fail
          refine (hc).mono ?_
          rintro e n1 ⟨rfl, hb⟩
          have HBn1 := Lib.hid (HBn0.out.trans (hb.mono (HZN.out _ HBn0.out)))
          clear hb HBn0
          clear hc
          have hc : Calls Tryd.prog 13 #[.string ⟨#[104, 116, 116, 112, 115, 58, 47, 47, 104, 58, 49, 47, 120]⟩] n1 (fun e w' => e = .returned (.tuple #[.string ⟨#[104, 116, 116, 112, 115, 58, 47, 47, 104, 58, 49, 47]⟩, .string ⟨#[120]⟩, .int .i64 0]) ∧ Below n1.heap.size n1 w') := by
            have h := Split_any [104, 116, 116, 112, 115, 58, 47, 47, 104, 58, 49, 47, 120] (by decide) n1 (HLE.out n1 HBn1.out)
            rw [s_one] at h
            exact h
          go_wp2_with fail
          refine (hc).mono ?_
          rintro e Split171 ⟨rfl, hb⟩
          have HBSplit171 := Lib.hid (HBn1.out.trans (hb.mono (HZN.out _ HBn1.out)))
          clear hb HBn1
          clear hc
          have hc : Calls Tryd.prog 13 #[.string ⟨#[104, 116, 116, 112, 115, 58, 47, 47, 104, 47, 120, 47]⟩] Split171 (fun e w' => e = .returned (.tuple #[.string ⟨#[]⟩, .string ⟨#[]⟩, .int .i64 2]) ∧ Below Split171.heap.size Split171 w') := by
            have h := Split_any [104, 116, 116, 112, 115, 58, 47, 47, 104, 47, 120, 47] (by decide) Split171 (HLE.out Split171 HBSplit171.out)
            rw [s_two] at h
            exact h
          go_wp2_with fail
          refine (hc).mono ?_
          rintro e Split181 ⟨rfl, hb⟩
          have HBSplit181 := Lib.hid (HBSplit171.out.trans (hb.mono (HZN.out _ HBSplit171.out)))
          clear hb HBSplit171
          clear hc
          have hc : Calls Tryd.prog 7 #[.string ⟨#[104, 116, 116, 112, 115, 58, 47, 47, 104, 47, 120]⟩, .string ⟨#[121]⟩] Split181 (fun e w' => e = .returned (.tuple #[.string ⟨#[]⟩, .int .i64 2]) ∧ Below Split181.heap.size Split181 w') := by
            have h := Join_any [104, 116, 116, 112, 115, 58, 47, 47, 104, 47, 120] [121] (by decide) (by decide) Split181 (HLE.out Split181 HBSplit181.out)
            rw [j_one] at h
            exact h
          go_wp2_with fail
          refine (hc).mono ?_
          rintro e Join191 ⟨rfl, hb⟩
          have HBJoin191 := Lib.hid (HBSplit181.out.trans (hb.mono (HZN.out _ HBSplit181.out)))
          clear hb HBSplit181
          clear hc
          have hc : Calls Tryd.prog 7 #[.string ⟨#[104, 116, 116, 112, 115, 58, 47, 47, 104, 47, 120, 47]⟩, .string ⟨#[46, 46]⟩] Join191 (fun e w' => e = .returned (.tuple #[.string ⟨#[]⟩, .int .i64 2]) ∧ Below Join191.heap.size Join191 w') := by
            have h := Join_any [104, 116, 116, 112, 115, 58, 47, 47, 104, 47, 120, 47] [46, 46] (by decide) (by decide) Join191 (HLE.out Join191 HBJoin191.out)
            rw [j_two] at h
            exact h
          go_wp2_with fail
          refine (hc).mono ?_
          rintro e Join201 ⟨rfl, hb⟩
          have HBJoin201 := Lib.hid (HBJoin191.out.trans (hb.mono (HZN.out _ HBJoin191.out)))
          clear hb HBJoin191
          clear hc
          have hc : Calls Tryd.prog 14 #[.string ⟨#[104, 116, 116, 112, 115, 58, 47, 47, 104, 47, 120]⟩, .string ⟨#[104, 116, 116, 112, 115, 58, 47, 47, 104, 47, 120]⟩] Join201 (fun e w' => e = .returned (.tuple #[.bool false, .int .i64 2]) ∧ Below Join201.heap.size Join201 w') := by
            have h := Within_any [104, 116, 116, 112, 115, 58, 47, 47, 104, 47, 120] [104, 116, 116, 112, 115, 58, 47, 47, 104, 47, 120] (by decide) (by decide) Join201 (HLE.out Join201 HBJoin201.out)
            rw [w_one] at h
            exact h
          go_wp2_with fail
          refine (hc).mono ?_
          rintro e Within211 ⟨rfl, hb⟩
          have HBWithin211 := Lib.hid (HBJoin201.out.trans (hb.mono (HZN.out _ HBJoin201.out)))
          clear hb HBJoin201
          clear hc
          have hc : Calls Tryd.prog 14 #[.string ⟨#[104, 116, 116, 112, 115, 58, 47, 47, 104, 47, 120, 47]⟩, .string ⟨#[104, 116, 116, 112, 115, 58, 47, 47, 104, 47, 120]⟩] Within211 (fun e w' => e = .returned (.tuple #[.bool false, .int .i64 0]) ∧ Below Within211.heap.size Within211 w') := by
            have h := Within_any [104, 116, 116, 112, 115, 58, 47, 47, 104, 47, 120, 47] [104, 116, 116, 112, 115, 58, 47, 47, 104, 47, 120] (by decide) (by decide) Within211 (HLE.out Within211 HBWithin211.out)
            rw [w_two] at h
            exact h
          go_wp2_with fail
          refine (hc).mono ?_
          rintro e Within221 ⟨rfl, hb⟩
          have HBWithin221 := Lib.hid (HBWithin211.out.trans (hb.mono (HZN.out _ HBWithin211.out)))
          clear hb HBWithin211
          clear hc
          have hc : Calls Tryd.prog 14 #[.string ⟨#[104, 116, 116, 112, 115, 58, 47, 47, 104, 47, 120, 47]⟩, .string ⟨#[104, 116, 116, 112, 115, 58, 47, 47, 104, 47, 120, 47]⟩] Within221 (fun e w' => e = .returned (.tuple #[.bool true, .int .i64 0]) ∧ Below Within221.heap.size Within221 w') := by
            have h := Within_any [104, 116, 116, 112, 115, 58, 47, 47, 104, 47, 120, 47] [104, 116, 116, 112, 115, 58, 47, 47, 104, 47, 120, 47] (by decide) (by decide) Within221 (HLE.out Within221 HBWithin221.out)
            rw [w_three] at h
            exact h
          go_wp2_with fail
          refine (hc).mono ?_
          rintro e Within231 ⟨rfl, hb⟩
          have HBWithin231 := Lib.hid (HBWithin221.out.trans (hb.mono (HZN.out _ HBWithin221.out)))
          clear hb HBWithin221
          clear hc
          have hc : Calls Tryd.prog 14 #[.string ⟨#[104, 116, 116, 112, 115, 58, 47, 47, 104, 47, 120, 47]⟩, .string ⟨#[104, 116, 116, 112, 115, 58, 47, 47, 104, 47, 120, 121, 47, 122]⟩] Within231 (fun e w' => e = .returned (.tuple #[.bool false, .int .i64 0]) ∧ Below Within231.heap.size Within231 w') := by
            have h := Within_any [104, 116, 116, 112, 115, 58, 47, 47, 104, 47, 120, 47] [104, 116, 116, 112, 115, 58, 47, 47, 104, 47, 120, 121, 47, 122] (by decide) (by decide) Within231 (HLE.out Within231 HBWithin231.out)
            rw [w_four] at h
            exact h
          go_wp2_with fail
          refine (hc).mono ?_
          rintro e Within241 ⟨rfl, hb⟩
          have HBWithin241 := Lib.hid (HBWithin231.out.trans (hb.mono (HZN.out _ HBWithin231.out)))
          clear hb HBWithin231
          clear hc
          go_wp2_with fail
          refine (alive_any Within241 (HLE.out Within241 HBWithin241.out)).mono ?_
          rintro e last ⟨rfl, hb⟩
          have HBlast := Lib.hid (HBWithin241.out.trans (hb.mono (HZN.out _ HBWithin241.out)))
          clear hb HBWithin241
          go_wp2_with fail
          go_ret
          exact ⟨by first | rfl | decide, by rw [HNN.out]; exact HBlast.out⟩
set_option maxRecDepth 100000 in
theorem names9_lifted (os : Os) (started : os.Started) (H : Type) (enc : TypeId × Value → H) :
    ReturnsInHanded {} Tryd.checked os 3 .any (fun w args => (Rows.locatorNamesSpec.pre enc Tryd.prog Tryd.f3 Rows.locatorNamesRow.domain false w args ∧ laidMet Tryd.prog laidAll w) ∧ sizedMet enc Tryd.prog Tryd.f3 (OpenSpec.ofChange Rows.locatorNamesSpec) false w args)
      (Rows.locatorNamesSpec.post enc Tryd.prog Tryd.f3 false true false false) := by
  refine returns_laid (C := Tryd.checked) (X := fun w => laidMet Tryd.prog laidAll w) (fun _ _ hh h => h.of_heap hh) Tryd.own started (by kernel_rfl) Tryd.func3
    (ChangeSpec.witness_at (enc := enc) (C := Tryd.checked) (os := os) (X := fun w _ => laidMet Tryd.prog laidAll w) false (laidWorld os) #[] 8 rfl (by kernel_rfl) (by kernel_rfl) (by kernel_rfl) (by kernel_rfl) (by kernel_rfl) (laidWorld_met os _)) ?_
  intro W base args ds gs before hval0 hW hL hsh
  have hval : ∀ (j : Nat) t v, Tryd.f3.params[j]? = some t → args[j]? = some v → Value.okWide Tryd.prog W .any base t v := hval0
  have env := env_of_laid hL hsh
  have hW' := hW
  obtain ⟨p, q, hA0, hV, rfl, hfz, hnd⟩ := hW
  have hA : DataW.TrodAll enc Tryd.prog W 0 (fun _ => true) true Tryd.f3.params.toList args.toList ds p := hA0
  rw [Tryd.params3] at hA hval
  obtain ⟨hargs, rfl, rfl⟩ := trodAll_nil hA
  obtain rfl : args = #[] := by cases args; simp_all
  obtain ⟨rfl, rfl⟩ := trodVars_none hV
  refine (locnames_true  W env ).mono fun e W' ⟨he, hg⟩ => ?_
  subst he
  exact ⟨_, rfl, law_post Tryd.laidOut (by kernel_rfl) (by kernel_rfl) hW' hg (trodAll_cons_mk (shut_bool Tryd.underlying4 _) trodAll_mk0) rfl rfl⟩
/-- the row -/
theorem names9_row : Rows.LocatorNamesSaid :=
  OpenClaim.holds_of_wide 3 Tryd.f3 rfl rfl rfl rfl rfl rfl rfl ⟨rfl, rfl, rfl, rfl, rfl⟩ rfl rfl rfl rfl rfl (by kernel_rfl) Tryd.func3 (by kernel_rfl)
    (of_decide_eq_true (by kernel_rfl)) (by unfold Func.isWrapper; rw [if_neg (of_decide_eq_false (by kernel_rfl))]; exact ⟨rfl, rfl⟩)
    (fun os started H enc _ => names9_lifted os started H enc)
/-- the statement -/
theorem names9_holds : Rows.LocatorNamesCardSaid :=
  Claim7.holds_tied_plain_at .later [] [.data, .data, .data, .data, .sentinel, .sentinel, .data, .data, .pinned] true (true, "fb45ebfbbde856ea65fcb9411cdac8c309d7a2ce8580e590b8026810d88ebf7c") true
    names9_row (fun _ h => by cases h) (by kernel_rfl) (fun _ h => by cases h) locatorNames_row_tie rfl ⟨rfl, rfl⟩ (by kernel_rfl) rfl
    (fun f fn hf hfn => by
      obtain rfl : f = 3 := Option.some.inj ((show Tryd.prog.funcNamed "gatepath/gatepathlaw09.LocatorNames" = some 3 by kernel_rfl).symm.trans hf) |>.symm
      obtain rfl : fn = Tryd.f3 := (Option.some.inj (Tryd.func3.symm.trans hfn)).symm
      exact ⟨by kernel_rfl, fun j t ht => by
        rw [Tryd.params3] at ht
        simp at ht⟩)
    (by kernel_rfl)
#print axioms names9_holds
end Go.Proofs.YthagoafcphaadaaDoor
