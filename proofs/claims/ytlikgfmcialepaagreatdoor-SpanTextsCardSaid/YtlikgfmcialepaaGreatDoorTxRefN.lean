/-
  THE WALKS over the texts of the reference of layer 1: an address with two colons, read.
-/
import Derived.Test.YtlikgfmcialepaaGreatDoorTxRefM
import Derived.Test.YtlikgfmcialepaaGreatDoorOwnTwo
import Derived.Test.YtlikgfmcialepaaGreatDoorCells
import Derived.Maps.AppendAt
import Derived.Deep.CutBlock
namespace Go.Proofs.YtlikgfmcialepaaGreatDoor
open Go.RowKit Adr
set_option linter.unusedVariables false
set_option linter.unusedSimpArgs false
section
variable {P : Program} {w w' : World} {base base' : Nat} {e : TypeId} {size n m : Nat} {v u : Value} {xs ys : List Value}
theorem own_shape (h : w.ownsRow base e size v n xs) : ∃ p cap, v = .slice p n cap ∧ n ≤ cap := by
  obtain ⟨hl, ⟨rfl, rfl⟩ | ⟨g, cap, cur, rfl, _, _, h1, _⟩⟩ := h
  · exact ⟨none, 0, rfl, Nat.le_refl _⟩
  · exact ⟨_, cap, rfl, h1⟩
theorem owns_grown {row : Option Nat} (h : w.ownsRow base e size v n xs) (hg : w.grownBy w' row) (hne : ∀ g, v.ownBlock = some g → row ≠ some g) : w'.ownsRow base e size v n xs := by
  obtain ⟨hl, h | ⟨g, cap, cur, rfl, hb, hbl, h1⟩⟩ := h
  · exact ⟨hl, .inl h⟩
  · have hlt : g < w.heap.size := (Array.getElem?_eq_some_iff.1 hbl).1
    exact ⟨hl, .inr ⟨g, cap, cur, rfl, hb, (hg.block g hlt (fun e => hne g rfl e.symm)).trans hbl, h1⟩⟩
theorem ad2_grown {N : Nat} {row : Option Nat} {a b : Int} (t : Ad2 N w a b) (hg : w.grownBy w' row) (hne : ∀ g, row = some g → N < g) : Ad2 N w' a b := by
  have h := hg.block N t.lt (fun e => by have := hne N e.symm; omega)
  exact ⟨(World.cell?_of_block (a := ⟨N, 0, none⟩) h).trans t.a0, (World.cell?_of_block (a := ⟨N, 1, none⟩) h).trans t.a1, (World.frozen?_of_block (a := ⟨N, 0, none⟩) h).trans t.f0, (World.frozen?_of_block (a := ⟨N, 1, none⟩) h).trans t.f1⟩
theorem wpList_app_two {ops : Array Oper} {rest : List Oper} {o : Oper} {a : Act} {Q : Exit → Act → World → Prop} {i : TypeInfo} {z : Value} {bytes : Nat} (hgd : o.guard = none) (s x : Operand) (t : TypeId)
    (ho : o.op = .call { callee := .builtin .append, args := #[s, x], argTypes := #[t, t] }) (ht : P.underlying t = some (.slice e)) (hi : P.info? e = some i) (hz : i.zero = some z)
    (hsize : i.size = size) (hby : i.bytes = bytes) (hzs : z.cells.size = size) (hsz : 0 < size) (hs : a.eval s = v) (hx : a.eval x = u)
    (hv : w.ownsRow base e size v n xs) (hu : w.ownsRow base' e size u m ys) (h1 : ∀ y ∈ ys, y.oneCell' = true) (h63 : n + m ≤ maxLen) (hbytes : (n + m) * bytes ≤ 140737488355328) (hbase : base ≤ w.heap.size)
    (h : ∀ v' w', w'.ownsRow base e size v' (n + m) (xs ++ ys) → w.grownBy w' v.ownBlock → wpList P ops Q rest (a.put o.dst v') w') : wpList P ops Q (o :: rest) a w := by
  refine wpList_plain hgd fun K hK => ?_
  obtain ⟨v', w', hr, h2, h3, h4⟩ := run_app_two (P := P) (ty := o.type) ht hi hz hsize hby hzs hsz hv hu h1 h63 hbytes hbase
  unfold Oper.wp execOp
  simp only [ho, resolve, invoke, builtin, Sem.run_bind, Sem.run_pure, Result.andThen_ok, List.map_toArray, List.map_cons, List.map_nil, hs, hx, hr]
  exact hK _ _ (h v' w' h2 h3)
end
theorem u64sV_one (zs : List Nat) : ∀ y ∈ u64sV zs, y.oneCell' = true := by
  intro y hy
  unfold u64sV at hy
  obtain ⟨z, _, rfl⟩ := List.mem_map.1 hy
  rfl
theorem u64sV_app (a b : List Nat) : u64sV (a ++ b) = u64sV a ++ u64sV b := by unfold u64sV; rw [List.map_append]
theorem eb58 (x : UInt8) : ((x.toNat : Int) == 58) = (x == 58) := by
  rw [Bool.eq_iff_iff, beq_iff_eq, beq_iff_eq, ← UInt8.toNat_inj]
  have : (58 : UInt8).toNat = 58 := rfl
  omega
set_option maxRecDepth 100000 in
set_option maxHeartbeats 8000000 in
theorem rap_cc (s : ByteArray) (hs : s.size ≤ 100) (m : Nat) (hidx : Lib.index s.data.toList [58, 58] = (m : Int)) (hm2 : m + 2 ≤ s.size) (ok : Bool) (w : World)
    (h4 : ∀ w, Calls Tryz.prog 33 #[.string s, .int .u8 46, .int .u64 10, .int .u64 255] w fun e w' => ∃ p n cap, e = .returned (.tuple #[.slice p n cap, .bool ok]) ∧ (ok = true → ((n : Int) == 4) = false) ∧ Below w.heap.size w w')
    (oa ob : Bool) (la lb Z : List Nat)
    (hA : ∀ w, Calls Tryz.prog 33 #[.string (s.extract 0 m), .int .u8 58, .int .u64 16, .int .u64 65535] w fun e w' => ∃ v, e = .returned (.tuple #[v, .bool oa]) ∧ w'.ownsRow w.heap.size 22 1 v la.length (u64sV la) ∧ Below w.heap.size w w')
    (hB : ∀ w, Calls Tryz.prog 33 #[.string (s.extract (m + 2) s.size), .int .u8 58, .int .u64 16, .int .u64 65535] w fun e w' => ∃ v, e = .returned (.tuple #[v, .bool ob]) ∧ w'.ownsRow w.heap.size 22 1 v lb.length (u64sV lb) ∧ Below w.heap.size w w')
    (hlen : la.length + lb.length ≤ 300) (hZ : fill8 la lb = Z) (rf rH rL re : Int)
    (hout : ((oa && ob) = false ∨ (oa && ob) = true ∧ ((Z.length : Int) == 8) = false) ∧ rf = 0 ∧ rH = 0 ∧ rL = 0 ∧ re = 12 ∨
      (oa && ob) = true ∧ ∃ a b c d e f i j H L : Nat, ∃ X : ByteArray, ∃ t : Bool, Z = [a, b, c, d, e, f, i, j] ∧ (a ≤ 65535 ∧ b ≤ 65535 ∧ c ≤ 65535 ∧ d ≤ 65535 ∧ e ≤ 65535 ∧ f ≤ 65535 ∧ i ≤ 65535 ∧ j ≤ 65535) ∧
        ((a * 65536 + b) * 65536 + c) * 65536 + d = H ∧ ((e * 65536 + f) * 65536 + i) * 65536 + j = L ∧ str (addrS 6 H L) = X ∧ (X.toList == s.toList) = t ∧ (t = true → rf = 6 ∧ rH = (H : Int) ∧ rL = (L : Int) ∧ re = 0) ∧ (t = false → rf = 0 ∧ rH = 0 ∧ rL = 0 ∧ re = 12)) :
    Calls Tryz.prog 8 #[.string s] w fun e w' => e = .returned (.tuple #[.int .u8 rf, .agg #[.int .u64 rH, .int .u64 rL], .int .i64 re]) ∧ Below w.heap.size w w' := by
  have H4 := Lib.hid h4
  have HA := Lib.hid hA
  have HBg := Lib.hid hB
  have HS : RowKit.Hid (∀ w, Calls Tryz.prog 33 #[.string s, .int .u8 58, .int .u64 16, .int .u64 65535] w fun e w' => ∃ v o, e = .returned (.tuple #[v, .bool o]) ∧ Below w.heap.size w w') := Lib.hid (fun w => (groups_any s 58 16 65535 (by omega) (by omega) (by omega) (by omega) w).mono fun e w' ⟨v, h1, h2, h3, h4⟩ => ⟨v, _, h1, h4⟩)
  have HOUT := Lib.hid hout
  have HZ := Lib.hid hZ
  have hz : (s.size : Int) ≤ 100 := by omega
  have hmi : (m : Int) + 2 ≤ (s.size : Int) := by omega
  have hm0 : (0 : Int) ≤ (m : Int) := by omega
  clear h4 hA hB hout hZ
  obtain ⟨l, hl⟩ : ∃ l, s.data.toList = l := ⟨_, rfl⟩
  have hl2 : l.length = s.size := by rw [← hl]; simp
  have HAT : RowKit.Hid (∀ k, (h : k < s.size) → ∃ h2 : k < l.length, l[k] = s[k]) := Lib.hid (by
    intro k h
    subst hl
    exact ⟨by rw [hl2]; exact h, rfl⟩)
  rw [hl] at hidx
  have HIDX := Lib.hid hidx
  have HLEN := Lib.hid hl2
  clear hl2 hl hs hidx hm2
  go_enter Tryz.func8, Tryz.ntmps8
  go_wp2_with fail
  have T0 := Lib.hid (Ad2.new w 0 0 24)
  have HB0 := Lib.hid (below_new w (.cells #[.int .u64 0, .int .u64 0] 24))
  refine (H4.out _).mono ?_
  rintro e0 w2 ⟨p, n, cap, rfl, hok, hb2⟩
  have T2 := Lib.hid (T0.out.on hb2)
  have HB2 := Lib.hid (HB0.out.trans (hb2.mono HB0.out.size))
  have HOK := Lib.hid hok
  clear hb2 T0 HB0 hok
  go_upto_region 4 with fail
  go_cut [33] from 28 to 32 (fun s33 wx => s33 = .bool false ∧ Below w2.heap.size w2 wx)
  case first =>
    have hok := HOK.out
    cases ok
    case' false => clear hok
    case' true => replace hok := hok rfl
    all_goals
      go_wp2_with fail
      go_meet
      exact ⟨rfl, Below.refl _ _⟩
  case rest =>
    obtain ⟨rfl, hbc⟩ := hcut
    have T3 := Lib.hid (T2.out.on hbc)
    have HB3 := Lib.hid (HB2.out.trans (hbc.mono HB2.out.size))
    obtain ⟨z1, rfl⟩ : ∃ z : World, z = wc := ⟨_, rfl⟩
    clear hbc T2 HB2 HOK H4
    go_upto_block 0 with fail
    go_cut [7, 8] from 53 to 75 (fun s7 s8 wx => s7 = .int .i64 (m : Int) ∧ Below z1.heap.size z1 wx)
    case first =>
      go_wp2_with fail
      go_loopw [7, 8] (fun t i wr => ∃ (k : Nat) (Q : Int), k ≤ s.size ∧ i = .int .i64 (k : Int) ∧ t = .int .i64 Q ∧ Seek l k Q ∧ -1 ≤ Q ∧ wr = z1) (fun _ i _ => s.size - (intOf i).toNat)
      case atStart => exact ⟨0, -1, Nat.zero_le _, rfl, rfl, Seek.zero l, by omega, rfl⟩
      case round =>
        obtain ⟨k, Q, hk, rfl, rfl, hsk, hQ1, rfl⟩ := hrel
        have HSK := Lib.hid hsk
        clear hsk
        by_cases hQ : Q = -1
        · subst hQ
          by_cases hlt : k + 1 < s.size
          · have hki : (k : Int) + 1 < (s.size : Int) := by omega
            obtain ⟨hk0, e0⟩ := HAT.out k (by omega)
            obtain ⟨hk1, e1⟩ := HAT.out (k + 1) hlt
            cases hc : (l[k] == 58 && l[k + 1] == 58)
            · have HN2 := Lib.hid (HSK.out.on (by rw [HLEN.out]; exact hlt) hc)
              have hb1 : ((s[k]'(by omega)) == 58 && s[k + 1] == 58) = false := by rw [← e0, ← e1]; exact hc
              rw [← eb58, ← eb58] at hb1
              clear hc e0 e1
              cases hq0 : (((s[k]'(by omega)).toNat : Int) == 58)
              · clear hb1
                go_wp2_with fail
                exact ⟨⟨k + 1, -1, by omega, by go_num, rfl, HN2.out, by omega, trivial⟩, by simp [intOf]; omega⟩
              · cases hq1 : (((s[k + 1]'hlt).toNat : Int) == 58)
                · clear hb1
                  go_wp2_with fail
                  exact ⟨⟨k + 1, -1, by omega, by go_num, rfl, HN2.out, by omega, trivial⟩, by simp [intOf]; omega⟩
                · rw [hq0, hq1] at hb1
                  cases hb1
            · have HN2 := Lib.hid (HSK.out.hit (by rw [HLEN.out]; exact hlt) hc)
              have hb1 : ((s[k]'(by omega)) == 58 && s[k + 1] == 58) = true := by rw [← e0, ← e1]; exact hc
              rw [← eb58, ← eb58, Bool.and_eq_true] at hb1
              obtain ⟨hq0, hq1⟩ := hb1
              clear hc e0 e1
              go_wp2_with fail
              exact ⟨⟨k + 1, k, by omega, by go_num, rfl, HN2.out, by omega, trivial⟩, by simp [intOf]; omega⟩
          · exfalso
            have h := HSK.out.done (Or.inl (by rw [HLEN.out]; omega))
            rw [HIDX.out] at h
            omega
        · have hQm : Q = (m : Int) := by
            have h := HSK.out.done (Or.inr (by omega))
            rw [HIDX.out] at h
            exact h
          subst hQm
          clear HSK HIDX HAT hQ hQ1
          by_cases hlt : (k : Int) + 1 < (s.size : Int)
          all_goals
            go_wp2_with fail
            go_meet
            exact ⟨rfl, Below.refl _ _⟩
    case rest =>
      obtain ⟨rfl, hbc⟩ := hcut
      have T4 := Lib.hid (T3.out.on hbc)
      have HB4 := Lib.hid (HB3.out.trans (hbc.mono HB3.out.size))
      obtain ⟨z2, rfl⟩ : ∃ z : World, z = wc := ⟨_, rfl⟩
      clear hbc T3 HB3 HIDX HAT HLEN
      go_wp2_with fail
      refine (HS.out _).mono ?_
      rintro e3 w3 ⟨v3, o3, rfl, hb3⟩
      have T5 := Lib.hid (T4.out.on hb3)
      have HB5 := Lib.hid (HB4.out.trans (hb3.mono HB4.out.size))
      clear hb3 T4 HB4 HS
      go_wp2_with fail
      refine (HA.out _).mono ?_
      rintro e4 w4 ⟨v4, rfl, hownA, hb4⟩
      obtain ⟨pa, capa, rfl, hca⟩ := own_shape hownA
      have HOA := Lib.hid (owns_mono hownA (show w.heap.size + 1 ≤ w3.heap.size from T5.out.lt))
      have T6 := Lib.hid (T5.out.on hb4)
      have HB6 := Lib.hid (HB5.out.trans (hb4.mono HB5.out.size))
      clear hb4 T5 HB5 HA hownA
      go_wp2_with fail
      refine (HBg.out _).mono ?_
      rintro e5 w5 ⟨v5, rfl, hownB, hb5⟩
      obtain ⟨pb, capb, rfl, hcb⟩ := own_shape hownB
      have HNE : RowKit.Hid (∀ g, (Value.slice pa la.length capa).ownBlock = some g → (Value.slice pb lb.length capb).ownBlock ≠ some g) := Lib.hid (fun g h1 h2 => by
        have := (HOA.out.lt g h1).2
        have := (hownB.lt g h2).1
        omega)
      have HOB := Lib.hid (owns_mono hownB (show w.heap.size + 1 ≤ w4.heap.size from T6.out.lt))
      have HOA5 := Lib.hid (owns_on HOA.out hb5)
      have T7 := Lib.hid (T6.out.on hb5)
      have HB7 := Lib.hid (HB6.out.trans (hb5.mono HB6.out.size))
      clear hb5 T6 HB6 HBg hownB HOA
      go_upto_region 16 with fail
      go_cut [9, 10] from 98 to 102 (fun s9 s10 wx => s9 = .slice pa la.length capa ∧ s10 = .bool (oa && ob) ∧ wx.ownsRow (w.heap.size + 1) 22 1 (.slice pa la.length capa) la.length (u64sV la) ∧ wx.ownsRow (w.heap.size + 1) 22 1 (.slice pb lb.length capb) lb.length (u64sV lb) ∧ Ad2 w.heap.size wx 0 0 ∧ Below w.heap.size w wx)
      case first =>
        cases oa
        all_goals
          go_wp2_with fail
          go_meet
          exact ⟨rfl, rfl, HOA5.out, HOB.out, T7.out, HB7.out⟩
      case rest =>
        obtain ⟨rfl, rfl, ha, hb, ht, hbc⟩ := hcut
        obtain ⟨z3, rfl⟩ : ∃ z : World, z = wc := ⟨_, rfl⟩
        have HOA6 := Lib.hid ha
        have HOB6 := Lib.hid hb
        have T8 := Lib.hid ht
        have HB8 := Lib.hid hbc
        obtain ⟨okk, hokk⟩ : ∃ b, (oa && ob) = b := ⟨_, rfl⟩
        rw [hokk] at HOUT ⊢
        clear ha hb ht hbc HOA5 HOB T7 HB7 hokk
        have hli : (la.length : Int) + (lb.length : Int) ≤ 300 := by omega
        obtain ⟨i0, hi, hz0, hz1, hz2⟩ := info_parts Tryz.info_u64
        go_wp2_with fail
        go_loopw [9, 15] (fun v i wr => ∃ z : Nat, i = .int .i64 ((la.length : Int) + (lb.length : Int) + (z : Int)) ∧ (z = 0 ∨ la.length + lb.length + z ≤ 8) ∧ wr.ownsRow (w.heap.size + 1) 22 1 v (la.length + z) (u64sV (la ++ List.replicate z 0)) ∧ wr.ownsRow (w.heap.size + 1) 22 1 (.slice pb lb.length capb) lb.length (u64sV lb) ∧ (∀ g, v.ownBlock = some g → (Value.slice pb lb.length capb).ownBlock ≠ some g) ∧ Ad2 w.heap.size wr 0 0 ∧ Below w.heap.size w wr) (fun _ i _ => 8 - (intOf i).toNat)
        case atStart => exact ⟨0, by go_num, Or.inl rfl, by simpa using HOA6.out, HOB6.out, HNE.out, T8.out, HB8.out⟩
        case round =>
          obtain ⟨z, rfl, hz8, hown, hownb, hne, hT, hbl⟩ := hrel
          have HO := Lib.hid hown
          have HOb := Lib.hid hownb
          have HNe := Lib.hid hne
          have HT := Lib.hid hT
          have HBL := Lib.hid hbl
          clear hown hownb hne hT hbl HOA6 HOB6 HNE T8 HB8
          by_cases hlt : la.length + lb.length + z < 8
          · have hki : (la.length : Int) + (lb.length : Int) + (z : Int) < 8 := by omega
            go_wp2_with (at_builtin; refine wpList_append_own_at _ rfl (.tmp 112) (.tmp 113) 69 rfl (w.heap.size + 1) 22 i0 (.int .u64 0) 1 8 Tryz.underlying69 hi hz0 hz1 hz2 rfl (by decide) _ _ _ rfl (HO.out.alloc _) ⟨wr.heap.size, 0, none⟩ 1 1 [.int .u64 0] rfl rfl ?c1 ?c2 ?c3 ?c4 ?c5 ?_; rotate_left 5; intro v' w6 hown6 hgrow6 _ hloc6; have HO6 := Lib.hid hown6; have HG6 := Lib.hid hgrow6; have HL6 := Lib.hid hloc6; clear hown6 hgrow6 hloc6)
            case c1 => exact cell_one_new _ _ _
            case c2 => simp [Value.oneCell']
            case c3 => unfold maxLen; omega
            case c4 => omega
            case c5 => have := HT.out.lt; simp; omega
            obtain ⟨g1, g2⟩ := own_step HO.out HG6.out HBL.out HT.out.lt
            refine ⟨⟨z + 1, by go_num, Or.inr (by omega), ?_, ?_, ?_, ?_, g1⟩, by simp [intOf]; omega⟩
            · rw [List.replicate_succ', ← List.append_assoc, u64sV_snoc]
              exact HO6.out
            · exact owns_grown (HOb.out.alloc _) HG6.out (fun g h1 h2 => HNe.out g h2 h1)
            · intro g h1 h2
              rcases HL6.out with h3 | h3
              · exact HNe.out g (h3.symm.trans h1) h2
              · have := (HOb.out.lt g h2).2
                have h5 := Option.some.inj (h3.symm.trans h1)
                simp at h5
                omega
            · exact ad2_grown (HT.out.on (below_new _ _)) HG6.out (fun g hg => by have := (HO.out.lt g hg).1; omega)
          · have hki : (8 : Int) ≤ (la.length : Int) + (lb.length : Int) + (z : Int) := by omega
            have hZz : la ++ List.replicate z 0 ++ lb = Z := by
              rw [← HZ.out]
              rcases hz8 with rfl | h8
              · rw [List.replicate_zero, List.append_nil]
                exact fill_none la lb (by omega)
              · exact fill_more la lb z (by omega)
            have HZz := Lib.hid hZz
            have hlz : la.length + z + lb.length = Z.length := by rw [← hZz]; simp; omega
            have HLZ := Lib.hid hlz
            have hz300 : z ≤ 8 := by omega
            clear hZz hlz hlt hz8
            go_upto_region 22 with (at_builtin; refine wpList_app_two rfl (.tmp 115) (.tmp 116) 69 rfl Tryz.underlying69 hi hz0 hz1 hz2 rfl (by decide) rfl rfl HO.out HOb.out (u64sV_one lb) ?d1 ?d2 ?d3 ?_; rotate_left 3; intro v7 w7 hown7 hgrow7; have HO7 := Lib.hid hown7; have HG7 := Lib.hid hgrow7; clear hown7 hgrow7)
            case d1 => unfold maxLen; omega
            case d2 => omega
            case d3 => have := HT.out.lt; omega
            have hrow : w7.ownsRow (w.heap.size + 1) 22 1 v7 Z.length (u64sV Z) := by
              have h := HO7.out
              rw [← u64sV_app, HZz.out, HLZ.out] at h
              exact h
            have T9 := Lib.hid (ad2_grown HT.out HG7.out (fun g hg => by have := (HO.out.lt g hg).1; omega))
            have HB7 := Lib.hid (show Below w.heap.size w w7 from Below.grown HBL.out HG7.out (by have := HT.out.lt; omega) (fun g hg => by have := (HO.out.lt g hg).1; omega))
            clear HO HOb HNe HT HBL HO7 HG7 HZz HLZ
            rcases HOUT.out with ⟨hbad, rfl, rfl, rfl, rfl⟩ | ⟨rfl, a, b, c, d, e, f, i, j, H, L, X, t, hZ8, hle, hH, hL, hX, ht, hr1, hr2⟩
            · obtain ⟨p7, cap7, rfl, hc7⟩ := own_shape hrow
              obtain ⟨p0, p1, q0, q1⟩ := T9.out
              clear hrow
              rcases hbad with rfl | ⟨rfl, h8⟩
              all_goals
                go_wp2_with fail
                have B := two_set (v0 := .int .u64 0) (v1 := .int .u64 0) p0 p1
                refine bodyPost_ret (v := .tuple #[.int .u8 0, .agg #[.int .u64 0, .int .u64 0], .int .i64 12]) (by simp [results, Tryz.results8, go_sem, B.1, B.2]) rfl ⟨rfl, two_below HB7.out (Nat.le_refl _)⟩
            · subst hZ8
              have HLE := Lib.hid hle
              have HH := Lib.hid hH
              have HLO := Lib.hid hL
              have HTT := Lib.hid ht
              have HRES := Lib.hid (And.intro hr1 hr2)
              have HTX : RowKit.Hid (∀ w, Calls Tryz.prog 6 #[.int .u8 6, .agg #[.int .u64 H, .int .u64 L]] w fun e w' => e = .returned (.tuple #[.string X, .int .i64 0]) ∧ Below w.heap.size w w') := Lib.hid (fun w => by
                obtain ⟨la, lb, lc, ld, le, lf, lg, lh⟩ := hle
                have h := rtext_yes 6 H L rfl (by omega) (by omega) w
                rw [hX] at h
                exact h)
              clear hle hH hL hX ht hr1 hr2 HOUT HZ
              obtain ⟨g, cap3, rfl, hgb, -, -, hg3, hg4⟩ := own_u64V hrow (by simp)
              have c0 : w7.cell? ⟨g, 0, none⟩ = some (.int .u64 (a : Int)) := hg4 0 _ rfl
              have c1 : w7.cell? ⟨g, 1, none⟩ = some (.int .u64 (b : Int)) := hg4 1 _ rfl
              have c2 : w7.cell? ⟨g, 2, none⟩ = some (.int .u64 (c : Int)) := hg4 2 _ rfl
              have c3 : w7.cell? ⟨g, 3, none⟩ = some (.int .u64 (d : Int)) := hg4 3 _ rfl
              have c4 : w7.cell? ⟨g, 4, none⟩ = some (.int .u64 (e : Int)) := hg4 4 _ rfl
              have c5 : w7.cell? ⟨g, 5, none⟩ = some (.int .u64 (f : Int)) := hg4 5 _ rfl
              have c6 : w7.cell? ⟨g, 6, none⟩ = some (.int .u64 (i : Int)) := hg4 6 _ rfl
              have c7 : w7.cell? ⟨g, 7, none⟩ = some (.int .u64 (j : Int)) := hg4 7 _ rfl
              obtain ⟨p0, p1, q0, q1⟩ := T9.out
              clear hrow hg4
              go_wp2_with fail
              go_region_held3 (fun z => z.cell? ⟨g, 0, none⟩ = some (.int .u64 (a : Int)) ∧ z.cell? ⟨g, 1, none⟩ = some (.int .u64 (b : Int)) ∧ z.cell? ⟨g, 2, none⟩ = some (.int .u64 (c : Int)) ∧ z.cell? ⟨g, 3, none⟩ = some (.int .u64 (d : Int)) ∧ z.cell? ⟨g, 4, none⟩ = some (.int .u64 (e : Int)) ∧ z.cell? ⟨g, 5, none⟩ = some (.int .u64 (f : Int)) ∧ z.cell? ⟨g, 6, none⟩ = some (.int .u64 (i : Int)) ∧ z.cell? ⟨g, 7, none⟩ = some (.int .u64 (j : Int))) (first | exact ⟨c0, c1, c2, c3, c4, c5, c6, c7⟩ | go_keep) (fail)
              rename_i hheld
              clear hheld c0 c1 c2 c3 c4 c5 c6 c7
              have hW1 : IntKind.u64.wrap (IntKind.u64.wrap (IntKind.u64.wrap (IntKind.u64.wrap (IntKind.u64.wrap (IntKind.u64.wrap ((a : Int) * 65536) + (b : Int)) * 65536) + (c : Int)) * 65536) + (d : Int)) = (H : Int) := by
                obtain ⟨la, lb, lc, ld, -, -, -, -⟩ := HLE.out
                have hT := HH.out
                rw [wrap_s ((a : Int) * 65536) (by omega) (by omega), wrap_s ((a : Int) * 65536 + (b : Int)) (by omega) (by omega), wrap_s (((a : Int) * 65536 + (b : Int)) * 65536) (by omega) (by omega), wrap_s (((a : Int) * 65536 + (b : Int)) * 65536 + (c : Int)) (by omega) (by omega), wrap_s ((((a : Int) * 65536 + (b : Int)) * 65536 + (c : Int)) * 65536) (by omega) (by omega), wrap_s ((((a : Int) * 65536 + (b : Int)) * 65536 + (c : Int)) * 65536 + (d : Int)) (by omega) (by omega)]
                omega
              have hW2 : IntKind.u64.wrap (IntKind.u64.wrap (IntKind.u64.wrap (IntKind.u64.wrap (IntKind.u64.wrap (IntKind.u64.wrap ((e : Int) * 65536) + (f : Int)) * 65536) + (i : Int)) * 65536) + (j : Int)) = (L : Int) := by
                obtain ⟨-, -, -, -, la, lb, lc, ld⟩ := HLE.out
                have hT := HLO.out
                rw [wrap_s ((e : Int) * 65536) (by omega) (by omega), wrap_s ((e : Int) * 65536 + (f : Int)) (by omega) (by omega), wrap_s (((e : Int) * 65536 + (f : Int)) * 65536) (by omega) (by omega), wrap_s (((e : Int) * 65536 + (f : Int)) * 65536 + (i : Int)) (by omega) (by omega), wrap_s ((((e : Int) * 65536 + (f : Int)) * 65536 + (i : Int)) * 65536) (by omega) (by omega), wrap_s ((((e : Int) * 65536 + (f : Int)) * 65536 + (i : Int)) * 65536 + (j : Int)) (by omega) (by omega)]
                omega
              rw [hW1, hW2]
              clear hW1 hW2
              have z3 : w.heap.size < w7.heap.size := by have := World.block_lt_of_cell? _ _ p0; simpa using this
              have hb4 : Below w7.heap.size w7 (w7.alloc (Obj.cells #[Value.int IntKind.u64 (H : Int), Value.int IntKind.u64 (L : Int)] 24)).drew := ((Below.refl _ _).alloc (Nat.le_refl _) _).drew
              have n0 : (w7.alloc (Obj.cells #[Value.int IntKind.u64 (H : Int), Value.int IntKind.u64 (L : Int)] 24)).drew.cell? ⟨w7.heap.size, 0, none⟩ = some (.int .u64 (H : Int)) := by simp
              have n1 : (w7.alloc (Obj.cells #[Value.int IntKind.u64 (H : Int), Value.int IntKind.u64 (L : Int)] 24)).drew.cell? ⟨w7.heap.size, 1, none⟩ = some (.int .u64 (L : Int)) := by simp
              have HNE := Lib.hid (Nat.ne_of_lt z3)
              generalize hv4 : (w7.alloc (Obj.cells #[Value.int IntKind.u64 (H : Int), Value.int IntKind.u64 (L : Int)] 24)).drew = w4 at hb4 n0 n1 ⊢
              have r0 := (hb4.cell (p := ⟨w.heap.size, 0, none⟩) z3).trans p0
              have r1 := (hb4.cell (p := ⟨w.heap.size, 1, none⟩) z3).trans p1
              have s0 := (hb4.frozen (p := ⟨w.heap.size, 0, none⟩) z3).trans q0
              have s1 := (hb4.frozen (p := ⟨w.heap.size, 1, none⟩) z3).trans q1
              have HB4 := Lib.hid (HB7.out.trans (hb4.mono (by omega)))
              clear hv4 hb4 p0 p1 q0 q1 HB7 hgb hg3
              have z4 : w.heap.size < w4.heap.size := by have := World.block_lt_of_cell? _ _ r0; simpa using this
              have z5 : w7.heap.size < w4.heap.size := by have := World.block_lt_of_cell? _ _ n0; simpa using this
              go_wp2_with fail
              refine (HTX.out _).mono ?_
              rintro e5 w5 ⟨rfl, hb5⟩
              have p0 := (hb5.cell (p := ⟨w.heap.size, 0, none⟩) z4).trans r0
              have p1 := (hb5.cell (p := ⟨w.heap.size, 1, none⟩) z4).trans r1
              have q0 := (hb5.frozen (p := ⟨w.heap.size, 0, none⟩) z4).trans s0
              have q1 := (hb5.frozen (p := ⟨w.heap.size, 1, none⟩) z4).trans s1
              have m0 := (hb5.cell (p := ⟨w7.heap.size, 0, none⟩) z5).trans n0
              have m1 := (hb5.cell (p := ⟨w7.heap.size, 1, none⟩) z5).trans n1
              have HB5 := Lib.hid (HB4.out.trans (hb5.mono (by omega)))
              clear hb5 r0 r1 s0 s1 n0 n1 HB4 z4 z5
              have ht := HTT.out
              cases t
              · go_wp2_with fail
                have B := two_set (v0 := .int .u64 0) (v1 := .int .u64 0) p0 p1
                obtain ⟨rfl, rfl, rfl, rfl⟩ := (by first | exact HRES.out.2 rfl | exact HRES.out.2 trivial : rf = 0 ∧ rH = 0 ∧ rL = 0 ∧ re = 12)
                refine bodyPost_ret (v := .tuple #[.int .u8 0, .agg #[.int .u64 0, .int .u64 0], .int .i64 12]) (by simp [results, Tryz.results8, go_sem, B.1, B.2]) rfl ⟨rfl, two_below HB5.out (Nat.le_refl _)⟩
              · have hfar : ∀ (q r : Nat), (⟨w.heap.size, q, none⟩ : Addr) ≠ ⟨w7.heap.size, r, none⟩ := fun q r h => HNE.out (congrArg Addr.block h)
                have HF := Lib.hid hfar
                clear hfar
                go_wp2_with fail
                go_region_held3 (fun z => z.cell? ⟨w7.heap.size, 0, none⟩ = some (.int .u64 (H : Int)) ∧ z.cell? ⟨w7.heap.size, 1, none⟩ = some (.int .u64 (L : Int))) (first | exact ⟨m0, m1⟩ | exact ⟨cell_far (cell_far m0 (HF.out _ _)) (HF.out _ _), cell_far (cell_far m1 (HF.out _ _)) (HF.out _ _)⟩ | go_keep) (fail)
                rename_i hheld2
                clear hheld2
                have B := two_set (v0 := .int .u64 (H : Int)) (v1 := .int .u64 (L : Int)) p0 p1
                go_wp2_with fail
                obtain ⟨rfl, rfl, rfl, rfl⟩ := (by first | exact HRES.out.1 rfl | exact HRES.out.1 trivial : rf = 6 ∧ rH = (H : Int) ∧ rL = (L : Int) ∧ re = 0)
                refine bodyPost_ret (v := .tuple #[.int .u8 6, .agg #[.int .u64 (H : Int), .int .u64 (L : Int)], .int .i64 0]) (by simp [results, Tryz.results8, go_sem, B.1, B.2]) rfl ⟨rfl, (two_below HB5.out (Nat.le_refl _)).drew⟩
end Go.Proofs.YtlikgfmcialepaaGreatDoor
