/- OnetimeNames: the limits, the errors, the digits of no bytes, and single chains by their steps. Condition: what the row lists of the program's tables (tied by the card). -/
import Derived.Test.YtpacfbhofgbhkaaDoorOneRG
import Derived.Test.YtpacfbhofgbhkaaDoorOneO
import Derived.Test.YtpacfbhofgbhkaaDoorLawKit
import Derived.Test.YtpacfbhofgbhkaaDoorCards
namespace Go.Proofs.YtpacfbhofgbhkaaDoor
open Go.ChangeShapes Go.WideShapes Go.ChangeAt Go.RowKit Sha Ots
open Go.WideMaps Go.WideElems
set_option linter.unusedVariables false
set_option linter.unusedSimpArgs false
def zs : List UInt8 := List.replicate 16 0
def W32 : List Nat := [14, 3, 11, 0, 12, 4, 4, 2, 9, 8, 15, 12, 1, 12, 1, 4, 9, 10, 15, 11, 15, 4, 12, 8, 9, 9, 6, 15, 11, 9, 2, 4]
theorem dig_nil : dig [] = W32 ++ [0, 13, 11] := by
  have h : sh [] = [227, 176, 196, 66, 152, 252, 28, 20, 154, 251, 244, 200, 153, 111, 185, 36] := by
    unfold sh
    rw [sha_nil]
    rfl
  unfold dig
  rw [h]
  decide +kernel
def sumW : Nat → Nat
  | 0 => 0
  | k + 1 => sumW k + W32.getD k 0
theorem sumW_le : ∀ k, sumW k ≤ 15 * k
  | 0 => Nat.le_refl _
  | k + 1 => by
    have h1 := sumW_le k
    have h2 := getD_le15 W32 (by decide) k
    rw [sumW]
    omega
theorem sumW_32 : sumW 32 = 261 := by decide +kernel
theorem sg_3 : (sgn zs []).getD 3 [] = stp zs 3 255 := by
  have h : (sgn zs []).getD 3 [] = chn zs 3 ((dig []).getD 3 0) := sgD_at zs (dig []) 3 (by decide)
  rw [h, dig_nil]
  rfl
theorem sg_12 : (sgn zs []).getD 12 [] = stp (stp zs 12 255) 12 0 := by
  have h : (sgn zs []).getD 12 [] = chn zs 12 ((dig []).getD 12 0) := sgD_at zs (dig []) 12 (by decide)
  rw [h, dig_nil]
  rfl
theorem own_emptyS {w : World} {Y : Nat} (hY : w.heap[Y]? = some (.cells #[] 25 (0, 0))) : w.ownsRow Y 25 16 (.slice (some ⟨Y, 0, none⟩) 0 0) 0 [] := ⟨rfl, .inr ⟨Y, 0, #[], rfl, Nat.le_refl _, hY, Nat.le_refl _, Nat.zero_le _, rfl, rfl⟩⟩
theorem own_sliceS {w : World} {b n : Nat} {v : Value} {xs : List Value} (h : w.ownsRow b 25 16 v n xs) : ∃ A cap, v = .slice A n cap := by
  obtain ⟨h1, ⟨rfl, rfl⟩ | ⟨g, cap, cur, rfl, h3, h4, _⟩⟩ := h
  · exact ⟨none, 0, rfl⟩
  · exact ⟨_, cap, rfl⟩
theorem shorts_cells {A : Addr} {ls : List (List UInt8)} {w : World} (hsh : Shorts (some A) ls w) : ∀ j u, (bvals ls.flatten)[j]? = some u → w.cell? (A.add j) = some u := fun j u hj => by
  unfold bvals at hj
  rw [List.getElem?_map] at hj
  obtain ⟨y, hy, rfl⟩ := Option.map_eq_some_iff.1 hj
  have hjl := (List.getElem?_eq_some_iff.1 hy).1
  rw [flat_len ls hsh.len] at hjl
  have hq := List.getElem?_eq_getElem (show j / 16 < ls.length by omega)
  obtain ⟨l, hl⟩ : ∃ l, ls[j / 16]? = some l := ⟨_, hq⟩
  obtain ⟨g, o, e, hr⟩ := hsh.row (j / 16) l hl
  obtain rfl := Option.some.inj e
  have hl16 := hsh.len l (List.mem_of_getElem? hl)
  obtain ⟨z, hz⟩ : ∃ z, l[j % 16]? = some z := ⟨_, List.getElem?_eq_getElem (by omega)⟩
  have hf := flat_at ls hsh.len (j / 16) l hl (j % 16) z hz
  rw [show 16 * (j / 16) + j % 16 = j by omega, hy] at hf
  obtain rfl := Option.some.inj hf
  have h9 := hr (j % 16) (.int .u8 (y.toNat : Int)) (by unfold bvals; rw [List.getElem?_map, hz]; rfl)
  rw [Nat.add_assoc, show 16 * (j / 16) + j % 16 = j by omega] at h9
  rw [add_eq]
  exact h9
theorem Shorts.at2 {X : Nat} {ls : List (List UInt8)} {w : World} (h : Shorts (some ⟨X, 0, none⟩) ls w) (i : Nat) (hi : i < ls.length) : w.rangeAt X (i * 16) (bvals (ls.getD i [])) := by
  obtain ⟨g, o, e, hr⟩ := h.row i _ (List.getElem?_eq_getElem hi)
  injection e with e1
  injection e1 with e2 e3
  subst e2
  subst e3
  rw [Nat.zero_add, Nat.mul_comm] at hr
  rw [List.getD_eq_getElem?_getD, List.getElem?_eq_getElem hi]
  exact hr
theorem own_on {w V : World} {b n : Nat} {v : Value} {xs : List Value} (h : w.ownsRow b 5 1 v n xs) (hb : Below w.heap.size w V) : V.ownsRow b 5 1 v n xs := by
  obtain ⟨h1, h2 | ⟨g, cap, cur, h3, h4, h5, h6⟩⟩ := h
  · exact ⟨h1, .inl h2⟩
  · exact ⟨h1, .inr ⟨g, cap, cur, h3, h4, (hb.block g (Array.getElem?_eq_some_iff.1 h5).1).trans h5, h6⟩⟩
theorem keepN {v z w : World} {S o : Nat} {A : List Value} (h : Below v.heap.size v z ∧ z.rangeAt S o A) (hb : Below z.heap.size z w) : Below v.heap.size v w ∧ w.rangeAt S o A := ⟨chain h.1 hb, rangeAt_on h.2 hb⟩
theorem own_emptyU {w : World} {b Y : Nat} (hY : w.heap[Y]? = some (.cells #[] 5 (0, 0))) (hb : b ≤ Y) : w.ownsRow b 5 1 (.slice (some ⟨Y, 0, none⟩) 0 0) 0 [] := ⟨rfl, .inr ⟨Y, 0, #[], rfl, hb, hY, Nat.le_refl _, Nat.zero_le _, rfl, rfl⟩⟩
theorem wp_append_u8 {w : World} {o : Oper} {a : Act} {K : Act → World → Prop} {Q : Exit → Act → World → Prop} (s x : Operand)
    (ho : o.op = .call { callee := .builtin .append, args := #[s, x], argTypes := #[33, 33] }) (base : Nat) (v : Value) (n : Nat) (xs : List Value) (hs : a.eval s = v) (hown : w.ownsRow base 5 1 v n xs)
    (ad : Addr) (m c : Nat) (L : List UInt8) (hx : a.eval x = .slice (some ad) m c) (hm : L.length = m) (hc : ∀ j u, (bvals L)[j]? = some u → w.cell? (ad.add j) = some u) (h63 : n + m ≤ 1000000) (hbase : base ≤ w.heap.size)
    (h : ∀ v' w', w'.ownsRow base 5 1 v' (n + m) (xs ++ bvals L) → w.grownBy w' v.ownBlock → K (a.put o.dst v') w') : o.wp Tryd.prog a w K Q := by
  obtain ⟨i0, hi, hz0, hz1, hz2⟩ := info_parts Tryd.info_byte
  exact wp_append_own _ s x 33 ho base 5 i0 (.int .u8 0) 1 1 Tryd.underlying33 hi hz0 hz1 hz2 rfl (by decide) v n xs hs hown ad m c (bvals L) hx (by rw [bvals_len, hm, Nat.mul_one]) hc (fun u hu => by
    unfold bvals at hu
    obtain ⟨x, _, rfl⟩ := List.mem_map.1 hu
    rfl) (by unfold maxLen; omega) (by omega) hbase (fun v' w' h1 h2 _ => h v' w' h1 h2)
theorem range_add {w : World} {g : Nat} {cs : List Value} (h : w.rangeAt g 0 cs) : ∀ j u, cs[j]? = some u → w.cell? ((⟨g, 0, none⟩ : Addr).add j) = some u := fun j u hj => by
  rw [add_eq]
  exact h j u hj
set_option maxRecDepth 100000 in
set_option maxHeartbeats 4000000 in
theorem names6_true (w : World) (env : DEnv w) :
    Calls Tryd.prog 3 #[] w fun e w' => e = .returned (.bool true) ∧ Below w.heap.size w w' := by
  have hal : ∀ V : World, Below w.heap.size w V → Calls Tryd.prog 15 #[] V fun e w' => e = .returned (.bool true) ∧ Below V.heap.size V w' := fun V hb => alive6_any V (env.on hb)
  have hsg := fun (V : World) (hb : Below w.heap.size w V) => sign_any zs rfl [] none 0 (by decide) (by decide) (by decide) V (fun h => absurd rfl h) (env.on hb)
  have hsg2 : ∀ V : World, Below w.heap.size w V → Calls Tryd.prog 10 #[.agg #[.int .u8 0, .int .u8 0, .int .u8 0, .int .u8 0, .int .u8 0, .int .u8 0, .int .u8 0, .int .u8 0, .int .u8 0, .int .u8 0, .int .u8 0, .int .u8 0, .int .u8 0, .int .u8 0, .int .u8 0, .int .u8 0], .slice none 0 0] V fun e w' => ∃ X, e = .returned (.slice (some ⟨X, 0, none⟩) 35 35) ∧ V.heap.size ≤ X ∧ Shorts (some ⟨X, 0, none⟩) (sgn zs []) w' ∧ Below V.heap.size V w' := hsg
  have hrb : ∀ (n : Nat), n ≠ 35 → ∀ (V : World) (B : Option Addr) (c : Nat), Calls Tryd.prog 11 #[.slice none 0 0, .slice B n c] V fun e w' => e = .returned (.tuple #[.agg (bcells (List.replicate 16 0)), .int .i64 12]) ∧ Below V.heap.size V w' := fun n hn V B c => by
    have h := recover_bad (.slice none 0 0) (List.replicate n []) B c (by rw [List.length_replicate]; exact hn) V
    rw [List.length_replicate] at h
    exact h
  have hdn : ∀ V : World, Below w.heap.size w V → Calls Tryd.prog 13 #[.slice none 0 0] V fun e w' => ∃ X, e = .returned (.slice (some ⟨X, 0, none⟩) 35 35) ∧ V.heap.size ≤ X ∧ Ints (some ⟨X, 0, none⟩) (dig []) w' ∧ Below V.heap.size V w' := fun V hb => digits_any [] none 0 (by decide) (by decide) (by decide) V (fun h => absurd rfl h) (env.on hb)
  have hsho : ∀ (L R : List UInt8), L.length ≤ 1000 → sh L = R → ∀ (V : World) (A : Option Addr) (c : Nat), Below w.heap.size w V → L.length ≤ c → c ≤ maxLen → SrcAt A L V → Calls Tryd.prog 14 #[.slice A L.length c] V fun e w' => e = .returned (.agg (bvals R).toArray) ∧ Below V.heap.size V w' := fun L R hl hR V A c hb h1 h2 h3 => by
    subst hR
    exact short_any L A c (by omega) h1 h2 V h3 (env.on hb)
  have l35 : (sgn zs []).length = 35 := by unfold sgn sgD; rw [List.length_map, List.length_range]
  have h3 := sg_3
  have h12 := sg_12
  have k3 : (stp zs 3 255).length = 16 := stp_len _ _ _
  have k12 : (stp (stp zs 12 255) 12 0).length = 16 := stp_len _ _ _
  have kst : (stp zs 12 255).length = 16 := stp_len _ _ _
  have hc3 := hsho (zs ++ [UInt8.ofNat 3, UInt8.ofNat 255]) (stp zs 3 255) (by decide) rfl
  have hcs := hsho (zs ++ [UInt8.ofNat 12, UInt8.ofNat 255]) (stp zs 12 255) (by decide) rfl
  have hc12 := hsho (stp zs 12 255 ++ [UInt8.ofNat 12, UInt8.ofNat 0]) (stp (stp zs 12 255) 12 0) (by rw [List.length_append, kst]; show 16 + 2 ≤ 1000; decide) rfl
  obtain ⟨T12, hT12⟩ : ∃ T, stp (stp zs 12 255) 12 0 = T := ⟨_, rfl⟩
  rw [hT12] at h12 k12 hc12
  obtain ⟨T3, hT3⟩ : ∃ T, stp zs 3 255 = T := ⟨_, rfl⟩
  rw [hT3] at h3 k3 hc3
  obtain ⟨TS, hTS⟩ : ∃ T, stp zs 12 255 = T := ⟨_, rfl⟩
  rw [hTS] at kst hcs hc12
  obtain ⟨SG, hSG⟩ : ∃ SG, sgn zs [] = SG := ⟨_, rfl⟩
  simp only [hSG] at hsg2
  rw [hSG] at l35 h3 h12
  have hdg := dig_nil
  obtain ⟨DG, hDG⟩ : ∃ DG, dig [] = DG := ⟨_, rfl⟩
  simp only [hDG] at hdn
  rw [hDG] at hdg
  have hq3 : ∀ w, (binOp .eql 25 (.agg (bvals T3).toArray) (.agg (bvals T3).toArray)).run Tryd.prog w = .ok (.bool true) w := fun w => by
    have h := eql_short T3 T3 k3 k3 w
    rw [show (T3 == T3) = true by simp] at h
    exact h
  have hq12 : ∀ w, (binOp .eql 25 (.agg (bvals T12).toArray) (.agg (bvals T12).toArray)).run Tryd.prog w = .ok (.bool true) w := fun w => by
    have h := eql_short T12 T12 k12 k12 w
    rw [show (T12 == T12) = true by simp] at h
    exact h
  obtain ⟨R, hR⟩ : ∃ R, List.replicate 16 (0 : UInt8) = R := ⟨_, rfl⟩
  have hR16 : R.length = 16 := by rw [← hR]; rfl
  simp only [hR] at hrb
  have h18 : (TS ++ [UInt8.ofNat 12, UInt8.ofNat 0]).length = 18 := by rw [List.length_append, kst]; rfl
  rw [h18] at hc12
  have hc3' : ∀ (V : World) (Y : Nat), Below w.heap.size w V → V.heap[Y]? = some (.cells (bcells (zs ++ [UInt8.ofNat 3, UInt8.ofNat 255])) 5 (0, 0)) → Calls Tryd.prog 14 #[.slice (some ⟨Y, 0, none⟩) 18 18] V fun e w' => e = .returned (.agg (bvals T3).toArray) ∧ Below V.heap.size V w' := fun V Y hb hr => hc3 V (some ⟨Y, 0, none⟩) 18 hb (by decide) (by decide) (srcAt_row hr)
  have hcs' : ∀ (V : World) (Y : Nat), Below w.heap.size w V → V.heap[Y]? = some (.cells (bcells (zs ++ [UInt8.ofNat 12, UInt8.ofNat 255])) 5 (0, 0)) → Calls Tryd.prog 14 #[.slice (some ⟨Y, 0, none⟩) 18 18] V fun e w' => e = .returned (.agg (bcells TS)) ∧ Below V.heap.size V w' := fun V Y hb hr => hcs V (some ⟨Y, 0, none⟩) 18 hb (by decide) (by decide) (srcAt_row hr)
  have hsoT : (16 : Nat) = (bcells TS).size := by rw [bcells_size, kst]
  have HSOT := Lib.hid hsoT
  have HSZT := Lib.hid (sz16 TS kst)
  have H18 := Lib.hid h18
  have AL := Lib.hid hal
  have SI := Lib.hid hsg2
  have RB := Lib.hid hrb
  have DN := Lib.hid hdn
  have C3 := Lib.hid hc3'
  have CS := Lib.hid hcs'
  have C12 := Lib.hid hc12
  have HV := Lib.hid (And.intro l35 (And.intro h3 h12))
  have HK := Lib.hid (And.intro k3 (And.intro k12 kst))
  have HDG := Lib.hid hdg
  have Q3 := Lib.hid hq3
  have Q12 := Lib.hid hq12
  have HSZ := Lib.hid (sz16 R hR16)
  have hso : (16 : Nat) = (bcells R).size := by rw [bcells_size, hR16]
  have HSO := Lib.hid hso
  have HRR := Lib.hid hR
  clear h18 hc3' hcs' hsoT hal hsg hsg2 hrb hdn hsho l35 h3 h12 k3 k12 kst hc3 hcs hc12 hT12 hT3 hTS hSG hdg hDG hq3 hq12 hR hR16 hso env
  go_enter Tryd.func3, Tryd.ntmps3
  go_wp2_with fail
  refine (SI.out _ (Below.refl _ _)).mono ?_
  rintro e w1 ⟨X, rfl, hX, hsh, hb1⟩
  have HB1 := Lib.hid hb1
  have HS1 := Lib.hid hsh
  clear hX hsh hb1
  go_wp2_with fail
  refine (RB.out 0 (by decide) _ _ _).mono ?_
  rintro e w2 ⟨rfl, hb2⟩
  have HB2 := Lib.hid (chain HB1.out hb2)
  have HS2 := Lib.hid (HS1.out.on hb2)
  clear hb2 HB1 HS1
  go_upto_region 5 with (refine wpList_store_row rfl 25 (.tmp 2) (.tmp 23) rfl w2.heap.size (bcells R) rfl rfl 25 _ (heap_alloc_new _ _) HSZ.out HSO.out (bcells_one _) ?_)
  rw [World.setRow_alloc_new]
  generalize hV : World.alloc w2 _ = V3
  have hbb : Below w2.heap.size w2 V3 := by rw [← hV]; exact below_new _ _
  have HB3 := Lib.hid (chain HB2.out hbb)
  have HS3 := Lib.hid (HS2.out.on hbb)
  try simp only [Act.put]
  clear hV hbb HB2 HS2
  go_wp2_with fail
  refine (RB.out 34 (by decide) _ _ _).mono ?_
  rintro e w4 ⟨rfl, hb4⟩
  have HB4 := Lib.hid (chain HB3.out hb4)
  have HS4 := Lib.hid (HS3.out.on hb4)
  clear hb4 HB3 HS3
  go_upto_region 6 with (refine wpList_store_row rfl 25 (.tmp 4) (.tmp 29) rfl w4.heap.size (bcells R) rfl rfl 25 _ (heap_alloc_new _ _) HSZ.out HSO.out (bcells_one _) ?_)
  rw [World.setRow_alloc_new]
  generalize hV : World.alloc w4 _ = V5
  have hbb : Below w4.heap.size w4 V5 := by rw [← hV]; exact below_new _ _
  have HB5 := Lib.hid (chain HB4.out hbb)
  have HS5 := Lib.hid (HS4.out.on hbb)
  try simp only [Act.put]
  clear hV hbb HB4 HS4
  go_wp2_with (at_builtin; first | (refine append_shorts rfl (.tmp 32) (.tmp 33) rfl V5.heap.size (.slice (some ⟨V5.heap.size, 0, none⟩) 0 0) 0 [] rfl (own_emptyS (heap_alloc_new _ _)) ⟨X, 0, none⟩ 35 35 SG.flatten rfl (by rw [flat_len SG HS5.out.len, HV.out.1]) (shorts_cells (HS5.out.on (below_new _ _))) (by decide) (by simp) ?_; intro v1 w6 hown1 hgrow1; have HO1 := Lib.hid hown1; have HBX6 : RowKit.Hid (Below V5.heap.size V5 w6) := Lib.hid ((below_new V5 _).grown hgrow1 (by simp) (fun j hj => (own_geS (own_emptyS (heap_alloc_new _ _)) hj).1)); clear hown1 hgrow1) | (refine append_shorts rfl (.tmp 34) (.tmp 36) rfl V5.heap.size _ _ _ rfl (HO1.out.alloc _) ⟨w6.heap.size, 0, none⟩ 1 1 zs rfl rfl (row_bvals (L := zs) (heap_alloc_new _ _)) (by decide) (by have := HBX6.out.size; simp; omega) ?_; intro v2 w7 hown2 hgrow2; have HBX7 : RowKit.Hid (Below V5.heap.size V5 w7) := Lib.hid ((HBX6.out.alloc HBX6.out.size _).grown hgrow2 (by have := HBX6.out.size; simp; omega) (fun j hj => (own_geS HO1.out hj).1)); obtain ⟨A2, cap2, rfl⟩ := own_sliceS (n := 36) hown2; clear hown2 hgrow2))
  refine (RB.out 36 (by decide) _ _ _).mono ?_
  rintro e w8 ⟨rfl, hb8⟩
  have HB8 := Lib.hid (chain (chain HB5.out HBX7.out) hb8)
  have HS8 := Lib.hid ((HS5.out.on HBX7.out).on hb8)
  clear hb8 HB5 HS5 HBX6 HBX7 HO1
  go_upto_region 7 with (refine wpList_store_row rfl 25 (.tmp 6) (.tmp 39) rfl w8.heap.size (bcells R) rfl rfl 25 _ (heap_alloc_new _ _) HSZ.out HSO.out (bcells_one _) ?_)
  rw [World.setRow_alloc_new]
  generalize hV : World.alloc w8 _ = V9
  have hbb : Below w8.heap.size w8 V9 := by rw [← hV]; exact below_new _ _
  have HB9 := Lib.hid (chain HB8.out hbb)
  have HS9 := Lib.hid (HS8.out.on hbb)
  try simp only [Act.put]
  clear hV hbb HB8 HS8
  go_upto_region 8 with (fail)
  obtain ⟨Y, hY⟩ : ∃ Y, V9.heap.size = Y := ⟨_, rfl⟩
  generalize hV : World.alloc V9 _ = V10
  have hbb : Below V9.heap.size V9 V10 := by rw [← hV]; exact below_new _ _
  have hiw : V10.heap[Y]? = some (.cells (ivals W32).toArray 3 (0, 0)) := by rw [← hV, ← hY]; exact heap_alloc_new _ _
  have how : V10.ownsRow Y 3 1 (.slice (some ⟨Y, 0, none⟩) 32 32) 32 (ivals W32) := ⟨rfl, .inr ⟨Y, 32, _, rfl, Nat.le_refl _, hiw, Nat.le_refl _, by decide, rfl, rfl⟩⟩
  have HOW := Lib.hid how
  have HIW := Lib.hid (ints_own how)
  have HB10 := Lib.hid (chain HB9.out hbb)
  have HS10 := Lib.hid (HS9.out.on hbb)
  have HXY : RowKit.Hid (∀ V : World, Below Y V9 V → Below V9.heap.size V9 V) := Lib.hid fun V h => by rw [hY]; exact h
  have HBY : RowKit.Hid (Below Y V9 V10) := Lib.hid (by rw [← hY]; exact hbb)
  have HYL : RowKit.Hid (Y < V10.heap.size) := Lib.hid (Array.getElem?_eq_some_iff.1 hiw).1
  try simp only [hY]
  try simp only [Act.put]
  clear hV hbb hiw how hY
  go_wp2_with fail
  go_loopw [9, 10] (fun sm i wr => ∃ k : Nat, k ≤ 32 ∧ i = .int .i64 (k : Int) ∧ sm = .int .i64 ((sumW k : Nat) : Int) ∧ wr = V10) (fun _ i _ => 32 - (intOf i).toNat)
  case atStart => exact ⟨0, by omega, rfl, rfl, rfl⟩
  case round =>
    obtain ⟨k, hk, rfl, rfl, rfl⟩ := hrel
    by_cases hlt : k < 32
    · have hki : (k : Int) < 32 := by omega
      have cx := HIW.out.at k (by show k < 32; exact hlt)
      have hd15 := getD_le15 W32 (by decide) k
      have hsl := sumW_le k
      have hsu : sumW (k + 1) = sumW k + W32.getD k 0 := rfl
      obtain ⟨d, hd⟩ : ∃ d, W32.getD k 0 = d := ⟨_, rfl⟩
      rw [hd] at cx hd15 hsu
      obtain ⟨s, hs⟩ : ∃ s, sumW k = s := ⟨_, rfl⟩
      rw [hs] at hsl hsu ⊢
      have HSU := Lib.hid hsu
      clear hd hs hsu
      go_wp2_with fail
      refine ⟨⟨k + 1, by omega, by go_num, by rw [HSU.out]; go_num, ?_⟩, by simp [intOf]; omega⟩
      first | trivial | rfl | simp
    · have hkk : k = 32 := by omega
      subst hkk
      have hge : ¬ ((32 : Nat) : Int) < 32 := by omega
      rw [sumW_32]
      have hnl : (ivals W32 ++ [Value.int .i64 0, .int .i64 13, .int .i64 11]) = ivals DG := by rw [HDG.out]; rfl
      have HNL := Lib.hid hnl
      clear hnl
      go_wp2_with (at_builtin; refine append_ints rfl (.tmp 56) (.tmp 64) rfl Y (.slice (some ⟨Y, 0, none⟩) 32 32) 32 (ivals W32) rfl (HOW.out.alloc _) ⟨wr.heap.size, 0, none⟩ 3 3 [.int .i64 0, .int .i64 13, .int .i64 11] rfl rfl (new_cells _ _ _) (by intro u hu; simp at hu; rcases hu with rfl | rfl | rfl <;> rfl) (by decide) (by have := HYL.out; simp; omega) ?_; intro v3 w11 hown3 hgrow3; have HO3 : RowKit.Hid (w11.ownsRow Y 3 1 v3 35 (ivals DG)) := Lib.hid (by rw [← HNL.out]; exact hown3); have HBY11 : RowKit.Hid (Below Y V9 w11) := Lib.hid ((HBY.out.alloc (Nat.le_of_lt HYL.out) _).grown hgrow3 (by have := HYL.out; simp; omega) (fun j hj => (own_geI HOW.out hj).1)); clear hown3 hgrow3)
      obtain ⟨Y2, cap3, rfl, hY2⟩ := own_sliceI HO3.out (by decide)
      have hb11 : Below w.heap.size w w11 := chain HB9.out (HXY.out _ HBY11.out)
      have HB11 := Lib.hid hb11
      have HS11 := Lib.hid (HS9.out.on (HXY.out _ HBY11.out))
      have HI11 := Lib.hid (ints_own HO3.out)
      clear hb11 HO3 HBY11 HOW HIW HB10 HS10 HB9 HS9 HXY HBY HYL hY2
      refine (DN.out _ HB11.out).mono ?_
      rintro e w12 ⟨X5, rfl, hX5, hi5, hb12⟩
      have HB12 := Lib.hid (chain HB11.out hb12)
      have HS12 := Lib.hid (HS11.out.on hb12)
      have HI12 := Lib.hid (HI11.out.on hb12)
      have HI5 := Lib.hid hi5
      clear hX5 hi5 hb12 HB11 HS11 HI11
      have hsi : Calls Tryd.prog 12 #[.slice (some ⟨X5, 0, none⟩) 35 35, .slice (some ⟨Y2, 0, none⟩) 35 cap3] w12 fun e w' => e = .returned (.bool true) ∧ ∃ m, w' = w12.drewN m := by
        have h := sameints_eq DG (some ⟨X5, 0, none⟩) (some ⟨Y2, 0, none⟩) 35 cap3 (by rw [HDG.out]; decide) w12 HI5.out HI12.out
        rw [show DG.length = 35 by rw [HDG.out]; rfl] at h
        exact h
      have HSI := Lib.hid hsi
      clear hsi
      go_wp2_with fail
      refine HSI.out.mono ?_
      rintro e w13 ⟨rfl, m13, rfl⟩
      have HB13 := Lib.hid (below_drewN HB12.out m13)
      obtain ⟨V13, hV13⟩ : ∃ V13, w12.drewN m13 = V13 := ⟨_, rfl⟩
      have HS13 : RowKit.Hid (Shorts (some ⟨X, 0, none⟩) SG V13) := Lib.hid (by rw [← hV13]; exact HS12.out.on (below_drewN (Below.refl _ _) m13))
      rw [hV13] at HB13 ⊢
      clear hV13 HB12 HS12 HI12 HI5 HSI
      go_upto_region 16 with (fail)
      try simp only [Act.put]
      have hx13 : V13.rangeAt X 48 (bvals T3) := by
        have h := HS13.out.at2 3 (by rw [HV.out.1]; decide)
        rw [HV.out.2.1] at h
        exact h
      have HX13 := Lib.hid hx13
      have hi3 : (Tryd.prog.info? 25).map (·.size) = some (bvals T3).length := by rw [bvals_len, HK.out.1]; kernel_rfl
      have hq3 := Q3.out
      have hu := Tryd.underlying25
      clear hx13
      refine wp_region_held_drew (S := fun z => Below V13.heap.size V13 z ∧ z.rangeAt X 48 (bvals T3)) (by kernel_rfl) ⟨(Below.refl _ _).drew, HX13.out⟩ (fun hHeld => ?_)
      refine wpAnyH_take (i := 0) (oi := { dst := some 69, op := Go.Op.move (Go.Operand.tmp 1), type := 22, pos := "law.go:63", after := #[], guard := none }) (v := ?_) rfl (by kernel_rfl) (by kernel_rfl) (by kernel_rfl) (fun _ _ _ h => h) (Or.inl ⟨by rfl, ?_⟩) hHeld ?_
      rotate_left
      · intro w hSw
        clear hSw
        go_simp
        try with_reducible rfl
      try simp only [Act.put, List.setIfInBounds_toArray, List.set_cons_zero, List.set_cons_succ]
      refine wpAnyH_take (i := 1) (oi := { dst := some 70, op := Go.Op.indexAddr 22 (Go.Operand.tmp 69) (Go.Operand.const (Go.Value.int Go.IntKind.i64 3)), type := 0, pos := "law.go:63", after := #[{ on := 0, ground := Go.Ground.data }], guard := none }) (v := ?_) rfl (by kernel_rfl) (by kernel_rfl) (by kernel_rfl) (fun _ _ _ h => h) (Or.inl ⟨by rfl, ?_⟩) hHeld ?_
      rotate_left
      · intro w hSw
        clear hSw
        go_simp
        try with_reducible rfl
      try simp only [Act.put, List.setIfInBounds_toArray, List.set_cons_zero, List.set_cons_succ]
      refine wpAnyH_take (i := 2) (oi := { dst := some 71, op := Go.Op.load 25 (Go.Operand.tmp 70), type := 25, pos := "law.go:63", after := #[{ on := 1, ground := Go.Ground.data }], guard := none }) (v := .agg (bvals T3).toArray) rfl (by kernel_rfl) (by kernel_rfl) (by kernel_rfl) (fun _ _ _ h => h) (yieldsIf_load_mid (by rfl) _ _ rfl _ _ rfl (bvals T3) _ (fun w hSw => hSw.2) hu rfl hi3) hHeld ?_
      try simp only [Act.put, List.setIfInBounds_toArray, List.set_cons_zero, List.set_cons_succ]
      refine wpAnyH_ready (rs := [3]) (by kernel_rfl) (by simp) (AllReadyH.cons (o := { dst := some 72, op := Go.Op.buildSlice 33 18 #[(0, Go.Operand.const (Go.Value.int Go.IntKind.u8 0)), (1, Go.Operand.const (Go.Value.int Go.IntKind.u8 0)), (2, Go.Operand.const (Go.Value.int Go.IntKind.u8 0)), (3, Go.Operand.const (Go.Value.int Go.IntKind.u8 0)), (4, Go.Operand.const (Go.Value.int Go.IntKind.u8 0)), (5, Go.Operand.const (Go.Value.int Go.IntKind.u8 0)), (6, Go.Operand.const (Go.Value.int Go.IntKind.u8 0)), (7, Go.Operand.const (Go.Value.int Go.IntKind.u8 0)), (8, Go.Operand.const (Go.Value.int Go.IntKind.u8 0)), (9, Go.Operand.const (Go.Value.int Go.IntKind.u8 0)), (10, Go.Operand.const (Go.Value.int Go.IntKind.u8 0)), (11, Go.Operand.const (Go.Value.int Go.IntKind.u8 0)), (12, Go.Operand.const (Go.Value.int Go.IntKind.u8 0)), (13, Go.Operand.const (Go.Value.int Go.IntKind.u8 0)), (14, Go.Operand.const (Go.Value.int Go.IntKind.u8 0)), (15, Go.Operand.const (Go.Value.int Go.IntKind.u8 0)), (16, Go.Operand.const (Go.Value.int Go.IntKind.u8 3)), (17, Go.Operand.const (Go.Value.int Go.IntKind.u8 255))], type := 33, pos := "law.go:63", after := #[], guard := none }) rfl (fun K hK => ?_) AllReadyH.nil)
      go_simp
      refine hK.out _ _ (keepN hHeld (below_new _ _)) (fun hHeld2 => ?_)
      clear hK K
      have hHeldP := hHeld
      clear hHeld
      have hHeld := hHeld2
      clear hHeld2 hHeldP
      try simp only [Act.put, List.setIfInBounds_toArray, List.set_cons_zero, List.set_cons_succ]
      refine wpAnyH_ready (rs := [4]) (by kernel_rfl) (by simp) (AllReadyH.cons (o := { dst := some 73, op := Go.Op.call { callee := Go.Callee.value (Go.Operand.func 14), args := #[Go.Operand.tmp 72], argTypes := #[33] }, type := 25, pos := "law.go:63", after := #[{ on := 3, ground := Go.Ground.data }], guard := none }) rfl (fun K hK => ?_) AllReadyH.nil)
      go_simp
      refine (C3.out _ _ (chain HB13.out hHeld.1) (heap_alloc_new _ _)).mono ?_
      rintro e w14 ⟨rfl, hb14⟩
      go_simp
      refine hK.out _ _ (keepN hHeld hb14) (fun hHeld2 => ?_)
      clear hK K
      have hHeldP := hHeld
      clear hHeld
      have hHeld := hHeld2
      clear hHeld2 hHeldP
      try simp only [Act.put, List.setIfInBounds_toArray, List.set_cons_zero, List.set_cons_succ]
      refine wpAnyH_take (i := 5) (oi := { dst := some 74, op := Go.Op.binOp Go.BinOp.eql 25 (Go.Operand.tmp 71) (Go.Operand.tmp 73) 25, type := 4, pos := "law.go:63", after := #[{ on := 2, ground := Go.Ground.data }, { on := 4, ground := Go.Ground.data }], guard := none }) (v := ?_) rfl (by kernel_rfl) (by kernel_rfl) (by kernel_rfl) (fun _ _ _ h => h) (Or.inl ⟨by rfl, ?_⟩) hHeld ?_
      rotate_left
      · intro w hSw
        clear hSw
        go_simp
        try with_reducible rfl
      try simp only [Act.put, List.setIfInBounds_toArray, List.set_cons_zero, List.set_cons_succ]
      refine wpAnyH_take (i := 6) (oi := { dst := some 13, op := Go.Op.assign (Go.Operand.tmp 74), type := 4, pos := "law.go:63", after := #[{ on := 5, ground := Go.Ground.data }, { on := 4, ground := Go.Ground.chain }, { on := 0, ground := Go.Ground.phase }, { on := 1, ground := Go.Ground.phase }, { on := 2, ground := Go.Ground.phase }, { on := 3, ground := Go.Ground.phase }, { on := 4, ground := Go.Ground.phase }, { on := 5, ground := Go.Ground.phase }], guard := none }) (v := ?_) rfl (by kernel_rfl) (by kernel_rfl) (by kernel_rfl) (fun _ _ _ h => h) (Or.inl ⟨by rfl, ?_⟩) hHeld ?_
      rotate_left
      · intro w hSw
        clear hSw
        go_simp
        try with_reducible rfl
      try simp only [Act.put, List.setIfInBounds_toArray, List.set_cons_zero, List.set_cons_succ]
      refine wpAnyH_done (by kernel_rfl) ?_ _
      have HB14 := Lib.hid (chain HB13.out hHeld.1)
      have HS14 := Lib.hid (HS13.out.on hHeld.1)
      clear hHeld hb14 hi3 hq3 HX13 HB13 HS13
      go_wp2_with fail
      refine (CS.out _ _ (chain HB14.out (below_new _ _)) (heap_alloc_new _ _)).mono ?_
      rintro e w15 ⟨rfl, hb15⟩
      have HB15 := Lib.hid (chain (chain HB14.out (below_new _ _)) hb15)
      have HS15 := Lib.hid ((HS14.out.on (below_new _ _)).on hb15)
      clear hb15 HB14 HS14
      go_upto_region 18 with (refine wpList_store_row rfl 25 (.tmp 14) (.tmp 76) rfl w15.heap.size (bcells TS) rfl rfl 25 _ (heap_alloc_new _ _) HSZT.out HSOT.out (bcells_one _) ?_)
      rw [World.setRow_alloc_new]
      generalize hV : World.alloc w15 _ = V17
      have hbb : Below w15.heap.size w15 V17 := by rw [← hV]; exact below_new _ _
      have hg17 : V17.heap[w15.heap.size]? = some (.cells (bcells TS) 25 (0, 0)) := by rw [← hV]; exact heap_alloc_new _ _
      have HG17 := Lib.hid (rangeAt_row hg17)
      have HB17 := Lib.hid (chain HB15.out hbb)
      have HS17 := Lib.hid (HS15.out.on hbb)
      try simp only [Act.put]
      have hx17 : V17.rangeAt X 192 (bvals T12) := by
        have h := HS17.out.at2 12 (by rw [HV.out.1]; decide)
        rw [HV.out.2.2] at h
        exact h
      have HX17 := Lib.hid hx17
      have hi12 : (Tryd.prog.info? 25).map (·.size) = some (bvals T12).length := by rw [bvals_len, HK.out.2.1]; kernel_rfl
      have hq12 := Q12.out
      have s1 := slice_short w15.heap.size
      have mk18 : ∀ z, Below V17.heap.size V17 z → Below V17.heap.size V17 z ∧ z.rangeAt X 192 (bvals T12) ∧ z.rangeAt w15.heap.size 0 (bvals TS) := fun z hz => ⟨hz, rangeAt_on HX17.out hz, rangeAt_on HG17.out hz⟩
      clear hx17 hV hbb hg17 HB15 HS15
      refine wp_region_held_drew (S := fun z => Below V17.heap.size V17 z ∧ z.rangeAt X 192 (bvals T12) ∧ z.rangeAt w15.heap.size 0 (bvals TS)) (by kernel_rfl) (mk18 _ (Below.refl _ _).drew) (fun hHeld => ?_)
      obtain ⟨U, hU⟩ : ∃ U, V17.drew = U := ⟨_, rfl⟩
      rw [hU] at hHeld ⊢
      have hu0 : V17.heap.size ≤ U.heap.size := hHeld.1.size
      clear hU
      refine wpAnyH_take (i := 0) (oi := { dst := some 77, op := Go.Op.move (Go.Operand.tmp 1), type := 22, pos := "law.go:66", after := #[], guard := none }) (v := ?_) rfl (by kernel_rfl) (by kernel_rfl) (by kernel_rfl) (fun _ _ _ h => h) (Or.inl ⟨by rfl, ?_⟩) hHeld ?_
      rotate_left
      · intro w hSw
        clear hSw
        go_simp
        try with_reducible rfl
      try simp only [Act.put, List.setIfInBounds_toArray, List.set_cons_zero, List.set_cons_succ]
      refine wpAnyH_take (i := 1) (oi := { dst := some 78, op := Go.Op.indexAddr 22 (Go.Operand.tmp 77) (Go.Operand.const (Go.Value.int Go.IntKind.i64 12)), type := 0, pos := "law.go:66", after := #[{ on := 0, ground := Go.Ground.data }], guard := none }) (v := ?_) rfl (by kernel_rfl) (by kernel_rfl) (by kernel_rfl) (fun _ _ _ h => h) (Or.inl ⟨by rfl, ?_⟩) hHeld ?_
      rotate_left
      · intro w hSw
        clear hSw
        go_simp
        try with_reducible rfl
      try simp only [Act.put, List.setIfInBounds_toArray, List.set_cons_zero, List.set_cons_succ]
      refine wpAnyH_take (i := 2) (oi := { dst := some 79, op := Go.Op.load 25 (Go.Operand.tmp 78), type := 25, pos := "law.go:66", after := #[{ on := 1, ground := Go.Ground.data }], guard := none }) (v := .agg (bvals T12).toArray) rfl (by kernel_rfl) (by kernel_rfl) (by kernel_rfl) (fun _ _ _ h => h) (yieldsIf_load_mid (by rfl) _ _ rfl _ _ rfl (bvals T12) _ (fun w hSw => hSw.2.1) hu rfl hi12) hHeld ?_
      try simp only [Act.put, List.setIfInBounds_toArray, List.set_cons_zero, List.set_cons_succ]
      refine wpAnyH_take (i := 4) (oi := { dst := some 81, op := Go.Op.slice 25 (Go.Operand.tmp 14) none none none, type := 33, pos := "law.go:66", after := #[], guard := none }) (v := ?_) rfl (by kernel_rfl) (by kernel_rfl) (by kernel_rfl) (fun _ _ _ h => h) (Or.inl ⟨by rfl, ?_⟩) hHeld ?_
      rotate_left
      · intro w hSw
        clear hSw
        go_simp
        try with_reducible rfl
      try simp only [Act.put, List.setIfInBounds_toArray, List.set_cons_zero, List.set_cons_succ]
      refine wpAnyH_ready (rs := [3, 6]) (by kernel_rfl) (by simp) (AllReadyH.cons (o := { dst := some 80, op := Go.Op.buildSlice 33 0 #[], type := 33, pos := "law.go:66", after := #[], guard := none }) rfl (fun K hK => ?_) (AllReadyH.cons (o := { dst := some 83, op := Go.Op.buildSlice 33 2 #[(0, Go.Operand.const (Go.Value.int Go.IntKind.u8 12)), (1, Go.Operand.const (Go.Value.int Go.IntKind.u8 0))], type := 33, pos := "law.go:66", after := #[], guard := none }) rfl (fun K hK => ?_) AllReadyH.nil))
      · go_simp
        generalize hzE : World.alloc _ _ = zE
        have hrE : zE.heap[U.heap.size]? = some (.cells (bcells []) 5 (0, 0)) := by rw [← hzE]; exact heap_alloc_new _ _
        have hnE : Below U.heap.size U zE := by rw [← hzE]; exact below_new _ _
        have hbE : Below V17.heap.size V17 zE := by rw [← hzE]; exact hHeld.1.alloc hHeld.1.size _
        clear hzE
        refine hK.out _ _ (mk18 _ hbE) (fun hHeld2 => ?_)
        clear hK K
        have hHeldP := hHeld
        clear hHeld
        have hHeld := hHeld2
        clear hHeld2 hHeldP
        try simp only [Act.put, List.setIfInBounds_toArray, List.set_cons_zero, List.set_cons_succ]
        refine wpAnyH_ready (rs := [5, 6]) (by kernel_rfl) (by simp) (AllReadyH.cons (o := { dst := some 82, op := Go.Op.call { callee := Go.Callee.builtin Go.Builtin.append, args := #[Go.Operand.tmp 80, Go.Operand.tmp 81], argTypes := #[33, 33] }, type := 33, pos := "law.go:66", after := #[{ on := 3, ground := Go.Ground.data }, { on := 4, ground := Go.Ground.data }], guard := none }) rfl (fun K hK => ?_) (AllReadyH.cons (o := { dst := some 83, op := Go.Op.buildSlice 33 2 #[(0, Go.Operand.const (Go.Value.int Go.IntKind.u8 12)), (1, Go.Operand.const (Go.Value.int Go.IntKind.u8 0))], type := 33, pos := "law.go:66", after := #[], guard := none }) rfl (fun K hK => ?_) AllReadyH.nil))
        · rw [if_pos (by rfl)]
          refine wp_append_u8 (.tmp 80) (.tmp 81) rfl V17.heap.size (.slice (some ⟨U.heap.size, 0, none⟩) 0 0) 0 [] rfl (own_emptyU (hrE) hu0) ⟨w15.heap.size, 0, none⟩ 16 16 TS rfl HK.out.2.2 (range_add (rangeAt_on HG17.out hbE)) (by omega) (hbE).size ?_
          intro v1 w5 ho1 hg1
          have hb5 : Below V17.heap.size V17 w5 := (hbE).grown hg1 (hbE).size (fun j hj => (by have hj2 : U.heap.size = j := (by simpa [Value.ownBlock] using hj); have := hu0; omega))
          refine hK.out _ _ (mk18 _ hb5) (fun hHeld2 => ?_)
          clear hK K
          have hHeldP := hHeld
          clear hHeld
          have hHeld := hHeld2
          clear hHeld2 hHeldP
          try simp only [Act.put, List.setIfInBounds_toArray, List.set_cons_zero, List.set_cons_succ]
          refine wpAnyH_ready (rs := [6]) (by kernel_rfl) (by simp) (AllReadyH.cons (o := { dst := some 83, op := Go.Op.buildSlice 33 2 #[(0, Go.Operand.const (Go.Value.int Go.IntKind.u8 12)), (1, Go.Operand.const (Go.Value.int Go.IntKind.u8 0))], type := 33, pos := "law.go:66", after := #[], guard := none }) rfl (fun K hK => ?_) AllReadyH.nil)
          go_simp
          generalize hzN : World.alloc _ _ = zN
          have hrN : zN.heap[w5.heap.size]? = some (.cells (bcells [UInt8.ofNat 12, UInt8.ofNat 0]) 5 (0, 0)) := by rw [← hzN]; exact heap_alloc_new _ _
          have hnN : Below w5.heap.size w5 zN := by rw [← hzN]; exact below_new _ _
          have hbN : Below V17.heap.size V17 zN := by rw [← hzN]; exact hHeld.1.alloc hHeld.1.size _
          clear hzN
          refine hK.out _ _ (mk18 _ hbN) (fun hHeld2 => ?_)
          clear hK K
          have hHeldP := hHeld
          clear hHeld
          have hHeld := hHeld2
          clear hHeld2 hHeldP
          try simp only [Act.put, List.setIfInBounds_toArray, List.set_cons_zero, List.set_cons_succ]
          refine wpAnyH_ready (rs := [7]) (by kernel_rfl) (by simp) (AllReadyH.cons (o := { dst := some 84, op := Go.Op.call { callee := Go.Callee.builtin Go.Builtin.append, args := #[Go.Operand.tmp 82, Go.Operand.tmp 83], argTypes := #[33, 33] }, type := 33, pos := "law.go:66", after := #[{ on := 5, ground := Go.Ground.data }, { on := 6, ground := Go.Ground.data }, { on := 5, ground := Go.Ground.chain }], guard := none }) rfl (fun K hK => ?_) AllReadyH.nil)
          rw [if_pos (by rfl)]
          refine wp_append_u8 (.tmp 82) (.tmp 83) rfl V17.heap.size v1 16 (bvals TS) rfl (own_on ho1 hnN) ⟨w5.heap.size, 0, none⟩ 2 2 [UInt8.ofNat 12, UInt8.ofNat 0] rfl rfl (row_bvals (hrN)) (by omega) (hbN).size ?_
          intro v2 w7 ho2 hg2
          have hb7 : Below V17.heap.size V17 w7 := (hbN).grown hg2 (hbN).size (fun j hj => (own_ge (own_on ho1 hnN) hj).1)
          refine hK.out _ _ (mk18 _ hb7) (fun hHeld2 => ?_)
          clear hK K
          have hHeldP := hHeld
          clear hHeld
          have hHeld := hHeld2
          clear hHeld2 hHeldP
          try simp only [Act.put, List.setIfInBounds_toArray, List.set_cons_zero, List.set_cons_succ]
          have ho3 : w7.ownsRow V17.heap.size 5 1 v2 (TS ++ [UInt8.ofNat 12, UInt8.ofNat 0]).length (bvals (TS ++ [UInt8.ofNat 12, UInt8.ofNat 0])) := by
            rw [H18.out, bvals_app]
            exact ho2
          obtain ⟨A3, c3, hv3, hk1, hk2, hk3, hk4⟩ := own_rd2 ho3
          rw [H18.out] at hv3 hk1
          subst hv3
          have HK1 := Lib.hid (And.intro hk1 (And.intro hk2 hk4))
          clear hk1 hk2 hk3 hk4 ho3 ho2 hg2 ho1 hg1
          refine wpAnyH_ready (rs := [8]) (by kernel_rfl) (by simp) (AllReadyH.cons (o := { dst := some 85, op := Go.Op.call { callee := Go.Callee.value (Go.Operand.func 14), args := #[Go.Operand.tmp 84], argTypes := #[33] }, type := 25, pos := "law.go:66", after := #[{ on := 7, ground := Go.Ground.data }, { on := 7, ground := Go.Ground.chain }], guard := none }) rfl (fun K hK => ?_) AllReadyH.nil)
          go_simp
          refine (C12.out _ A3 c3 (chain HB17.out hb7) HK1.out.1 HK1.out.2.1 HK1.out.2.2).mono ?_
          rintro e w8 ⟨rfl, hb8⟩
          go_simp
          refine hK.out _ _ (mk18 _ (chain hb7 hb8)) (fun hHeld2 => ?_)
          clear hK K
          have hHeldP := hHeld
          clear hHeld
          have hHeld := hHeld2
          clear hHeld2 hHeldP
          try simp only [Act.put, List.setIfInBounds_toArray, List.set_cons_zero, List.set_cons_succ]
          refine wpAnyH_take (i := 9) (oi := { dst := some 86, op := Go.Op.binOp Go.BinOp.eql 25 (Go.Operand.tmp 79) (Go.Operand.tmp 85) 25, type := 4, pos := "law.go:66", after := #[{ on := 2, ground := Go.Ground.data }, { on := 8, ground := Go.Ground.data }], guard := none }) (v := ?_) rfl (by kernel_rfl) (by kernel_rfl) (by kernel_rfl) (fun _ _ _ h => h) (Or.inl ⟨by rfl, ?_⟩) hHeld ?_
          rotate_left
          · intro w hSw
            clear hSw
            go_simp
            try with_reducible rfl
          try simp only [Act.put, List.setIfInBounds_toArray, List.set_cons_zero, List.set_cons_succ]
          refine wpAnyH_take (i := 10) (oi := { dst := some 15, op := Go.Op.assign (Go.Operand.tmp 86), type := 4, pos := "law.go:66", after := #[{ on := 9, ground := Go.Ground.data }, { on := 8, ground := Go.Ground.chain }, { on := 0, ground := Go.Ground.phase }, { on := 1, ground := Go.Ground.phase }, { on := 2, ground := Go.Ground.phase }, { on := 3, ground := Go.Ground.phase }, { on := 4, ground := Go.Ground.phase }, { on := 5, ground := Go.Ground.phase }, { on := 6, ground := Go.Ground.phase }, { on := 7, ground := Go.Ground.phase }, { on := 8, ground := Go.Ground.phase }, { on := 9, ground := Go.Ground.phase }], guard := none }) (v := ?_) rfl (by kernel_rfl) (by kernel_rfl) (by kernel_rfl) (fun _ _ _ h => h) (Or.inl ⟨by rfl, ?_⟩) hHeld ?_
          rotate_left
          · intro w hSw
            clear hSw
            go_simp
            try with_reducible rfl
          try simp only [Act.put, List.setIfInBounds_toArray, List.set_cons_zero, List.set_cons_succ]
          refine wpAnyH_done (by kernel_rfl) ?_ _
          have HB18 := Lib.hid (chain HB17.out (chain hb7 hb8))
          clear hHeld hb7 hb8 hb5
          go_wp2_with fail
          refine (AL.out _ HB18.out).mono ?_
          rintro e w20 ⟨rfl, hb20⟩
          go_wp2_with fail
          go_ret
          exact ⟨rfl, chain HB18.out hb20⟩
        · go_simp
          generalize hzN : World.alloc _ _ = zN
          have hrN : zN.heap[zE.heap.size]? = some (.cells (bcells [UInt8.ofNat 12, UInt8.ofNat 0]) 5 (0, 0)) := by rw [← hzN]; exact heap_alloc_new _ _
          have hnN : Below zE.heap.size zE zN := by rw [← hzN]; exact below_new _ _
          have hbN : Below V17.heap.size V17 zN := by rw [← hzN]; exact hHeld.1.alloc hHeld.1.size _
          clear hzN
          refine hK.out _ _ (mk18 _ hbN) (fun hHeld2 => ?_)
          clear hK K
          have hHeldP := hHeld
          clear hHeld
          have hHeld := hHeld2
          clear hHeld2 hHeldP
          try simp only [Act.put, List.setIfInBounds_toArray, List.set_cons_zero, List.set_cons_succ]
          refine wpAnyH_ready (rs := [5]) (by kernel_rfl) (by simp) (AllReadyH.cons (o := { dst := some 82, op := Go.Op.call { callee := Go.Callee.builtin Go.Builtin.append, args := #[Go.Operand.tmp 80, Go.Operand.tmp 81], argTypes := #[33, 33] }, type := 33, pos := "law.go:66", after := #[{ on := 3, ground := Go.Ground.data }, { on := 4, ground := Go.Ground.data }], guard := none }) rfl (fun K hK => ?_) AllReadyH.nil)
          rw [if_pos (by rfl)]
          refine wp_append_u8 (.tmp 80) (.tmp 81) rfl V17.heap.size (.slice (some ⟨U.heap.size, 0, none⟩) 0 0) 0 [] rfl (own_emptyU ((hnN.block _ (Array.getElem?_eq_some_iff.1 hrE).1).trans hrE) hu0) ⟨w15.heap.size, 0, none⟩ 16 16 TS rfl HK.out.2.2 (range_add (rangeAt_on HG17.out hbN)) (by omega) (hbN).size ?_
          intro v1 w5 ho1 hg1
          have hb5 : Below V17.heap.size V17 w5 := (hbN).grown hg1 (hbN).size (fun j hj => (by have hj2 : U.heap.size = j := (by simpa [Value.ownBlock] using hj); have := hu0; omega))
          refine hK.out _ _ (mk18 _ hb5) (fun hHeld2 => ?_)
          clear hK K
          have hHeldP := hHeld
          clear hHeld
          have hHeld := hHeld2
          clear hHeld2 hHeldP
          try simp only [Act.put, List.setIfInBounds_toArray, List.set_cons_zero, List.set_cons_succ]
          have hrN5 := (hg1.block zE.heap.size (Array.getElem?_eq_some_iff.1 hrN).1 (fun e => by have h1 := (Array.getElem?_eq_some_iff.1 hrE).1; simp [Value.ownBlock] at e; omega)).trans hrN
          refine wpAnyH_ready (rs := [7]) (by kernel_rfl) (by simp) (AllReadyH.cons (o := { dst := some 84, op := Go.Op.call { callee := Go.Callee.builtin Go.Builtin.append, args := #[Go.Operand.tmp 82, Go.Operand.tmp 83], argTypes := #[33, 33] }, type := 33, pos := "law.go:66", after := #[{ on := 5, ground := Go.Ground.data }, { on := 6, ground := Go.Ground.data }, { on := 5, ground := Go.Ground.chain }], guard := none }) rfl (fun K hK => ?_) AllReadyH.nil)
          rw [if_pos (by rfl)]
          refine wp_append_u8 (.tmp 82) (.tmp 83) rfl V17.heap.size v1 16 (bvals TS) rfl (ho1) ⟨zE.heap.size, 0, none⟩ 2 2 [UInt8.ofNat 12, UInt8.ofNat 0] rfl rfl (row_bvals (hrN5)) (by omega) (hb5).size ?_
          intro v2 w7 ho2 hg2
          have hb7 : Below V17.heap.size V17 w7 := (hb5).grown hg2 (hb5).size (fun j hj => (own_ge (ho1) hj).1)
          refine hK.out _ _ (mk18 _ hb7) (fun hHeld2 => ?_)
          clear hK K
          have hHeldP := hHeld
          clear hHeld
          have hHeld := hHeld2
          clear hHeld2 hHeldP
          try simp only [Act.put, List.setIfInBounds_toArray, List.set_cons_zero, List.set_cons_succ]
          have ho3 : w7.ownsRow V17.heap.size 5 1 v2 (TS ++ [UInt8.ofNat 12, UInt8.ofNat 0]).length (bvals (TS ++ [UInt8.ofNat 12, UInt8.ofNat 0])) := by
            rw [H18.out, bvals_app]
            exact ho2
          obtain ⟨A3, c3, hv3, hk1, hk2, hk3, hk4⟩ := own_rd2 ho3
          rw [H18.out] at hv3 hk1
          subst hv3
          have HK1 := Lib.hid (And.intro hk1 (And.intro hk2 hk4))
          clear hk1 hk2 hk3 hk4 ho3 ho2 hg2 ho1 hg1
          refine wpAnyH_ready (rs := [8]) (by kernel_rfl) (by simp) (AllReadyH.cons (o := { dst := some 85, op := Go.Op.call { callee := Go.Callee.value (Go.Operand.func 14), args := #[Go.Operand.tmp 84], argTypes := #[33] }, type := 25, pos := "law.go:66", after := #[{ on := 7, ground := Go.Ground.data }, { on := 7, ground := Go.Ground.chain }], guard := none }) rfl (fun K hK => ?_) AllReadyH.nil)
          go_simp
          refine (C12.out _ A3 c3 (chain HB17.out hb7) HK1.out.1 HK1.out.2.1 HK1.out.2.2).mono ?_
          rintro e w8 ⟨rfl, hb8⟩
          go_simp
          refine hK.out _ _ (mk18 _ (chain hb7 hb8)) (fun hHeld2 => ?_)
          clear hK K
          have hHeldP := hHeld
          clear hHeld
          have hHeld := hHeld2
          clear hHeld2 hHeldP
          try simp only [Act.put, List.setIfInBounds_toArray, List.set_cons_zero, List.set_cons_succ]
          refine wpAnyH_take (i := 9) (oi := { dst := some 86, op := Go.Op.binOp Go.BinOp.eql 25 (Go.Operand.tmp 79) (Go.Operand.tmp 85) 25, type := 4, pos := "law.go:66", after := #[{ on := 2, ground := Go.Ground.data }, { on := 8, ground := Go.Ground.data }], guard := none }) (v := ?_) rfl (by kernel_rfl) (by kernel_rfl) (by kernel_rfl) (fun _ _ _ h => h) (Or.inl ⟨by rfl, ?_⟩) hHeld ?_
          rotate_left
          · intro w hSw
            clear hSw
            go_simp
            try with_reducible rfl
          try simp only [Act.put, List.setIfInBounds_toArray, List.set_cons_zero, List.set_cons_succ]
          refine wpAnyH_take (i := 10) (oi := { dst := some 15, op := Go.Op.assign (Go.Operand.tmp 86), type := 4, pos := "law.go:66", after := #[{ on := 9, ground := Go.Ground.data }, { on := 8, ground := Go.Ground.chain }, { on := 0, ground := Go.Ground.phase }, { on := 1, ground := Go.Ground.phase }, { on := 2, ground := Go.Ground.phase }, { on := 3, ground := Go.Ground.phase }, { on := 4, ground := Go.Ground.phase }, { on := 5, ground := Go.Ground.phase }, { on := 6, ground := Go.Ground.phase }, { on := 7, ground := Go.Ground.phase }, { on := 8, ground := Go.Ground.phase }, { on := 9, ground := Go.Ground.phase }], guard := none }) (v := ?_) rfl (by kernel_rfl) (by kernel_rfl) (by kernel_rfl) (fun _ _ _ h => h) (Or.inl ⟨by rfl, ?_⟩) hHeld ?_
          rotate_left
          · intro w hSw
            clear hSw
            go_simp
            try with_reducible rfl
          try simp only [Act.put, List.setIfInBounds_toArray, List.set_cons_zero, List.set_cons_succ]
          refine wpAnyH_done (by kernel_rfl) ?_ _
          have HB18 := Lib.hid (chain HB17.out (chain hb7 hb8))
          clear hHeld hb7 hb8 hb5
          go_wp2_with fail
          refine (AL.out _ HB18.out).mono ?_
          rintro e w20 ⟨rfl, hb20⟩
          go_wp2_with fail
          go_ret
          exact ⟨rfl, chain HB18.out hb20⟩
      · go_simp
        generalize hzN : World.alloc _ _ = zN
        have hrN : zN.heap[U.heap.size]? = some (.cells (bcells [UInt8.ofNat 12, UInt8.ofNat 0]) 5 (0, 0)) := by rw [← hzN]; exact heap_alloc_new _ _
        have hnN : Below U.heap.size U zN := by rw [← hzN]; exact below_new _ _
        have hbN : Below V17.heap.size V17 zN := by rw [← hzN]; exact hHeld.1.alloc hHeld.1.size _
        clear hzN
        refine hK.out _ _ (mk18 _ hbN) (fun hHeld2 => ?_)
        clear hK K
        have hHeldP := hHeld
        clear hHeld
        have hHeld := hHeld2
        clear hHeld2 hHeldP
        try simp only [Act.put, List.setIfInBounds_toArray, List.set_cons_zero, List.set_cons_succ]
        refine wpAnyH_ready (rs := [3]) (by kernel_rfl) (by simp) (AllReadyH.cons (o := { dst := some 80, op := Go.Op.buildSlice 33 0 #[], type := 33, pos := "law.go:66", after := #[], guard := none }) rfl (fun K hK => ?_) AllReadyH.nil)
        go_simp
        generalize hzE : World.alloc _ _ = zE
        have hrE : zE.heap[zN.heap.size]? = some (.cells (bcells []) 5 (0, 0)) := by rw [← hzE]; exact heap_alloc_new _ _
        have hnE : Below zN.heap.size zN zE := by rw [← hzE]; exact below_new _ _
        have hbE : Below V17.heap.size V17 zE := by rw [← hzE]; exact hHeld.1.alloc hHeld.1.size _
        clear hzE
        refine hK.out _ _ (mk18 _ hbE) (fun hHeld2 => ?_)
        clear hK K
        have hHeldP := hHeld
        clear hHeld
        have hHeld := hHeld2
        clear hHeld2 hHeldP
        try simp only [Act.put, List.setIfInBounds_toArray, List.set_cons_zero, List.set_cons_succ]
        refine wpAnyH_ready (rs := [5]) (by kernel_rfl) (by simp) (AllReadyH.cons (o := { dst := some 82, op := Go.Op.call { callee := Go.Callee.builtin Go.Builtin.append, args := #[Go.Operand.tmp 80, Go.Operand.tmp 81], argTypes := #[33, 33] }, type := 33, pos := "law.go:66", after := #[{ on := 3, ground := Go.Ground.data }, { on := 4, ground := Go.Ground.data }], guard := none }) rfl (fun K hK => ?_) AllReadyH.nil)
        rw [if_pos (by rfl)]
        refine wp_append_u8 (.tmp 80) (.tmp 81) rfl V17.heap.size (.slice (some ⟨zN.heap.size, 0, none⟩) 0 0) 0 [] rfl (own_emptyU (hrE) hbN.size) ⟨w15.heap.size, 0, none⟩ 16 16 TS rfl HK.out.2.2 (range_add (rangeAt_on HG17.out hbE)) (by omega) (hbE).size ?_
        intro v1 w5 ho1 hg1
        have hb5 : Below V17.heap.size V17 w5 := (hbE).grown hg1 (hbE).size (fun j hj => (by have hj2 : zN.heap.size = j := (by simpa [Value.ownBlock] using hj); have := hbN.size; omega))
        refine hK.out _ _ (mk18 _ hb5) (fun hHeld2 => ?_)
        clear hK K
        have hHeldP := hHeld
        clear hHeld
        have hHeld := hHeld2
        clear hHeld2 hHeldP
        try simp only [Act.put, List.setIfInBounds_toArray, List.set_cons_zero, List.set_cons_succ]
        have hrN5 := (hg1.block U.heap.size (by have h1 := (Array.getElem?_eq_some_iff.1 hrN).1; have h2 := hnE.size; omega) (fun e => by have h1 := (Array.getElem?_eq_some_iff.1 hrN).1; simp [Value.ownBlock] at e; omega)).trans ((hnE.block _ (Array.getElem?_eq_some_iff.1 hrN).1).trans hrN)
        refine wpAnyH_ready (rs := [7]) (by kernel_rfl) (by simp) (AllReadyH.cons (o := { dst := some 84, op := Go.Op.call { callee := Go.Callee.builtin Go.Builtin.append, args := #[Go.Operand.tmp 82, Go.Operand.tmp 83], argTypes := #[33, 33] }, type := 33, pos := "law.go:66", after := #[{ on := 5, ground := Go.Ground.data }, { on := 6, ground := Go.Ground.data }, { on := 5, ground := Go.Ground.chain }], guard := none }) rfl (fun K hK => ?_) AllReadyH.nil)
        rw [if_pos (by rfl)]
        refine wp_append_u8 (.tmp 82) (.tmp 83) rfl V17.heap.size v1 16 (bvals TS) rfl (ho1) ⟨U.heap.size, 0, none⟩ 2 2 [UInt8.ofNat 12, UInt8.ofNat 0] rfl rfl (row_bvals (hrN5)) (by omega) (hb5).size ?_
        intro v2 w7 ho2 hg2
        have hb7 : Below V17.heap.size V17 w7 := (hb5).grown hg2 (hb5).size (fun j hj => (own_ge (ho1) hj).1)
        refine hK.out _ _ (mk18 _ hb7) (fun hHeld2 => ?_)
        clear hK K
        have hHeldP := hHeld
        clear hHeld
        have hHeld := hHeld2
        clear hHeld2 hHeldP
        try simp only [Act.put, List.setIfInBounds_toArray, List.set_cons_zero, List.set_cons_succ]
        have ho3 : w7.ownsRow V17.heap.size 5 1 v2 (TS ++ [UInt8.ofNat 12, UInt8.ofNat 0]).length (bvals (TS ++ [UInt8.ofNat 12, UInt8.ofNat 0])) := by
          rw [H18.out, bvals_app]
          exact ho2
        obtain ⟨A3, c3, hv3, hk1, hk2, hk3, hk4⟩ := own_rd2 ho3
        rw [H18.out] at hv3 hk1
        subst hv3
        have HK1 := Lib.hid (And.intro hk1 (And.intro hk2 hk4))
        clear hk1 hk2 hk3 hk4 ho3 ho2 hg2 ho1 hg1
        refine wpAnyH_ready (rs := [8]) (by kernel_rfl) (by simp) (AllReadyH.cons (o := { dst := some 85, op := Go.Op.call { callee := Go.Callee.value (Go.Operand.func 14), args := #[Go.Operand.tmp 84], argTypes := #[33] }, type := 25, pos := "law.go:66", after := #[{ on := 7, ground := Go.Ground.data }, { on := 7, ground := Go.Ground.chain }], guard := none }) rfl (fun K hK => ?_) AllReadyH.nil)
        go_simp
        refine (C12.out _ A3 c3 (chain HB17.out hb7) HK1.out.1 HK1.out.2.1 HK1.out.2.2).mono ?_
        rintro e w8 ⟨rfl, hb8⟩
        go_simp
        refine hK.out _ _ (mk18 _ (chain hb7 hb8)) (fun hHeld2 => ?_)
        clear hK K
        have hHeldP := hHeld
        clear hHeld
        have hHeld := hHeld2
        clear hHeld2 hHeldP
        try simp only [Act.put, List.setIfInBounds_toArray, List.set_cons_zero, List.set_cons_succ]
        refine wpAnyH_take (i := 9) (oi := { dst := some 86, op := Go.Op.binOp Go.BinOp.eql 25 (Go.Operand.tmp 79) (Go.Operand.tmp 85) 25, type := 4, pos := "law.go:66", after := #[{ on := 2, ground := Go.Ground.data }, { on := 8, ground := Go.Ground.data }], guard := none }) (v := ?_) rfl (by kernel_rfl) (by kernel_rfl) (by kernel_rfl) (fun _ _ _ h => h) (Or.inl ⟨by rfl, ?_⟩) hHeld ?_
        rotate_left
        · intro w hSw
          clear hSw
          go_simp
          try with_reducible rfl
        try simp only [Act.put, List.setIfInBounds_toArray, List.set_cons_zero, List.set_cons_succ]
        refine wpAnyH_take (i := 10) (oi := { dst := some 15, op := Go.Op.assign (Go.Operand.tmp 86), type := 4, pos := "law.go:66", after := #[{ on := 9, ground := Go.Ground.data }, { on := 8, ground := Go.Ground.chain }, { on := 0, ground := Go.Ground.phase }, { on := 1, ground := Go.Ground.phase }, { on := 2, ground := Go.Ground.phase }, { on := 3, ground := Go.Ground.phase }, { on := 4, ground := Go.Ground.phase }, { on := 5, ground := Go.Ground.phase }, { on := 6, ground := Go.Ground.phase }, { on := 7, ground := Go.Ground.phase }, { on := 8, ground := Go.Ground.phase }, { on := 9, ground := Go.Ground.phase }], guard := none }) (v := ?_) rfl (by kernel_rfl) (by kernel_rfl) (by kernel_rfl) (fun _ _ _ h => h) (Or.inl ⟨by rfl, ?_⟩) hHeld ?_
        rotate_left
        · intro w hSw
          clear hSw
          go_simp
          try with_reducible rfl
        try simp only [Act.put, List.setIfInBounds_toArray, List.set_cons_zero, List.set_cons_succ]
        refine wpAnyH_done (by kernel_rfl) ?_ _
        have HB18 := Lib.hid (chain HB17.out (chain hb7 hb8))
        clear hHeld hb7 hb8 hb5
        go_wp2_with fail
        refine (AL.out _ HB18.out).mono ?_
        rintro e w20 ⟨rfl, hb20⟩
        go_wp2_with fail
        go_ret
        exact ⟨rfl, chain HB18.out hb20⟩
set_option maxRecDepth 100000 in
theorem names6_lifted (os : Os) (started : os.Started) (H : Type) (enc : TypeId × Value → H) :
    ReturnsInHanded {} Tryd.checked os 3 .any (fun w args => (Rows.onetimeNamesSpec.pre enc Tryd.prog Tryd.f3 Rows.onetimeNamesRow.domain false w args ∧ laidMet Tryd.prog laidDig w) ∧ sizedMet enc Tryd.prog Tryd.f3 (OpenSpec.ofChange Rows.onetimeNamesSpec) false w args)
      (Rows.onetimeNamesSpec.post enc Tryd.prog Tryd.f3 false true false false) := by
  refine returns_laid (C := Tryd.checked) (X := fun w => laidMet Tryd.prog laidDig w) (fun _ _ hh h => h.of_heap hh) Tryd.own started (by kernel_rfl) Tryd.func3
    (ChangeSpec.witness_at (enc := enc) (C := Tryd.checked) (os := os) (X := fun w _ => laidMet Tryd.prog laidDig w) false (laidWorldD os) #[] 8 rfl (by kernel_rfl) (by kernel_rfl) (by kernel_rfl) (by kernel_rfl) (by kernel_rfl) (laidWorldD_met os _)) ?_
  intro W base args ds gs before hval0 hW hL hsh
  have hval : ∀ (j : Nat) t v, Tryd.f3.params[j]? = some t → args[j]? = some v → Value.okWide Tryd.prog W .any base t v := hval0
  have env := denv_of_laid hL
  have hW' := hW
  obtain ⟨p, q, hA0, hV, rfl, hfz, hnd⟩ := hW
  have hA : DataW.TrodAll enc Tryd.prog W 0 (fun _ => true) true Tryd.f3.params.toList args.toList ds p := hA0
  rw [Tryd.params3] at hA hval
  obtain ⟨hargs, rfl, rfl⟩ := trodAll_nil hA
  obtain rfl : args = #[] := by cases args; simp_all
  obtain ⟨rfl, rfl⟩ := trodVars_none hV
  refine (names6_true   W  env).mono fun e W' ⟨he, hg⟩ => ?_
  subst he
  exact ⟨_, rfl, law_post Tryd.laidOut (by kernel_rfl) (by kernel_rfl) hW' hg (trodAll_cons_mk (shut_bool Tryd.underlying4 _) trodAll_mk0) rfl rfl⟩
/-- the row -/
theorem names6_row : Rows.OnetimeNamesSaid :=
  OpenClaim.holds_of_wide 3 Tryd.f3 rfl rfl rfl rfl rfl rfl rfl ⟨rfl, rfl, rfl, rfl, rfl⟩ rfl rfl rfl rfl rfl (by kernel_rfl) Tryd.func3 (by kernel_rfl)
    (of_decide_eq_true (by kernel_rfl)) (by unfold Func.isWrapper; rw [if_neg (of_decide_eq_false (by kernel_rfl))]; exact ⟨rfl, rfl⟩)
    (fun os started H enc _ => names6_lifted os started H enc)
/-- the statement -/
theorem names6_holds : Rows.OnetimeNamesCardSaid :=
  Claim7.holds_tied_plain_at .later [] [.data, .data] true (true, "40e343a43b00d35708239691a34d580eaa57c938b9af9db3cff3c6339d6703bd") false
    names6_row (fun _ h => by cases h) (by kernel_rfl) (fun _ h => by cases h) onetimeNames_row_tie rfl ⟨rfl, rfl⟩ (by kernel_rfl) rfl
    (fun f fn hf hfn => by
      obtain rfl : f = 3 := Option.some.inj ((show Tryd.prog.funcNamed "gatepath/gatepathlaw06.OnetimeNames" = some 3 by kernel_rfl).symm.trans hf) |>.symm
      obtain rfl : fn = Tryd.f3 := (Option.some.inj (Tryd.func3.symm.trans hfn)).symm
      exact ⟨by kernel_rfl, fun j t ht => by
        rw [Tryd.params3] at ht
        simp at ht⟩)
    (by kernel_rfl)
#print axioms names6_holds
end Go.Proofs.YtpacfbhofgbhkaaDoor
