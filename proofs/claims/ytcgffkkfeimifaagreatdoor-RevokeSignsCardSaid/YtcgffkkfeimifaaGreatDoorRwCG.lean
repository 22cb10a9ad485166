import Derived.Test.YtcgffkkfeimifaaGreatDoorRwAB
namespace Go.Proofs.YtcgffkkfeimifaaGreatDoor
open Go.RowKit Sha Ots
set_option linter.unusedVariables false
set_option linter.unusedSimpArgs false
theorem sgn35 (a m : List UInt8) : (sgn a m).length = 35 := by
 have h : sgn a m = (List.range 35).map fun i => chn a i ((dig m).getD i 0) := rfl
 rw [h, List.length_map, List.length_range]
namespace Sg
open Oc
theorem shs_from {A : Option Addr} {ls : List (List UInt8)} {w : World} (h : Shorts A ls w) : Shs A ls w := ⟨h.row, h.len⟩
theorem nums_lt {A : Option Addr} {xs : List Int} {w : World} (h : Nums A xs w) (hne : xs ≠ []) (g o : Nat) (e : A = some ⟨g, o, none⟩) : g < w.heap.size := by
 cases xs with
 | nil => exact absurd rfl hne
 | cons x r =>
  obtain ⟨g2, o2, e2, hc⟩ := h.row 0 x rfl
  rw [e] at e2
  injection e2 with e3
  injection e3 with e4 e5
  subst e4
  exact World.block_lt_of_cell? _ _ hc
theorem nums_keep9 {A : Option Addr} {xs : List Int} {w w' : World} {X : Nat} (h : Nums A xs w) (hne : ∀ g o, A = some ⟨g, o, none⟩ → xs ≠ [] → g ≠ X) (ho : ∀ b, b ≠ X → w'.heap[b]? = w.heap[b]?) : Nums A xs w' := by
 cases xs with
 | nil => exact ⟨fun i x hi => by simp at hi⟩
 | cons x r => exact nums_keep h (fun g o e => hne g o e (fun k => by cases k)) ho
def sgn0 (l : Rl) : Rl := { l with sg := ⟨0, [], []⟩ }
def sgR (l : Rl) (seed : List UInt8) (h n : Int) : Rl × Int :=
 if rvC (sgn0 l) = 0 then (if 0 ≤ h ∧ h ≤ 4 ∧ 0 ≤ n ∧ n < ((2 ^ h.toNat : Nat) : Int) then ({ l with sg := ⟨(n.toNat : Int), sgn (msd seed n.toNat) (enc (rbv (rbOf l))), pth seed 0 n.toNat h.toNat⟩ }, 0) else (rl0, 2)) else (rl0, rvC (sgn0 l))
end Sg
end Go.Proofs.YtcgffkkfeimifaaGreatDoor
namespace Go.Proofs.YtcgffkkfeimifaaGreatDoor
open Go.RowKit Sha Ots
set_option linter.unusedVariables false
set_option linter.unusedSimpArgs false
def TyS (X : Nat) (w : World) : Prop := ∃ cur, w.heap[X]? = some (.cells cur 41 (0, 0))
theorem TyS.on {X : Nat} {w V : World} (h : TyS X w) (hb : Below w.heap.size w V) : TyS X V := by
 obtain ⟨cur, hc⟩ := h
 exact ⟨cur, (hb.block X (Array.getElem?_eq_some_iff.1 hc).1).trans hc⟩
theorem TyS.set {X Y o : Nat} {w : World} (h : TyS X w) (v : Value) : TyS X (w.setCell ⟨Y, o, none⟩ v) := by
 obtain ⟨cur, hc⟩ := h
 by_cases e : X = Y
 ·
  subst e
  exact ⟨_, heap_setCell_same w X o cur _ v hc⟩
 ·
  exact ⟨cur, (Below.heap_setCell _ _ _ _ e).trans hc⟩
theorem TyS.put {X Y : Nat} (o : Nat) (vs : List Value) : ∀ {w : World}, TyS X w → TyS X (w.setCells Y o vs) := by
 induction vs generalizing o with
 | nil => intro w h; exact h
 | cons v r ih =>
  intro w h
  rw [World.setCells]
  exact ih (o + 1) (h.set v)
theorem tys_own {w : World} {b n c g : Nat} {xs : List Value} (h : w.ownsRow b 41 16 (.slice (some ⟨g, 0, none⟩) n c) n xs) : TyS g w := by
 obtain ⟨_, h | ⟨g2, cap, cur, hv, _, hg, _⟩⟩ := h
 ·
  obtain ⟨h1, _⟩ := h
  cases h1
 ·
  injection hv with e1
  injection e1 with e2
  injection e2 with e3
  subst e3
  exact ⟨cur, hg⟩
theorem tys_far3 {X g : Nat} {w : World} (h : TyS X w) (hne : X ≠ g) (a b c : Value) : TyS X (((w.setCell ⟨g, 0, none⟩ a).setCell ⟨g, 1, none⟩ b).setCell ⟨g, 2, none⟩ c) := ((h.set a).set b).set c
set_option maxRecDepth 100000 in
set_option maxHeartbeats 4000000 in
theorem climbAll_typed (k : Nat) (caps : Array Value) (G : Nat → List UInt8) (hG : ∀ i, (G i).length = 16) (w : World) (eg : ∀ args w, (callFunc k args).run Tryz.prog w = .ok (.enter k args) w)
  (Z : List (List UInt8)) (hZ : (List.range 35).map G = Z) (hcall : ∀ i, i < 35 → ∀ V, Below w.heap.size w V → Calls Tryz.prog k (#[.int .i64 (i : Int)] ++ caps) V fun e w' => e = .returned (.agg (bcells (G i))) ∧ Below V.heap.size V w') :
  Calls Tryz.prog 104 #[.func (.func k) #[] caps] w fun e w' => e = .returned (.slice (some ⟨w.heap.size, 0, none⟩) 35 35) ∧ Shorts (some ⟨w.heap.size, 0, none⟩) Z w' ∧ Below w.heap.size w w' ∧ TyS w.heap.size w' := by
 obtain ⟨i0, hi, hz0, hz1, hz2⟩ := info_parts Tryz.info_short
 have HI := Lib.hid hi
 have HC := Lib.hid hcall
 have HG := Lib.hid hG
 have HZ := Lib.hid hZ
 clear hcall hG hi hZ
 go_enter Tryz.func104, Tryz.ntmps104
 go_wp2_with (at_make; go_loud (refine wpList_make_full _ rfl (.const (.int .i64 35)) (.const (.int .i64 35)) 28 rfl w.heap.size 41 i0 (.agg (bcells (List.replicate 16 0))) 16 Tryz.underlying28 HI.out hz0 hz1 .i64 .i64 35 35 35 rfl rfl rfl rfl (by rw [hz2]; decide) (by decide) (Nat.le_refl _) ?_); intro w1 ho1 hb1; go_loud (have HY1 := Lib.hid (tys_own ho1)); go_loud (have HT1 := Lib.hid (own_there ho1)); have HB1 : RowKit.Hid (Below w.heap.size w w1) := Lib.hid ⟨hb1.os, hb1.tape, hb1.output, hb1.size, fun k hk => hb1.block k hk (by simp)⟩; clear ho1 hb1)
 have hc0 : CA w G 0 w1 := ⟨HB1.out, HT1.out, fun i h => by omega⟩
 have HC0 := Lib.hid hc0
 clear hc0 HT1 HB1
 go_loopw [4, 6] (fun _ x wr => ∃ m : Nat, m ≤ 35 ∧ x = .int .i64 (m : Int) ∧ RowKit.Hid (CA w G m wr ∧ TyS w.heap.size wr)) (fun _ x _ => 35 - (intOf x).toNat)
 case atStart => exact ⟨0, by omega, rfl, Lib.hid ⟨HC0.out, HY1.out⟩⟩
 case round =>
  clear HC0
  obtain ⟨m, hm, rfl, HCA⟩ := hrel
  by_cases hlt : m < 35
  ·
   have hmi : (m : Int) < 35 := by omega
   have hcl := HC.out m hlt
   obtain ⟨F, hF⟩ : ∃ F, G m = F := ⟨_, rfl⟩
   have hF16 : F.length = 16 := by rw [← hF]; exact HG.out _
   rw [hF] at hcl
   have HSZ := Lib.hid (sz16 F hF16)
   have HCL := Lib.hid hcl
   have HF := Lib.hid hF
   have HF16 := Lib.hid hF16
   clear hcl hF hF16
   go_wp2_with fail
   refine (HCL.out _ HCA.out.1.bl).mono ?_
   rintro e w2 ⟨rfl, hb2⟩
   have hlt2 := there_lt HCA.out.1.th (by decide)
   have hth := there_below HCA.out.1.th hb2 hlt2
   have HTY := Lib.hid (HCA.out.2.on hb2)
   have HB2 := Lib.hid (HCA.out.1.bl.trans (hb2.mono HCA.out.1.bl.size))
   have hrg : ∀ i, i < m → w2.rangeAt w.heap.size (16 * i) (bvals (G i)) := fun i hi => rangeAt_below (HCA.out.1.rg i hi) hb2 hlt2
   have HRG := Lib.hid hrg
   have htp := there_part hth (16 * m) 16 (by omega)
   rw [Nat.zero_add, Nat.mul_comm] at htp
   have hsz : (bcells F).size = 16 := by rw [bcells_size]; exact HF16.out
   have htp2 : w2.there w.heap.size (m * 16) (bcells F).size := by rw [hsz]; exact htp
   have HTP := Lib.hid htp2
   have HTH := Lib.hid hth
   clear hb2 hlt2 hth hrg htp hsz htp2
   go_wp2_with (refine wpList_store_mid rfl 41 (.tmp 14) (.tmp 13) rfl w.heap.size (m * 16) (bcells F) rfl rfl HTP.out HSZ.out (bcells_one _) ?_)
   refine ⟨⟨m + 1, by omega, by go_num, Lib.hid ⟨⟨below_setCells _ _ _ HB2.out (Nat.le_refl _), World.there_setCells HTH.out _ _ _, fun i hi => ?_⟩, TyS.put _ _ HTY.out⟩⟩, by simp [intOf]; omega⟩
   have hbl : (bcells F).toList.length = 16 := by rw [Array.length_toList, bcells_size]; exact HF16.out
   by_cases e : i = m
   ·
    subst e
    rw [HF.out, Nat.mul_comm 16 i]
    exact World.rangeAt_setCells_same _ _ _ _ HTP.out
   ·
    refine World.rangeAt_setCells_apart (HRG.out i (by omega)) _ _ _ (.inr (.inl ?_))
    rw [bvals_len, HG.out i]
    omega
  ·
   have hmm : m = 35 := by omega
   subst hmm
   have hge : ¬ ((35 : Nat) : Int) < 35 := by omega
   go_wp2_with fail
   go_ret
   refine ⟨rfl, ⟨fun i l hil => ?_, fun l hl => ?_⟩, HCA.out.1.bl, HCA.out.2⟩
   ·
    rw [← HZ.out, List.getElem?_map] at hil
    obtain ⟨j, hj, rfl⟩ := Option.map_eq_some_iff.1 hil
    obtain ⟨h1, h2⟩ := List.getElem?_eq_some_iff.1 hj
    simp at h1 h2
    subst h2
    refine ⟨w.heap.size, 0, rfl, ?_⟩
    rw [Nat.zero_add]
    exact HCA.out.1.rg i h1
   ·
    rw [← HZ.out] at hl
    obtain ⟨j, _, rfl⟩ := List.mem_map.1 hl
    exact HG.out j
set_option maxRecDepth 100000 in
set_option maxHeartbeats 4000000 in
theorem sign_typed (seed : List UInt8) (hs : seed.length = 16) (l : List UInt8) (A : Option Addr) (c : Nat) (hl : l.length ≤ 100000) (hc : l.length ≤ c) (hcm : c ≤ maxLen) (w : World) (hsrc : SrcAt A l w) (env : DEnv w) :
  Calls Tryz.prog 70 #[.agg (bcells seed), .slice A l.length c] w fun e w' => ∃ X, e = .returned (.slice (some ⟨X, 0, none⟩) 35 35) ∧ w.heap.size ≤ X ∧ Shorts (some ⟨X, 0, none⟩) (sgn seed l) w' ∧ TyS X w' ∧ Below w.heap.size w w' := by
 have hdi := fun (V : World) (hb : Below w.heap.size w V) => digits_any l A c hl hc hcm V (hsrc.on hb) (env.on hb)
 have hlen := dig_len l
 have hle : ∀ i, (dig l).getD i 0 ≤ 15 := getD_le15 _ (dig_le l)
 have hsg : sgn seed l = (List.range 35).map fun i => chn seed i ((dig l).getD i 0) := rfl
 rw [hsg]
 obtain ⟨DG, hDG⟩ : ∃ DG, dig l = DG := ⟨_, rfl⟩
 rw [hDG] at hdi hlen hle ⊢
 obtain ⟨G, hG⟩ : ∃ G : Nat → List UInt8, ∀ i, chn seed i (DG.getD i 0) = G i := ⟨_, fun _ => rfl⟩
 have hG16 : ∀ i, (G i).length = 16 := fun i => by rw [← hG i]; exact chn_len _ _ _
 simp only [hG]
 have hcl := fun (S D X : Nat) (fr : Nat × Nat) (i : Nat) (hi : i < 35) (V : World) (hb : Below w.heap.size w V) (hS : V.heap[S]? = some (.cells (bcells seed) 41 fr)) (hD : V.cell? ⟨D, 0, none⟩ = some (.slice (some ⟨X, 0, none⟩) 35 35)) (hX : V.cell? ⟨X, i, none⟩ = some (.int .i64 ((DG.getD i 0 : Nat) : Int))) =>
  signcl_any seed hs S D X fr i (DG.getD i 0) hi (hle i) V hS hD hX (env.on hb)
 simp only [hG] at hcl
 obtain ⟨Z, hZ⟩ : ∃ Z, (List.range 35).map (fun i => G i) = Z := ⟨_, rfl⟩
 rw [hZ]
 have DI := Lib.hid hdi
 have CL := Lib.hid hcl
 have HG := Lib.hid hG16
 have HZ := Lib.hid hZ
 have HLEN := Lib.hid hlen
 obtain ⟨n, hn⟩ : ∃ n, l.length = n := ⟨_, rfl⟩
 rw [hn] at DI ⊢
 clear hdi hlen hle hsg hG hcl hZ hn hDG hG16 hsrc env hs
 go_enter Tryz.func70, Tryz.ntmps70
 go_wp2_with fail
 refine (DI.out _ (below_new _ _)).mono ?_
 rintro e w1 ⟨X, rfl, hX, hin, hb1⟩
 have HX := Lib.hid (Nat.le_trans (by simp) hX : w.heap.size ≤ X)
 have HIN := Lib.hid hin
 have HS1 := Lib.hid ((hb1.block w.heap.size (by simp)).trans (heap_alloc_new _ _))
 have HB1 := Lib.hid ((below_new w _).trans (hb1.mono (by simp)))
 clear hX hin hb1
 go_wp2_with fail
 obtain ⟨V, hV⟩ : ∃ V, w1.alloc (.cells #[.slice (some ⟨X, 0, none⟩) 35 35] 145) = V := ⟨_, rfl⟩
 rw [hV]
 have hb1 : Below w1.heap.size w1 V := by rw [← hV]; exact below_new _ _
 have hbV : Below w.heap.size w V := chain HB1.out hb1
 have hVS : V.heap[w.heap.size]? = some (.cells (bcells seed) 41 (0, 0)) := (hb1.block _ (Array.getElem?_eq_some_iff.1 HS1.out).1).trans HS1.out
 have hVD : V.cell? ⟨w1.heap.size, 0, none⟩ = some (.slice (some ⟨X, 0, none⟩) 35 35) := by
  rw [← hV, cell_of_row _ _ _ _ _ _ (heap_alloc_new _ _)]
  rfl
 have hVX : ∀ i, i < 35 → V.cell? ⟨X, i, none⟩ = some (.int .i64 ((DG.getD i 0 : Nat) : Int)) := fun i hi => (HIN.out.on hb1).at i (by rw [HLEN.out]; exact hi)
 have hca := climbAll_typed 110 #[.pointer (some ⟨w.heap.size, 0, none⟩), .pointer (some ⟨w1.heap.size, 0, none⟩)] G HG.out V (enters_of Tryz.func110 (by kernel_rfl) rfl) Z HZ.out
  (fun i hi U hU => CL.out w.heap.size w1.heap.size X (0, 0) i hi U (chain hbV hU) ((hU.block _ (Array.getElem?_eq_some_iff.1 hVS).1).trans hVS) (by rw [hU.cell (World.block_lt_of_cell? _ _ hVD)]; exact hVD) (by rw [hU.cell (World.block_lt_of_cell? _ _ (hVX i hi))]; exact hVX i hi))
 have HCA := Lib.hid hca
 have HBV := Lib.hid hbV
 clear hV hb1 hbV hVS hVD hVX hca
 refine HCA.out.mono ?_
 rintro e w2 ⟨rfl, hsh, hb2, hty⟩
 have HTY := Lib.hid hty
 have HSH := Lib.hid hsh
 have HB2 := Lib.hid (chain HBV.out hb2)
 clear hsh hb2 hty
 go_wp2_with fail
 go_ret
 exact ⟨V.heap.size, rfl, HBV.out.size, HSH.out, HTY.out, HB2.out⟩
set_option maxRecDepth 100000 in
set_option maxHeartbeats 4000000 in
theorem sign7_own (seed : List UInt8) (hs : seed.length = 16) (h n : Nat) (hh : h ≤ 4) (hn : n < 2 ^ h) (l : List UInt8) (A : Option Addr) (c : Nat) (hl : l.length ≤ 100000) (hc : l.length ≤ c) (hcm : c ≤ maxLen) (w : World) (hsrc : SrcAt A l w) (env : DEnv w) :
  Calls Tryz.prog 40 #[.agg (bcells seed), .int .i64 (h : Int), .int .i64 (n : Int), .slice A l.length c] w fun e w' => ∃ X PA pc, e = .returned (.tuple #[.agg #[.int .i64 (n : Int), .slice (some ⟨X, 0, none⟩) 35 35, .slice PA h pc], .int .i64 0]) ∧ (PA = none → pc = 0) ∧ Shorts (some ⟨X, 0, none⟩) (sgn (msd seed n) l) w' ∧ Shorts PA (pth seed 0 n h) w' ∧ (w.heap.size ≤ X ∧ TyS X w') ∧ Below w.heap.size w w' := by
 have IH := Lib.hid (fun (V : World) => isHeight_yes h hh V)
 have II := Lib.hid (fun (V : World) => isIndex_yes n h hh hn V)
 have hn16 : n < 16 := by
  have := Nat.pow_le_pow_right (show 0 < 2 by decide) hh
  have h16 : 2 ^ 4 = 16 := rfl
  omega
 have hso := fun (V : World) (hb : Below w.heap.size w V) => seedOf_any seed hs n (by omega) V (env.on hb)
 have hsi := fun (V : World) (hb : Below w.heap.size w V) => sign_typed (msd seed n) (msd_len seed n) l A c hl hc hcm V (hsrc.on hb) (env.on hb)
 have hke := fun (V : World) (hb : Below w.heap.size w V) => keys_any seed hs h hh V (env.on hb)
 have hpa := fun (V : World) (A : Option Addr) (c : Nat) (hb : Below w.heap.size w V) (hsh : Shorts A (lvl seed 0 (2 ^ h)) V) => path_any seed A c h n hh hn V hsh (env.on hb)
 obtain ⟨LV, hLV⟩ : ∃ LV, lvl seed 0 (2 ^ h) = LV := ⟨_, rfl⟩
 rw [hLV] at hke hpa
 obtain ⟨p, hp⟩ : ∃ p, 2 ^ h = p := ⟨_, rfl⟩
 rw [hp] at hke hpa
 obtain ⟨PT, hPT⟩ : ∃ PT, pth seed 0 n h = PT := ⟨_, rfl⟩
 rw [hPT] at hpa ⊢
 obtain ⟨SG, hSG⟩ : ∃ SG, sgn (msd seed n) l = SG := ⟨_, rfl⟩
 rw [hSG] at hsi ⊢
 have hm16 := msd_len seed n
 obtain ⟨MS, hMS⟩ : ∃ MS, msd seed n = MS := ⟨_, rfl⟩
 rw [hMS] at hso hsi hm16
 obtain ⟨hI, hHI⟩ : ∃ hI : Int, (h : Int) = hI := ⟨_, rfl⟩
 rw [hHI] at IH II hke ⊢
 obtain ⟨nI, hNI⟩ : ∃ nI : Int, (n : Int) = nI := ⟨_, rfl⟩
 rw [hNI] at II hso hpa ⊢
 obtain ⟨m, hm⟩ : ∃ m, l.length = m := ⟨_, rfl⟩
 rw [hm] at hsi ⊢
 have SO := Lib.hid hso
 have SI := Lib.hid hsi
 have KE := Lib.hid hke
 have PA := Lib.hid hpa
 have HSZ0 := Lib.hid (sz16 seed hs)
 clear hso hsi hke hpa hLV hp hPT hSG hm16 hMS hHI hNI hm hn16 env hs hn hl hc hcm hsrc hh
 go_enter Tryz.func40, Tryz.ntmps40
 go_wp2_with fail
 refine (IH.out _).mono ?_
 rintro e w1 ⟨rfl, hb1⟩
 have HR0 := Lib.hid ((hb1.block w.heap.size (by simp; omega)).trans (heap_alloc2_old _ _ _))
 have HR1 := Lib.hid ((hb1.block (w.heap.size + 1) (by simp)).trans (heap_alloc2_new _ _ _))
 have HB1 := Lib.hid (chain ((below_new w _).trans ((below_new _ _).mono (by simp))) hb1)
 clear hb1
 go_wp2_with fail
 refine (II.out _).mono ?_
 rintro e w2 ⟨rfl, hb2⟩
 have HR02 := Lib.hid ((hb2.block _ (Array.getElem?_eq_some_iff.1 HR0.out).1).trans HR0.out)
 have HR12 := Lib.hid ((hb2.block _ (Array.getElem?_eq_some_iff.1 HR1.out).1).trans HR1.out)
 have HB2 := Lib.hid (chain HB1.out hb2)
 clear hb2 HR0 HR1 HB1
 go_wp2_with (refine wpList_load_row rfl 41 (.tmp 4) rfl w.heap.size rfl 41 (bcells seed) (0, 0) _ HR02.out Tryz.underlying41 rfl HSZ0.out ?_)
 refine (SO.out _ HB2.out).mono ?_
 rintro e w3 ⟨rfl, hb3⟩
 have HR03 := Lib.hid ((hb3.block _ (Array.getElem?_eq_some_iff.1 HR02.out).1).trans HR02.out)
 have HR13 := Lib.hid ((hb3.block _ (Array.getElem?_eq_some_iff.1 HR12.out).1).trans HR12.out)
 have HB3 := Lib.hid (chain HB2.out hb3)
 clear hb3 HR02 HR12 HB2
 go_wp2_with fail
 refine (SI.out _ HB3.out).mono ?_
 rintro e w4 ⟨X, rfl, hX, hsg, hty, hb4⟩
 have HR04 := Lib.hid ((hb4.block _ (Array.getElem?_eq_some_iff.1 HR03.out).1).trans HR03.out)
 have HR14 := Lib.hid ((hb4.block _ (Array.getElem?_eq_some_iff.1 HR13.out).1).trans HR13.out)
 have HB4 := Lib.hid (chain HB3.out hb4)
 have HSG := Lib.hid hsg
 have HTY := Lib.hid hty
 have HXN : RowKit.Hid (w.heap.size + 1 < X) := Lib.hid (Nat.lt_of_lt_of_le (Array.getElem?_eq_some_iff.1 HR13.out).1 hX)
 clear hb4 hX hsg hty HR03 HR13 HB3
 go_wp2_with (refine wpList_load_row rfl 41 (.tmp 4) rfl w.heap.size rfl 41 (bcells seed) (0, 0) _ HR04.out Tryz.underlying41 rfl HSZ0.out ?_)
 refine (KE.out _ HB4.out).mono ?_
 rintro e w5 ⟨rfl, hlv, hb5⟩
 have HR15 := Lib.hid ((hb5.block _ (Array.getElem?_eq_some_iff.1 HR14.out).1).trans HR14.out)
 have HB5 := Lib.hid (chain HB4.out hb5)
 have HSG5 := Lib.hid (HSG.out.on hb5)
 have HTY5 := Lib.hid (HTY.out.on hb5)
 have HLV := Lib.hid hlv
 clear hb5 hlv HR04 HR14 HB4 HSG
 go_wp2_with fail
 refine (PA.out _ _ _ HB5.out HLV.out).mono ?_
 rintro e w6 ⟨PA', pc, rfl, hpn, hpf, hpt, hb6⟩
 have HPF : RowKit.Hid (∀ g o, PA' = some ⟨g, o, none⟩ → g ≠ w.heap.size + 1) := Lib.hid (fun g o e => by have h1 := hpf g o e; have h2 := (Array.getElem?_eq_some_iff.1 HR15.out).1; omega)
 have HR16 := Lib.hid ((hb6.block _ (Array.getElem?_eq_some_iff.1 HR15.out).1).trans HR15.out)
 have HB6 := Lib.hid (chain HB5.out hb6)
 have HSG6 := Lib.hid (HSG5.out.on hb6)
 have HTY6 := Lib.hid (HTY5.out.on hb6)
 have HPT := Lib.hid hpt
 have HPN := Lib.hid hpn
 clear hb6 hpt hpn hpf HR15 HB5 HSG5 HLV
 have hlt6 := (Array.getElem?_eq_some_iff.1 HR16.out).1
 obtain ⟨⟨hf0, hf1, hf2⟩, hc0, hc1, hc2⟩ := facts3k HR16.out
 go_wp2_with fail
 refine bodyPost_ret (v := .tuple #[.agg #[.int .i64 nI, .slice (some ⟨X, 0, none⟩) 35 35, .slice PA' h pc], .int .i64 0]) (results_twoS rfl _ _ (w.heap.size + 1) 30 _ (0, 0) _ rfl rfl (put3 HR16.out _ _ _) Tryz.underlying30 (sz3 _ _ _)) rfl ⟨X, PA', pc, rfl, HPN.out, ?_, ?_, ⟨by have := HXN.out; omega, ?_⟩, ?_⟩
 ·
  exact shorts_put3 HSG6.out (fun Y o e => by injection e with e1; injection e1 with e2; rw [← e2]; exact Ne.symm (Nat.ne_of_lt HXN.out)) _ _ _
 ·
  exact shorts_put3 HPT.out HPF.out _ _ _
 ·
  exact tys_far3 HTY6.out (Ne.symm (Nat.ne_of_lt HXN.out)) _ _ _
 ·
  exact below_put3 HB6.out (by omega) _ _ _
end Go.Proofs.YtcgffkkfeimifaaGreatDoor
namespace Go.Proofs.YtcgffkkfeimifaaGreatDoor
open Go.RowKit Sha Ots
set_option linter.unusedVariables false
set_option linter.unusedSimpArgs false
theorem tys_keep {X M : Nat} {w V : World} {c : Array Value} {T : TypeId} {fr : Nat × Nat} (h : TyS X w) (hr : w.heap[M]? = some (.cells c T fr)) (hne : 41 ≠ T) (ho : ∀ b, b ≠ M → V.heap[b]? = w.heap[b]?) : TyS X V := by
 obtain ⟨cur, hc⟩ := h
 have hX : X ≠ M := fun e => by
  subst e
  rw [hc] at hr
  injection hr with h1
  injection h1 with h2 h3
  exact hne h3
 exact ⟨cur, (ho X hX).trans hc⟩
namespace Sg
open Oc
theorem own_keep9 {lo M : Nat} {A : Option Addr} {E : TypeId} {w V : World} {c : Array Value} {T : TypeId} {fr : Nat × Nat} (h : OwnRow lo A E w) (hr : w.heap[M]? = some (.cells c T fr)) (hne : E ≠ T) (ho : ∀ b, b ≠ M → V.heap[b]? = w.heap[b]?) : OwnRow lo A E V := fun g o e => by
 obtain ⟨h1, cur, h2⟩ := h g o e
 refine ⟨h1, cur, (ho g fun e2 => ?_).trans h2⟩
 subst e2
 rw [h2] at hr
 injection hr with h3
 injection h3 with h4 h5
 exact hne h5
def SoPost (a : Rl × Int) (w : World) (e : Ending) (w' : World) : Prop := ∃ m, e = .returned (.tuple #[.agg (rlC a.1 m), .int .i64 a.2]) ∧ RlAt a.1 m w' ∧ OwnRow w.heap.size m.SA 23 w' ∧ OwnRow w.heap.size m.CA 41 w' ∧ Below w.heap.size w w'
set_option maxRecDepth 100000 in
set_option maxHeartbeats 16000000 in
theorem sign_own (l : Rl) (p : Mp) (hz : l.iss.size ≤ maxLen) (hwf : Wf l) (hcp : p.SA = none → p.sc = 0) (seed : List UInt8) (hs : seed.length = 16) (h n : Int) (w : World) (hat : RlAt l p w) (env : DEnv w) :
  Calls Tryz.prog 13 #[.agg (rlC l p), .agg (bcells seed), .int .i64 h, .int .i64 n] w (SoPost (sgR l seed h n) w) := by
 have hwf0 : Wf (sgn0 l) := ⟨hwf.num, hwf.ser, fun x hx => (by cases hx), fun x hx => (by cases hx)⟩
 have hat0 : ∀ V : World, Below w.heap.size w V → RlAt (sgn0 l) ⟨p.SA, p.sc, none, 0, none, 0⟩ V := fun V hb => ⟨(hat.on hb).ser, shs_nil rfl _ _, shs_nil rfl _ _, hat.ls, by show 0 ≤ _; omega, by show 0 ≤ _; omega⟩
 have hbd := fun (V : World) (hb : Below w.heap.size w V) => (body_any (sgn0 l) ⟨p.SA, p.sc, none, 0, none, 0⟩ hz hwf0 V (hat0 V hb)).mono fun e z k => vbpost_of k
 have hob : enc (rbv (rbOf (sgn0 l))) = enc (rbv (rbOf l)) := rfl
 rw [hob] at hbd
 have hln := fun (h0 : rvC (sgn0 l) = 0) => (show (enc (rbv (rbOf l))).length ≤ 100000 by have := (fit_ck (hwf0.fit h0)).2.2.1; rw [hob] at this; omega)
 have htw := fun (h0 : rvC (sgn0 l) = 0) (V : World) (hb : Below w.heap.size w V) => rtwin_any (sgn0 l) ⟨p.SA, p.sc, none, 0, none, 0⟩ V (hat0 V hb) ⟨hcp, fun _ => rfl, fun _ => rfl⟩
 have HSB := Lib.hid (fun (hg : ¬ (0 ≤ h ∧ h ≤ 4 ∧ 0 ≤ n ∧ n < ((2 ^ h.toNat : Nat) : Int))) (V : World) (M : Value) => sign7_bad seed h n M hg V)
 have hsg := fun (h0 : rvC (sgn0 l) = 0) (hg : 0 ≤ h ∧ h ≤ 4 ∧ 0 ≤ n ∧ n < ((2 ^ h.toNat : Nat) : Int)) (V : World) (hb : Below w.heap.size w V) (A : Option Addr) (c : Nat) (h1 : (enc (rbv (rbOf l))).length ≤ c) (h2 : c ≤ maxLen) (h3 : SrcAt A (enc (rbv (rbOf l))) V) => (by
  have k := sign7_own seed hs h.toNat n.toNat (by omega) (by omega) (enc (rbv (rbOf l))) A c (hln h0) h1 h2 V h3 (env.on hb)
  have e1 : (h.toNat : Int) = h := by omega
  have e2 : (n.toNat : Int) = n := by omega
  rw [e1] at k
  exact (show Calls Tryz.prog 40 #[.agg (bcells seed), .int .i64 h, .int .i64 n, .slice A (enc (rbv (rbOf l))).length c] V fun e w' => ∃ X PA pc, e = .returned (.tuple #[.agg #[.int .i64 (n.toNat : Int), .slice (some ⟨X, 0, none⟩) 35 35, .slice PA h.toNat pc], .int .i64 0]) ∧ (PA = none → pc = 0) ∧ Shorts (some ⟨X, 0, none⟩) (sgn (msd seed n.toNat) (enc (rbv (rbOf l)))) w' ∧ Shorts PA (pth seed 0 n.toNat h.toNat) w' ∧ (V.heap.size ≤ X ∧ TyS X w') ∧ Below V.heap.size V w' by
   rw [show (.int .i64 n : Value) = .int .i64 (n.toNat : Int) by rw [e2]]
   exact k))
 have hsz : (Tryz.prog.info? 41).map (·.size) = some (bcells seed).size := sz16 seed hs
 have hls := hat.ls
 obtain ⟨r, hr⟩ : ∃ r, sgR l seed h n = r := ⟨_, rfl⟩
 have hres := hr.symm
 unfold sgR at hres
 rw [hr]
 obtain ⟨D, hD⟩ : ∃ D, enc (rbv (rbOf l)) = D := ⟨_, rfl⟩
 obtain ⟨E, hE⟩ : ∃ E, rvC (sgn0 l) = E := ⟨_, rfl⟩
 rw [hD] at hbd hsg hres
 rw [hE] at hbd hsg htw hres
 obtain ⟨nI, hnI⟩ : ∃ q : Int, (n.toNat : Int) = q := ⟨_, rfl⟩
 rw [hnI] at hsg hres
 have HRES := Lib.hid hres
 obtain ⟨SD, hSD⟩ : ∃ SD, bcells seed = SD := ⟨_, rfl⟩
 rw [hSD] at hsg HSB hsz ⊢
 unfold VbPost rlC sgn0 at hbd
 unfold rlC sgn0 at htw
 dsimp only [List.length_nil] at hbd htw
 unfold SoPost
 rw [show rlC l p = #[Value.string l.iss, .int .u64 l.num, .int .i64 l.fr, .int .i64 l.tt, .slice p.SA l.ser.length p.sc, .int .i64 l.sg.idx, .slice p.CA l.sg.cs.length p.cc, .slice p.PA l.sg.ps.length p.pc] from rfl]
 have HBD := Lib.hid hbd
 have HTW0 := Lib.hid htw
 have HSG := Lib.hid hsg
 have HSZ := Lib.hid hsz
 have HLS := Lib.hid hls
 obtain ⟨hw0, hra, hrb, hrc⟩ := three_rows3 w #[Value.string l.iss, .int .u64 l.num, .int .i64 l.fr, .int .i64 l.tt, .slice p.SA l.ser.length p.sc, .int .i64 l.sg.idx, .slice p.CA l.sg.cs.length p.cc, .slice p.PA l.sg.ps.length p.pc] SD #[Value.string ⟨#[]⟩, .int .u64 0, .int .i64 0, .int .i64 0, .slice none 0 0, .int .i64 0, .slice none 0 0, .slice none 0 0] 32 41 32
 have HRL0 := Lib.hid hra
 have HRS0 := Lib.hid hrb
 have HRR0 := Lib.hid hrc
 have HB0 := Lib.hid hw0
 clear hnI hr hres hbd htw hsg hsz hls hw0 hra hrb hrc hln hob hD hE hSD hwf0 hat0 hz hwf hcp hs hat env
 go_enter Tryz.func13, Tryz.ntmps13
 go_upto_region 1 with (fail)
 generalize World.alloc (World.alloc (World.alloc w _) _) _ = V0 at HRL0 HRS0 HRR0 HB0 ⊢
 obtain ⟨hl0, f0, f1, f2, f3, f4, f5, f6, f7⟩ := facts8 HRL0.out
 obtain ⟨z0, z1, z2, z3, z4, z5, z6, z7⟩ := free8 HRL0.out
 go_upto_region 2 with (fail)
 generalize hV1 : World.setCell _ _ _ = V1
 have hV1' : V0.setCells w.heap.size 5 [.int .i64 0, .slice none 0 0, .slice none 0 0] = V1 := hV1
 clear hV1 z0 z1 z2 z3 z4 z5 z6 z7
 clear hl0 f0 f1 f2 f3 f4 f5 f6 f7
 have ho : ∀ b, b ≠ w.heap.size → V1.heap[b]? = V0.heap[b]? := fun b hb => by rw [← hV1']; exact heap_setCells_other _ _ _ hb
 have HRL1 := Lib.hid (show V1.heap[w.heap.size]? = some (.cells #[Value.string l.iss, .int .u64 l.num, .int .i64 l.fr, .int .i64 l.tt, .slice p.SA l.ser.length p.sc, .int .i64 0, .slice none 0 0, .slice none 0 0] 32 (0, 0)) by rw [← hV1']; exact heap_set3 HRL0.out)
 have HRS1 := Lib.hid ((ho _ (by omega)).trans HRS0.out)
 have HRR1 := Lib.hid ((ho _ (by omega)).trans HRR0.out)
 have HB1 := Lib.hid (show Below w.heap.size w V1 by rw [← hV1']; exact below_setCells _ _ _ HB0.out (Nat.le_refl _))
 clear ho hV1' HRL0 HRS0 HRR0 HB0
 obtain ⟨hl0, f0, f1, f2, f3, f4, f5, f6, f7⟩ := facts8 HRL1.out
 go_wp2_with fail
 refine (HBD.out V1 HB1.out).mono ?_
 rintro e V3 ⟨A1, c1, n1, rfl, hy, hn, hb⟩
 have HY := Lib.hid hy
 clear hy hn HBD
 clear hl0 f0 f1 f2 f3 f4 f5 f6 f7
 have HRL3 := Lib.hid (row_on HRL1.out hb)
 have HRS3 := Lib.hid (row_on HRS1.out hb)
 have HRR3 := Lib.hid (row_on HRR1.out hb)
 have HB3 := Lib.hid (chain HB1.out hb)
 clear hb HRL1 HRS1 HRR1 HB1
 by_cases h0 : E = 0
 ·
  have HRES1 := Lib.hid (HRES.out.trans (if_pos h0))
  clear HRES
  subst h0
  obtain ⟨rfl, q1, q2, q3⟩ := HY.out rfl
  have HTW := Lib.hid (HTW0.out rfl)
  clear HY HTW0
  go_wp2_with (refine wpList_load_row rfl 41 (.tmp 5) rfl (w.heap.size + 1) rfl 41 SD (0, 0) _ HRS3.out Tryz.underlying41 rfl HSZ.out ?_)
  by_cases hg : 0 ≤ h ∧ h ≤ 4 ∧ 0 ≤ n ∧ n < ((2 ^ h.toNat : Nat) : Int)
  ·
   have HG := Lib.hid hg
   have HS7 := Lib.hid (HSG.out (by first | rfl | trivial) hg)
   refine (HS7.out V3 HB3.out A1 c1 q1 q2 q3).mono ?_
   rintro e V4 ⟨X, PA, pc, rfl, hpn, hX, hP, hty, hb⟩
   have HTY4 := Lib.hid (show w.heap.size ≤ X ∧ TyS X V4 from ⟨Nat.le_trans HB3.out.size hty.1, hty.2⟩)
   clear hty
   have HX := Lib.hid hX
   have HP := Lib.hid hP
   clear hpn hX hP q1 q2 q3 HS7
   have HRL4 := Lib.hid (row_on HRL3.out hb)
   have HRS4 := Lib.hid (row_on HRS3.out hb)
   have HRR4 := Lib.hid (row_on HRR3.out hb)
   have HB4 := Lib.hid (chain HB3.out hb)
   clear hb HRL3 HRS3 HRR3 HB3
   go_upto_region 6 with (fail)
   obtain ⟨M2, hM2⟩ : ∃ M2, V4.heap.size = M2 := ⟨_, rfl⟩
   have hm2 := heap_alloc_new V4 (.cells #[Value.int .i64 nI, .slice (some ⟨X, 0, none⟩) 35 35, .slice PA h.toNat pc] 30)
   have hb := below_new V4 (.cells #[Value.int .i64 nI, .slice (some ⟨X, 0, none⟩) 35 35, .slice PA h.toNat pc] 30)
   rw [hM2] at hm2 ⊢
   generalize World.alloc V4 _ = V5 at hm2 hb ⊢
   have HM2 := Lib.hid hm2
   have HTY5 := Lib.hid (show w.heap.size ≤ X ∧ TyS X V5 from ⟨HTY4.out.1, HTY4.out.2.on hb⟩)
   have HX5 := Lib.hid ((shs_from HX.out).on hb)
   have HP5 := Lib.hid ((shs_from HP.out).on hb)
   clear hm2 hM2 HX HP
   have HRL5 := Lib.hid (row_on HRL4.out hb)
   have HRS5 := Lib.hid (row_on HRS4.out hb)
   have HRR5 := Lib.hid (row_on HRR4.out hb)
   have HB5 := Lib.hid (chain HB4.out hb)
   clear hb HRL4 HRS4 HRR4 HB4
   obtain ⟨hl0, f0, f1, f2, f3, f4, f5, f6, f7⟩ := facts8 HRL5.out
   go_wp2_with fail
   have hm1 := HTW.out V5 HB5.out
   unfold PTwin rlC at hm1
   refine hm1.mono ?_
   clear hm1
   rintro e V6 ⟨m1, rfl, hl, hb, ho1, ho2, hap⟩
   have HNS2 := Lib.hid (fun (g o : Nat) (e : m1.SA = some ⟨g, o, none⟩) => show w.heap.size + 3 ≤ g from by
    have h1 := (ho1 g o e).1
    have h2 := (Array.getElem?_eq_some_iff.1 HRR5.out).1
    omega)
   have HTL := Lib.hid hl
   have HM26 := Lib.hid (row_on HM2.out hb)
   have HTY6 := Lib.hid (show w.heap.size ≤ X ∧ TyS X V6 from ⟨HTY5.out.1, HTY5.out.2.on hb⟩)
   have OWN6 := Lib.hid (show OwnRow w.heap.size m1.SA 23 V6 from fun g o e => ⟨by have := HNS2.out g o e; omega, (ho1 g o e).2⟩)
   have HX6 := Lib.hid (HX5.out.on hb)
   have HP6 := Lib.hid (HP5.out.on hb)
   clear hl ho1 ho2 hap HM2 HX5 HP5 HTW
   clear hl0 f0 f1 f2 f3 f4 f5 f6 f7
   have HRL6 := Lib.hid (row_on HRL5.out hb)
   have HRS6 := Lib.hid (row_on HRS5.out hb)
   have HRR6 := Lib.hid (row_on HRR5.out hb)
   have HB6 := Lib.hid (chain HB5.out hb)
   clear hb HRL5 HRS5 HRR5 HB5
   go_upto_region 9 with (fail)
   have HM := Lib.hid (heap_alloc_new V6 (.cells #[Value.string l.iss, .int .u64 l.num, .int .i64 l.fr, .int .i64 l.tt, .slice m1.SA l.ser.length m1.sc, .int .i64 0, .slice m1.CA 0 m1.cc, .slice m1.PA 0 m1.pc] 32))
   obtain ⟨M, hM⟩ : ∃ M, V6.heap.size = M := ⟨_, rfl⟩
   rw [hM] at HM ⊢
   generalize hV7 : World.alloc V6 _ = V7 at HM ⊢
   have hb : Below V6.heap.size V6 V7 := by rw [← hV7]; exact below_new _ _
   have HLM := Lib.hid (show w.heap.size + 3 ≤ M ∧ M2 ≠ M by
    have h1 := (Array.getElem?_eq_some_iff.1 HRR6.out).1
    have h2 := (Array.getElem?_eq_some_iff.1 HM26.out).1
    omega)
   have HTL7 := Lib.hid (HTL.out.on hb)
   have HTY7 := Lib.hid (show w.heap.size ≤ X ∧ TyS X V7 from ⟨HTY6.out.1, HTY6.out.2.on hb⟩)
   have OWN7 := Lib.hid (OWN6.out.on hb)
   have HX7 := Lib.hid (HX6.out.on hb)
   have HP7 := Lib.hid (HP6.out.on hb)
   have HM27 := Lib.hid (row_on HM26.out hb)
   have HNS := Lib.hid (fun (g o : Nat) (e : m1.SA = some ⟨g, o, none⟩) => show l.ser ≠ [] → g ≠ M from fun hne e2 => by
    have h3 := nums_lt HTL.out.ser hne g o e
    omega)
   clear hV7 HTL HX6 HP6 HM26
   have HRL7 := Lib.hid (row_on HRL6.out hb)
   have HRS7 := Lib.hid (row_on HRS6.out hb)
   have HRR7 := Lib.hid (row_on HRR6.out hb)
   have HB7 := Lib.hid (chain HB6.out hb)
   clear hb HRL6 HRS6 HRR6 HB6
   obtain ⟨hl0, f0, f1, f2, f3, f4, f5, f6, f7⟩ := facts8 HM.out
   obtain ⟨z0, z1, z2, z3, z4, z5, z6, z7⟩ := free8 HM.out
   obtain ⟨_, b0, b1, b2⟩ := facts3 HM27.out
   have hrgs := range3s HM27.out
   go_upto_region 10 with (fail)
   generalize hV9 : World.setCell _ _ _ = V9
   have hV9' : V7.setCells M 5 [Value.int .i64 nI, .slice (some ⟨X, 0, none⟩) 35 35, .slice PA h.toNat pc] = V9 := hV9
   clear hV9 z0 z1 z2 z3 z4 z5 z6 z7 b0 b1 b2 hrgs
   clear hl0 f0 f1 f2 f3 f4 f5 f6 f7
   have HM9 := Lib.hid (show V9.heap[M]? = some (.cells #[Value.string l.iss, .int .u64 l.num, .int .i64 l.fr, .int .i64 l.tt, .slice m1.SA l.ser.length m1.sc, .int .i64 nI, .slice (some ⟨X, 0, none⟩) 35 35, .slice PA h.toNat pc] 32 (0, 0)) by rw [← hV9']; exact heap_set3 HM.out)
   have ho : ∀ b, b ≠ M → V9.heap[b]? = V7.heap[b]? := fun b hb => by rw [← hV9']; exact heap_setCells_other _ _ _ hb
   have HB9 := Lib.hid (show Below w.heap.size w V9 by rw [← hV9']; exact below_setCells _ _ _ HB7.out (by have := HLM.out.1; omega))
   have HRR9 := Lib.hid ((ho _ (by have := HLM.out.1; omega)).trans HRR7.out)
   have HN9 := Lib.hid (show Nums m1.SA l.ser V9 from nums_keep9 HTL7.out.ser HNS.out ho)
   have HTY9 := Lib.hid (show w.heap.size ≤ X ∧ TyS X V9 from ⟨HTY7.out.1, tys_keep HTY7.out.2 HM.out (by decide) ho⟩)
   have OWN9 := Lib.hid (own_keep9 OWN7.out HM.out (by decide) ho)
   have HX9 := Lib.hid (shs_keep HX7.out HM.out (show 8 < 16 by decide) ho)
   have HP9 := Lib.hid (shs_keep HP7.out HM.out (show 8 < 16 by decide) ho)
   clear ho hV9' HM HRL7 HRS7 HRR7 HB7 HTL7 HX7 HP7 HM27
   obtain ⟨hl1, p0, p1, p2, p3, p4, p5, p6, p7⟩ := facts8 HM9.out
   obtain ⟨hl0, f0, f1, f2, f3, f4, f5, f6, f7⟩ := facts8 HRR9.out
   obtain ⟨z0, z1, z2, z3, z4, z5, z6, z7⟩ := free8 HRR9.out
   go_wp2_with fail
   generalize hZ : World.setCell _ _ _ = Z
   obtain ⟨r1, r2, r3⟩ := put8 HRR9.out (show w.heap.size ≤ w.heap.size + 2 by omega) hZ
   clear hZ
   have hlc : (sgn (msd seed n.toNat) D).length = 35 := sgn35 _ _
   have hlp : (pth seed 0 n.toNat h.toNat).length = h.toNat := pth_length _ _ _ _
   have hr : r = ({ l with sg := ⟨nI, sgn (msd seed n.toNat) D, pth seed 0 n.toNat h.toNat⟩ }, 0) := by rw [HRES1.out, if_pos HG.out]
   refine bodyPost_ret (v := .tuple #[.agg (rlC r.1 ⟨m1.SA, m1.sc, some ⟨X, 0, none⟩, 35, PA, pc⟩), .int .i64 r.2]) ?resG rfl ⟨_, rfl, ?_, own_keep9 OWN9.out HRR9.out (by decide) r3, (fun g o e => by
    injection e with e1
    injection e1 with e2
    subst e2
    exact ⟨HTY9.out.1, tys_keep HTY9.out.2 HRR9.out (by decide) r3⟩), HB9.out.trans (r2.mono (Nat.le_refl _))⟩
   case resG =>
    obtain ⟨_, f0, f1, f2, f3, f4, f5, f6, f7⟩ := facts8 r1
    rw [hr]
    unfold rlC
    dsimp only
    rw [hlc, hlp]
    simp [results, Tryz.results13, go_sem, f0, f1, f2, f3, f4, f5, f6, f7]
    try rfl
   ·
    rw [hr]
    exact ⟨nums_keep9 HN9.out (fun g o e hne e2 => by
     have h1 := HNS2.out g o e
     omega) r3, shs_keep HX9.out HRR9.out (show 8 < 16 by decide) r3, shs_keep HP9.out HRR9.out (show 8 < 16 by decide) r3, HLS.out, by show (sgn (msd seed n.toNat) D).length ≤ _; rw [hlc]; decide, by show (pth seed 0 n.toNat h.toNat).length ≤ _; rw [hlp]; have := HG.out; omega⟩
  ·
   have hsb := HSB.out hg
   refine (hsb V3 _).mono ?_
   rintro e V4 ⟨rfl, hb⟩
   clear hsb q1 q2 q3 HTW
   have HRL4 := Lib.hid (row_on HRL3.out hb)
   have HRS4 := Lib.hid (row_on HRS3.out hb)
   have HRR4 := Lib.hid (row_on HRR3.out hb)
   have HB4 := Lib.hid (chain HB3.out hb)
   clear hb HRL3 HRS3 HRR3 HB3
   go_upto_region 6 with (fail)
   generalize hV5 : World.alloc V4 _ = V5
   have hb : Below V4.heap.size V4 V5 := by rw [← hV5]; exact below_new _ _
   clear hV5
   have HRL5 := Lib.hid (row_on HRL4.out hb)
   have HRS5 := Lib.hid (row_on HRS4.out hb)
   have HRR5 := Lib.hid (row_on HRR4.out hb)
   have HB5 := Lib.hid (chain HB4.out hb)
   clear hb HRL4 HRS4 HRR4 HB4
   obtain ⟨hl0, f0, f1, f2, f3, f4, f5, f6, f7⟩ := facts8 HRR5.out
   obtain ⟨z0, z1, z2, z3, z4, z5, z6, z7⟩ := free8 HRR5.out
   go_wp2_with fail
   generalize hZ : World.setCell _ _ _ = Z
   obtain ⟨r1, r2, r3⟩ := put8 HRR5.out (show w.heap.size ≤ w.heap.size + 2 by omega) hZ
   clear hZ
   have hr : r = (rl0, 2) := by rw [HRES1.out, if_neg hg]
   refine bodyPost_ret (v := .tuple #[.agg (rlC r.1 mp0), .int .i64 r.2]) ?res1 rfl ⟨mp0, rfl, by rw [hr]; exact rl0_at _, (fun g o e => by cases e), (fun g o e => by cases e), HB5.out.trans (r2.mono (Nat.le_refl _))⟩
   case res1 =>
    rw [hr]
    obtain ⟨_, f0, f1, f2, f3, f4, f5, f6, f7⟩ := facts8 r1
    simp [results, Tryz.results13, go_sem, f0, f1, f2, f3, f4, f5, f6, f7]
    try rfl
 ·
  clear HY HTW0 HSG HSB
  obtain ⟨hl0, f0, f1, f2, f3, f4, f5, f6, f7⟩ := facts8 HRR3.out
  obtain ⟨z0, z1, z2, z3, z4, z5, z6, z7⟩ := free8 HRR3.out
  go_wp2_with fail
  generalize hZ : World.setCell _ _ _ = Z
  obtain ⟨r1, r2, r3⟩ := put8 HRR3.out (show w.heap.size ≤ w.heap.size + 2 by omega) hZ
  clear hZ
  have hr : r = (rl0, E) := by rw [HRES.out, if_neg h0]
  refine bodyPost_ret (v := .tuple #[.agg (rlC r.1 mp0), .int .i64 r.2]) ?res2 rfl ⟨mp0, rfl, by rw [hr]; exact rl0_at _, (fun g o e => by cases e), (fun g o e => by cases e), HB3.out.trans (r2.mono (Nat.le_refl _))⟩
  case res2 =>
   rw [hr]
   obtain ⟨_, f0, f1, f2, f3, f4, f5, f6, f7⟩ := facts8 r1
   simp [results, Tryz.results13, go_sem, f0, f1, f2, f3, f4, f5, f6, f7]
   try rfl
end Sg
end Go.Proofs.YtcgffkkfeimifaaGreatDoor
