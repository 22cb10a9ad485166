import Derived.Test.YtcgffkkfeimifaaGreatDoorMkABC
import Derived.Test.YtcgffkkfeimifaaGreatDoorOneRabcd
import Derived.Test.YtcgffkkfeimifaaGreatDoorOneH
namespace Go.Proofs.YtcgffkkfeimifaaGreatDoor
open Go.RowKit Sha Ots
set_option linter.unusedVariables false
set_option linter.unusedSimpArgs false
theorem prs_lvl (seed : List UInt8) (l m : Nat) : prs7 (lvl seed l (2 * m)) m = lvl seed (l + 1) m := by
 unfold prs7
 show _ = (List.range m).map (node seed (l + 1))
 refine List.map_congr_left fun k hk => ?_
 have := List.mem_range.1 hk
 exact node_pair seed l (2 * m) k (by omega)
theorem flatten_snoc (l : List (List UInt8)) (x : List UInt8) : (l ++ [x]).flatten = l.flatten ++ x := by
 rw [List.flatten_append]
 simp
theorem fill_shortL (C : List UInt8) (hC : C.length = 16) (V : World) : (V.alloc (.cells (List.foldl (fun cs x => cs.setIfInBounds x.snd x.fst) #[.int .u8 0, .int .u8 0, .int .u8 0, .int .u8 0, .int .u8 0, .int .u8 0, .int .u8 0, .int .u8 0, .int .u8 0, .int .u8 0, .int .u8 0, .int .u8 0, .int .u8 0, .int .u8 0, .int .u8 0, .int .u8 0] (bvals C).zipIdx) 41)).heap[V.heap.size]? = some (.cells (bcells C) 41 (0, 0)) := by
 have he : List.foldl (fun (cs : Array Value) x => cs.setIfInBounds x.snd x.fst) #[.int .u8 0, .int .u8 0, .int .u8 0, .int .u8 0, .int .u8 0, .int .u8 0, .int .u8 0, .int .u8 0, .int .u8 0, .int .u8 0, .int .u8 0, .int .u8 0, .int .u8 0, .int .u8 0, .int .u8 0, .int .u8 0] (bvals C).zipIdx = bcells C := by
  apply Array.ext_getElem?
  intro j
  rw [fold_set _ _ _ (by rw [bvals_len, hC]; decide) j]
  by_cases hj : j < 16
  ·
   rw [if_pos (by rw [bvals_len, hC]; omega), Nat.sub_zero]
   unfold bcells bvals
   simp
  ·
   rw [if_neg (by rw [bvals_len, hC]; omega), Array.getElem?_eq_none (by simp; omega), Array.getElem?_eq_none (by rw [bcells_size, hC]; omega)]
 rw [he]
 exact heap_alloc_new _ _
theorem shorts_grown {A : Option Addr} {ls : List (List UInt8)} {w V : World} {u : Option Nat} (h : Shorts A ls w) (hg : w.grownBy V u) (hne : ∀ g o, A = some ⟨g, o, none⟩ → u ≠ some g) : Shorts A ls V :=
 ⟨fun i l hi => by
  obtain ⟨g, o, e, hr⟩ := h.row i l hi
  refine ⟨g, o, e, fun j v hv => ?_⟩
  have h1 := hr j v hv
  have hlt : g < w.heap.size := World.block_lt_of_cell? _ _ h1
  have hb := hg.block g hlt (fun e2 => hne g o e e2.symm)
  have h2 : V.cell? ⟨g, o + 16 * i + j, none⟩ = w.cell? ⟨g, o + 16 * i + j, none⟩ := by
   simp only [World.cell?, hb]
  rw [h2]
  exact h1, h.len⟩
theorem bits_xor1 (n : Nat) (h : n < 16) : bits .xor .i64 (n : Int) 1 = ((n ^^^ 1 : Nat) : Int) := by
 obtain rfl | rfl | rfl | rfl | rfl | rfl | rfl | rfl | rfl | rfl | rfl | rfl | rfl | rfl | rfl | rfl : n = 0 ∨ n = 1 ∨ n = 2 ∨ n = 3 ∨ n = 4 ∨ n = 5 ∨ n = 6 ∨ n = 7 ∨ n = 8 ∨ n = 9 ∨ n = 10 ∨ n = 11 ∨ n = 12 ∨ n = 13 ∨ n = 14 ∨ n = 15 := by omega
 all_goals rfl
set_option maxRecDepth 100000 in
set_option maxHeartbeats 2000000 in
theorem path_any (seed : List UInt8) (A : Option Addr) (c : Nat) (h n : Nat) (hh : h ≤ 4) (hn : n < 2 ^ h) (w : World) (hsh : Shorts A (lvl seed 0 (2 ^ h)) w) (env : DEnv w) :
  Calls Tryz.prog 71 #[.slice A (2 ^ h) c, .int .i64 (n : Int)] w fun e w' => ∃ A' c', e = .returned (.slice A' h c') ∧ (A' = none → c' = 0) ∧ (∀ g o, A' = some ⟨g, o, none⟩ → w.heap.size ≤ g) ∧ Shorts A' (pth seed 0 n h) w' ∧ Below w.heap.size w w' := by
 -- the widths of the levels, the indices
 obtain ⟨P, hP⟩ : ∃ P : Nat → Nat, ∀ l, P l = 2 ^ (h - l) := ⟨_, fun _ => rfl⟩
 obtain ⟨D, hD⟩ : ∃ D : Nat → Nat, ∀ l, D l = n / 2 ^ l := ⟨_, fun _ => rfl⟩
 have hP0 : 2 ^ h = P 0 := (hP 0).symm
 have hD0 : n = D 0 := by rw [hD, Nat.pow_zero, Nat.div_one]
 have hPs : ∀ l, l < h → P l = 2 * P (l + 1) := fun l hl => by
  rw [hP, hP, show h - l = (h - (l + 1)) + 1 by omega, Nat.pow_succ, Nat.mul_comm]
 have hPh : P h = 1 := by rw [hP, Nat.sub_self, Nat.pow_zero]
 have hPp : ∀ l, 0 < P l := fun l => by rw [hP]; exact Nat.two_pow_pos _
 have hPm : ∀ l, P l ≤ 16 := fun l => by
  rw [hP]
  have := Nat.pow_le_pow_right (show 0 < 2 by decide) (show h - l ≤ 4 by omega)
  simpa using this
 have hDs : ∀ l, D (l + 1) = D l / 2 := fun l => by rw [hD, hD, Nat.pow_succ, Nat.div_div_eq_div_mul]
 have hDP : ∀ l, l ≤ h → D l < P l := fun l hl => by
  rw [hD, hP, Nat.div_lt_iff_lt_mul (Nat.two_pow_pos _), ← Nat.pow_add, show h - l + l = h by omega]
  exact hn
 have hpt : ∀ l, (pth seed 0 n (l + 1)).flatten = (pth seed 0 n l).flatten ++ node seed l (sib (D l)) := fun l => by
  rw [pth_snoc, flatten_snoc, Nat.zero_add, hD]
 have hpl : ∀ l, (pth seed 0 n l).length = l := fun l => pth_length seed l 0 n
 have hpm : ∀ p ∈ pth seed 0 n h, p.length = 16 := pth_mem seed h 0 n
 have hab := fun (l : Nat) (hl : l < h) (A : Option Addr) (c : Nat) (V : World) (hb : Below w.heap.size w V) (hs : Shorts A (lvl seed l (P l)) V) =>
  (by
   have hp := hPs l hl
   have h16 := hPm l
   rw [hp] at hs h16 ⊢
   have h := above_any (lvl seed l (2 * P (l + 1))) A c (P (l + 1)) (lvl_length _ _ _) (hPp _) (by omega) V hs (env.on hb)
   rw [prs_lvl] at h
   exact h : Calls Tryz.prog 39 #[.slice A (P l) c] V fun e w' => e = .returned (.slice (some ⟨V.heap.size, 0, none⟩) (P (l + 1)) (P (l + 1))) ∧ Shorts (some ⟨V.heap.size, 0, none⟩) (lvl seed (l + 1) (P (l + 1))) w' ∧ Below V.heap.size V w')
 have hat : ∀ (l : Nat) (A : Option Addr) (V : World), l < h → Shorts A (lvl seed l (P l)) V → ∃ g o, A = some ⟨g, o, none⟩ ∧ V.rangeAt g (o + sib (D l) * 16) (bvals (node seed l (sib (D l)))) := fun l A V hl hs => by
  have h1 := hDP l (by omega)
  have h2 := hPs l hl
  have h3 : sib (D l) < P l := by unfold sib; split <;> omega
  obtain ⟨g, o, e, hr⟩ := hs.atS (sib (D l)) (by rw [lvl_length]; exact h3)
  rw [lvl_at _ _ _ _ h3] at hr
  exact ⟨g, o, e, hr⟩
 have hsl : ∀ l, l < h → sib (D l) < P l := fun l hl => by
  have h1 := hDP l (by omega)
  have h2 := hPs l hl
  unfold sib
  split <;> omega
 have hxor : ∀ l, l ≤ h → D l ^^^ 1 = sib (D l) := fun l hl => xor_one _ (by have := hDP l hl; have := hPm l; omega)
 have hlt : ∀ l, l ≤ h → D l < 16 := fun l hl => by have := hDP l hl; have := hPm l; omega
 rw [hP0] at hsh ⊢
 obtain ⟨ni, hni⟩ : ∃ ni : Int, (n : Int) = ni := ⟨_, rfl⟩
 rw [hni]
 have hnD : ni = (D 0 : Int) := by rw [← hni, ← hD0]
 have AB := Lib.hid hab
 have HAT := Lib.hid hat
 have HSL := Lib.hid hsl
 have HDS := Lib.hid hDs
 have HPS := Lib.hid hPs
 have HPP := Lib.hid hPp
 have HPM := Lib.hid hPm
 have HPT := Lib.hid hpt
 have HPL := Lib.hid hpl
 have HPMM := Lib.hid hpm
 have HPH := Lib.hid hPh
 have HXOR := Lib.hid hxor
 have HLT := Lib.hid hlt
 have HND := Lib.hid hnD
 have HSH := Lib.hid hsh
 have HH := Lib.hid hh
 have hnl : ∀ l k, (node seed l k).length = 16 := fun l k => node_len seed l k
 have HNL := Lib.hid hnl
 have hp0 : (pth seed 0 n 0).flatten = [] := rfl
 have HP00 := Lib.hid hp0
 obtain ⟨PT, hPT⟩ : ∃ PT, pth seed 0 n = PT := ⟨_, rfl⟩
 rw [hPT] at HPT HPL HPMM HP00 ⊢
 obtain ⟨ND, hND⟩ : ∃ ND, node seed = ND := ⟨_, rfl⟩
 rw [hND] at HAT HPT HNL
 clear hab hat hsl hDs hPs hPp hPm hpt hpl hpm hPh hxor hlt hnD hsh hh hnl hp0 hPT hND hP0 hD0 hP hD hDP env hn hni
 go_enter Tryz.func71, Tryz.ntmps71
 go_wp2_with fail
 go_loopw [0, 1, 5] (fun lv ix out wr => ∃ (l : Nat) (A : Option Addr) (c : Nat), l ≤ h ∧ lv = .slice A (P l) c ∧ ix = .int .i64 (D l : Int) ∧ RowKit.Hid (Shorts A (lvl seed l (P l)) wr) ∧ RowKit.Hid (wr.ownsRow w.heap.size 41 16 out l (bvals (PT l).flatten)) ∧ RowKit.Hid (Below w.heap.size w wr ∧ ∀ g o, A = some ⟨g, o, none⟩ → Value.ownBlock out ≠ some g)) (fun lv _ _ _ => match lv with | .slice _ n _ => n | _ => 0)
 case atStart => exact ⟨0, A, c, by omega, rfl, by rw [HND.out], HSH, Lib.hid (by rw [HP00.out]; exact ⟨rfl, Or.inl ⟨rfl, rfl⟩⟩), Lib.hid ⟨Below.refl _ _, fun _ _ _ e => by cases e⟩⟩
 case round =>
  clear HSH
  obtain ⟨l, B, d, hl, rfl, rfl, HS, HO, HB⟩ := hrel
  by_cases hlt : l < h
  ·
   obtain ⟨g, o, rfl, hr⟩ := HAT.out l B wr hlt HS.out
   have h1 := HPP.out (l + 1)
   have h2 := HPS.out l hlt
   have h3 := HSL.out l hlt
   have hx := HXOR.out l hl
   have h16 := HLT.out l hl
   have hgt : (1 : Int) < (P l : Int) := by omega
   have hsi : ((sib (D l) : Nat) : Int) < (P l : Int) := by omega
   have hC16 := HNL.out l (sib (D l))
   have hpt := HPT.out l
   obtain ⟨C, hC⟩ : ∃ C, ND l (sib (D l)) = C := ⟨_, rfl⟩
   rw [hC] at hr hC16 hpt
   obtain ⟨s, hs⟩ : ∃ s, sib (D l) = s := ⟨_, rfl⟩
   rw [hs] at hr hsi hx
   have hxb := bits_xor1 (D l) h16
   rw [hx] at hxb
   have HR := Lib.hid hr
   have HC16 := Lib.hid hC16
   have HPTL := Lib.hid hpt
   have HLT1 := Lib.hid hlt
   have HDL := Lib.hid h16
   have HXI : (Tryz.prog.info? 41).map (·.size) = some (bvals C).length := by rw [bvals_len, hC16]; kernel_rfl
   have hdq : IntKind.i64.wrap ((D l : Int).tdiv 2) = (D (l + 1) : Int) := by
    rw [IntWalk.i64_quo _ _ (by omega), HDS.out l]
    omega
   have HDQ := Lib.hid hdq
   have hbl : (bvals C).length = 16 := by rw [bvals_len, HC16.out]
   clear hr hC16 hpt hC hs h1 h2 h3 hlt hx h16 hdq
   go_upto_region 4 with (first | (refine wpList_load_mid rfl 41 (.tmp 13) rfl g (o + s * 16) rfl (bvals C) _ HR.out Tryz.underlying41 rfl HXI ?_) | (at_builtin; go_loud (refine append_shorts rfl (.tmp 9) (.tmp 15) rfl w.heap.size _ _ _ rfl (HO.out.alloc _) ⟨wr.heap.size, 0, none⟩ 1 1 C rfl (by rw [HC16.out]) (row_bvals (fill_shortL C HC16.out wr)) (by have := HH.out; omega) (by have h1 := HB.out.1.size; rw [World.size_alloc]; omega) ?_); go_loud (intro v' w5 hown5 hgrow5); go_loud (have HO5 := Lib.hid hown5); go_loud (have HG5 := Lib.hid hgrow5); go_loud (clear hown5 hgrow5)))
   have hne : ∀ j, Value.ownBlock u5 = some j → w.heap.size ≤ j := fun j hj => (own_geS HO.out hj).1
   have h9 := HB.out.1.size
   have hsz5 := HG5.out.size
   rw [World.size_alloc] at hsz5
   have hb5 : Below w.heap.size w w5 := (HB.out.1.alloc HB.out.1.size _).grown HG5.out (by rw [World.size_alloc]; omega) (fun j hj => hne j hj)
   have hs5 : Shorts (some ⟨g, o, none⟩) (lvl seed l (P l)) w5 := shorts_grown (HS.out.on (below_new _ _)) HG5.out (fun g' o' e => HB.out.2 g' o' e)
   have ho5 : w5.ownsRow w.heap.size 41 16 v' (l + 1) (bvals (PT (l + 1)).flatten) := by
    rw [HPTL.out, bvals_app]
    exact HO5.out
   have hlt1 := HLT1.out
   have HB5 := Lib.hid hb5
   have HS5 := Lib.hid hs5
   have HO6 := Lib.hid ho5
   clear hne h9 hsz5 hb5 hs5 ho5 HO5 HG5 HR HS HO HB hlt1
   go_wp2_with fail
   refine (AB.out l HLT1.out _ _ w5 HB5.out HS5.out).mono ?_
   rintro e w6 ⟨rfl, hs6, hb6⟩
   have HS6 := Lib.hid hs6
   have HO7 := Lib.hid (own_onS HO6.out hb6)
   have HB6 := Lib.hid (chain HB5.out hb6)
   have hne6 : ∀ j, Value.ownBlock v' = some j → j < w5.heap.size := fun j hj => (own_geS HO6.out hj).2
   have HN6 := Lib.hid hne6
   clear hs6 hb6 hne6
   go_wp2_with fail
   refine ⟨⟨l + 1, some ⟨w5.heap.size, 0, none⟩, P (l + 1), by have := HLT1.out; omega, rfl, ?_, HS6, HO7, Lib.hid ⟨HB6.out, fun g' o' e e2 => ?_⟩⟩, ?_⟩
   ·
    have h1 : wrap64 ((D l : Int) / 2) = (D (l + 1) : Int) := by
     have h2 := HDS.out l
     have h3 := HDL.out
     unfold wrap64
     omega
    rw [h1]
   ·
    have h1 := HN6.out _ e2
    injection e with e1
    injection e1 with e3
    omega
   ·
    have hps := HPS.out l HLT1.out
    have hpp := HPP.out (l + 1)
    show P (l + 1) < P l
    omega
  ·
   have hll : l = h := by omega
   subst hll
   have hph := HPH.out
   have hgt : ¬ (1 : Int) < (P l : Int) := by omega
   have hlen : (PT l).length = l := HPL.out l
   have ho2 : wr.ownsRow w.heap.size 41 16 u5 (PT l).length (bvals (PT l).flatten) := by rw [hlen]; exact HO.out
   have hge2 : ∀ j, Value.ownBlock u5 = some j → w.heap.size ≤ j := fun j hj => (own_geS HO.out hj).1
   obtain ⟨A', c', rfl, _, hA', hsh'⟩ := shorts_own HPMM.out ho2
   have HGE2 : RowKit.Hid (∀ g o, A' = some ⟨g, o, none⟩ → w.heap.size ≤ g) := Lib.hid (fun g o e => hge2 g (by rw [e]; rfl))
   rw [hlen]
   have HSF := Lib.hid hsh'
   have HAF := Lib.hid hA'
   clear hph hlen ho2 hsh' hA' hge2 HO
   go_wp2_with fail
   go_ret
   exact ⟨A', c', rfl, HAF.out, HGE2.out, HSF.out, HB.out.1⟩
end Go.Proofs.YtcgffkkfeimifaaGreatDoor
namespace Go.Proofs.YtcgffkkfeimifaaGreatDoor
open Go.RowKit Sha Ots
set_option linter.unusedVariables false
set_option linter.unusedSimpArgs false
theorem results_twoS {fn : Func} {p q : Tmp} {ty : TypeId} (h : fn.results = #[.cell p ty, .tmp q]) (tmps : Array Value) (w : World) (g : Nat) (t : TypeId) (cs : Array Value) (fr : Nat × Nat) (u : Value) {fs}
  (hp : tmps.getD p undef = .pointer (some ⟨g, 0, none⟩)) (hq : tmps.getD q undef = u) (hg : w.heap[g]? = some (.cells cs t fr))
  (hu : Tryz.prog.underlying ty = some (.struct fs)) (hi : (Tryz.prog.info? ty).map (·.size) = some cs.size) :
  (results fn tmps).run Tryz.prog w = .ok (.tuple #[.agg cs, u]) w := by
 have hp' : tmps[p]?.getD undef = .pointer (some ⟨g, 0, none⟩) := by simpa using hp
 have hq' : tmps[q]?.getD undef = u := by simpa using hq
 simp [results, h, hp', hq', asAddr, run_loadVar_row w g t ty cs fr _ hg hu rfl hi]
def chkV (h n : Int) (cl pl : Nat) : Int :=
 if 0 ≤ h ∧ h ≤ 4 then (if (0 ≤ n ∧ n < ((2 ^ h.toNat : Nat) : Int)) ∧ cl = 35 ∧ (pl : Int) = h then 0 else 12) else 2
theorem isHeight_yes (h : Nat) (hh : h ≤ 4) (w : World) : Calls Tryz.prog 37 #[.int .i64 (h : Int)] w fun e w' => e = .returned (.bool true) ∧ Below w.heap.size w w' := by
 have h1 := isHeight_any (h : Int) w
 rw [decide_eq_true (by omega)] at h1
 exact h1
theorem isHeight_no (h : Int) (hh : ¬ (0 ≤ h ∧ h ≤ 4)) (w : World) : Calls Tryz.prog 37 #[.int .i64 h] w fun e w' => e = .returned (.bool false) ∧ Below w.heap.size w w' := by
 have h1 := isHeight_any h w
 rw [decide_eq_false hh] at h1
 exact h1
theorem isIndex_yes (n h : Nat) (hh : h ≤ 4) (hn : n < 2 ^ h) (w : World) : Calls Tryz.prog 69 #[.int .i64 (n : Int), .int .i64 (h : Int)] w fun e w' => e = .returned (.bool true) ∧ Below w.heap.size w w' := by
 have h1 := isIndex_any (n : Int) h hh w
 rw [decide_eq_true ⟨by omega, by exact_mod_cast hn⟩] at h1
 exact h1
theorem isIndex_no (n : Int) (h : Nat) (hh : h ≤ 4) (hn : ¬ (0 ≤ n ∧ n < ((2 ^ h : Nat) : Int))) (w : World) : Calls Tryz.prog 69 #[.int .i64 n, .int .i64 (h : Int)] w fun e w' => e = .returned (.bool false) ∧ Below w.heap.size w w' := by
 have h1 := isIndex_any n h hh w
 rw [decide_eq_false hn] at h1
 exact h1
set_option maxRecDepth 100000 in
set_option maxHeartbeats 1000000 in
theorem check_any (h n : Int) (CA PA : Option Addr) (cl cc pl pc : Nat) (w : World) :
  Calls Tryz.prog 65 #[.int .i64 h, .agg #[.int .i64 n, .slice CA cl cc, .slice PA pl pc]] w fun e w' => e = .returned (.int .i64 (chkV h n cl pl)) ∧ Below w.heap.size w w' := by
 have hb0 := below_new w (.cells #[.int .i64 n, .slice CA cl cc, .slice PA pl pc] 30)
 have HB0 := Lib.hid hb0
 clear hb0
 by_cases hh : 0 ≤ h ∧ h ≤ 4
 ·
  obtain ⟨k, rfl⟩ : ∃ k : Nat, h = (k : Int) := ⟨h.toNat, by omega⟩
  have hk : k ≤ 4 := by omega
  have IH := Lib.hid (fun (V : World) => isHeight_yes k hk V)
  by_cases hn : 0 ≤ n ∧ n < ((2 ^ k : Nat) : Int)
  ·
   have II : RowKit.Hid (∀ V : World, Calls Tryz.prog 69 #[.int .i64 n, .int .i64 (k : Int)] V fun e w' => e = .returned (.bool true) ∧ Below V.heap.size V w') := Lib.hid (fun V => by
    obtain ⟨m, rfl⟩ : ∃ m : Nat, n = (m : Int) := ⟨n.toNat, by omega⟩
    exact isIndex_yes m k hk (by omega) V)
   by_cases hc : cl = 35
   ·
    by_cases hp : (pl : Int) = (k : Int)
    ·
     have hv : chkV (k : Int) n cl pl = 0 := by unfold chkV; rw [if_pos hh, if_pos ⟨hn, hc, hp⟩]
     rw [hv]
     have hne1 : (((cl : Nat) : Int) != 35) = false := by simp; omega
     have hne : (((pl : Nat) : Int) != (k : Int)) = false := by simp [hp]
     obtain ⟨ki, hki⟩ : ∃ ki : Int, (k : Int) = ki := ⟨_, rfl⟩
     rw [hki] at IH II hne ⊢
     clear hv hp hh hn hc hki hk
     go_enter Tryz.func65, Tryz.ntmps65
     go_wp2_with fail
     refine (IH.out _).mono ?_
     rintro e w1 ⟨rfl, hb1⟩
     have HB1 := Lib.hid (chain HB0.out hb1)
     have HR1 := Lib.hid ((hb1.block w.heap.size (by simp)).trans (heap_alloc_new _ _))
     clear hb1 HB0
     have hc0 := cell_of_row _ _ 0 _ _ _ HR1.out
     have hc1 := cell_of_row _ _ 1 _ _ _ HR1.out
     have hc2 := cell_of_row _ _ 2 _ _ _ HR1.out
     simp only [List.getElem?_toArray, List.getElem?_cons_zero, List.getElem?_cons_succ] at hc0 hc1 hc2
     have hlt1 : w.heap.size < w1.heap.size := (Array.getElem?_eq_some_iff.1 HR1.out).1
     go_wp2_with fail
     refine (II.out _).mono ?_
     rintro e w2 ⟨rfl, hb2⟩
     have HB2 := Lib.hid (chain HB1.out hb2)
     have hd0 : w2.cell? ⟨w.heap.size, 0, none⟩ = some (.int .i64 n) := by rw [hb2.cell (p := ⟨w.heap.size, 0, none⟩) hlt1]; exact hc0
     have hd1 : w2.cell? ⟨w.heap.size, 1, none⟩ = some (.slice CA cl cc) := by rw [hb2.cell (p := ⟨w.heap.size, 1, none⟩) hlt1]; exact hc1
     have hd2 : w2.cell? ⟨w.heap.size, 2, none⟩ = some (.slice PA pl pc) := by rw [hb2.cell (p := ⟨w.heap.size, 2, none⟩) hlt1]; exact hc2
     clear hc0 hc1 hc2 hb2 HB1 HR1
     go_wp2_with fail
     go_ret
     exact ⟨rfl, HB2.out⟩
    ·
     have hv : chkV (k : Int) n cl pl = 12 := by unfold chkV; rw [if_pos hh, if_neg (fun h => hp h.2.2)]
     rw [hv]
     have hne1 : (((cl : Nat) : Int) != 35) = false := by simp; omega
     have hne : (((pl : Nat) : Int) != (k : Int)) = true := by simp; omega
     obtain ⟨ki, hki⟩ : ∃ ki : Int, (k : Int) = ki := ⟨_, rfl⟩
     rw [hki] at IH II hne ⊢
     clear hv hp hh hn hc hki hk
     go_enter Tryz.func65, Tryz.ntmps65
     go_wp2_with fail
     refine (IH.out _).mono ?_
     rintro e w1 ⟨rfl, hb1⟩
     have HB1 := Lib.hid (chain HB0.out hb1)
     have HR1 := Lib.hid ((hb1.block w.heap.size (by simp)).trans (heap_alloc_new _ _))
     clear hb1 HB0
     have hc0 := cell_of_row _ _ 0 _ _ _ HR1.out
     have hc1 := cell_of_row _ _ 1 _ _ _ HR1.out
     have hc2 := cell_of_row _ _ 2 _ _ _ HR1.out
     simp only [List.getElem?_toArray, List.getElem?_cons_zero, List.getElem?_cons_succ] at hc0 hc1 hc2
     have hlt1 : w.heap.size < w1.heap.size := (Array.getElem?_eq_some_iff.1 HR1.out).1
     go_wp2_with fail
     refine (II.out _).mono ?_
     rintro e w2 ⟨rfl, hb2⟩
     have HB2 := Lib.hid (chain HB1.out hb2)
     have hd0 : w2.cell? ⟨w.heap.size, 0, none⟩ = some (.int .i64 n) := by rw [hb2.cell (p := ⟨w.heap.size, 0, none⟩) hlt1]; exact hc0
     have hd1 : w2.cell? ⟨w.heap.size, 1, none⟩ = some (.slice CA cl cc) := by rw [hb2.cell (p := ⟨w.heap.size, 1, none⟩) hlt1]; exact hc1
     have hd2 : w2.cell? ⟨w.heap.size, 2, none⟩ = some (.slice PA pl pc) := by rw [hb2.cell (p := ⟨w.heap.size, 2, none⟩) hlt1]; exact hc2
     clear hc0 hc1 hc2 hb2 HB1 HR1
     go_wp2_with fail
     go_ret
     exact ⟨rfl, HB2.out⟩
   ·
    have hv : chkV (k : Int) n cl pl = 12 := by unfold chkV; rw [if_pos hh, if_neg (fun h => hc h.2.1)]
    rw [hv]
    have hne1 : (((cl : Nat) : Int) != 35) = true := by simp; omega
    obtain ⟨ki, hki⟩ : ∃ ki : Int, (k : Int) = ki := ⟨_, rfl⟩
    rw [hki] at IH II ⊢
    clear hv hh hn hc hki hk
    go_enter Tryz.func65, Tryz.ntmps65
    go_wp2_with fail
    refine (IH.out _).mono ?_
    rintro e w1 ⟨rfl, hb1⟩
    have HB1 := Lib.hid (chain HB0.out hb1)
    have HR1 := Lib.hid ((hb1.block w.heap.size (by simp)).trans (heap_alloc_new _ _))
    clear hb1 HB0
    have hc0 := cell_of_row _ _ 0 _ _ _ HR1.out
    have hc1 := cell_of_row _ _ 1 _ _ _ HR1.out
    have hc2 := cell_of_row _ _ 2 _ _ _ HR1.out
    simp only [List.getElem?_toArray, List.getElem?_cons_zero, List.getElem?_cons_succ] at hc0 hc1 hc2
    have hlt1 : w.heap.size < w1.heap.size := (Array.getElem?_eq_some_iff.1 HR1.out).1
    go_wp2_with fail
    refine (II.out _).mono ?_
    rintro e w2 ⟨rfl, hb2⟩
    have HB2 := Lib.hid (chain HB1.out hb2)
    have hd0 : w2.cell? ⟨w.heap.size, 0, none⟩ = some (.int .i64 n) := by rw [hb2.cell (p := ⟨w.heap.size, 0, none⟩) hlt1]; exact hc0
    have hd1 : w2.cell? ⟨w.heap.size, 1, none⟩ = some (.slice CA cl cc) := by rw [hb2.cell (p := ⟨w.heap.size, 1, none⟩) hlt1]; exact hc1
    have hd2 : w2.cell? ⟨w.heap.size, 2, none⟩ = some (.slice PA pl pc) := by rw [hb2.cell (p := ⟨w.heap.size, 2, none⟩) hlt1]; exact hc2
    clear hc0 hc1 hc2 hb2 HB1 HR1
    go_wp2_with fail
    go_ret
    exact ⟨rfl, HB2.out⟩
  ·
   have hv : chkV (k : Int) n cl pl = 12 := by unfold chkV; rw [if_pos hh, if_neg (fun h => hn h.1)]
   rw [hv]
   have II := Lib.hid (fun (V : World) => isIndex_no n k hk hn V)
   obtain ⟨ki, hki⟩ : ∃ ki : Int, (k : Int) = ki := ⟨_, rfl⟩
   rw [hki] at IH II ⊢
   clear hv hh hn hki hk
   go_enter Tryz.func65, Tryz.ntmps65
   go_wp2_with fail
   refine (IH.out _).mono ?_
   rintro e w1 ⟨rfl, hb1⟩
   have HB1 := Lib.hid (chain HB0.out hb1)
   have HR1 := Lib.hid ((hb1.block w.heap.size (by simp)).trans (heap_alloc_new _ _))
   clear hb1 HB0
   have hc0 := cell_of_row _ _ 0 _ _ _ HR1.out
   have hc1 := cell_of_row _ _ 1 _ _ _ HR1.out
   have hc2 := cell_of_row _ _ 2 _ _ _ HR1.out
   simp only [List.getElem?_toArray, List.getElem?_cons_zero, List.getElem?_cons_succ] at hc0 hc1 hc2
   have hlt1 : w.heap.size < w1.heap.size := (Array.getElem?_eq_some_iff.1 HR1.out).1
   go_wp2_with fail
   refine (II.out _).mono ?_
   rintro e w2 ⟨rfl, hb2⟩
   have HB2 := Lib.hid (chain HB1.out hb2)
   have hd0 : w2.cell? ⟨w.heap.size, 0, none⟩ = some (.int .i64 n) := by rw [hb2.cell (p := ⟨w.heap.size, 0, none⟩) hlt1]; exact hc0
   have hd1 : w2.cell? ⟨w.heap.size, 1, none⟩ = some (.slice CA cl cc) := by rw [hb2.cell (p := ⟨w.heap.size, 1, none⟩) hlt1]; exact hc1
   have hd2 : w2.cell? ⟨w.heap.size, 2, none⟩ = some (.slice PA pl pc) := by rw [hb2.cell (p := ⟨w.heap.size, 2, none⟩) hlt1]; exact hc2
   clear hc0 hc1 hc2 hb2 HB1 HR1
   go_wp2_with fail
   go_ret
   exact ⟨rfl, HB2.out⟩
 ·
  have hv : chkV h n cl pl = 2 := by unfold chkV; rw [if_neg hh]
  rw [hv]
  have IH := Lib.hid (fun (V : World) => isHeight_no h hh V)
  clear hv hh
  go_enter Tryz.func65, Tryz.ntmps65
  go_wp2_with fail
  refine (IH.out _).mono ?_
  rintro e w1 ⟨rfl, hb1⟩
  have HB1 := Lib.hid (chain HB0.out hb1)
  have HR1 := Lib.hid ((hb1.block w.heap.size (by simp)).trans (heap_alloc_new _ _))
  clear hb1 HB0
  go_wp2_with fail
  go_ret
  exact ⟨rfl, HB1.out⟩
end Go.Proofs.YtcgffkkfeimifaaGreatDoor
namespace Go.Proofs.YtcgffkkfeimifaaGreatDoor
open Go.RowKit Sha Ots
set_option linter.unusedVariables false
set_option linter.unusedSimpArgs false
def pkc (R : List UInt8) (h : Int) : Array Value := (bvals R ++ [Value.int .i64 h]).toArray
theorem pkc_size (R : List UInt8) (h : Int) (hR : R.length = 16) : (pkc R h).size = 17 := by
 unfold pkc
 simp [bvals_len, hR]
theorem sz17 (R : List UInt8) (h : Int) (hR : R.length = 16) : (Tryz.prog.info? 43).map (·.size) = some (pkc R h).size := by rw [pkc_size R h hR]; kernel_rfl
theorem pkc_one (R : List UInt8) (h : Int) : (pkc R h).all (·.oneCell') = true := by
 unfold pkc bvals
 simp [Value.oneCell']
theorem foldset_size : ∀ (l : List Value) (k : Nat) (A : Array Value), ((l.zipIdx k).foldl (fun cs x => cs.setIfInBounds x.snd x.fst) A).size = A.size
 | [], _, _ => rfl
 | v :: r, k, A => by rw [List.zipIdx_cons, List.foldl_cons, foldset_size r (k + 1)]; simp
theorem build17 (R : List UInt8) (hR : R.length = 16) (h : Int) : (List.foldl (fun (cs : Array Value) x => cs.setIfInBounds x.snd x.fst) #[.int .u8 0, .int .u8 0, .int .u8 0, .int .u8 0, .int .u8 0, .int .u8 0, .int .u8 0, .int .u8 0, .int .u8 0, .int .u8 0, .int .u8 0, .int .u8 0, .int .u8 0, .int .u8 0, .int .u8 0, .int .u8 0, .int .i64 0] (bvals R).zipIdx).setIfInBounds 16 (.int .i64 h) = pkc R h := by
 have hl : (bvals R).length = 16 := by rw [bvals_len, hR]
 apply Array.ext_getElem?
 intro j
 rw [Array.getElem?_setIfInBounds, fold_set _ _ _ (by rw [hl]; decide) j]
 have hpk : (pkc R h)[j]? = (bvals R ++ [Value.int .i64 h])[j]? := by unfold pkc; rw [List.getElem?_toArray]
 rw [hpk]
 by_cases h1 : j < 16
 ·
  rw [if_neg (by omega), if_pos (by rw [hl]; omega), List.getElem?_append_left (by rw [hl]; omega), Nat.sub_zero]
 ·
  by_cases h2 : 16 = j
  ·
   subst h2
   have hz : (List.foldl (fun (cs : Array Value) x => cs.setIfInBounds x.snd x.fst) #[.int .u8 0, .int .u8 0, .int .u8 0, .int .u8 0, .int .u8 0, .int .u8 0, .int .u8 0, .int .u8 0, .int .u8 0, .int .u8 0, .int .u8 0, .int .u8 0, .int .u8 0, .int .u8 0, .int .u8 0, .int .u8 0, .int .i64 0] (bvals R).zipIdx)[16]? = some (.int .i64 0) := by
    rw [fold_set _ _ _ (by rw [hl]; decide) 16, if_neg (by rw [hl]; omega)]
    rfl
   rw [if_pos rfl, if_pos (Array.getElem?_eq_some_iff.1 hz).1, List.getElem?_append_right (by rw [hl]; omega), hl]
   rfl
  ·
   rw [if_neg h2, if_neg (by rw [hl]; omega), List.getElem?_append_right (by rw [hl]; omega), hl, Array.getElem?_eq_none (by simp; omega), List.getElem?_eq_none (by simp; omega)]
set_option maxRecDepth 100000 in
set_option maxHeartbeats 2000000 in
theorem key7_any (seed : List UInt8) (hs : seed.length = 16) (h : Nat) (hh : h ≤ 4) (w : World) (env : DEnv w) :
  Calls Tryz.prog 12 #[.agg (bcells seed), .int .i64 (h : Int)] w fun e w' => e = .returned (.tuple #[.agg (pkc (node seed h 0) (h : Int)), .int .i64 0]) ∧ Below w.heap.size w w' := by
 have IH := Lib.hid (fun (V : World) => isHeight_yes h hh V)
 obtain ⟨P, hP⟩ : ∃ P : Nat → Nat, ∀ l, P l = 2 ^ (h - l) := ⟨_, fun _ => rfl⟩
 have hP0 : 2 ^ h = P 0 := (hP 0).symm
 have hPs : ∀ l, l < h → P l = 2 * P (l + 1) := fun l hl => by
  rw [hP, hP, show h - l = (h - (l + 1)) + 1 by omega, Nat.pow_succ, Nat.mul_comm]
 have hPh : P h = 1 := by rw [hP, Nat.sub_self, Nat.pow_zero]
 have hPp : ∀ l, 0 < P l := fun l => by rw [hP]; exact Nat.two_pow_pos _
 have hPm : ∀ l, P l ≤ 16 := fun l => by
  rw [hP]
  have := Nat.pow_le_pow_right (show 0 < 2 by decide) (show h - l ≤ 4 by omega)
  simpa using this
 have hab : ∀ (l : Nat) (hl : l < h) (A : Option Addr) (c : Nat) (V : World) (hb : Below w.heap.size w V) (hs : Shorts A (lvl seed l (P l)) V), Calls Tryz.prog 39 #[.slice A (P l) c] V fun e w' => e = .returned (.slice (some ⟨V.heap.size, 0, none⟩) (P (l + 1)) (P (l + 1))) ∧ Shorts (some ⟨V.heap.size, 0, none⟩) (lvl seed (l + 1) (P (l + 1))) w' ∧ Below V.heap.size V w' := fun l hl A c V hb hs => by
  have hp := hPs l hl
  have h16 := hPm l
  rw [hp] at hs h16 ⊢
  have h := above_any (lvl seed l (2 * P (l + 1))) A c (P (l + 1)) (lvl_length _ _ _) (hPp _) (by omega) V hs (env.on hb)
  rw [prs_lvl] at h
  exact h
 have hke : ∀ V : World, Below w.heap.size w V → Calls Tryz.prog 38 #[.agg (bcells seed), .int .i64 (h : Int)] V fun e w' => e = .returned (.slice (some ⟨V.heap.size + 1, 0, none⟩) (P 0) (P 0)) ∧ Shorts (some ⟨V.heap.size + 1, 0, none⟩) (lvl seed 0 (P 0)) w' ∧ Below V.heap.size V w' := fun V hb => by
  have h1 := keys_any seed hs h hh V (env.on hb)
  rw [hP0] at h1
  exact h1
 have hR16 : (node seed h 0).length = 16 := node_len _ _ _
 have hfin : ∀ (A : Option Addr) (V : World), Shorts A (lvl seed h (P h)) V → ∃ g o, A = some ⟨g, o, none⟩ ∧ V.rangeAt g (o + 0 * 16) (bvals (node seed h 0)) := fun A V hs => by
  rw [hPh] at hs
  obtain ⟨g, o, e, hr⟩ := hs.atS 0 (by rw [lvl_length]; decide)
  rw [lvl_at _ _ _ _ (by decide)] at hr
  exact ⟨g, o, e, hr⟩
 obtain ⟨R, hR⟩ : ∃ R, node seed h 0 = R := ⟨_, rfl⟩
 rw [hR] at hR16 hfin ⊢
 have hz16 : (List.replicate 16 (0 : UInt8)).length = 16 := rfl
 have AB := Lib.hid hab
 have KE := Lib.hid hke
 have HFIN := Lib.hid hfin
 have HPH := Lib.hid hPh
 have HSZ0 := Lib.hid (sz16 seed hs)
 have hr17 : (Tryz.prog.info? 43).map (·.size) = some (pkc R (h : Int)).size := sz17 R _ hR16
 have hp17 := pkc_size R (h : Int) hR16
 have hone := pkc_one R (h : Int)
 have HR16 := Lib.hid hR16
 have HXI : (Tryz.prog.info? 41).map (·.size) = some (bvals R).length := by rw [bvals_len, hR16]; kernel_rfl
 have hbl : (bvals R).length = 16 := by rw [bvals_len, hR16]
 obtain ⟨hI, hHI⟩ : ∃ hI : Int, (h : Int) = hI := ⟨_, rfl⟩
 rw [hHI] at IH KE hr17 hp17 hone ⊢
 have HHI := Lib.hid hHI
 have HH := Lib.hid hh
 have HS17 := Lib.hid hr17
 have HSO : RowKit.Hid ((17 : Nat) = (pkc R hI).size) := Lib.hid hp17.symm
 have HO := Lib.hid hone
 clear hab hke hfin hPh hR hR16 hr17 hp17 hone hHI hP0 hP hPs hPp hPm env hs hh hz16
 go_enter Tryz.func12, Tryz.ntmps12
 go_wp2_with fail
 refine (IH.out _).mono ?_
 rintro e w1 ⟨rfl, hb1⟩
 have HR0 := Lib.hid ((hb1.block w.heap.size (by simp; omega)).trans (heap_alloc2_old _ _ _))
 have HR1 := Lib.hid ((hb1.block (w.heap.size + 1) (by simp)).trans (heap_alloc2_new _ _ _))
 have HB1 := Lib.hid (chain ((below_new w _).trans ((below_new _ _).mono (by simp))) hb1)
 clear hb1
 go_wp2_with (refine wpList_load_row rfl 41 (.tmp 2) rfl w.heap.size rfl 41 (bcells seed) (0, 0) _ HR0.out Tryz.underlying41 rfl HSZ0.out ?_)
 refine (KE.out _ HB1.out).mono ?_
 rintro e w2 ⟨rfl, hs2, hb2⟩
 have HR2 := Lib.hid ((hb2.block _ (Array.getElem?_eq_some_iff.1 HR1.out).1).trans HR1.out)
 have HB2 := Lib.hid (chain HB1.out hb2)
 have HS2 := Lib.hid hs2
 clear hb2 hs2 HB1 HR1 HR0
 go_wp2_with fail
 have HP0 := Lib.hid (show 0 < h + 1 by omega)
 go_loopw [6, 15] (fun lv ix wr => ∃ (l : Nat) (A : Option Addr) (c : Nat), l ≤ h ∧ lv = .slice A (P l) c ∧ ix = .int .i64 (l : Int) ∧ RowKit.Hid (Shorts A (lvl seed l (P l)) wr) ∧ RowKit.Hid (Below w.heap.size w wr) ∧ RowKit.Hid (wr.heap[w.heap.size + 1]? = some (.cells #[.int .u8 0, .int .u8 0, .int .u8 0, .int .u8 0, .int .u8 0, .int .u8 0, .int .u8 0, .int .u8 0, .int .u8 0, .int .u8 0, .int .u8 0, .int .u8 0, .int .u8 0, .int .u8 0, .int .u8 0, .int .u8 0, .int .i64 0] 43 (0, 0)))) (fun _ ix _ => h - (intOf ix).toNat)
 case atStart => exact ⟨0, _, _, by omega, rfl, rfl, HS2, HB2, HR2⟩
 case round =>
  clear HS2 HB2 HR2
  obtain ⟨l, B, d, hl, rfl, rfl, HS, HB, HR⟩ := hrel
  by_cases hlt : l < h
  ·
   have hli : (l : Int) < hI := by rw [← HHI.out]; omega
   have HLT := Lib.hid hlt
   clear hlt
   go_wp2_with fail
   refine (AB.out l HLT.out B d wr HB.out HS.out).mono ?_
   rintro e w3 ⟨rfl, hs3, hb3⟩
   have HR3 := Lib.hid ((hb3.block _ (Array.getElem?_eq_some_iff.1 HR.out).1).trans HR.out)
   have HB3 := Lib.hid (chain HB.out hb3)
   have HS3 := Lib.hid hs3
   have h4 := HH.out
   have h5 := HLT.out
   clear hb3 hs3 HR HB HS
   go_wp2_with fail
   exact ⟨⟨l + 1, _, _, by omega, rfl, by go_num, HS3, HB3, HR3⟩, by simp [intOf]; omega⟩
  ·
   have hll : l = h := by omega
   subst hll
   have hge : ¬ (l : Int) < hI := by rw [← HHI.out]; omega
   obtain ⟨g, o, rfl, hr⟩ := HFIN.out B wr HS.out
   have HRG := Lib.hid hr
   have hph := HPH.out
   have hfs := foldset_size (bvals R) 0 #[.int .u8 0, .int .u8 0, .int .u8 0, .int .u8 0, .int .u8 0, .int .u8 0, .int .u8 0, .int .u8 0, .int .u8 0, .int .u8 0, .int .u8 0, .int .u8 0, .int .u8 0, .int .u8 0, .int .u8 0, .int .u8 0, .int .i64 0]
   clear hr hlt HS
   go_wp2_with (first | (refine wpList_load_mid rfl 41 (.tmp 21) rfl g (o + 0 * 16) rfl (bvals R) _ HRG.out Tryz.underlying41 rfl HXI ?_) | (refine wpList_store_row rfl 43 (.tmp 4) (.tmp 24) rfl (w.heap.size + 1) (pkc R hI) rfl (congrArg Value.agg (build17 R HR16.out hI)) 43 _ HR.out HS17.out HSO.out HO.out ?_))
   refine bodyPost_ret (v := .tuple #[.agg (pkc R hI), .int .i64 0]) (results_twoS rfl _ _ (w.heap.size + 1) 43 _ (0, 0) _ rfl rfl (setRow_heap _ _ _ _ _ _ HR.out) Tryz.underlying43 HS17.out) rfl ⟨rfl, ?_⟩
   exact below_row HB.out (by omega) _
end Go.Proofs.YtcgffkkfeimifaaGreatDoor
namespace Go.Proofs.YtcgffkkfeimifaaGreatDoor
open Go.RowKit Sha Ots
set_option linter.unusedVariables false
set_option linter.unusedSimpArgs false
theorem sz3 (n : Int) (A B : Value) : (Tryz.prog.info? 30).map (·.size) = some (#[.int .i64 n, A, B] : Array Value).size := by
 show _ = some 3
 kernel_rfl
theorem facts3k {w : World} {g : Nat} {x y z : Value} {T : TypeId} (h : w.heap[g]? = some (.cells #[x, y, z] T (0, 0))) : (w.frozen? ⟨g, 0, none⟩ = false ∧ w.frozen? ⟨g, 1, none⟩ = false ∧ w.frozen? ⟨g, 2, none⟩ = false) ∧ w.cell? ⟨g, 0, none⟩ = some x ∧ w.cell? ⟨g, 1, none⟩ = some y ∧ w.cell? ⟨g, 2, none⟩ = some z :=
 ⟨⟨frozen_of_row _ _ _ _ _ h, frozen_of_row _ _ _ _ _ h, frozen_of_row _ _ _ _ _ h⟩, cell_of_row _ _ 0 _ _ _ h, cell_of_row _ _ 1 _ _ _ h, cell_of_row _ _ 2 _ _ _ h⟩
theorem put3 {w : World} {g : Nat} {x y z : Value} {T : TypeId} (h : w.heap[g]? = some (.cells #[x, y, z] T (0, 0))) (a b c : Value) : (((w.setCell ⟨g, 0, none⟩ a).setCell ⟨g, 1, none⟩ b).setCell ⟨g, 2, none⟩ c).heap[g]? = some (.cells #[a, b, c] T (0, 0)) := by
 have h1 := heap_setCell_same w g 0 _ T a h
 have h2 := heap_setCell_same _ g 1 _ T b h1
 have h3 := heap_setCell_same _ g 2 _ T c h2
 exact h3
theorem below_put3 {w0 w : World} {n g : Nat} (h : Below n w0 w) (hn : n ≤ g) (a b c : Value) : Below n w0 (((w.setCell ⟨g, 0, none⟩ a).setCell ⟨g, 1, none⟩ b).setCell ⟨g, 2, none⟩ c) := by
 have e : ((w.setCell ⟨g, 0, none⟩ a).setCell ⟨g, 1, none⟩ b).setCell ⟨g, 2, none⟩ c = w.setCells g 0 [a, b, c] := rfl
 rw [e]
 exact below_setCells _ _ _ h hn
theorem shorts_put3 {w : World} {A : Option Addr} {ls : List (List UInt8)} {g : Nat} (h : Shorts A ls w) (hne : ∀ X o, A = some ⟨X, o, none⟩ → X ≠ g) (a b c : Value) : Shorts A ls (((w.setCell ⟨g, 0, none⟩ a).setCell ⟨g, 1, none⟩ b).setCell ⟨g, 2, none⟩ c) :=
 ⟨fun i l hi => by
  obtain ⟨X, o, e, hr⟩ := h.row i l hi
  refine ⟨X, o, e, ?_⟩
  have e2 : ((w.setCell ⟨g, 0, none⟩ a).setCell ⟨g, 1, none⟩ b).setCell ⟨g, 2, none⟩ c = w.setCells g 0 [a, b, c] := rfl
  rw [e2]
  exact World.rangeAt_setCells_apart hr _ _ _ (.inl (hne X o e)), h.len⟩
set_option maxRecDepth 100000 in
set_option maxHeartbeats 1000000 in
theorem sign7_bad (seed : List UInt8) (h n : Int) (M : Value) (hh : ¬ (0 ≤ h ∧ h ≤ 4 ∧ 0 ≤ n ∧ n < ((2 ^ h.toNat : Nat) : Int))) (w : World) :
  Calls Tryz.prog 40 #[.agg (bcells seed), .int .i64 h, .int .i64 n, M] w fun e w' => e = .returned (.tuple #[.agg #[.int .i64 0, .slice none 0 0, .slice none 0 0], .int .i64 2]) ∧ Below w.heap.size w w' := by
 by_cases hk : 0 ≤ h ∧ h ≤ 4
 ·
  obtain ⟨k, rfl⟩ : ∃ k : Nat, h = (k : Int) := ⟨h.toNat, by omega⟩
  have hk4 : k ≤ 4 := by omega
  have hn : ¬ (0 ≤ n ∧ n < ((2 ^ k : Nat) : Int)) := fun hx => hh ⟨hk.1, hk.2, hx.1, hx.2⟩
  have IH := Lib.hid (fun (V : World) => isHeight_yes k hk4 V)
  have II := Lib.hid (fun (V : World) => isIndex_no n k hk4 hn V)
  obtain ⟨ki, hki⟩ : ∃ ki : Int, (k : Int) = ki := ⟨_, rfl⟩
  rw [hki] at IH II ⊢
  clear hh hk hk4 hn hki
  go_enter Tryz.func40, Tryz.ntmps40
  go_wp2_with fail
  refine (IH.out _).mono ?_
  rintro e w1 ⟨rfl, hb1⟩
  have HR1 := Lib.hid ((hb1.block (w.heap.size + 1) (by simp)).trans (heap_alloc2_new _ _ _))
  have HB1 := Lib.hid (chain ((below_new w _).trans ((below_new _ _).mono (by simp))) hb1)
  clear hb1
  go_wp2_with fail
  refine (II.out _).mono ?_
  rintro e w2 ⟨rfl, hb2⟩
  have HR2 := Lib.hid ((hb2.block _ (Array.getElem?_eq_some_iff.1 HR1.out).1).trans HR1.out)
  have HB2 := Lib.hid (chain HB1.out hb2)
  clear hb2 HR1 HB1
  have hlt2 := (Array.getElem?_eq_some_iff.1 HR2.out).1
  obtain ⟨⟨hf0, hf1, hf2⟩, hc0, hc1, hc2⟩ := facts3k HR2.out
  go_wp2_with fail
  refine bodyPost_ret (v := .tuple #[.agg #[.int .i64 0, .slice none 0 0, .slice none 0 0], .int .i64 2]) (results_twoS rfl _ _ (w.heap.size + 1) 30 _ (0, 0) _ rfl rfl (put3 HR2.out _ _ _) Tryz.underlying30 (sz3 _ _ _)) rfl ⟨rfl, ?_⟩
  exact below_put3 HB2.out (by omega) _ _ _
 ·
  have IH := Lib.hid (fun (V : World) => isHeight_no h hk V)
  clear hh hk
  go_enter Tryz.func40, Tryz.ntmps40
  go_wp2_with fail
  refine (IH.out _).mono ?_
  rintro e w1 ⟨rfl, hb1⟩
  have HR2 := Lib.hid ((hb1.block (w.heap.size + 1) (by simp)).trans (heap_alloc2_new _ _ _))
  have HB2 := Lib.hid (chain ((below_new w _).trans ((below_new _ _).mono (by simp))) hb1)
  clear hb1
  have hlt2 := (Array.getElem?_eq_some_iff.1 HR2.out).1
  obtain ⟨⟨hf0, hf1, hf2⟩, hc0, hc1, hc2⟩ := facts3k HR2.out
  go_wp2_with fail
  refine bodyPost_ret (v := .tuple #[.agg #[.int .i64 0, .slice none 0 0, .slice none 0 0], .int .i64 2]) (results_twoS rfl _ _ (w.heap.size + 1) 30 _ (0, 0) _ rfl rfl (put3 HR2.out _ _ _) Tryz.underlying30 (sz3 _ _ _)) rfl ⟨rfl, ?_⟩
  exact below_put3 HB2.out (by omega) _ _ _
set_option maxRecDepth 100000 in
set_option maxHeartbeats 2000000 in
theorem sign7_any (seed : List UInt8) (hs : seed.length = 16) (h n : Nat) (hh : h ≤ 4) (hn : n < 2 ^ h) (l : List UInt8) (A : Option Addr) (c : Nat) (hl : l.length ≤ 100000) (hc : l.length ≤ c) (hcm : c ≤ maxLen) (w : World) (hsrc : SrcAt A l w) (env : DEnv w) :
  Calls Tryz.prog 40 #[.agg (bcells seed), .int .i64 (h : Int), .int .i64 (n : Int), .slice A l.length c] w fun e w' => ∃ X PA pc, e = .returned (.tuple #[.agg #[.int .i64 (n : Int), .slice (some ⟨X, 0, none⟩) 35 35, .slice PA h pc], .int .i64 0]) ∧ (PA = none → pc = 0) ∧ Shorts (some ⟨X, 0, none⟩) (sgn (msd seed n) l) w' ∧ Shorts PA (pth seed 0 n h) w' ∧ Below w.heap.size w w' := by
 have IH := Lib.hid (fun (V : World) => isHeight_yes h hh V)
 have II := Lib.hid (fun (V : World) => isIndex_yes n h hh hn V)
 have hn16 : n < 16 := by
  have := Nat.pow_le_pow_right (show 0 < 2 by decide) hh
  have h16 : 2 ^ 4 = 16 := rfl
  omega
 have hso := fun (V : World) (hb : Below w.heap.size w V) => seedOf_any seed hs n (by omega) V (env.on hb)
 have hsi := fun (V : World) (hb : Below w.heap.size w V) => sign_any (msd seed n) (msd_len seed n) l A c hl hc hcm V (hsrc.on hb) (env.on hb)
 have hke := fun (V : World) (hb : Below w.heap.size w V) => keys_any seed hs h hh V (env.on hb)
 have hpa := fun (V : World) (A : Option Addr) (c : Nat) (hb : Below w.heap.size w V) (hsh : Shorts A (lvl seed 0 (2 ^ h)) V) => path_any seed A c h n hh hn V hsh (env.on hb)
 obtain ⟨LV, hLV⟩ : ∃ LV, lvl seed 0 (2 ^ h) = LV := ⟨_, rfl⟩
 rw [hLV] at hke hpa
 obtain ⟨p, hp⟩ : ∃ p, 2 ^ h = p := ⟨_, rfl⟩
 rw [hp] at hke hpa
 obtain ⟨PT, hPT⟩ : ∃ PT, pth seed 0 n h = PT := ⟨_, rfl⟩
 rw [hPT] at hpa ⊢
 obtain ⟨SG, hSG⟩ : ∃ SG, sgn (msd seed n) l = SG := ⟨_, rfl⟩
 rw [hSG] at hsi ⊢
 have hm16 := msd_len seed n
 obtain ⟨MS, hMS⟩ : ∃ MS, msd seed n = MS := ⟨_, rfl⟩
 rw [hMS] at hso hsi hm16
 obtain ⟨hI, hHI⟩ : ∃ hI : Int, (h : Int) = hI := ⟨_, rfl⟩
 rw [hHI] at IH II hke ⊢
 obtain ⟨nI, hNI⟩ : ∃ nI : Int, (n : Int) = nI := ⟨_, rfl⟩
 rw [hNI] at II hso hpa ⊢
 obtain ⟨m, hm⟩ : ∃ m, l.length = m := ⟨_, rfl⟩
 rw [hm] at hsi ⊢
 have SO := Lib.hid hso
 have SI := Lib.hid hsi
 have KE := Lib.hid hke
 have PA := Lib.hid hpa
 have HSZ0 := Lib.hid (sz16 seed hs)
 clear hso hsi hke hpa hLV hp hPT hSG hm16 hMS hHI hNI hm hn16 env hs hn hl hc hcm hsrc hh
 go_enter Tryz.func40, Tryz.ntmps40
 go_wp2_with fail
 refine (IH.out _).mono ?_
 rintro e w1 ⟨rfl, hb1⟩
 have HR0 := Lib.hid ((hb1.block w.heap.size (by simp; omega)).trans (heap_alloc2_old _ _ _))
 have HR1 := Lib.hid ((hb1.block (w.heap.size + 1) (by simp)).trans (heap_alloc2_new _ _ _))
 have HB1 := Lib.hid (chain ((below_new w _).trans ((below_new _ _).mono (by simp))) hb1)
 clear hb1
 go_wp2_with fail
 refine (II.out _).mono ?_
 rintro e w2 ⟨rfl, hb2⟩
 have HR02 := Lib.hid ((hb2.block _ (Array.getElem?_eq_some_iff.1 HR0.out).1).trans HR0.out)
 have HR12 := Lib.hid ((hb2.block _ (Array.getElem?_eq_some_iff.1 HR1.out).1).trans HR1.out)
 have HB2 := Lib.hid (chain HB1.out hb2)
 clear hb2 HR0 HR1 HB1
 go_wp2_with (refine wpList_load_row rfl 41 (.tmp 4) rfl w.heap.size rfl 41 (bcells seed) (0, 0) _ HR02.out Tryz.underlying41 rfl HSZ0.out ?_)
 refine (SO.out _ HB2.out).mono ?_
 rintro e w3 ⟨rfl, hb3⟩
 have HR03 := Lib.hid ((hb3.block _ (Array.getElem?_eq_some_iff.1 HR02.out).1).trans HR02.out)
 have HR13 := Lib.hid ((hb3.block _ (Array.getElem?_eq_some_iff.1 HR12.out).1).trans HR12.out)
 have HB3 := Lib.hid (chain HB2.out hb3)
 clear hb3 HR02 HR12 HB2
 go_wp2_with fail
 refine (SI.out _ HB3.out).mono ?_
 rintro e w4 ⟨X, rfl, hX, hsg, hb4⟩
 have HR04 := Lib.hid ((hb4.block _ (Array.getElem?_eq_some_iff.1 HR03.out).1).trans HR03.out)
 have HR14 := Lib.hid ((hb4.block _ (Array.getElem?_eq_some_iff.1 HR13.out).1).trans HR13.out)
 have HB4 := Lib.hid (chain HB3.out hb4)
 have HSG := Lib.hid hsg
 have HXN : RowKit.Hid (w.heap.size + 1 < X) := Lib.hid (Nat.lt_of_lt_of_le (Array.getElem?_eq_some_iff.1 HR13.out).1 hX)
 clear hb4 hX hsg HR03 HR13 HB3
 go_wp2_with (refine wpList_load_row rfl 41 (.tmp 4) rfl w.heap.size rfl 41 (bcells seed) (0, 0) _ HR04.out Tryz.underlying41 rfl HSZ0.out ?_)
 refine (KE.out _ HB4.out).mono ?_
 rintro e w5 ⟨rfl, hlv, hb5⟩
 have HR15 := Lib.hid ((hb5.block _ (Array.getElem?_eq_some_iff.1 HR14.out).1).trans HR14.out)
 have HB5 := Lib.hid (chain HB4.out hb5)
 have HSG5 := Lib.hid (HSG.out.on hb5)
 have HLV := Lib.hid hlv
 clear hb5 hlv HR04 HR14 HB4 HSG
 go_wp2_with fail
 refine (PA.out _ _ _ HB5.out HLV.out).mono ?_
 rintro e w6 ⟨PA', pc, rfl, hpn, hpf, hpt, hb6⟩
 have HPF : RowKit.Hid (∀ g o, PA' = some ⟨g, o, none⟩ → g ≠ w.heap.size + 1) := Lib.hid (fun g o e => by have h1 := hpf g o e; have h2 := (Array.getElem?_eq_some_iff.1 HR15.out).1; omega)
 have HR16 := Lib.hid ((hb6.block _ (Array.getElem?_eq_some_iff.1 HR15.out).1).trans HR15.out)
 have HB6 := Lib.hid (chain HB5.out hb6)
 have HSG6 := Lib.hid (HSG5.out.on hb6)
 have HPT := Lib.hid hpt
 have HPN := Lib.hid hpn
 clear hb6 hpt hpn hpf HR15 HB5 HSG5 HLV
 have hlt6 := (Array.getElem?_eq_some_iff.1 HR16.out).1
 obtain ⟨⟨hf0, hf1, hf2⟩, hc0, hc1, hc2⟩ := facts3k HR16.out
 go_wp2_with fail
 refine bodyPost_ret (v := .tuple #[.agg #[.int .i64 nI, .slice (some ⟨X, 0, none⟩) 35 35, .slice PA' h pc], .int .i64 0]) (results_twoS rfl _ _ (w.heap.size + 1) 30 _ (0, 0) _ rfl rfl (put3 HR16.out _ _ _) Tryz.underlying30 (sz3 _ _ _)) rfl ⟨X, PA', pc, rfl, HPN.out, ?_, ?_, ?_⟩
 ·
  exact shorts_put3 HSG6.out (fun Y o e => by injection e with e1; injection e1 with e2; rw [← e2]; exact Ne.symm (Nat.ne_of_lt HXN.out)) _ _ _
 ·
  exact shorts_put3 HPT.out HPF.out _ _ _
 ·
  exact below_put3 HB6.out (by omega) _ _ _
end Go.Proofs.YtcgffkkfeimifaaGreatDoor
namespace Go.Proofs.YtcgffkkfeimifaaGreatDoor
open Go.RowKit Sha Ots
set_option linter.unusedVariables false
set_option linter.unusedSimpArgs false
structure But2 (a b : Nat) (w w' : World) : Prop where
 os : w'.os = w.os
 tape : w'.tape = w.tape
 output : w'.output = w.output
 size : w.heap.size ≤ w'.heap.size
 oth : ∀ k, k < w.heap.size → k ≠ a → k ≠ b → w'.heap[k]? = w.heap[k]?
theorem But2.below {n a b : Nat} {w0 w w' : World} (h : But2 a b w w') (hb : Below n w0 w) (hn : n ≤ w.heap.size) (ha : n ≤ a) (hb' : n ≤ b) : Below n w0 w' :=
 hb.trans ⟨h.os, h.tape, h.output, h.size, fun k hk => h.oth k (by omega) (by omega) (by omega)⟩
set_option maxRecDepth 100000 in
set_option maxHeartbeats 1000000 in
theorem rootcl_any (x p : List UInt8) (hx : x.length = 16) (hp : p.length = 16) (n : Nat) (hn : n ≤ 1000000) (Bx Bn : Nat) (hne : Bx ≠ Bn) (w : World) (hX : w.heap[Bx]? = some (.cells (bcells x) 41 (0, 0))) (hN : w.heap[Bn]? = some (.cells #[.int .i64 (n : Int)] 3 (0, 0))) (env : DEnv w) :
  Calls Tryz.prog 92 #[.agg (bcells p), .pointer (some ⟨Bn, 0, none⟩), .pointer (some ⟨Bx, 0, none⟩)] w fun e w' => e = .returned (.tuple #[]) ∧ But2 Bx Bn w w' ∧ w'.heap[Bx]? = some (.cells (bcells (stq x n p)) 41 (0, 0)) ∧ w'.heap[Bn]? = some (.cells #[.int .i64 ((n / 2 : Nat) : Int)] 3 (0, 0)) := by
 have hq : wrap64 ((n : Int) / 2) = ((n / 2 : Nat) : Int) := by unfold wrap64; omega
 have HQ := Lib.hid hq
 have hlX := (Array.getElem?_eq_some_iff.1 hX).1
 have hlN := (Array.getElem?_eq_some_iff.1 hN).1
 have hb0 := below_new w (.cells (bcells p) 41)
 have HX0 := Lib.hid ((hb0.block _ hlX).trans hX)
 have HN0 := Lib.hid ((hb0.block _ hlN).trans hN)
 have HB0 := Lib.hid hb0
 have HSZX := Lib.hid (sz16 x hx)
 have HSZP := Lib.hid (sz16 p hp)
 have HNE := Lib.hid hne
 have HLX := Lib.hid hlX
 have HLN := Lib.hid hlN
 by_cases he : n % 2 = 0
 ·
  have hst : stq x n p = jn x p := if_pos he
  rw [hst]
  have hnd := fun (V : World) (hb : Below w.heap.size w V) => node_any x p hx hp V (env.on hb)
  have hF16 : (jn x p).length = 16 := jn_len _ _
  obtain ⟨F, hF⟩ : ∃ F, jn x p = F := ⟨_, rfl⟩
  rw [hF] at hnd hF16 ⊢
  have ND := Lib.hid hnd
  have HSZF := Lib.hid (sz16 F hF16)
  have hso : (bcells x).size = (bcells F).size := by rw [bcells_size, bcells_size, hx, hF16]
  have HSO := Lib.hid hso
  have hi : (n : Int) % 2 = 0 := by omega
  have hN1 := cell_of_row _ _ 0 _ _ _ HN0.out
  have hN2 : (w.alloc (.cells (bcells p) 41)).cell? ⟨Bn, 0, none⟩ = some (.int .i64 (n : Int)) := hN1
  clear hnd hF16 hF hso hst hx hp hn hX hN hb0 env he hq hN1 hne hlX
  go_enter Tryz.func92, Tryz.ntmps92
  go_wp2_with (first | (refine wpList_load_row rfl 41 (.tmp 2) rfl Bx rfl 41 (bcells x) (0, 0) _ HX0.out Tryz.underlying41 rfl HSZX.out ?_) | (refine wpList_load_row rfl 41 (.tmp 3) rfl w.heap.size rfl 41 (bcells p) (0, 0) _ (heap_alloc_new _ _) Tryz.underlying41 rfl HSZP.out ?_))
  refine (ND.out _ HB0.out).mono ?_
  rintro e w2 ⟨rfl, hb2⟩
  have HX2 := Lib.hid ((hb2.block Bx (Array.getElem?_eq_some_iff.1 HX0.out).1).trans HX0.out)
  have HN2 := Lib.hid ((hb2.block Bn (Array.getElem?_eq_some_iff.1 HN0.out).1).trans HN0.out)
  have HB2 := Lib.hid (chain HB0.out hb2)
  have hN3 : (w2.setRow Bx (bcells F)).heap[Bn]? = some (.cells #[.int .i64 (n : Int)] 3 (0, 0)) := (setRow_other _ _ _ _ (Ne.symm HNE.out)).trans HN2.out
  have hc3 : (w2.setRow Bx (bcells F)).cell? ⟨Bn, 0, none⟩ = some (.int .i64 (n : Int)) := cell_of_row _ _ 0 _ _ _ hN3
  have hf3 : (w2.setRow Bx (bcells F)).frozen? ⟨Bn, 0, none⟩ = false := frozen_of_row _ _ _ _ _ hN3
  have HN3 := Lib.hid hN3
  clear hb2 HX0 HN0 HB0 hN3
  go_wp2_with (refine wpList_store_row rfl 41 (.tmp 2) (.tmp 9) rfl Bx (bcells F) rfl rfl 41 _ HX2.out HSZF.out HSO.out (bcells_one _) ?_)
  rw [HQ.out]
  refine bodyPost_end (v := .tuple #[]) (results_none rfl _ _ _) rfl ⟨rfl, ⟨?_, ?_, ?_, ?_, fun k hk h1 h2 => ?_⟩, ?_, ?_⟩
  ·
   exact HB2.out.os
  ·
   exact HB2.out.tape
  ·
   exact HB2.out.output
  ·
   have := HB2.out.size
   simpa [World.setCell] using this
  ·
   rw [Below.heap_setCell _ _ _ _ h2, setRow_other _ _ _ _ h1]
   exact HB2.out.block _ hk
  ·
   rw [Below.heap_setCell _ _ _ _ HNE.out]
   exact setRow_heap _ _ _ _ _ _ HX2.out
  ·
   exact heap_setCell_same _ _ _ _ _ _ HN3.out
 ·
  have hst : stq x n p = jn p x := if_neg he
  rw [hst]
  have hnd := fun (V : World) (hb : Below w.heap.size w V) => node_any p x hp hx V (env.on hb)
  have hF16 : (jn p x).length = 16 := jn_len _ _
  obtain ⟨F, hF⟩ : ∃ F, jn p x = F := ⟨_, rfl⟩
  rw [hF] at hnd hF16 ⊢
  have ND := Lib.hid hnd
  have HSZF := Lib.hid (sz16 F hF16)
  have hso : (bcells x).size = (bcells F).size := by rw [bcells_size, bcells_size, hx, hF16]
  have HSO := Lib.hid hso
  have hi : (n : Int) % 2 = 1 := by omega
  have hN1 := cell_of_row _ _ 0 _ _ _ HN0.out
  have hN2 : (w.alloc (.cells (bcells p) 41)).cell? ⟨Bn, 0, none⟩ = some (.int .i64 (n : Int)) := hN1
  clear hnd hF16 hF hso hst hx hp hn hX hN hb0 env he hq hN1 hne hlX
  go_enter Tryz.func92, Tryz.ntmps92
  go_wp2_with (first | (refine wpList_load_row rfl 41 (.tmp 2) rfl Bx rfl 41 (bcells x) (0, 0) _ HX0.out Tryz.underlying41 rfl HSZX.out ?_) | (refine wpList_load_row rfl 41 (.tmp 3) rfl w.heap.size rfl 41 (bcells p) (0, 0) _ (heap_alloc_new _ _) Tryz.underlying41 rfl HSZP.out ?_))
  refine (ND.out _ HB0.out).mono ?_
  rintro e w2 ⟨rfl, hb2⟩
  have HX2 := Lib.hid ((hb2.block Bx (Array.getElem?_eq_some_iff.1 HX0.out).1).trans HX0.out)
  have HN2 := Lib.hid ((hb2.block Bn (Array.getElem?_eq_some_iff.1 HN0.out).1).trans HN0.out)
  have HB2 := Lib.hid (chain HB0.out hb2)
  have hN3 : (w2.setRow Bx (bcells F)).heap[Bn]? = some (.cells #[.int .i64 (n : Int)] 3 (0, 0)) := (setRow_other _ _ _ _ (Ne.symm HNE.out)).trans HN2.out
  have hc3 : (w2.setRow Bx (bcells F)).cell? ⟨Bn, 0, none⟩ = some (.int .i64 (n : Int)) := cell_of_row _ _ 0 _ _ _ hN3
  have hf3 : (w2.setRow Bx (bcells F)).frozen? ⟨Bn, 0, none⟩ = false := frozen_of_row _ _ _ _ _ hN3
  have HN3 := Lib.hid hN3
  clear hb2 HX0 HN0 HB0 hN3
  go_wp2_with (refine wpList_store_row rfl 41 (.tmp 2) (.tmp 12) rfl Bx (bcells F) rfl rfl 41 _ HX2.out HSZF.out HSO.out (bcells_one _) ?_)
  rw [HQ.out]
  refine bodyPost_end (v := .tuple #[]) (results_none rfl _ _ _) rfl ⟨rfl, ⟨?_, ?_, ?_, ?_, fun k hk h1 h2 => ?_⟩, ?_, ?_⟩
  ·
   exact HB2.out.os
  ·
   exact HB2.out.tape
  ·
   exact HB2.out.output
  ·
   have := HB2.out.size
   simpa [World.setCell] using this
  ·
   rw [Below.heap_setCell _ _ _ _ h2, setRow_other _ _ _ _ h1]
   exact HB2.out.block _ hk
  ·
   rw [Below.heap_setCell _ _ _ _ HNE.out]
   exact setRow_heap _ _ _ _ _ _ HX2.out
  ·
   exact heap_setCell_same _ _ _ _ _ _ HN3.out
end Go.Proofs.YtcgffkkfeimifaaGreatDoor
namespace Go.Proofs.YtcgffkkfeimifaaGreatDoor
open Go.RowKit Sha Ots
set_option linter.unusedVariables false
set_option linter.unusedSimpArgs false
set_option maxRecDepth 100000 in
set_option maxHeartbeats 1000000 in
theorem root_bad (h n : Int) (M : Value) (CA PA : Option Addr) (cl cc pl pc : Nat) (hne : chkV h n cl pl ≠ 0) (w : World) :
  Calls Tryz.prog 51 #[.int .i64 h, M, .agg #[.int .i64 n, .slice CA cl cc, .slice PA pl pc]] w fun e w' => e = .returned (.tuple #[.agg (bcells (List.replicate 16 0)), .int .i64 (chkV h n cl pl)]) ∧ Below w.heap.size w w' := by
 have CK := Lib.hid (fun (V : World) => check_any h n CA PA cl cc pl pc V)
 obtain ⟨e7, he7⟩ : ∃ e7, chkV h n cl pl = e7 := ⟨_, rfl⟩
 rw [he7] at CK hne ⊢
 have hnb : (e7 != 0) = true := by simp [hne]
 have hz16 : (List.replicate 16 (0 : UInt8)).length = 16 := rfl
 obtain ⟨R, hR⟩ : ∃ R, List.replicate 16 (0 : UInt8) = R := ⟨_, rfl⟩
 rw [hR] at hz16 ⊢
 have HSZ := Lib.hid (sz16 R hz16)
 have hso : (16 : Nat) = (bcells R).size := by rw [bcells_size, hz16]
 have HSO := Lib.hid hso
 have HR := Lib.hid hR
 clear he7 hne hz16 hR hso
 go_enter Tryz.func51, Tryz.ntmps51
 go_wp2_with fail
 refine (CK.out _).mono ?_
 rintro e w1 ⟨rfl, hb1⟩
 have HR1 := Lib.hid ((hb1.block (w.heap.size + 1) (by simp)).trans (heap_alloc2_new _ _ _))
 have HB1 := Lib.hid (chain ((below_new w _).trans ((below_new _ _).mono (by simp))) hb1)
 clear hb1
 go_wp2_with (refine wpList_store_row rfl 41 (.tmp 6) (.tmp 20) rfl (w.heap.size + 1) (bcells R) rfl (by rw [← HR.out]; rfl) 41 _ HR1.out HSZ.out HSO.out (bcells_one _) ?_)
 refine bodyPost_ret (v := .tuple #[.agg (bcells R), .int .i64 e7]) (results_two rfl _ _ (w.heap.size + 1) 41 _ (0, 0) _ _ _ rfl rfl (setRow_heap _ _ _ _ _ _ HR1.out) Tryz.underlying41 HSZ.out) rfl ⟨rfl, ?_⟩
 exact below_row HB1.out (by omega) _
structure RL (w : World) (Bx Bn : Nat) (X : List UInt8) (n : Nat) (V : World) : Prop where
 bl : Below w.heap.size w V
 ge : w.heap.size + 2 ≤ Bx ∧ w.heap.size + 2 ≤ Bn ∧ Bx ≠ Bn
 rx : V.heap[Bx]? = some (.cells (bcells X) 41 (0, 0))
 rn : V.heap[Bn]? = some (.cells #[.int .i64 (n : Int)] 3 (0, 0))
 ro : V.heap[w.heap.size + 1]? = some (.cells (bcells (List.replicate 16 0)) 41 (0, 0))
theorem RL.on {w V U : World} {Bx Bn n : Nat} {X : List UInt8} (h : RL w Bx Bn X n V) (hb : Below V.heap.size V U) : RL w Bx Bn X n U :=
 ⟨chain h.bl hb, h.ge, (hb.block _ (Array.getElem?_eq_some_iff.1 h.rx).1).trans h.rx, (hb.block _ (Array.getElem?_eq_some_iff.1 h.rn).1).trans h.rn, (hb.block _ (Array.getElem?_eq_some_iff.1 h.ro).1).trans h.ro⟩
theorem RL.step {w V U : World} {Bx Bn n m : Nat} {X Y : List UInt8} (h : RL w Bx Bn X n V) (hb : But2 Bx Bn V U) (hx : U.heap[Bx]? = some (.cells (bcells Y) 41 (0, 0))) (hn : U.heap[Bn]? = some (.cells #[.int .i64 (m : Int)] 3 (0, 0))) : RL w Bx Bn Y m U :=
 ⟨hb.below h.bl h.bl.size (by have := h.ge; omega) (by have := h.ge; omega), h.ge, hx, hn, (hb.oth _ (Array.getElem?_eq_some_iff.1 h.ro).1 (by have := h.ge; omega) (by have := h.ge; omega)).trans h.ro⟩
set_option maxRecDepth 100000 in
set_option maxHeartbeats 2000000 in
theorem root_any (h n : Nat) (hh : h ≤ 4) (hn : n < 2 ^ h) (l : List UInt8) (A : Option Addr) (c : Nat) (hl : l.length ≤ 100000) (hc : l.length ≤ c) (hcm : c ≤ maxLen) (ls ps : List (List UInt8)) (CA PA : Option Addr) (cc pc : Nat) (h35 : ls.length = 35) (hpl : ps.length = h) (w : World) (hsrc : SrcAt A l w) (hsh : Shorts CA ls w) (hps : Shorts PA ps w) (env : DEnv w) :
  Calls Tryz.prog 51 #[.int .i64 (h : Int), .slice A l.length c, .agg #[.int .i64 (n : Int), .slice CA 35 cc, .slice PA h pc]] w fun e w' => e = .returned (.tuple #[.agg (bcells (fol (key l ls) n ps)), .int .i64 0]) ∧ Below w.heap.size w w' := by
 have hck0 : chkV (h : Int) (n : Int) 35 h = 0 := by
  unfold chkV
  rw [if_pos (by omega), if_pos ⟨⟨by omega, by rw [Int.toNat_natCast]; exact_mod_cast hn⟩, rfl, rfl⟩]
 have hck : ∀ V : World, Calls Tryz.prog 65 #[.int .i64 (h : Int), .agg #[.int .i64 (n : Int), .slice CA 35 cc, .slice PA h pc]] V fun e w' => e = .returned (.int .i64 0) ∧ Below V.heap.size V w' := fun V => by
  have h1 := check_any (h : Int) (n : Int) CA PA 35 cc h pc V
  rw [hck0] at h1
  exact h1
 have hre : ∀ V : World, Below w.heap.size w V → Calls Tryz.prog 91 #[.slice A l.length c, .slice CA 35 cc] V fun e w' => e = .returned (.tuple #[.agg (bcells (key l ls)), .int .i64 0]) ∧ Below V.heap.size V w' := fun V hb => by
  have h1 := recover_any l A c hl hc hcm ls CA cc h35 V (hsrc.on hb) (hsh.on hb) (env.on hb)
  rw [h35] at h1
  exact h1
 have hn16 : n < 16 := by
  have := Nat.pow_le_pow_right (show 0 < 2 by decide) hh
  have h16 : 2 ^ 4 = 16 := rfl
  omega
 -- what the walk over the path has come to
 obtain ⟨x0, hx0⟩ : ∃ x0, key l ls = x0 := ⟨_, rfl⟩
 have hx16 : x0.length = 16 := by rw [← hx0]; exact key_len _ _
 rw [hx0] at hre ⊢
 obtain ⟨T, hT⟩ : ∃ T : Nat → List UInt8, ∀ k, T k = fol x0 n (ps.take k) := ⟨_, fun _ => rfl⟩
 obtain ⟨D, hD⟩ : ∃ D : Nat → Nat, ∀ k, D k = n / 2 ^ k := ⟨_, fun _ => rfl⟩
 have hT0 : T 0 = x0 := by rw [hT]; rfl
 have hD0 : D 0 = n := by rw [hD, Nat.pow_zero, Nat.div_one]
 have hTl : ∀ k, (T k).length = 16 := fun k => by rw [hT]; exact fol_len x0 hx16 _ _
 have hDl : ∀ k, D k ≤ 1000000 := fun k => by rw [hD]; have := Nat.div_le_self n (2 ^ k); omega
 have hTe : T h = fol x0 n ps := by rw [hT, ← hpl, List.take_length]
 have hcl : ∀ k, k < h → ∀ p, ps.getD k [] = p → p.length = 16 → ∀ (Bx Bn : Nat) (V : World), RL w Bx Bn (T k) (D k) V → Calls Tryz.prog 92 #[.agg (bcells p), .pointer (some ⟨Bn, 0, none⟩), .pointer (some ⟨Bx, 0, none⟩)] V fun e w' => e = .returned (.tuple #[]) ∧ RL w Bx Bn (T (k + 1)) (D (k + 1)) w' := fun k hk p hp hp16 Bx Bn V hrl => by
  have h1 := rootcl_any (T k) p (hTl k) hp16 (D k) (hDl k) Bx Bn hrl.ge.2.2 V hrl.rx hrl.rn (env.on hrl.bl)
  have e1 : stq (T k) (D k) p = T (k + 1) := by rw [hT, hT, hD, fol_take x0 ps n k (by omega), hp]
  have e2 : D k / 2 = D (k + 1) := by rw [hD, hD, Nat.pow_succ, Nat.div_div_eq_div_mul]
  rw [e1, e2] at h1
  exact h1.mono fun e w' ⟨he, hb, hx, hn⟩ => ⟨he, hrl.step hb hx hn⟩
 have hpa : ∀ k, k < h → ∃ g o p, PA = some ⟨g, o, none⟩ ∧ ps.getD k [] = p ∧ p.length = 16 ∧ w.rangeAt g (o + k * 16) (bvals p) := fun k hk => by
  obtain ⟨g, o, e, hr⟩ := hps.atS k (by omega)
  exact ⟨g, o, _, e, rfl, getD_len16 hps.len k (by omega), hr⟩
 rw [← hTe]
 have HTL := Lib.hid hTl
 have CK := Lib.hid hck
 have RE := Lib.hid hre
 have CL := Lib.hid hcl
 have HPA := Lib.hid hpa
 have HT0 := Lib.hid hT0
 have HD0 := Lib.hid hD0
 have HX16 := Lib.hid hx16
 have HH := Lib.hid hh
 have HSZ := Lib.hid (sz16 x0 hx16)
 have hso : (16 : Nat) = (bcells x0).size := by rw [bcells_size, hx16]
 have HSO := Lib.hid hso
 obtain ⟨m, hm⟩ : ∃ m, l.length = m := ⟨_, rfl⟩
 rw [hm] at RE ⊢
 clear hck0 hck hre hn16 hx0 hx16 hT hD hT0 hD0 hTl hDl hTe hcl hpa hso hm hl hc hsrc hsh hps env hn h35 hpl hh hcm
 go_enter Tryz.func51, Tryz.ntmps51
 go_wp2_with fail
 refine (CK.out _).mono ?_
 rintro e w1 ⟨rfl, hb1⟩
 have HR0 := Lib.hid ((hb1.block w.heap.size (by simp; omega)).trans (heap_alloc2_old _ _ _))
 have HR1 := Lib.hid ((hb1.block (w.heap.size + 1) (by simp)).trans (heap_alloc2_new _ _ _))
 have HB1 := Lib.hid (chain ((below_new w _).trans ((below_new _ _).mono (by simp))) hb1)
 have hlt1 := (Array.getElem?_eq_some_iff.1 HR0.out).1
 obtain ⟨_, hc0, hc1, hc2⟩ := facts3k HR0.out
 clear hb1
 go_wp2_with fail
 refine (RE.out _ HB1.out).mono ?_
 rintro e w2 ⟨rfl, hb2⟩
 have HR02 := Lib.hid ((hb2.block _ (Array.getElem?_eq_some_iff.1 HR0.out).1).trans HR0.out)
 have HR12 := Lib.hid ((hb2.block _ (Array.getElem?_eq_some_iff.1 HR1.out).1).trans HR1.out)
 have HB2 := Lib.hid (chain HB1.out hb2)
 clear hb2 hc0 hc1 hc2 hlt1 HR0 HR1 HB1
 go_upto_region 7 with (refine wpList_store_row rfl 41 (.tmp 9) (.tmp 27) rfl w2.heap.size (bcells x0) rfl rfl 41 _ (heap_alloc_new _ _) HSZ.out HSO.out (bcells_one _) ?_)
 rw [World.setRow_alloc_new]
 generalize hV : World.alloc w2 _ = V
 have hbV : Below w2.heap.size w2 V := by rw [← hV]; exact below_new _ _
 have hrx : V.heap[w2.heap.size]? = some (.cells (bcells x0) 41 (0, 0)) := by rw [← hV]; exact heap_alloc_new _ _
 have hzV : V.heap.size = w2.heap.size + 1 := by rw [← hV]; simp
 have HR0V := Lib.hid ((hbV.block _ (Array.getElem?_eq_some_iff.1 HR02.out).1).trans HR02.out)
 have HR1V := Lib.hid ((hbV.block _ (Array.getElem?_eq_some_iff.1 HR12.out).1).trans HR12.out)
 have hg2 : w.heap.size + 2 ≤ w2.heap.size := (Array.getElem?_eq_some_iff.1 HR12.out).1
 have HBV := Lib.hid (chain HB2.out hbV)
 have HRX := Lib.hid hrx
 have HZV := Lib.hid hzV
 have HG2 := Lib.hid hg2
 obtain ⟨_, hc0, hc1, hc2⟩ := facts3k HR0V.out
 have hlt0 := (Array.getElem?_eq_some_iff.1 HR0V.out).1
 clear hV hbV hrx hzV hg2 HR02 HR12 HB2
 go_upto_region 8 with fail
 generalize hU : World.alloc V _ = U
 have hbU : Below V.heap.size V U := by rw [← hU]; exact below_new _ _
 have hrl : RL w w2.heap.size V.heap.size x0 n U := by
  have h1 := HZV.out
  have h2 := HG2.out
  exact ⟨chain HBV.out hbU, by omega, (hbU.block _ (Array.getElem?_eq_some_iff.1 HRX.out).1).trans HRX.out, by rw [← hU]; exact heap_alloc_new _ _, (hbU.block _ (Array.getElem?_eq_some_iff.1 HR1V.out).1).trans HR1V.out⟩
 have hc2' : U.cell? ⟨w.heap.size, 2, none⟩ = some (.slice PA h pc) := by rw [hbU.cell (p := ⟨w.heap.size, 2, none⟩) hlt0]; exact hc2
 have hltU : w.heap.size < U.heap.size := Nat.lt_of_lt_of_le hlt0 hbU.size
 rw [← HT0.out, ← HD0.out] at hrl
 have HRL := Lib.hid hrl
 obtain ⟨Bx, hBx⟩ : ∃ Bx, w2.heap.size = Bx := ⟨_, rfl⟩
 obtain ⟨Bn, hBn⟩ : ∃ Bn, V.heap.size = Bn := ⟨_, rfl⟩
 rw [hBx, hBn] at HRL
 try simp only [hBx, hBn]
 clear hU hbU hrl hc0 hc1 hc2 hlt0 hBx hBn HR0V HR1V HBV HRX HZV HG2
 go_wp2_with fail
 go_loopw [14, 39] (fun _ ix wr => ∃ k : Nat, k ≤ h ∧ ix = .int .i64 (k : Int) ∧ RowKit.Hid (RL w Bx Bn (T k) (D k) wr)) (fun _ ix _ => h - (intOf ix).toNat)
 case atStart => exact ⟨0, by omega, rfl, HRL⟩
 case round =>
  clear HRL
  obtain ⟨k, hk, rfl, HRL⟩ := hrel
  by_cases hlt : k < h
  ·
   have hki : (k : Int) < (h : Int) := by omega
   obtain ⟨g, o, p, rfl, hp, hp16, hr⟩ := HPA.out k hlt
   have HR := Lib.hid (rangeAt_on hr HRL.out.bl)
   have HXI : (Tryz.prog.info? 41).map (·.size) = some (bvals p).length := by rw [bvals_len, hp16]; kernel_rfl
   have HSZP := Lib.hid (sz16 p hp16)
   have hsop : (16 : Nat) = (bcells p).size := by rw [bcells_size, hp16]
   have HSOP := Lib.hid hsop
   have hcl := CL.out k hlt p hp hp16 Bx Bn
   have CL1 := Lib.hid hcl
   have HLT := Lib.hid hlt
   clear hp hp16 hr hsop hcl hlt
   go_wp2_with (first | (refine wpList_load_mid rfl 41 (.tmp 41) rfl g (o + k * 16) rfl (bvals p) _ HR.out Tryz.underlying41 rfl HXI ?_) | (refine wpList_store_row rfl 41 (.tmp 14) (.tmp 42) rfl wr.heap.size (bcells p) rfl rfl 41 _ (heap_alloc_new _ _) HSZP.out HSOP.out (bcells_one _) ?_) | (refine wpList_load_row rfl 41 (.tmp 14) rfl wr.heap.size rfl 41 (bcells p) (0, 0) _ (by rw [World.setRow_alloc_new]; exact heap_alloc_new _ _) Tryz.underlying41 rfl HSZP.out ?_))
   rw [World.setRow_alloc_new]
   refine (CL1.out _ (HRL.out.on (below_new _ _))).mono ?_
   rintro e w5 ⟨rfl, hrl5⟩
   have HRL5 := Lib.hid hrl5
   have h4 := HH.out
   have h5 := HLT.out
   clear hrl5 HRL HR
   go_wp2_with fail
   exact ⟨⟨k + 1, by omega, by go_num, HRL5⟩, by simp [intOf]; omega⟩
  ·
   have hkk : k = h := by omega
   subst hkk
   have hge : ¬ (k : Int) < (k : Int) := by omega
   have hf16 := HTL.out k
   obtain ⟨F, hF⟩ : ∃ F, T k = F := ⟨_, rfl⟩
   rw [hF] at HRL hf16
   have HF := Lib.hid hF
   have HSZF := Lib.hid (sz16 F hf16)
   have hsof : (bcells (List.replicate 16 (0 : UInt8))).size = (bcells F).size := by rw [bcells_size, bcells_size, hf16]; rfl
   have HSOF := Lib.hid hsof
   clear hf16 hF hsof hlt
   go_wp2_with (first | (refine wpList_load_row rfl 41 (.tmp 9) rfl Bx rfl 41 (bcells F) (0, 0) _ HRL.out.rx Tryz.underlying41 rfl HSZF.out ?_) | (refine wpList_store_row rfl 41 (.tmp 6) (.tmp 47) rfl (w.heap.size + 1) (bcells F) rfl rfl 41 _ HRL.out.ro HSZF.out HSOF.out (bcells_one _) ?_))
   refine bodyPost_ret (v := .tuple #[.agg (bcells F), .int .i64 0]) (results_two rfl _ _ (w.heap.size + 1) 41 _ (0, 0) _ _ _ rfl rfl (setRow_heap _ _ _ _ _ _ HRL.out.ro) Tryz.underlying41 HSZF.out) rfl ⟨by rw [HF.out], ?_⟩
   exact below_row HRL.out.bl (by omega) _
end Go.Proofs.YtcgffkkfeimifaaGreatDoor
namespace Go.Proofs.YtcgffkkfeimifaaGreatDoor
open Go.RowKit Sha Ots
set_option linter.unusedVariables false
set_option linter.unusedSimpArgs false
theorem wpList_load_wantedR {ops : Array Oper} {rest : List Oper} {o : Oper} {a : Act} {w : World} {Q : Exit → Act → World → Prop} (hw : Region.wanted o (yielded ops a.tmps) = true) (ty : TypeId) (x : Operand) (ho : o.op = .load ty x)
  (g : Nat) (hx : a.eval x = .pointer (some ⟨g, 0, none⟩)) (t : TypeId) (cs : Array Value) (fr : Nat × Nat) (n : Nat) (el : TypeId) (hg : w.heap[g]? = some (.cells cs t fr)) (hu : Tryz.prog.underlying ty = some (.array n el)) (hi : (Tryz.prog.info? ty).map (·.size) = some cs.size)
  (h : wpList Tryz.prog ops Q rest (a.put o.dst (.agg cs)) w) : wpList Tryz.prog ops Q (o :: rest) a w :=
 wpList_step fun K hK => by
  simp only [hw, if_true]
  exact wp_load_row ty x ho g hx t cs fr _ hg hu rfl hi (hK _ _ h)
theorem wpList_load_wantedM {ops : Array Oper} {rest : List Oper} {op : Oper} {a : Act} {w : World} {Q : Exit → Act → World → Prop} (hw : Region.wanted op (yielded ops a.tmps) = true) (ty : TypeId) (x : Operand) (ho : op.op = .load ty x)
  (b o : Nat) (hx : a.eval x = .pointer (some ⟨b, o, none⟩)) (cs : List Value) (n : Nat) (el : TypeId) (hc : w.rangeAt b o cs) (hu : Tryz.prog.underlying ty = some (.array n el)) (hi : (Tryz.prog.info? ty).map (·.size) = some cs.length)
  (h : wpList Tryz.prog ops Q rest (a.put op.dst (.agg cs.toArray)) w) : wpList Tryz.prog ops Q (op :: rest) a w :=
 wpList_step fun K hK => by
  simp only [hw, if_true]
  exact wp_load_mid ty x ho b o hx cs _ hc hu rfl hi (hK _ _ h)
theorem rangeAt_pkc {z : World} {X : Nat} {R : List UInt8} {h : Int} {T : TypeId} {fr : Nat × Nat} (hg : z.heap[X]? = some (.cells (pkc R h) T fr)) : z.rangeAt X 0 (bvals R) := fun j v hv => by
 rw [Nat.zero_add, cell_of_row _ _ _ _ _ _ hg]
 unfold pkc
 rw [List.getElem?_toArray, List.getElem?_append_left (List.getElem?_eq_some_iff.1 hv).1]
 exact hv
theorem cell_pkc {z : World} {X : Nat} {R : List UInt8} {h : Int} {T : TypeId} {fr : Nat × Nat} (hR : R.length = 16) (hg : z.heap[X]? = some (.cells (pkc R h) T fr)) : z.cell? ⟨X, 16, none⟩ = some (.int .i64 h) := by
 rw [cell_of_row _ _ _ _ _ _ hg]
 unfold pkc
 rw [List.getElem?_toArray, List.getElem?_append_right (by rw [bvals_len, hR]; exact Nat.le_refl _), bvals_len, hR]
 rfl
set_option maxRecDepth 100000 in
set_option maxHeartbeats 1000000 in
theorem verify7_of (R X : List UInt8) (hR : R.length = 16) (hX : X.length = 16) (h n e7 : Int) (A : Option Addr) (m c : Nat) (CA PA : Option Addr) (cl cc pl pc : Nat) (w : World)
  (hroot : ∀ V : World, Below w.heap.size w V → Calls Tryz.prog 51 #[.int .i64 h, .slice A m c, .agg #[.int .i64 n, .slice CA cl cc, .slice PA pl pc]] V fun e w' => e = .returned (.tuple #[.agg (bcells X), .int .i64 e7]) ∧ Below V.heap.size V w') :
  Calls Tryz.prog 27 #[.agg (pkc R h), .slice A m c, .agg #[.int .i64 n, .slice CA cl cc, .slice PA pl pc]] w fun e w' => e = .returned (.bool (decide (e7 = 0) && (X == R))) ∧ Below w.heap.size w w' := by
 have RO := Lib.hid hroot
 have HXI : (Tryz.prog.info? 41).map (·.size) = some (bvals R).length := by rw [bvals_len, hR]; kernel_rfl
 have HSZX := Lib.hid (sz16 X hX)
 have hso : (16 : Nat) = (bcells X).size := by rw [bcells_size, hX]
 have HSO := Lib.hid hso
 have hq : ∀ w, (binOp .eql 41 (.agg (bcells X)) (.agg (bvals R).toArray)).run Tryz.prog w = .ok (.bool (X == R)) w := fun w => eql_short X R hX hR w
 have HR16 := Lib.hid hR
 have hrow : ((w.alloc (.cells (pkc R h) 43)).alloc (.cells #[.int .i64 n, .slice CA cl cc, .slice PA pl pc] 30)).heap[w.heap.size]? = some (.cells (pkc R h) 43 (0, 0)) := heap_alloc2_old _ _ _
 have hc16 := cell_pkc hR hrow
 obtain ⟨PK, hPK⟩ : ∃ PK, pkc R h = PK := ⟨_, rfl⟩
 have HPK := Lib.hid hPK
 rw [hPK] at hrow hc16 ⊢
 have HROW := Lib.hid hrow
 obtain ⟨b, hb⟩ : ∃ b, (X == R) = b := ⟨_, rfl⟩
 rw [hb] at hq ⊢
 clear hroot hso hR hX hb hPK hrow
 by_cases he : e7 = 0
 ·
  subst he
  rw [show (decide ((0 : Int) = 0) && b) = b by simp]
  go_enter Tryz.func27, Tryz.ntmps27
  go_wp2_with fail
  refine (RO.out _ ((below_new w _).trans ((below_new _ _).mono (by simp)))).mono ?_
  rintro e w2 ⟨rfl, hb2⟩
  have HR2 := Lib.hid ((hb2.block w.heap.size (by simp; omega)).trans HROW.out)
  have HB2 := Lib.hid (chain ((below_new w _).trans ((below_new _ _).mono (by simp))) hb2)
  clear hb2 hc16
  have hlt2 := (Array.getElem?_eq_some_iff.1 HR2.out).1
  have hrg2 : w2.rangeAt w.heap.size 0 (bvals R) := rangeAt_pkc (by rw [HPK.out]; exact HR2.out)
  have HRG := Lib.hid (rangeAt_on hrg2 (below_new w2 (.cells (bcells X) 41)))
  clear hrg2
  go_upto_region 2 with (refine wpList_store_row rfl 41 (.tmp 7) (.tmp 15) rfl w2.heap.size (bcells X) rfl rfl 41 _ (heap_alloc_new _ _) HSZX.out HSO.out (bcells_one _) ?_)
  rw [World.setRow_alloc_new]
  go_wp2_with (first | (refine wpList_load_wantedR (by rfl) 41 (.tmp 7) rfl w2.heap.size rfl 41 (bcells X) (0, 0) _ _ (heap_alloc_new _ _) Tryz.underlying41 HSZX.out ?_) | (refine wpList_load_wantedM (by rfl) 41 (.tmp 21) rfl w.heap.size 0 rfl (bvals R) _ _ HRG.out Tryz.underlying41 HXI ?_))
  go_ret
  exact ⟨rfl, HB2.out.alloc HB2.out.size _⟩
 ·
  have hd : (e7 == 0) = false := by simp [he]
  rw [show (decide (e7 = 0) && b) = false by simp [he]]
  go_enter Tryz.func27, Tryz.ntmps27
  go_wp2_with fail
  refine (RO.out _ ((below_new w _).trans ((below_new _ _).mono (by simp)))).mono ?_
  rintro e w2 ⟨rfl, hb2⟩
  have HB2 := Lib.hid (chain ((below_new w _).trans ((below_new _ _).mono (by simp))) hb2)
  clear hb2 hc16
  go_wp2_with (refine wpList_store_row rfl 41 (.tmp 7) (.tmp 15) rfl w2.heap.size (bcells X) rfl rfl 41 _ (heap_alloc_new _ _) HSZX.out HSO.out (bcells_one _) ?_)
  go_ret
  exact ⟨rfl, by rw [World.setRow_alloc_new]; exact HB2.out.alloc HB2.out.size _⟩
end Go.Proofs.YtcgffkkfeimifaaGreatDoor
namespace Go.Proofs.YtcgffkkfeimifaaGreatDoor
open Go.RowKit Sha Ots
set_option linter.unusedVariables false
set_option linter.unusedSimpArgs false
end Go.Proofs.YtcgffkkfeimifaaGreatDoor
namespace Go.Proofs.YtcgffkkfeimifaaGreatDoor
open Go.RowKit Sha Ots
set_option linter.unusedVariables false
set_option linter.unusedSimpArgs false
end Go.Proofs.YtcgffkkfeimifaaGreatDoor
