import Derived.Test.YtcgffkkfeimifaaGreatDoorSgD
namespace Go.Proofs.YtcgffkkfeimifaaGreatDoor
namespace Sg
open Go.RowKit Sha
set_option linter.unusedVariables false
set_option linter.unusedSimpArgs false
theorem srB_pair : ∀ (xs : List Int) (a : Int), srB a xs = true → (∀ x ∈ xs, a < x) ∧ xs.Pairwise (· < ·)
 | [], _, _ => ⟨fun x hx => by simp at hx, List.Pairwise.nil⟩
 | x :: r, a, h => by
  rw [srB, Bool.and_eq_true, decide_eq_true_eq] at h
  obtain ⟨h1, h2⟩ := srB_pair r x h.2
  refine ⟨fun y hy => ?_, List.Pairwise.cons h1 h2⟩
  rcases List.mem_cons.1 hy with e | e
  ·
   omega
  ·
   have := h1 y e
   omega
theorem sr_lt {xs : List Int} (h : srB 0 xs = true) {i j : Nat} {x y : Int} (hi : xs[i]? = some x) (hj : xs[j]? = some y) (hl : i < j) : x < y := by
 obtain ⟨h1, rfl⟩ := List.getElem?_eq_some_iff.1 hi
 obtain ⟨h2, rfl⟩ := List.getElem?_eq_some_iff.1 hj
 exact List.pairwise_iff_getElem.1 (srB_pair xs 0 h).2 i j h1 h2 hl
theorem isnan_c (x : Int) (w : World) : Calls Tryz.prog 102 #[.int .u64 x] w fun e w' => e = .returned (.bool false) ∧ Below w.heap.size w w' := by
 go_enter Tryz.func102, Tryz.ntmps102
 go_wp2_with fail
 go_ret
 exact ⟨rfl, Below.refl _ _⟩
theorem isnan_s (x : Int) (w : World) : Calls Tryz.prog 62 #[.int .u64 x] w fun e w' => e = .returned (.bool false) ∧ Below w.heap.size w w' := by
 go_enter Tryz.func62, Tryz.ntmps62
 go_wp2_with fail
 go_ret
 exact ⟨rfl, Below.refl _ _⟩
theorem less_u (x y : Int) (w : World) : Calls Tryz.prog 61 #[.int .u64 x, .int .u64 y] w fun e w' => e = .returned (.bool (decide (x < y))) ∧ Below w.heap.size w w' := by
 go_enter Tryz.func61, Tryz.ntmps61
 go_wp2_with fail
 refine (isnan_c x w).mono ?_
 rintro e w2 ⟨rfl, hb⟩
 have HB := Lib.hid hb
 clear hb
 go_wp2_with fail
 go_ret
 exact ⟨rfl, HB.out⟩
def BsP (R : Bool) (w : World) (e : Ending) (w' : World) : Prop := ∃ k : Int, e = .returned (.tuple #[.int .i64 k, .bool R]) ∧ Below w.heap.size w w'
set_option maxRecDepth 100000 in
set_option maxHeartbeats 4000000 in
theorem bs_any (xs : List Int) (A : Option Addr) (c : Nat) (t : Int) (hl : xs.length ≤ 1000000) (hs : srB 0 xs = true) (w : World) (h1 : Nums A xs w) :
  Calls Tryz.prog 32 #[.slice A xs.length c, .int .u64 t] w (BsP (decide (t ∈ xs)) w) := by
 obtain ⟨n, hn⟩ : ∃ n, xs.length = n := ⟨_, rfl⟩
 have HN := Lib.hid hn
 have H1 := Lib.hid h1
 have HSR := Lib.hid hs
 obtain ⟨R, hR⟩ : ∃ R, decide (t ∈ xs) = R := ⟨_, rfl⟩
 have HR := Lib.hid hR
 rw [hn] at hl
 rw [hR, hn]
 have HZ := Lib.hid (Below.refl w.heap.size w)
 clear hn hR h1 hs
 go_enter Tryz.func32, Tryz.ntmps32
 go_wp2_with fail
 go_loopw [7, 8] (fun iv jv wr => ∃ (i j : Nat), i ≤ j ∧ j ≤ n ∧ iv = .int .i64 (i : Int) ∧ jv = .int .i64 (j : Int) ∧ RowKit.Hid (Below w.heap.size w wr) ∧ RowKit.Hid (∀ (p : Nat) y, p < i → xs[p]? = some y → y < t) ∧ RowKit.Hid (∀ (p : Nat) y, j ≤ p → xs[p]? = some y → t ≤ y)) (fun iv jv _ => (intOf jv).toNat - (intOf iv).toNat)
 case atStart => exact ⟨0, n, by omega, by omega, rfl, rfl, HZ, Lib.hid (fun p y h => by omega), Lib.hid (fun p y h e => by have h2 := (List.getElem?_eq_some_iff.1 e).1; have h3 := HN.out; omega)⟩
 case round =>
  clear HZ
  obtain ⟨i, j, hij, hjn, rfl, rfl, HB, HI, HJ⟩ := hrel
  obtain ⟨V, hV⟩ : ∃ V, V = wr := ⟨_, rfl⟩
  subst hV
  by_cases hlt : i < j
  ·
   have hmi : i ≤ (i + j) / 2 := by omega
   have hmj : (i + j) / 2 < j := by omega
   obtain ⟨x, hx⟩ : ∃ x, xs[(i + j) / 2]? = some x := ⟨_, List.getElem?_eq_getElem (by rw [HN.out]; omega)⟩
   obtain ⟨g1, o1, rfl, r1⟩ := H1.out.row _ x hx
   obtain ⟨_, _, e1, ca⟩ := (Nums.on ⟨fun i x h => H1.out.row i x h⟩ HB.out).row _ x hx
   obtain ⟨rfl, rfl, _⟩ := Addr.mk.inj (Option.some.inj e1)
   have hki : (i : Int) < (j : Int) := by omega
   have HX := Lib.hid hx
   have HL := Lib.hid (fun (z : World) => less_u x t z)
   have HME : RowKit.Hid (((i : Int) + (j : Int)) / 2 = (((i + j) / 2 : Nat) : Int)) := Lib.hid (by omega)
   have HMI := Lib.hid hmi
   have HMJ := Lib.hid hmj
   clear r1 e1 hx hmi
   go_wp2_with fail
   refine (HL.out V).mono ?_
   rintro e w2 ⟨rfl, hb⟩
   have HB2 := Lib.hid (chain HB.out hb)
   clear hb
   by_cases hxt : x < t
   ·
    rw [decide_eq_true hxt]
    have HI2 : RowKit.Hid (∀ (p : Nat) y, p < (i + j) / 2 + 1 → xs[p]? = some y → y < t) := Lib.hid (fun p y hp hy => by
     by_cases e : p = (i + j) / 2
     ·
      subst e
      rw [HX.out] at hy
      obtain rfl := Option.some.inj hy
      exact hxt
     ·
      have := sr_lt HSR.out hy HX.out (by omega)
      omega)
    go_wp2_with fail
    exact ⟨⟨(i + j) / 2 + 1, j, by have := HMJ.out; omega, hjn, by rw [HME.out]; go_num, rfl, HB2, HI2, HJ⟩, by rw [HME.out]; have := HMJ.out; have := HMI.out; simp [intOf]; omega⟩
   ·
    rw [decide_eq_false hxt]
    have HJ2 : RowKit.Hid (∀ (p : Nat) y, (i + j) / 2 ≤ p → xs[p]? = some y → t ≤ y) := Lib.hid (fun p y hp hy => by
     by_cases e : p = (i + j) / 2
     ·
      subst e
      rw [HX.out] at hy
      obtain rfl := Option.some.inj hy
      omega
     ·
      have := sr_lt HSR.out HX.out hy (by omega)
      omega)
    go_wp2_with fail
    exact ⟨⟨i, (i + j) / 2, HMI.out, by have := HMJ.out; omega, rfl, by rw [HME.out], HB2, HI, HJ2⟩, by rw [HME.out]; have := HMJ.out; have := HMI.out; simp [intOf]; omega⟩
  ·
   have hki : ¬ (i : Int) < (j : Int) := by omega
   obtain rfl : i = j := by omega
   by_cases hin : i < n
   ·
    obtain ⟨x, hx⟩ : ∃ x, xs[i]? = some x := ⟨_, List.getElem?_eq_getElem (by rw [HN.out]; omega)⟩
    obtain ⟨g1, o1, rfl, r1⟩ := H1.out.row _ x hx
    obtain ⟨_, _, e1, ca⟩ := (Nums.on ⟨fun i x h => H1.out.row i x h⟩ HB.out).row _ x hx
    obtain ⟨rfl, rfl, _⟩ := Addr.mk.inj (Option.some.inj e1)
    have hkn : (i : Int) < (n : Int) := by omega
    have HX := Lib.hid hx
    clear r1 e1 hx
    by_cases hxt : x = t
    ·
     have i1 : (x == t) = true := by rw [beq_iff_eq]; exact hxt
     have HRT : RowKit.Hid (R = true) := Lib.hid (by rw [← HR.out, decide_eq_true_eq, ← hxt]; exact List.mem_of_getElem? HX.out)
     clear hxt
     go_wp2_with fail
     refine bodyPost_ret (v := .tuple #[.int .i64 (i : Int), .bool true]) (by simp [results, Tryz.results32, go_sem]) rfl ⟨i, by rw [HRT.out], HB.out⟩
    ·
     have i1 : (x == t) = false := by rw [beq_eq_false_iff_ne]; exact hxt
     have HRF : RowKit.Hid (R = false) := Lib.hid (by
      rw [← HR.out, decide_eq_false_iff_not]
      intro hm
      obtain ⟨p, hp⟩ := List.mem_iff_getElem?.1 hm
      by_cases h1 : p < i
      ·
       have := HI.out p t h1 hp
       omega
      ·
       by_cases h2 : p = i
       ·
        subst h2
        rw [HX.out] at hp
        exact hxt (Option.some.inj hp)
       ·
        have h3 := sr_lt HSR.out HX.out hp (by omega)
        have h4 := HJ.out i x (Nat.le_refl _) HX.out
        omega)
     have HNN := Lib.hid (fun (z : World) => isnan_s x z)
     clear hxt
     go_wp2_with fail
     refine (HNN.out V).mono ?_
     rintro e w2 ⟨rfl, hb⟩
     have HB2 := Lib.hid (chain HB.out hb)
     clear hb
     go_wp2_with fail
     refine bodyPost_ret (v := .tuple #[.int .i64 (i : Int), .bool false]) (by simp [results, Tryz.results32, go_sem]) rfl ⟨i, by rw [HRF.out], HB2.out⟩
   ·
    have hkn : ¬ (i : Int) < (n : Int) := by omega
    have HRF : RowKit.Hid (R = false) := Lib.hid (by
     rw [← HR.out, decide_eq_false_iff_not]
     intro hm
     obtain ⟨p, hp⟩ := List.mem_iff_getElem?.1 hm
     have h1 := (List.getElem?_eq_some_iff.1 hp).1
     have h2 := HN.out
     have := HI.out p t (by omega) hp
     omega)
    go_wp2_with fail
    refine bodyPost_ret (v := .tuple #[.int .i64 (i : Int), .bool false]) (by simp [results, Tryz.results32, go_sem]) rfl ⟨i, by rw [HRF.out], HB.out⟩
def rvC (l : Rl) : Int := rcV l.iss l.fr l.tt l.ser l.sg.idx l.sg.cs.length l.sg.ps.length
def rvB (l : Rl) (t : Int) : Bool := decide (rvC l = 0) && decide (t ∈ l.ser)
theorem rv_sr {l : Rl} (h : rvC l = 0) : srB 0 l.ser = true := by
 unfold rvC rcV at h
 split at h
 ·
  omega
 ·
  split at h
  ·
   rename_i h2
   exact h2.2.2.1
  ·
   omega
set_option maxRecDepth 100000 in
set_option maxHeartbeats 4000000 in
theorem revoked_any (l : Rl) (p : Mp) (t : Int) (hz : l.iss.size ≤ maxLen) (w : World) (h1 : RlAt l p w) :
  Calls Tryz.prog 10 #[.agg (rlC l p), .int .u64 t] w fun e w' => e = .returned (.tuple #[.bool (rvB l t), .int .i64 (rvC l)]) ∧ Below w.heap.size w w' := by
 have hsr := @rv_sr l
 have hB : rvB l t = (decide (rvC l = 0) && decide (t ∈ l.ser)) := rfl
 have hC0 := fun (V : World) (hb : Below w.heap.size w V) => revcheck_any l.iss l.num l.fr l.tt p.SA l.ser p.sc l.sg.idx p.CA p.PA l.sg.cs.length p.cc l.sg.ps.length p.pc hz V (h1.ser.on hb)
 have hC : ∀ V, Below w.heap.size w V → Calls Tryz.prog 11 #[.agg (rlC l p)] V fun e w' => e = .returned (.int .i64 (rvC l)) ∧ Below V.heap.size V w' := hC0
 obtain ⟨c, hc⟩ : ∃ c, rvC l = c := ⟨_, rfl⟩
 obtain ⟨R, hR⟩ : ∃ R, rvB l t = R := ⟨_, rfl⟩
 rw [hc] at hsr hB hC
 rw [hR] at hB
 rw [hc, hR]
 clear hc hR hC0
 obtain ⟨iss, num, fr, tt, xs, n, cs, ps⟩ := l
 obtain ⟨SA, sc, CA, cc, PA, pc⟩ := p
 have j1 := h1.ls
 unfold rlC at hC ⊢
 simp only at hsr hB hC j1 ⊢
 have HBS := Lib.hid (fun (hs : c = 0) (V : World) (hb : Below w.heap.size w V) => bs_any xs SA sc t j1 (hsr hs) V (h1.ser.on hb))
 try simp only at HBS
 have HC := Lib.hid hC
 have HB0 := Lib.hid (below_new w (.cells #[.string iss, .int .u64 num, .int .i64 fr, .int .i64 tt, .slice SA xs.length sc, .int .i64 n, .slice CA cs.length cc, .slice PA ps.length pc] 32))
 have HR0 := Lib.hid (heap_alloc_new w (.cells #[.string iss, .int .u64 num, .int .i64 fr, .int .i64 tt, .slice SA xs.length sc, .int .i64 n, .slice CA cs.length cc, .slice PA ps.length pc] 32))
 have HBB := Lib.hid hB
 clear h1 j1 hsr hC hB hz
 go_enter Tryz.func10, Tryz.ntmps10
 go_wp2_with fail
 refine (HC.out _ HB0.out).mono ?_
 rintro e w2 ⟨rfl, hb⟩
 have HB2 := Lib.hid (chain HB0.out hb)
 have HR2 := Lib.hid (row_on HR0.out hb)
 clear hb
 by_cases hcz : c = 0
 ·
  subst hcz
  have HBS2 := Lib.hid (HBS.out rfl)
  have HRR : RowKit.Hid (R = decide (t ∈ xs)) := Lib.hid (by rw [HBB.out]; rfl)
  obtain ⟨v0, a0, a1, a2, a3, a4, a5, a6, a7⟩ := facts8 HR2.out
  go_wp2_with fail
  refine (HBS2.out _ HB2.out).mono ?_
  rintro e w3 ⟨k, rfl, hb⟩
  have HB3 := Lib.hid (chain HB2.out hb)
  clear hb v0 a0 a1 a2 a3 a4 a5 a6 a7
  go_wp2_with fail
  refine bodyPost_ret (v := .tuple #[.bool (decide (t ∈ xs)), .int .i64 0]) (by simp [results, Tryz.results10, go_sem]) rfl ⟨by rw [HRR.out], HB3.out⟩
 ·
  have hcn : (c != 0) = true := by rw [bne_iff_ne]; exact hcz
  have hce : (c == 0) = false := by rw [beq_eq_false_iff_ne]; exact hcz
  have HRR : RowKit.Hid (R = false) := Lib.hid (by rw [HBB.out, decide_eq_false hcz]; rfl)
  go_wp2_with fail
  refine bodyPost_ret (v := .tuple #[.bool false, .int .i64 c]) (by simp [results, Tryz.results10, go_sem]) rfl ⟨by rw [HRR.out], HB2.out⟩
end Sg
end Go.Proofs.YtcgffkkfeimifaaGreatDoor
