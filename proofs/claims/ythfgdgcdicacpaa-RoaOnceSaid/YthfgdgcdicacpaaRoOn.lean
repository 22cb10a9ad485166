import Derived.Test.YthfgdgcdicacpaaRoS
namespace Go.Proofs.Ythfgdgcdicacpaa
namespace Ro
open Go.RowKit Sha Oc En Adr
set_option linter.unusedVariables false
set_option linter.unusedSimpArgs false
theorem encode_yes14 {ra : Ra} (hw : Wf ra) (h0 : raC ra.ps = 0) (A : Option Addr) (c : Nat) (V : World) (hp : Aps A ra.ps V) :
  Calls Try.prog 9 #[.agg #[.int .u32 ra.sy, .slice A ra.ps.length c]] V (fun e w' => ∃ A' c', e = .returned (.tuple #[.slice A' (enc (raV ra)).length c', .int .i64 0]) ∧ (enc (raV ra)).length ≤ c' ∧ (A' = none → c' = 0) ∧ SrcAt A' (enc (raV ra)) w' ∧ Below V.heap.size V w') := by
 refine (encode_roa ra hw A c (by have := (fit_of hw h0).len; omega) V hp).mono fun e z hz => ?_
 obtain ⟨hb, ⟨h1, v, rfl, hown⟩ | ⟨h1, rfl⟩⟩ := hz
 ·
  obtain ⟨A', c', rfl, h2, h3, h4⟩ := own_src hown
  exact ⟨A', c', rfl, h2, h3, h4, hb⟩
 ·
  exact absurd h0 h1
set_option maxRecDepth 100000 in
set_option maxHeartbeats 4000000 in
theorem lawonce_any (b : List UInt8) (A : Option Addr) (c : Nat) (hc : b.length ≤ c) (hcn : A = none → c = 0) (w : World) (hs : SrcAt A b w) :
  Calls Try.prog 6 #[.slice A b.length c] w fun e w' => e = .returned (.bool true) ∧ Below w.heap.size w w' := by
 have HAL := Lib.hid (fun (V : World) => alive14_any V)
 have HDE := Lib.hid (fun (hl : b.length ≤ 8000) (V : World) (hb : Below w.heap.size w V) => rdecode_any b (by omega) A c hc hcn V (hs.on hb))
 have HEN := Lib.hid (fun (h : (raD b).2 = 0) (V : World) (A' : Option Addr) (c' : Nat) (hp : Aps A' (raD b).1.ps V) => (show Calls Try.prog 9 #[.agg #[.int .u32 (raD b).1.sy, .slice A' (raD b).1.ps.length c']] V (fun e w' => ∃ A' c', e = .returned (.tuple #[.slice A' b.length c', .int .i64 0]) ∧ SrcAt A' b w' ∧ Below V.heap.size V w') from by
  obtain ⟨h1, h2, h3⟩ := raD_of h
  have h9 := encode_yes14 h3 h2 A' c' V hp
  rw [h1] at h9
  exact h9.mono fun e z ⟨a1, a2, a3, _, _, a4, a5⟩ => ⟨a1, a2, a3, a4, a5⟩))
 have HCK := Lib.hid (fun (h : (raD b).2 = 0) (V : World) (A' : Option Addr) (c' : Nat) (hp : Aps A' (raD b).1.ps V) => (show Calls Try.prog 18 #[.agg #[.int .u32 (raD b).1.sy, .slice A' (raD b).1.ps.length c']] V (fun e w' => e = .returned (.int .i64 0) ∧ Below V.heap.size V w') from by
  obtain ⟨h1, h2, h3⟩ := raD_of h
  have h9 := rcheck_any (raD b).1.sy (raD b).1.ps A' c' (by have := (fit_of h3 h2).len; omega) h3.ps V hp
  rw [h2] at h9
  exact h9))
 have HSB := Lib.hid (fun (hl : b.length ≤ 8000) (V : World) (hb : Below w.heap.size w V) (A' : Option Addr) (c' : Nat) (h2 : SrcAt A' b V) => (show Calls Try.prog 13 #[.slice A b.length c, .slice A' b.length c'] V (fun e w' => e = .returned (.bool true) ∧ Below V.heap.size V w') from by
  have h9 := samebytes_any b b A A' c c' (by omega) (by omega) V (hs.on hb) h2
  rw [decide_eq_true rfl] at h9
  exact h9))
 have HER := Lib.hid (raD_err b)
 have HSM := Lib.hid (fun (V : World) (A' : Option Addr) (c' : Nat) (h2 : Aps A' [] V) => (show Calls Try.prog 14 #[.agg #[.int .u32 0, .slice A' 0 c'], .agg #[.int .u32 0, .slice none 0 0]] V (fun e w' => e = .returned (.bool true) ∧ Below V.heap.size V w') from by
  have h9 := same_ref 0 0 [] [] A' none c' 0 (by simp) V h2 (aps_nil _ _)
  exact h9))
 have HS := Lib.hid hs
 unfold DdPost at HDE
 generalize raD b = RD at HDE HEN HCK HER
 obtain ⟨⟨sy, ps⟩, DE⟩ := RD
 dsimp only at HDE HEN HCK HER
 obtain ⟨n, hn⟩ : ∃ n, b.length = n := ⟨_, rfl⟩
 rw [hn] at HDE HEN HSB ⊢
 clear hn hc hcn hs
 go_enter Try.func6, Try.ntmps6
 go_wp2_with fail
 refine (HAL.out w).mono ?_
 rintro e w1 ⟨rfl, hb⟩
 have HB1 := Lib.hid hb
 clear hb
 by_cases h : (8000 : Int) < n
 ·
  go_wp2_with fail
  go_ret
  exact ⟨rfl, HB1.out⟩
 ·
  have hl : n ≤ 8000 := by omega
  have HDE2 := Lib.hid (HDE.out hl w1 HB1.out)
  have HSB2 := Lib.hid (HSB.out hl)
  clear HDE HSB hl
  go_wp2_with fail
  refine HDE2.out.mono ?_
  rintro e w2 ⟨A', c', rfl, hcn', hap, hb⟩
  have HB2 := Lib.hid (chain HB1.out hb)
  have HAP2 := Lib.hid hap
  clear hb hap
  by_cases h0 : DE = 0
  ·
   subst h0
   have HEN2 := Lib.hid (HEN.out rfl)
   have HCK2 := Lib.hid (HCK.out rfl)
   clear HEN HCK HER HSM
   obtain ⟨m, hm⟩ : ∃ n, ps.length = n := ⟨_, rfl⟩
   rw [hm] at HEN2 HCK2
   simp only [hm]
   clear hm
   go_upto_region 5 with (fail)
   generalize hV5 : World.alloc w2 _ = w5
   obtain ⟨M, hM⟩ : ∃ M, w2.heap.size = M := ⟨_, rfl⟩
   have HM5 := Lib.hid (show w5.heap[M]? = some (.cells #[.int .u32 sy, .slice A' m c'] 25 (0, 0)) by rw [← hV5, ← hM]; exact heap_alloc_new _ _)
   have hb45 := (show Below w2.heap.size w2 w5 by rw [← hV5]; exact below_new _ _)
   have HB5 := Lib.hid (chain HB2.out hb45)
   have HAP5 := Lib.hid (HAP2.out.on hb45)
   try simp only [hM]
   clear hV5 hM hb45
   obtain ⟨hlt', d0, d1⟩ := facts2 HM5.out
   go_wp2_with fail
   refine (HEN2.out w5 A' c' HAP5.out).mono ?_
   rintro e w6 ⟨A6, c6, rfl, hsrc, hb⟩
   have HB6 := Lib.hid (chain HB5.out hb)
   have HM6 := Lib.hid (row_on HM5.out hb)
   have HAP6 := Lib.hid (HAP5.out.on hb)
   have HSR6 := Lib.hid hsrc
   clear hb hsrc hlt' d0 d1
   go_wp2_with fail
   refine (HSB2.out w6 HB6.out A6 c6 HSR6.out).mono ?_
   rintro e w7 ⟨rfl, hb⟩
   have HB7 := Lib.hid (chain HB6.out hb)
   have HM7 := Lib.hid (row_on HM6.out hb)
   have HAP7 := Lib.hid (HAP6.out.on hb)
   clear hb
   obtain ⟨hlt', d0, d1⟩ := facts2 HM7.out
   go_wp2_with fail
   refine (HCK2.out w7 A' c' HAP7.out).mono ?_
   rintro e w8 ⟨rfl, hb⟩
   have HB8 := Lib.hid (chain HB7.out hb)
   clear hb
   go_wp2_with fail
   go_ret
   exact ⟨by simp, HB8.out⟩
  ·
   obtain h9 | h9 := HER.out
   ·
    exact absurd h9 h0
   ·
    obtain ⟨h7, rfl⟩ := Prod.mk.inj h9
    obtain ⟨rfl, rfl⟩ := Ra.mk.inj h7
    clear h7 h9 h0 HEN HCK HER
    go_upto_region 5 with (fail)
    generalize hV5 : World.alloc w2 _ = w5
    obtain ⟨M, hM⟩ : ∃ M, w2.heap.size = M := ⟨_, rfl⟩
    have HM5 := Lib.hid (show w5.heap[M]? = some (.cells #[.int .u32 0, .slice A' 0 c'] 25 (0, 0)) by rw [← hV5, ← hM]; exact heap_alloc_new _ _)
    have hb45 := (show Below w2.heap.size w2 w5 by rw [← hV5]; exact below_new _ _)
    have HB5 := Lib.hid (chain HB2.out hb45)
    have HAP5 := Lib.hid (HAP2.out.on hb45)
    try simp only [hM]
    clear hV5 hM hb45
    obtain ⟨hlt', d0, d1⟩ := facts2 HM5.out
    go_wp2_with fail
    refine (HSM.out w5 A' c' HAP5.out).mono ?_
    rintro e w6 ⟨rfl, hb⟩
    have HB6 := Lib.hid (chain HB5.out hb)
    clear hb hlt' d0 d1
    go_wp2_with fail
    go_ret
    exact ⟨by simp, HB6.out⟩
end Ro
end Go.Proofs.Ythfgdgcdicacpaa
