import Derived.Test.YthfgdgcdicacpaaRoB
namespace Go.Proofs.Ythfgdgcdicacpaa
namespace Ro
open Go.RowKit Sha Adr
set_option linter.unusedVariables false
set_option linter.unusedSimpArgs false
theorem facts4 {V : World} {M : Nat} {a b c d : Value} {T : TypeId} (H : V.heap[M]? = some (.cells #[a, b, c, d] T (0, 0))) : M < V.heap.size ∧ V.cell? ⟨M, 0, none⟩ = some a ∧ V.cell? ⟨M, 1, none⟩ = some b ∧ V.cell? ⟨M, 2, none⟩ = some c ∧ V.cell? ⟨M, 3, none⟩ = some d :=
 ⟨(Array.getElem?_eq_some_iff.1 H).1, cell_of_row _ _ _ _ _ _ H, cell_of_row _ _ _ _ _ _ H, cell_of_row _ _ _ _ _ _ H, cell_of_row _ _ _ _ _ _ H⟩
def prA (pf ph pl pn : Int) (x : Ap) : Bool := cov x.f x.h x.l x.n pf ph pl pn && decide (pn ≤ x.m)
def alE (ps : List Ap) (pf ph pl pn : Int) : Int := if raC ps = 0 then chk pf ph pl pn else raC ps
def alV (sy : Int) (ps : List Ap) (pf ph pl pn a : Int) : Bool := if alE ps pf ph pl pn = 0 ∧ a ≠ 0 ∧ a = sy then ps.any (prA pf ph pl pn) else false
set_option maxRecDepth 100000 in
set_option maxHeartbeats 2000000 in
theorem al1_any (f h l n m : Int) (uh : U64 h) (ul : U64 l) (pf ph pl pn : Int) (uph : U64 ph) (upl : U64 pl) (P : Nat) (w : World) (hP : w.heap[P]? = some (.cells #[.int .u8 pf, .int .u64 ph, .int .u64 pl, .int .i64 pn] 44 (0, 0))) :
  Calls Try.prog 32 #[.agg #[.int .u8 f, .int .u64 h, .int .u64 l, .int .i64 n, .int .i64 m], .pointer (some ⟨P, 0, none⟩)] w fun e w' => e = .returned (.bool (prA pf ph pl pn ⟨f, h, l, n, m⟩)) ∧ Below w.heap.size w w' := by
 have HC := Lib.hid (fun (V : World) => cov_any f h l n pf ph pl pn V uh ul uph upl)
 have HB0 := Lib.hid (below_new w (.cells #[.int .u8 f, .int .u64 h, .int .u64 l, .int .i64 n, .int .i64 m] 75))
 have HR0 := Lib.hid (heap_alloc_new w (.cells #[.int .u8 f, .int .u64 h, .int .u64 l, .int .i64 n, .int .i64 m] 75))
 have HP0 := Lib.hid (row_on hP HB0.out)
 obtain ⟨R, hR⟩ : ∃ R, prA pf ph pl pn ⟨f, h, l, n, m⟩ = R := ⟨_, rfl⟩
 rw [hR]
 unfold prA at hR
 dsimp only at hR
 generalize cov f h l n pf ph pl pn = b at HC hR
 clear uh ul uph upl hP
 go_enter Try.func32, Try.ntmps32
 go_upto_region 1 with (fail)
 generalize hV : World.alloc w _ = V at HB0 HR0 HP0 ⊢
 clear hV
 obtain ⟨hlt, c0, c1, c2, c3, c4⟩ := facts5 HR0.out
 obtain ⟨hlt', p0, p1, p2, p3⟩ := facts4 HP0.out
 go_wp2_with fail
 refine (HC.out V).mono ?_
 rintro e w2 ⟨rfl, hb⟩
 have HB2 := Lib.hid (chain HB0.out hb)
 have HR2 := Lib.hid (row_on HR0.out hb)
 have HP2 := Lib.hid (row_on HP0.out hb)
 clear hb c0 c1 c2 c3 c4 p0 p1 p2 p3 hlt hlt'
 cases b with
 | false =>
  have HR := Lib.hid (show R = false from hR.symm)
  clear hR
  go_wp2_with fail
  go_ret
  exact ⟨by rw [HR.out]; rfl, HB2.out⟩
 | true =>
  have HR := Lib.hid (show R = decide (pn ≤ m) from hR.symm)
  clear hR
  obtain ⟨hlt, c0, c1, c2, c3, c4⟩ := facts5 HR2.out
  obtain ⟨hlt', p0, p1, p2, p3⟩ := facts4 HP2.out
  go_wp2_with fail
  go_ret
  exact ⟨by rw [HR.out]; rfl, HB2.out⟩
def IfP (R : Bool) (w : World) (e : Ending) (w' : World) : Prop := ∃ r : Int, e = .returned (.int .i64 r) ∧ (0 ≤ r ↔ R = true) ∧ Below w.heap.size w w'
set_option maxRecDepth 100000 in
set_option maxHeartbeats 2000000 in
theorem index_ap (g9 : FuncId) (lb : Array Value) (pr : Ap → Bool) (ps : List Ap) (A : Option Addr) (c : Nat) (hl : ps.length ≤ 100000) (w : World) (hp : Aps A ps w) (hpr : ∀ x ∈ ps, ∀ z, Below w.heap.size w z → Calls Try.prog g9 (#[.agg #[.int .u8 x.f, .int .u64 x.h, .int .u64 x.l, .int .i64 x.n, .int .i64 x.m]] ++ lb) z fun e w' => e = .returned (.bool (pr x)) ∧ Below z.heap.size z w')
  (heg : ∀ args w, (callFunc g9 args).run Try.prog w = .ok (.enter g9 args) w) :
  Calls Try.prog 64 #[.slice A ps.length c, .func (.func g9) #[] lb] w (IfP (ps.any pr) w) := by
 obtain ⟨n, hn⟩ : ∃ n, ps.length = n := ⟨_, rfl⟩
 have HN := Lib.hid hn
 have HP := Lib.hid hp
 have HPR := Lib.hid hpr
 obtain ⟨R, hR⟩ : ∃ R, ps.any pr = R := ⟨_, rfl⟩
 have HR := Lib.hid hR
 rw [hn] at hl
 rw [hR, hn]
 have HZ := Lib.hid (Below.refl w.heap.size w)
 clear hn hR hp hpr
 go_enter Try.func64, Try.ntmps64
 go_wp2_with fail
 go_loopw [5, 8] (fun _ i wr => ∃ k : Nat, k ≤ n ∧ i = .int .i64 (k : Int) ∧ RowKit.Hid (Below w.heap.size w wr) ∧ RowKit.Hid (R = (ps.drop k).any pr)) (fun _ i _ => n - (intOf i).toNat)
 case atStart => exact ⟨0, by omega, rfl, HZ, Lib.hid (by rw [List.drop_zero]; exact HR.out.symm)⟩
 case round =>
  clear HZ
  obtain ⟨k, hk, rfl, HB, HQ⟩ := hrel
  by_cases hlt : k < n
  ·
   obtain ⟨x, hx⟩ : ∃ x, ps[k]? = some x := ⟨_, List.getElem?_eq_getElem (by rw [HN.out]; exact hlt)⟩
   obtain ⟨g, o, hA, r1⟩ := HP.out.row k x hx
   subst hA
   obtain ⟨c0, c1, c2, c3, c4⟩ := cells5 (rangeAt_on r1 HB.out)
   have hki : (k : Int) < (n : Int) := by omega
   have HCL := Lib.hid (HPR.out x (List.mem_of_getElem? hx) wr HB.out)
   have hq := HQ.out
   rw [drop_at hx, List.any_cons] at hq
   clear r1 hx
   generalize pr x = b at HCL hq
   cases b with
   | true =>
    have HS := Lib.hid (show R = true from hq)
    clear hq
    go_wp2_with (go_at_fn g9; refine HCL.out.mono ?_; rintro e w2 ⟨rfl, hb⟩; have HB2 := Lib.hid (chain HB.out hb); clear hb)
    go_ret
    exact ⟨_, rfl, by rw [HS.out]; simp, HB2.out⟩
   | false =>
    have HS := Lib.hid (show R = (ps.drop (k + 1)).any pr from hq)
    clear hq
    go_wp2_with (go_at_fn g9; refine HCL.out.mono ?_; rintro e w2 ⟨rfl, hb⟩; have HB2 := Lib.hid (chain HB.out hb); clear hb)
    exact ⟨⟨k + 1, by omega, by go_num, HB2, HS⟩, by simp [intOf]; omega⟩
  ·
   have hki : ¬ (k : Int) < (n : Int) := by omega
   have HS := Lib.hid (show R = false by rw [HQ.out, List.drop_of_length_le (by rw [HN.out]; omega)]; rfl)
   go_wp2_with fail
   go_ret
   exact ⟨_, rfl, by rw [HS.out]; decide, HB.out⟩
set_option maxRecDepth 100000 in
set_option maxHeartbeats 2000000 in
theorem contains_ap (g9 : FuncId) (lb : Array Value) (pr : Ap → Bool) (ps : List Ap) (A : Option Addr) (c : Nat) (hl : ps.length ≤ 100000) (w : World) (hp : Aps A ps w) (hpr : ∀ x ∈ ps, ∀ z, Below w.heap.size w z → Calls Try.prog g9 (#[.agg #[.int .u8 x.f, .int .u64 x.h, .int .u64 x.l, .int .i64 x.n, .int .i64 x.m]] ++ lb) z fun e w' => e = .returned (.bool (pr x)) ∧ Below z.heap.size z w')
  (heg : ∀ args w, (callFunc g9 args).run Try.prog w = .ok (.enter g9 args) w) :
  Calls Try.prog 33 #[.slice A ps.length c, .func (.func g9) #[] lb] w fun e w' => e = .returned (.bool (ps.any pr)) ∧ Below w.heap.size w w' := by
 have HI := Lib.hid (index_ap g9 lb pr ps A c hl w hp hpr heg)
 obtain ⟨n, hn⟩ : ∃ n, ps.length = n := ⟨_, rfl⟩
 generalize ps.any pr = R at HI ⊢
 rw [hn] at HI ⊢
 clear hn hl hp hpr
 unfold IfP at HI
 go_enter Try.func33, Try.ntmps33
 go_wp2_with fail
 refine HI.out.mono ?_
 rintro e w2 ⟨r, rfl, hr, hb⟩
 have HB := Lib.hid hb
 have HR := Lib.hid hr
 clear hb hr
 go_wp2_with fail
 go_ret
 refine ⟨?_, HB.out⟩
 have e : decide (0 ≤ r) = R := by
  by_cases h : 0 ≤ r
  ·
   rw [decide_eq_true h, HR.out.1 h]
  ·
   rw [decide_eq_false h]
   cases R
   ·
    rfl
   ·
    exact absurd (HR.out.2 rfl) h
 rw [← e]
 rfl
def AlP (b : Bool) (E : Int) (w : World) (e : Ending) (w' : World) : Prop := e = .returned (.tuple #[.bool b, .int .i64 E]) ∧ Below w.heap.size w w'
set_option maxRecDepth 100000 in
set_option maxHeartbeats 4000000 in
theorem allows_any (sy : Int) (ps : List Ap) (A : Option Addr) (c : Nat) (hl : ps.length ≤ 100000) (hwf : ∀ x ∈ ps, WfE x) (pf ph pl pn : Int) (uph : U64 ph) (upl : U64 pl) (a : Int) (w : World) (hp : Aps A ps w) :
  Calls Try.prog 15 #[.agg #[.int .u32 sy, .slice A ps.length c], .agg #[.int .u8 pf, .int .u64 ph, .int .u64 pl, .int .i64 pn], .int .u32 a] w (AlP (alV sy ps pf ph pl pn a) (alE ps pf ph pl pn) w) := by
 have HC := Lib.hid (fun (V : World) (hb : Below w.heap.size w V) => rcheck_any sy ps A c hl hwf V (hp.on hb))
 have HK := Lib.hid (fun (V : World) => chk_any pf ph pl pn V uph upl)
 have HF := Lib.hid (fun (V : World) (hb : Below w.heap.size w V) (P : Nat) (hP : V.heap[P]? = some (.cells #[.int .u8 pf, .int .u64 ph, .int .u64 pl, .int .i64 pn] 44 (0, 0))) => contains_ap 32 #[.pointer (some ⟨P, 0, none⟩)] (prA pf ph pl pn) ps A c hl V (hp.on hb) (fun x hx z hz => al1_any x.f x.h x.l x.n x.m (hwf x hx).h (hwf x hx).l pf ph pl pn uph upl P z (row_on hP hz)) (fun _ _ => rfl))
 obtain ⟨n, hn⟩ : ∃ n, ps.length = n := ⟨_, rfl⟩
 rw [hn] at HC HF ⊢
 have hv : (raC ps ≠ 0 ∧ alE ps pf ph pl pn = raC ps ∧ alV sy ps pf ph pl pn a = false) ∨ (raC ps = 0 ∧ alE ps pf ph pl pn = chk pf ph pl pn ∧ ((chk pf ph pl pn ≠ 0 ∧ alV sy ps pf ph pl pn a = false) ∨ (chk pf ph pl pn = 0 ∧ alV sy ps pf ph pl pn a = if a ≠ 0 ∧ a = sy then ps.any (prA pf ph pl pn) else false))) := by
  unfold alV alE
  by_cases h1 : raC ps = 0
  ·
   rw [if_pos h1]
   by_cases h2 : chk pf ph pl pn = 0
   ·
    refine .inr ⟨h1, rfl, .inr ⟨h2, ?_⟩⟩
    by_cases h3 : a ≠ 0 ∧ a = sy
    ·
     rw [if_pos ⟨h2, h3⟩, if_pos h3]
    ·
     rw [if_neg (fun h => h3 h.2), if_neg h3]
   ·
    exact .inr ⟨h1, rfl, .inl ⟨h2, if_neg (fun h => h2 h.1)⟩⟩
  ·
   rw [if_neg h1]
   exact .inl ⟨h1, rfl, if_neg (fun h => h1 h.1)⟩
 generalize alV sy ps pf ph pl pn a = RV at hv ⊢
 generalize alE ps pf ph pl pn = RE at hv ⊢
 generalize raC ps = CK at HC hv
 generalize chk pf ph pl pn = CP at HK hv
 generalize ps.any (prA pf ph pl pn) = AN at HF hv
 have HB0 := Lib.hid ((below_new w (.cells #[.int .u32 sy, .slice A n c] 25)).alloc (by simp) (.cells #[.int .u8 pf, .int .u64 ph, .int .u64 pl, .int .i64 pn] 44))
 have HR0 := Lib.hid (heap_alloc2_oldR w (.cells #[.int .u32 sy, .slice A n c] 25) (.cells #[.int .u8 pf, .int .u64 ph, .int .u64 pl, .int .i64 pn] 44))
 have HP0 := Lib.hid (heap_alloc2_newR w (.cells #[.int .u32 sy, .slice A n c] 25) (.cells #[.int .u8 pf, .int .u64 ph, .int .u64 pl, .int .i64 pn] 44))
 have HV := Lib.hid hv
 clear hv hn hl hwf hp uph upl
 unfold AlP
 go_enter Try.func15, Try.ntmps15
 go_upto_region 1 with (fail)
 generalize hV : World.alloc (World.alloc w _) _ = V at HB0 HR0 HP0 ⊢
 clear hV
 obtain ⟨hlt, c0, c1⟩ := facts2 HR0.out
 go_wp2_with fail
 refine (HC.out V HB0.out).mono ?_
 rintro e w2 ⟨rfl, hb⟩
 have HB2 := Lib.hid (chain HB0.out hb)
 have HR2 := Lib.hid (row_on HR0.out hb)
 have HP2 := Lib.hid (row_on HP0.out hb)
 clear hb c0 c1 hlt
 rcases HV.out with ⟨h1, h2, h3⟩ | ⟨h1, h2, h4⟩
 ·
  have hc : (CK != 0) = true := by rw [bne_iff_ne]; exact h1
  have H2 := Lib.hid h2
  have H3 := Lib.hid h3
  clear h1 h2 h3 HV
  go_wp2_with fail
  go_ret2
  exact ⟨by rw [H2.out, H3.out]; rfl, HB2.out⟩
 ·
  subst h1
  obtain ⟨hlt, p0, p1, p2, p3⟩ := facts4 HP2.out
  have H2 := Lib.hid h2
  have H4 := Lib.hid h4
  clear h2 h4 HV
  go_wp2_with fail
  refine (HK.out w2).mono ?_
  rintro e w3 ⟨rfl, hb⟩
  have HB3 := Lib.hid (chain HB2.out hb)
  have HR3 := Lib.hid (row_on HR2.out hb)
  have HP3 := Lib.hid (row_on HP2.out hb)
  clear hb p0 p1 p2 p3 hlt
  rcases H4.out with ⟨h1, h3⟩ | ⟨h1, h3⟩
  ·
   have hc : (CP != 0) = true := by rw [bne_iff_ne]; exact h1
   have H3 := Lib.hid h3
   clear h1 h3 H4
   go_wp2_with fail
   go_ret2
   exact ⟨by rw [H2.out, H3.out]; rfl, HB3.out⟩
  ·
   subst h1
   obtain ⟨hlt, c0, c1⟩ := facts2 HR3.out
   by_cases ha : a = 0
   ·
    rw [if_neg (fun h => h.1 ha)] at h3
    have i1 : (a != 0) = false := by rw [bne_eq_false_iff_eq]; exact ha
    have H3 := Lib.hid h3
    clear h3 H4 ha
    go_wp2_with fail
    go_ret2
    exact ⟨by rw [H2.out, H3.out]; rfl, HB3.out⟩
   ·
    have i1 : (a != 0) = true := by rw [bne_iff_ne]; exact ha
    by_cases hs : a = sy
    ·
     rw [if_pos ⟨ha, hs⟩] at h3
     have i2 : (a == sy) = true := by rw [beq_iff_eq]; exact hs
     have H3 := Lib.hid h3
     have HF3 := Lib.hid (HF.out w3 HB3.out _ HP3.out)
     clear h3 H4 ha hs
     go_wp2_with fail
     refine HF3.out.mono ?_
     rintro e w4 ⟨rfl, hb⟩
     have HB4 := Lib.hid (chain HB3.out hb)
     clear hb c0 c1 hlt
     go_wp2_with fail
     go_ret2
     exact ⟨by rw [H2.out, H3.out]; rfl, HB4.out⟩
    ·
     rw [if_neg (fun h => hs h.2)] at h3
     have i2 : (a == sy) = false := by rw [beq_eq_false_iff_ne]; exact hs
     have H3 := Lib.hid h3
     clear h3 H4 ha hs
     go_wp2_with fail
     go_ret2
     exact ⟨by rw [H2.out, H3.out]; rfl, HB3.out⟩
end Ro
end Go.Proofs.Ythfgdgcdicacpaa
