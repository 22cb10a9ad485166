import Derived.Test.YthfgdgcdicacpaaOcB
import Derived.Laws.Bits64b
import Derived.Laws.IdiomStrings
import Derived.Lib.BufferRead
namespace Go.Proofs.Ythfgdgcdicacpaa
open Go.RowKit Sha Oc
set_option linter.unusedVariables false
set_option linter.unusedSimpArgs false
theorem srcAt_set {w : World} {A : Option Addr} {b : List UInt8} {X : Nat} (h : SrcAt A b w) (hne : ∀ ga oa, A = some ⟨ga, oa, none⟩ → ga ≠ X) (k : Nat) (vs : List Value) : SrcAt A b (w.setCells X k vs) := fun hb => by
 obtain ⟨g, o, e, hc⟩ := h hb
 refine ⟨g, o, e, fun j x hj => ?_⟩
 have hk := heap_setCells_other8 vs k w (hne g o e)
 have h1 := hc j x hj
 simp only [World.cell?, hk] at h1 ⊢
 exact h1
theorem own_sliceO {w : World} {b n : Nat} {v : Value} {xs : List Value} (h : w.ownsRow b 63 3 v n xs) : ∃ A cap, v = .slice A n cap := by
 obtain ⟨h1, ⟨rfl, rfl⟩ | ⟨g, cap, cur, rfl, h3, h4, _⟩⟩ := h
 ·
  exact ⟨none, 0, rfl⟩
 ·
  exact ⟨_, cap, rfl⟩
theorem wp_append_own_at8 {w : World} {o : Oper} {a : Act} {K : Act → World → Prop} {Q : Exit → Act → World → Prop} (s x : Operand)
  (ho : o.op = .call { callee := .builtin .append, args := #[s, x], argTypes := #[61, 61] }) (base : Nat) (v : Value) (n : Nat) (xs : List Value) (hs : a.eval s = v) (hown : w.ownsRow base 63 3 v n xs)
  (ad : Addr) (m c : Nat) (news : List Value) (hx : a.eval x = .slice (some ad) m c) (hl : news.length = m * 3) (hnews : ∀ j u, news[j]? = some u → w.cell? (ad.add j) = some u) (h1 : ∀ u ∈ news, u.oneCell' = true) (h63 : n + m ≤ 1000000) (hbase : base ≤ w.heap.size)
  (h : ∀ v' w', w'.ownsRow base 63 3 v' (n + m) (xs ++ news) → w.grownBy w' v.ownBlock → (v'.ownBlock = v.ownBlock ∨ v'.ownBlock = some w.heap.size) → K (a.put o.dst v') w') : o.wp Try.prog a w K Q := by
 obtain ⟨i0, hi, hz0, hz1, hz2⟩ := info_parts Try.info_oct
 obtain ⟨v', w', hr, h2, h3, _, h4⟩ := run_append_own_at (P := Try.prog) w base 61 o.type 63 i0 (.agg #[.int .u8 0, .slice none 0 0, .slice none 0 0]) 3 56 Try.underlying61 hi hz0 hz1 hz2 rfl (by decide) v n xs hown ad m c news hl hnews h1 (by unfold maxLen; omega) (by omega) hbase
 unfold Oper.wp execOp
 simp only [ho, resolve, invoke, builtin, Sem.run_bind, Sem.run_pure, Result.andThen_ok, List.map_toArray, List.map_cons, List.map_nil, hs, hx, hr]
 exact h v' w' h2 h3 h4
end Go.Proofs.Ythfgdgcdicacpaa
namespace Go.Proofs.Ythfgdgcdicacpaa
open Go.RowKit Sha Oc
set_option linter.unusedVariables false
set_option linter.unusedSimpArgs false
theorem range3o {w : World} {g o : Nat} {a b c : Value} (h0 : w.cell? ⟨g, o, none⟩ = some a) (h1 : w.cell? ⟨g, o + 1, none⟩ = some b) (h2 : w.cell? ⟨g, o + 2, none⟩ = some c) : w.rangeAt g o [a, b, c] := fun j v hj => by
 match j, hj with
 | 0, hj => obtain rfl := Option.some.inj hj; exact h0
 | 1, hj => obtain rfl := Option.some.inj hj; exact h1
 | 2, hj => obtain rfl := Option.some.inj hj; exact h2
theorem range_on8 {g o : Nat} {w V : World} {cs : List Value} (h : w.rangeAt g o cs) (hb : Below w.heap.size w V) : V.rangeAt g o cs := fun j v hv => by
 have h1 := h j v hv
 rw [hb.cell (p := ⟨g, o + j, none⟩) (World.block_lt_of_cell? _ _ h1)]
 exact h1
theorem heap_alloc2_old8 (w : World) (o1 o2 : Obj) : ((w.alloc o1).alloc o2).heap[w.heap.size]? = some o1 := by
 rw [Below.heap_alloc _ _ _ (by simp)]
 exact heap_alloc_new w o1
theorem heap_alloc2_new8 (w : World) (o1 o2 : Obj) : ((w.alloc o1).alloc o2).heap[w.heap.size + 1]? = some o2 := by
 have := heap_alloc_new (w.alloc o1) o2
 simpa using this
end Go.Proofs.Ythfgdgcdicacpaa
namespace Go.Proofs.Ythfgdgcdicacpaa
open Go.RowKit Sha Oc
set_option linter.unusedVariables false
set_option linter.unusedSimpArgs false
theorem cnt_pos (o : Oct) : 1 ≤ cnt o := by
 cases o
 rw [cnt]
 omega
theorem cnts_snoc : ∀ (l : List Oct) (o : Oct), cnts (l ++ [o]) = cnts l + cnt o
 | [], o => by rw [List.nil_append, cnts, cnts, cnts]; omega
 | x :: r, o => by rw [List.cons_append, cnts, cnts_snoc r o, cnts]; omega
end Go.Proofs.Ythfgdgcdicacpaa
namespace Go.Proofs.Ythfgdgcdicacpaa
open Go.RowKit Sha Oc
set_option linter.unusedVariables false
set_option linter.unusedSimpArgs false
def okN (b : List UInt8) : Bool := decide (b.length ≤ 8) && (match b with | [] => true | x :: _ => x != 0)
def numN (b : List UInt8) : Nat := if okN b then vl b else 0
theorem vl_take (b : List UInt8) (k : Nat) (h : k < b.length) : vl (b.take (k + 1)) = 256 * vl (b.take k) + (b.getD k 0).toNat := by
 rw [take_snoc8 b k h, vl_snoc]
theorem vl_bound (b : List UInt8) (k : Nat) (h : k < 8) (hl : k ≤ b.length) : vl (b.take k) < 72057594037927936 := by
 have h1 := vl_lt k (b.take k) (by rw [List.length_take]; omega)
 have h2 : (256 : Nat) ^ k ≤ 256 ^ 7 := Nat.pow_le_pow_right (by decide) (by omega)
 have h3 : (256 : Nat) ^ 7 = 72057594037927936 := by decide
 omega
theorem or_byte (v : Nat) (y : UInt8) (hv : v < 72057594037927936) : bits .or .u64 ((v : Int) * 256) (y.toNat : Int) = ((256 * v + y.toNat : Nat) : Int) := by
 have hy := y.toNat_lt
 rw [show (v : Int) * 256 = ((256 * v : Nat) : Int) by omega, bits_or_u64_nat _ _ (by omega) (by omega)]
 congr 1
 have h := Nat.two_pow_add_eq_or_of_lt (i := 8) (b := y.toNat) (by omega) v
 exact h.symm
set_option maxRecDepth 100000 in
set_option maxHeartbeats 2000000 in
theorem number_any (b : List UInt8) (A : Option Addr) (c : Nat) (hbm : b.length ≤ 140737488355328) (w : World) (hs : SrcAt A b w) :
  Calls Try.prog 96 #[.slice A b.length c] w fun e w' => e = .returned (.tuple #[.int .u64 (numN b : Int), .bool (okN b)]) ∧ w = w' := by
 by_cases h8 : 8 < b.length
 ·
  have e1 : okN b = false := by unfold okN; rw [show decide (b.length ≤ 8) = false by simp; omega]; rfl
  have e2 : numN b = 0 := by unfold numN; rw [e1]; rfl
  rw [e1, e2]
  obtain ⟨n, hn⟩ : ∃ n, b.length = n := ⟨_, rfl⟩
  rw [hn] at h8 hbm ⊢
  have h8i : (8 : Int) < (n : Int) := by omega
  clear e1 e2 hn hs h8
  go_enter Try.func96, Try.ntmps96
  go_wp2_with fail
  go_ret2
  exact ⟨rfl, rfl⟩
 ·
  have h8i : ¬ (8 : Int) < (b.length : Int) := by omega
  have main : ∀ (hok : okN b = true) (hne : b ≠ [] → ∃ g off, A = some ⟨g, off, none⟩ ∧ (∀ j x, b[j]? = some x → w.cell? ⟨g, off + j, none⟩ = some (.int .u8 (x.toNat : Int))) ∧ ((((b.getD 0 0).toNat : Nat) : Int) == 0) = false), Calls Try.prog 96 #[.slice A b.length c] w fun e w' => e = .returned (.tuple #[.int .u64 (numN b : Int), .bool (okN b)]) ∧ w = w' := fun hok hne => by
   have e2 : numN b = vl b := by unfold numN; rw [hok]; rfl
   rw [hok, e2]
   have HNE := Lib.hid hne
   obtain ⟨n, hn⟩ : ∃ n, b.length = n := ⟨_, rfl⟩
   have HN := Lib.hid hn
   rw [hn] at h8 h8i ⊢
   have hn8 : n ≤ 8 := by omega
   have HN8 := Lib.hid hn8
   clear hbm hs hok hne e2 hn h8
   by_cases h0 : n = 0
   ·
    subst h0
    have hb0 : b = [] := List.length_eq_zero_iff.1 HN.out
    have hv : vl b = 0 := by rw [hb0]; rfl
    rw [hv]
    clear hb0 hv hn8 h8i
    go_enter Try.func96, Try.ntmps96
    go_wp2_with fail
    go_loop [4, 6, 23] (fun x _ i => x = .int .u64 0 ∧ i = .int .i64 0) (fun _ _ _ => 0)
    case atStart => exact ⟨rfl, rfl⟩
    case round =>
     obtain ⟨rfl, rfl⟩ := hrel
     go_wp2_with fail
     go_ret2
     exact ⟨rfl, rfl⟩
   ·
    obtain ⟨g, off, rfl, hcell, h00⟩ := HNE.out (fun e => by have := HN.out; rw [e] at this; exact h0 this.symm)
    have hc0 : w.cell? ⟨g, off, none⟩ = some (.int .u8 ((b.getD 0 0).toNat : Int)) := by
     have h1 : b[0]? = some (b.getD 0 0) := by rw [List.getD_eq_getElem?_getD, List.getElem?_eq_getElem (by rw [HN.out]; omega)]; rfl
     exact hcell 0 _ h1
    have HCELL := Lib.hid hcell
    have h0i : (0 : Int) < (n : Int) := by omega
    have HE : RowKit.Hid (vl (b.take n) = vl b) := Lib.hid (by rw [List.take_of_length_le (by rw [HN.out]; exact Nat.le_refl _)])
    have HV0 : RowKit.Hid (vl (b.take 0) = 0) := Lib.hid rfl
    obtain ⟨c0, hc00⟩ : ∃ c0 : Int, ((b.getD 0 0).toNat : Int) = c0 := ⟨_, rfl⟩
    rw [hc00] at hc0 h00
    have hn0 : 0 < n := by omega
    clear hcell hc00
    go_enter Try.func96, Try.ntmps96
    go_wp2_with fail
    clear hc0 h00
    go_loop [4, 6, 23] (fun x _ i => ∃ k : Nat, k ≤ n ∧ i = .int .i64 (k : Int) ∧ x = .int .u64 (vl (b.take k) : Int)) (fun _ _ i => n - (intOf i).toNat)
    case atStart => exact ⟨0, by omega, rfl, by rw [HV0.out]; rfl⟩
    case round =>
     obtain ⟨k, hk, rfl, rfl⟩ := hrel
     by_cases hlt : k < n
     ·
      have hki : (k : Int) < (n : Int) := by omega
      have hck : w.cell? ⟨g, off + k, none⟩ = some (.int .u8 ((b.getD k 0).toNat : Int)) := by
       have h1 : b[k]? = some (b.getD k 0) := by rw [List.getD_eq_getElem?_getD, List.getElem?_eq_getElem (by rw [HN.out]; exact hlt)]; rfl
       exact HCELL.out k _ h1
      have HS := Lib.hid (vl_take b k (by rw [HN.out]; exact hlt))
      have hvb := vl_bound b k (by have := HN8.out; omega) (by rw [HN.out]; omega)
      obtain ⟨v, hv⟩ : ∃ v, vl (b.take k) = v := ⟨_, rfl⟩
      obtain ⟨y, hy⟩ : ∃ y : UInt8, b.getD k 0 = y := ⟨_, rfl⟩
      rw [hv] at hvb ⊢
      rw [hy] at hck
      have hyb := y.toNat_lt
      have HV := Lib.hid hv
      have HY := Lib.hid hy
      clear hv hy
      go_wp2_with fail
      refine ⟨⟨k + 1, by omega, by go_num, ?_⟩, by simp [intOf]; omega⟩
      rw [or_byte v y hvb, HS.out, HV.out, HY.out]
     ·
      have hkk : k = n := by omega
      subst hkk
      have hge : ¬ (k : Int) < (k : Int) := by omega
      rw [HE.out]
      go_wp2_with fail
      go_ret2
      exact ⟨rfl, rfl⟩
  cases hb : b with
  | nil =>
   subst hb
   exact main rfl (fun h => absurd rfl h)
  | cons x r =>
   rw [← hb]
   have hne : b ≠ [] := by rw [hb]; simp
   obtain ⟨g, off, rfl, hcell⟩ := hs hne
   by_cases hx : x = 0
   ·
    have e1 : okN b = false := by unfold okN; rw [hb, hx]; simp
    have e2 : numN b = 0 := by unfold numN; rw [e1]; rfl
    rw [e1, e2]
    have hc0 : w.cell? ⟨g, off, none⟩ = some (.int .u8 0) := by
     have h1 := hcell 0 x (by rw [hb]; rfl)
     rw [hx] at h1
     exact h1
    obtain ⟨n, hn⟩ : ∃ n, b.length = n := ⟨_, rfl⟩
    have hn0 : 0 < n := by rw [← hn, hb]; simp
    rw [hn] at h8 h8i hbm ⊢
    have h0i : (0 : Int) < (n : Int) := by omega
    clear main e1 e2 hb hs hcell hne hx hn h8
    go_enter Try.func96, Try.ntmps96
    go_wp2_with fail
    go_ret2
    exact ⟨rfl, rfl⟩
   ·
    refine main ?_ (fun _ => ⟨g, off, rfl, hcell, ?_⟩)
    ·
     unfold okN
     rw [hb]
     have h1 : ((x :: r).length ≤ 8) := by rw [← hb]; omega
     simp [hx]
     simpa using h1
    ·
     rw [hb]
     show ((((x.toNat) : Nat) : Int) == 0) = false
     have h1 : x.toNat ≠ 0 := fun e => hx (UInt8.toNat_inj.1 e)
     simp
     omega
end Go.Proofs.Ythfgdgcdicacpaa
namespace Go.Proofs.Ythfgdgcdicacpaa
open Go.RowKit Sha Oc
set_option linter.unusedVariables false
set_option linter.unusedSimpArgs false
def rdN (t tg : UInt8) (b : List UInt8) (ll : Nat) (M : Int) : Int × Int := if t = tg ∧ ll = 0 ∧ okN b = true ∧ (numN b : Int) ≤ M then ((numN b : Int), 0) else (0, 12)
theorem numN_lt (b : List UInt8) : numN b < 18446744073709551616 := by
 unfold numN
 by_cases h : okN b = true
 ·
  rw [if_pos h]
  unfold okN at h
  simp at h
  have h1 := vl_lt b.length b rfl
  have h2 : (256 : Nat) ^ b.length ≤ 256 ^ 8 := Nat.pow_le_pow_right (by decide) h.1
  have h3 : (256 : Nat) ^ 8 = 18446744073709551616 := by decide
  omega
 ·
  rw [if_neg h]
  decide
theorem u8_ne (t tg : UInt8) (h : t ≠ tg) : (((t.toNat : Nat) : Int) != ((tg.toNat : Nat) : Int)) = true := by
 have h1 : t.toNat ≠ tg.toNat := fun e => h (UInt8.toNat_inj.1 e)
 simp
 omega
theorem u8_eq (t : UInt8) : (((t.toNat : Nat) : Int) != ((t.toNat : Nat) : Int)) = false := by simp
set_option maxRecDepth 100000 in
set_option maxHeartbeats 4000000 in
theorem readnum_any (t : UInt8) (b : List UInt8) (l : List Oct) (tg : UInt8) (M : Int) (w : World) (x y : Value) (hat : At (fun _ => True) w (.mk t b l) x y) :
  Calls Try.prog 84 #[.agg (cell3 (.mk t b l) x y), .int .u8 (tg.toNat : Int), .int .u64 M] w fun e w' => e = .returned (.tuple #[.int .u64 (rdN t tg b l.length M).1, .int .i64 (rdN t tg b l.length M).2]) ∧ Below w.heap.size w w' := by
 obtain ⟨A, c, B, d, g, off, vb, vl, rfl, rfl, hc, hbm, hcn, hs, hd, hdn, he⟩ := hat.els
 show Calls Try.prog 84 #[.agg #[.int .u8 (t.toNat : Int), .slice A b.length c, .slice B l.length d], .int .u8 (tg.toNat : Int), .int .u64 M] w _
 have hnu := fun (V : World) (hb : Below w.heap.size w V) => number_any b A c hbm V (hs.on hb)
 obtain ⟨r, hr⟩ : ∃ r, rdN t tg b l.length M = r := ⟨_, rfl⟩
 rw [hr]
 unfold rdN at hr
 obtain ⟨n, hn⟩ : ∃ n, b.length = n := ⟨_, rfl⟩
 obtain ⟨ll, hll⟩ : ∃ ll, l.length = ll := ⟨_, rfl⟩
 obtain ⟨N, hN⟩ : ∃ N : Int, (numN b : Int) = N := ⟨_, rfl⟩
 obtain ⟨ok, hok⟩ : ∃ ok, okN b = ok := ⟨_, rfl⟩
 simp only [hN, hok] at hnu hr
 rw [hn] at hnu ⊢
 rw [hll] at hr ⊢
 have NU := Lib.hid hnu
 have hrow := heap_alloc_new w (.cells #[.int .u8 (t.toNat : Int), .slice A n c, .slice B ll d] 63)
 have HROW := Lib.hid hrow
 have HB0 := Lib.hid (below_new w (.cells #[.int .u8 (t.toNat : Int), .slice A n c, .slice B ll d] 63))
 clear hnu hrow hat hs he hc hbm hcn hd hdn hn hll hN hok
 by_cases h1 : t = tg
 ·
  subst h1
  have hne := u8_eq t
  by_cases h2 : ll = 0
  ·
   subst h2
   cases ok with
   | true =>
    by_cases h3 : N ≤ M
    ·
     rw [if_pos ⟨rfl, rfl, rfl, h3⟩] at hr
     subst hr
     have h3d : ¬ M < N := by omega
     clear h3
     go_enter Try.func84, Try.ntmps84
     go_upto_region 1 with (fail)
     generalize hV : World.alloc w _ = V at HROW HB0 ⊢
     clear hV
     have hlt := (Array.getElem?_eq_some_iff.1 HROW.out).1
     obtain ⟨_, hc0, hc1, hc2⟩ := facts3 HROW.out
     go_wp2_with fail
     refine (NU.out _ HB0.out).mono ?_
     rintro e w1 ⟨rfl, rfl⟩
     go_wp2_with fail
     go_ret2
     exact ⟨rfl, HB0.out⟩
    ·
     rw [if_neg (fun h => h3 h.2.2.2)] at hr
     subst hr
     have h3d : M < N := by omega
     clear h3
     go_enter Try.func84, Try.ntmps84
     go_upto_region 1 with (fail)
     generalize hV : World.alloc w _ = V at HROW HB0 ⊢
     clear hV
     have hlt := (Array.getElem?_eq_some_iff.1 HROW.out).1
     obtain ⟨_, hc0, hc1, hc2⟩ := facts3 HROW.out
     go_wp2_with fail
     refine (NU.out _ HB0.out).mono ?_
     rintro e w1 ⟨rfl, rfl⟩
     go_wp2_with fail
     go_ret2
     exact ⟨rfl, HB0.out⟩
   | false =>
    rw [if_neg (fun h => by cases h.2.2.1)] at hr
    subst hr
    go_enter Try.func84, Try.ntmps84
    go_upto_region 1 with (fail)
    generalize hV : World.alloc w _ = V at HROW HB0 ⊢
    clear hV
    have hlt := (Array.getElem?_eq_some_iff.1 HROW.out).1
    obtain ⟨_, hc0, hc1, hc2⟩ := facts3 HROW.out
    go_wp2_with fail
    refine (NU.out _ HB0.out).mono ?_
    rintro e w1 ⟨rfl, rfl⟩
    go_wp2_with fail
    go_ret2
    exact ⟨rfl, HB0.out⟩
  ·
   rw [if_neg (fun h => h2 h.2.1)] at hr
   subst hr
   have h2i : (0 : Int) < (ll : Int) := by omega
   have h2n : 0 < ll := by omega
   clear h2
   go_enter Try.func84, Try.ntmps84
   go_upto_region 1 with (fail)
   generalize hV : World.alloc w _ = V at HROW HB0 ⊢
   clear hV
   have hlt := (Array.getElem?_eq_some_iff.1 HROW.out).1
   obtain ⟨_, hc0, hc1, hc2⟩ := facts3 HROW.out
   go_wp2_with fail
   refine (NU.out _ HB0.out).mono ?_
   rintro e w1 ⟨rfl, rfl⟩
   go_wp2_with fail
   go_ret2
   exact ⟨rfl, HB0.out⟩
 ·
  rw [if_neg (fun h => h1 h.1)] at hr
  subst hr
  have hne := u8_ne t tg h1
  clear h1
  go_enter Try.func84, Try.ntmps84
  go_upto_region 1 with (fail)
  generalize hV : World.alloc w _ = V at HROW HB0 ⊢
  clear hV
  have hlt := (Array.getElem?_eq_some_iff.1 HROW.out).1
  obtain ⟨_, hc0, hc1, hc2⟩ := facts3 HROW.out
  go_wp2_with fail
  refine (NU.out _ HB0.out).mono ?_
  rintro e w1 ⟨rfl, rfl⟩
  go_wp2_with fail
  go_ret2
  exact ⟨rfl, HB0.out⟩
end Go.Proofs.Ythfgdgcdicacpaa
namespace Go.Proofs.Ythfgdgcdicacpaa
open Go.RowKit Sha Oc
set_option linter.unusedVariables false
set_option linter.unusedSimpArgs false
end Go.Proofs.Ythfgdgcdicacpaa
namespace Go.Proofs.Ythfgdgcdicacpaa
open Go.RowKit Sha Oc
set_option linter.unusedVariables false
set_option linter.unusedSimpArgs false
end Go.Proofs.Ythfgdgcdicacpaa
namespace Go.Proofs.Ythfgdgcdicacpaa
open Go.RowKit Sha Oc
set_option linter.unusedVariables false
set_option linter.unusedSimpArgs false
def rdQ (t tg : UInt8) (n ll : Nat) (lo hi : Int) : Bool := decide (t = tg ∧ n = 0 ∧ lo ≤ (ll : Int) ∧ (ll : Int) ≤ hi)
def RsPost (yes : Bool) (l : List Oct) (w : World) (e : Ending) (w' : World) : Prop := ∃ v, e = .returned (.tuple #[v, .int .i64 (if yes then 0 else 12)]) ∧ At (Rw w.heap.size w') w' (.mk 0 [] (if yes then l else [])) (.slice none 0 0) v ∧ Below w.heap.size w w'
theorem nil_list (R : Nat → Prop) (w : World) : At R w (.mk 0 [] []) (.slice none 0 0) (.slice none 0 0) :=
 .mk 0 [] [] none 0 none 0 0 0 (fun _ => undef) (fun _ => undef) (Nat.le_refl _) (by decide) (fun _ => rfl) (fun h => absurd rfl h) (fun _ _ _ h => absurd rfl h) (Nat.le_refl _) (by decide) (fun _ => rfl) (fun h => absurd rfl h) (fun k o h => by simp at h) (fun k o h => by simp at h) (fun k o h => by simp at h) (fun k o h => by simp at h)
theorem own_list {base b' : Nat} {w : World} {v : Value} {l : List Oct} {ts : List (Oct × Value × Value)} (hts : ts.map (·.1) = l) (hown : w.ownsRow base 63 3 v l.length (rowT ts)) (hels : ∀ u ∈ ts, At (Rw base w) w u.1 u.2.1 u.2.2) (hlen : l.length ≤ 5000) (hle : b' ≤ base) : At (Rw b' w) w (.mk 0 [] l) (.slice none 0 0) v := by
 subst hts
 rw [List.length_map] at hown hlen
 obtain ⟨B, d, rfl, h⟩ := at_of_rows 0 (b := []) (A := none) (c := 0) hown hels (by omega) (Nat.le_refl _) (by decide) (fun _ => rfl) (fun h => absurd rfl h) (fun _ _ _ h => absurd rfl h)
 exact h.own (Below.refl _ _) hle
set_option maxRecDepth 100000 in
set_option maxHeartbeats 4000000 in
theorem readseq_any (t : UInt8) (b : List UInt8) (l : List Oct) (tg : UInt8) (lo hi : Int) (hcn5 : cnt (.mk t b l) ≤ 5000) (htt5 : tot (.mk t b l) ≤ 100000) (w : World) (x y : Value) (hat : At (fun _ => True) w (.mk t b l) x y) :
  Calls Try.prog 58 #[.agg (cell3 (.mk t b l) x y), .int .u8 (tg.toNat : Int), .int .i64 lo, .int .i64 hi] w (RsPost (rdQ t tg b.length l.length lo hi) l w) := by
 have hcn8 : cnts l ≤ 5000 := by rw [cnt] at hcn5; omega
 have htt : tots l ≤ 100000 := by rw [tot] at htt5; omega
 have hll5 : l.length ≤ 5000 := by have := len_cnts l; omega
 have HLM := Lib.hid hll5
 obtain ⟨A, c, B, d, g, off, vb, vl, rfl, rfl, hc, hbm, hcn, hs, hd, hdn, he⟩ := hat.els
 show Calls Try.prog 58 #[.agg #[.int .u8 (t.toNat : Int), .slice A b.length c, .slice B l.length d], .int .u8 (tg.toNat : Int), .int .i64 lo, .int .i64 hi] w _
 have HT := Lib.hid (fun (V : World) (hb : Below w.heap.size w V) => twins_all l hcn8 htt B d g off vb vl V (he.on hb))
 unfold TwsPost at HT
 obtain ⟨r, hr0⟩ : ∃ r, rdQ t tg b.length l.length lo hi = r := ⟨_, rfl⟩
 rw [hr0]
 unfold rdQ at hr0
 obtain ⟨n, hn⟩ : ∃ n, b.length = n := ⟨_, rfl⟩
 obtain ⟨ll, hll⟩ : ∃ ll, l.length = ll := ⟨_, rfl⟩
 rw [hn, hll] at hr0
 rw [hll] at HT
 have HLL := Lib.hid hll
 rw [hn, hll]
 have HROW := Lib.hid (heap_alloc_new w (.cells #[.int .u8 (t.toNat : Int), .slice A n c, .slice B ll d] 63))
 have HB0 := Lib.hid (below_new w (.cells #[.int .u8 (t.toNat : Int), .slice A n c, .slice B ll d] 63))
 clear hat hs he hc hbm hcn hd hdn hcn8 htt hll5 hcn5 htt5
 clear hn hll
 by_cases h1 : t = tg
 ·
  subst h1
  have hne := u8_eq t
  by_cases h2 : n = 0
  ·
   subst h2
   by_cases h3 : lo ≤ (ll : Int)
   ·
    have h3d : ¬ (ll : Int) < lo := by omega
    by_cases h4 : (ll : Int) ≤ hi
    ·
     have hr : true = r := by rw [← hr0]; exact (decide_eq_true ⟨rfl, rfl, h3, h4⟩).symm
     subst hr
     have h4d : ¬ hi < (ll : Int) := by omega
     clear h3 h4 hr0
     go_enter Try.func58, Try.ntmps58
     go_upto_region 1 with (fail)
     generalize hV : World.alloc w _ = V at HROW HB0 ⊢
     clear hV
     have hlt := (Array.getElem?_eq_some_iff.1 HROW.out).1
     obtain ⟨_, hc0, hc1, hc2⟩ := facts3 HROW.out
     go_wp2_with fail
     refine (HT.out V HB0.out).mono ?_
     rintro e w1 ⟨v, ts, rfl, hts, hown, hels, hb1⟩
     have HB1 := Lib.hid (chain HB0.out hb1)
     have hat1 := own_list hts (by rw [HLL.out]; exact hown) hels HLM.out HB0.out.size
     have HAT1 := Lib.hid hat1
     clear hts hown hels hb1 hat1
     go_wp2_with fail
     go_ret2
     exact ⟨_, rfl, HAT1.out, HB1.out⟩
    ·
     have hr : false = r := by rw [← hr0]; exact (decide_eq_false (fun h => h4 h.2.2.2)).symm
     subst hr
     have h4d : hi < (ll : Int) := by omega
     clear h3 h4 hr0
     go_enter Try.func58, Try.ntmps58
     go_upto_region 1 with (fail)
     generalize hV : World.alloc w _ = V at HROW HB0 ⊢
     clear hV
     have hlt := (Array.getElem?_eq_some_iff.1 HROW.out).1
     obtain ⟨_, hc0, hc1, hc2⟩ := facts3 HROW.out
     go_wp2_with fail
     go_ret2
     exact ⟨_, rfl, nil_list _ _, HB0.out⟩
   ·
    have hr : false = r := by rw [← hr0]; exact (decide_eq_false (fun h => h3 h.2.2.1)).symm
    subst hr
    have h3d : (ll : Int) < lo := by omega
    clear h3 hr0
    go_enter Try.func58, Try.ntmps58
    go_upto_region 1 with (fail)
    generalize hV : World.alloc w _ = V at HROW HB0 ⊢
    clear hV
    have hlt := (Array.getElem?_eq_some_iff.1 HROW.out).1
    obtain ⟨_, hc0, hc1, hc2⟩ := facts3 HROW.out
    go_wp2_with fail
    go_ret2
    exact ⟨_, rfl, nil_list _ _, HB0.out⟩
  ·
   have hr : false = r := by rw [← hr0]; exact (decide_eq_false (fun h => h2 h.2.1)).symm
   subst hr
   have h2i : (0 : Int) < (n : Int) := by omega
   clear h2 hr0
   go_enter Try.func58, Try.ntmps58
   go_upto_region 1 with (fail)
   generalize hV : World.alloc w _ = V at HROW HB0 ⊢
   clear hV
   have hlt := (Array.getElem?_eq_some_iff.1 HROW.out).1
   obtain ⟨_, hc0, hc1, hc2⟩ := facts3 HROW.out
   go_wp2_with fail
   go_ret2
   exact ⟨_, rfl, nil_list _ _, HB0.out⟩
 ·
  have hr : false = r := by rw [← hr0]; exact (decide_eq_false (fun h => h1 h.1)).symm
  subst hr
  have hne := u8_ne t tg h1
  clear h1 hr0
  go_enter Try.func58, Try.ntmps58
  go_upto_region 1 with (fail)
  generalize hV : World.alloc w _ = V at HROW HB0 ⊢
  clear hV
  have hlt := (Array.getElem?_eq_some_iff.1 HROW.out).1
  obtain ⟨_, hc0, hc1, hc2⟩ := facts3 HROW.out
  go_wp2_with fail
  go_ret2
  exact ⟨_, rfl, nil_list _ _, HB0.out⟩
end Go.Proofs.Ythfgdgcdicacpaa
