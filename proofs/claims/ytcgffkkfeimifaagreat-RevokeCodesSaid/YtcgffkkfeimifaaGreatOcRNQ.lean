import Derived.Test.YtcgffkkfeimifaaGreatOcRM
namespace Go.Proofs.YtcgffkkfeimifaaGreat
open Go.RowKit Sha Oc
set_option linter.unusedVariables false
set_option linter.unusedSimpArgs false
theorem results_tmp4 {fn : Func} {t u v x : Tmp} (h : fn.results = #[.tmp t, .tmp u, .tmp v, .tmp x]) (tmps : Array Value) (P : Program) (w : World) :
  (results fn tmps).run P w = .ok (.tuple #[tmps.getD t undef, tmps.getD u undef, tmps.getD v undef, tmps.getD x undef]) w := by
 simp [results, h]
def hdV : List UInt8 → Option (UInt8 × Nat × Nat)
 | [] => none
 | t :: r => if t = 0 then none else (rdl r).map fun p => (t, 1 + p.1, p.2)
def hdR : Option (UInt8 × Nat × Nat) → Value
 | none => .tuple #[.int .u8 0, .int .i64 0, .int .i64 0, .bool false]
 | some (t, a, n) => .tuple #[.int .u8 (t.toNat : Int), .int .i64 (a : Int), .int .i64 (n : Int), .bool true]
def HdPost (v : Value) (w : World) (e : Ending) (w' : World) : Prop := e = .returned v ∧ Below w.heap.size w w'
set_option maxRecDepth 100000 in
set_option maxHeartbeats 2000000 in
theorem head_few (m : Nat) (hm : m < 2) (A : Option Addr) (c : Nat) (w : World) :
  Calls Tryz.prog 85 #[.slice A m c] w (HdPost (hdR none) w) := by
 unfold HdPost hdR
 have h2 : (m : Int) < 2 := by omega
 clear hm
 go_enter Tryz.func85, Tryz.ntmps85
 go_wp2_with fail
 ((try simp only [Exit.inBlock, Exit.then]); refine bodyPost_ret (results_tmp4 rfl _ _ _) rfl ?_)
 exact ⟨rfl, Below.refl _ _⟩
set_option maxRecDepth 100000 in
set_option maxHeartbeats 2000000 in
theorem head_zero (m : Nat) (hm : 2 ≤ m) (g off c : Nat) (w : World) (h0 : w.cell? ⟨g, off, none⟩ = some (.int .u8 0)) :
  Calls Tryz.prog 85 #[.slice (some ⟨g, off, none⟩) m c] w (HdPost (hdR none) w) := by
 unfold HdPost hdR
 have h2 : ¬ (m : Int) < 2 := by omega
 have h3 : (0 : Int) < (m : Int) := by omega
 clear hm
 go_enter Tryz.func85, Tryz.ntmps85
 go_wp2_with fail
 ((try simp only [Exit.inBlock, Exit.then]); refine bodyPost_ret (results_tmp4 rfl _ _ _) rfl ?_)
 exact ⟨rfl, Below.refl _ _⟩
set_option maxRecDepth 100000 in
set_option maxHeartbeats 2000000 in
theorem head_short (m : Nat) (hm : 2 ≤ m) (g off c : Nat) (t x : UInt8) (ht : t ≠ 0) (hx : x.toNat < 128) (w : World) (h0 : w.cell? ⟨g, off, none⟩ = some (.int .u8 (t.toNat : Int))) (h1 : w.cell? ⟨g, off + 1, none⟩ = some (.int .u8 (x.toNat : Int))) :
  Calls Tryz.prog 85 #[.slice (some ⟨g, off, none⟩) m c] w (HdPost (hdR (some (t, 1 + 1, x.toNat))) w) := by
 unfold HdPost
 have h2 : ¬ (m : Int) < 2 := by omega
 have h3 : (0 : Int) < (m : Int) := by omega
 have h4 : (1 : Int) < (m : Int) := by omega
 obtain ⟨tz, htz⟩ : ∃ z : Int, ((t.toNat : Nat) : Int) = z := ⟨_, rfl⟩
 obtain ⟨xz, hxz⟩ : ∃ z : Int, ((x.toNat : Nat) : Int) = z := ⟨_, rfl⟩
 have h5 : (tz == 0) = false := by
  have h9 : t.toNat ≠ 0 := fun e => ht (UInt8.toNat_inj.1 e)
  have h11 : tz ≠ 0 := by omega
  simp [h11]
 have h6 : xz < 128 := by omega
 have h7 : 0 ≤ xz := by omega
 have hr : hdR (some (t, 1 + 1, x.toNat)) = .tuple #[.int .u8 tz, .int .i64 2, .int .i64 xz, .bool true] := by rw [← htz, ← hxz]; rfl
 rw [hr]
 rw [htz] at h0
 rw [hxz] at h1
 clear hm ht hx htz hxz hr
 go_enter Tryz.func85, Tryz.ntmps85
 go_wp2_with fail
 go_quiet (fail)
 go_wp2_with fail
 ((try simp only [Exit.inBlock, Exit.then]); refine bodyPost_ret (results_tmp4 rfl _ _ _) rfl ?_)
 exact ⟨rfl, below_drewN (Below.refl _ _) _⟩
set_option maxRecDepth 100000 in
set_option maxHeartbeats 2000000 in
theorem head_bad (m : Nat) (hm : 2 ≤ m) (g off c : Nat) (t x : UInt8) (ht : t ≠ 0) (hx : 128 ≤ x.toNat) (hb : x.toNat < 129 ∨ 131 < x.toNat ∨ m < 2 + (x.toNat - 128)) (hm5 : m ≤ 1000000) (w : World) (h0 : w.cell? ⟨g, off, none⟩ = some (.int .u8 (t.toNat : Int))) (h1 : w.cell? ⟨g, off + 1, none⟩ = some (.int .u8 (x.toNat : Int))) :
  Calls Tryz.prog 85 #[.slice (some ⟨g, off, none⟩) m c] w (HdPost (hdR none) w) := by
 unfold HdPost hdR
 have h2 : ¬ (m : Int) < 2 := by omega
 have h3 : (0 : Int) < (m : Int) := by omega
 have h4 : (1 : Int) < (m : Int) := by omega
 obtain ⟨tz, htz⟩ : ∃ z : Int, ((t.toNat : Nat) : Int) = z := ⟨_, rfl⟩
 obtain ⟨k, hk⟩ : ∃ k : Nat, x.toNat = 128 + k := ⟨x.toNat - 128, by omega⟩
 have h5 : (tz == 0) = false := by
  have h9 : t.toNat ≠ 0 := fun e => ht (UInt8.toNat_inj.1 e)
  have h11 : tz ≠ 0 := by omega
  simp [h11]
 have hx255 := x.toNat_lt
 obtain ⟨xz, hxz⟩ : ∃ z : Int, ((x.toNat : Nat) : Int) = z := ⟨_, rfl⟩
 have h6 : ¬ xz < 128 := by omega
 have h7 : xz < 256 := by omega
 rw [htz] at h0
 rw [hxz] at h1
 obtain ⟨d, hd⟩ : ∃ d, xz - 128 = d := ⟨_, rfl⟩
 have hd0 : 0 ≤ d := by omega
 have hd1 : d < 128 := by omega
 by_cases c1 : d < 1
 ·
  clear hm ht hx htz hxz hb hk hm5 hx255
  go_enter Tryz.func85, Tryz.ntmps85
  go_wp2_with fail
  ((try simp only [Exit.inBlock, Exit.then]); refine bodyPost_ret (results_tmp4 rfl _ _ _) rfl ?_)
  exact ⟨rfl, Below.refl _ _⟩
 ·
  by_cases c2 : 3 < d
  ·
   clear hm ht hx htz hxz hb hk hm5 hx255
   go_enter Tryz.func85, Tryz.ntmps85
   go_wp2_with fail
   ((try simp only [Exit.inBlock, Exit.then]); refine bodyPost_ret (results_tmp4 rfl _ _ _) rfl ?_)
   exact ⟨rfl, Below.refl _ _⟩
  ·
   have c3 : (m : Int) < 2 + d := by omega
   clear hm ht hx htz hxz hb hk hm5 hx255
   go_enter Tryz.func85, Tryz.ntmps85
   go_wp2_with fail
   ((try simp only [Exit.inBlock, Exit.then]); refine bodyPost_ret (results_tmp4 rfl _ _ _) rfl ?_)
   exact ⟨rfl, Below.refl _ _⟩
set_option maxRecDepth 100000 in
set_option maxHeartbeats 2000000 in
theorem head_long (r : List UInt8) (k m : Nat) (hk1 : 1 ≤ k) (hk3 : k ≤ 3) (hm : m = r.length + 2) (hkr : k ≤ r.length) (hm5 : m ≤ 1000000) (g off c : Nat) (t x : UInt8) (ht : t ≠ 0) (hx : x.toNat = 128 + k) (w : World) (h0 : w.cell? ⟨g, off, none⟩ = some (.int .u8 (t.toNat : Int))) (h1 : w.cell? ⟨g, off + 1, none⟩ = some (.int .u8 (x.toNat : Int)))
  (hc : ∀ (j : Nat) (y : UInt8), r[j]? = some y → w.cell? ⟨g, off + (2 + j), none⟩ = some (.int .u8 (y.toNat : Int))) :
  Calls Tryz.prog 85 #[.slice (some ⟨g, off, none⟩) m c] w (HdPost (hdR (if (lenb (vl (r.take k))).length = 1 + k then some (t, 1 + (1 + k), vl (r.take k)) else none)) w) := by
 unfold HdPost
 have h2 : ¬ (m : Int) < 2 := by omega
 have h3 : (0 : Int) < (m : Int) := by omega
 have h4 : (1 : Int) < (m : Int) := by omega
 obtain ⟨tz, htz⟩ : ∃ z : Int, ((t.toNat : Nat) : Int) = z := ⟨_, rfl⟩
 have h5 : (tz == 0) = false := by
  have h9 : t.toNat ≠ 0 := fun e => ht (UInt8.toNat_inj.1 e)
  have h11 : tz ≠ 0 := by omega
  simp [h11]
 obtain ⟨xz, hxz⟩ : ∃ z : Int, ((x.toNat : Nat) : Int) = z := ⟨_, rfl⟩
 have h6 : ¬ xz < 128 := by omega
 have h7 : xz < 256 := by omega
 rw [htz] at h0
 rw [hxz] at h1
 have hd : xz - 128 = (k : Int) := by omega
 have hd1 : ¬ (k : Int) < 1 := by omega
 have hd2 : ¬ (3 : Int) < (k : Int) := by omega
 have hd3 : ¬ (m : Int) < 2 + (k : Int) := by omega
 have hd4 : (k : Int) ≤ 3 := by omega
 obtain ⟨N, hN⟩ : ∃ N, vl (r.take k) = N := ⟨_, rfl⟩
 have hNb : N < 16777216 := by
  have h1 := vl_lt (r.take k).length (r.take k) rfl
  rw [hN, List.length_take, Nat.min_eq_left hkr] at h1
  have h2 : (256 : Nat) ^ k ≤ 256 ^ 3 := Nat.pow_le_pow_right (by omega) hk3
  have h3 : (256 : Nat) ^ 3 = 16777216 := by decide
  omega
 have HLN := Lib.hid (fun V => length_ref N hNb V)
 have HLB := Lib.hid (lenb_le N)
 obtain ⟨LR, hLR⟩ : ∃ LR, hdR (if (lenb N).length = 1 + k then some (t, 1 + (1 + k), N) else none) = LR := ⟨_, rfl⟩
 rw [hN, hLR]
 have HLR := Lib.hid hLR
 have HTZ := Lib.hid htz
 have HN := Lib.hid hN
 have HC := Lib.hid hc
 have HK := Lib.hid (And.intro hkr (And.intro hk3 hm))
 have H00 := Lib.hid h0
 have HV0 : RowKit.Hid (vl (r.take 0) = 0) := Lib.hid rfl
 clear hLR htz hxz hN hc hkr hk1 hk3 hm hx ht hm5 hNb
 go_enter Tryz.func85, Tryz.ntmps85
 go_wp2_with fail
 clear h0 h1 h5 h6 hd1 hd2 hd3
 go_loopw [7, 8] (fun x i wr => ∃ j : Nat, j ≤ k ∧ i = .int .i64 (j : Int) ∧ x = .int .i64 (vl (r.take j) : Int) ∧ wr = w) (fun _ i _ => k - (intOf i).toNat)
 case atStart => exact ⟨0, by omega, rfl, by rw [HV0.out]; rfl, rfl⟩
 case round =>
  obtain ⟨j, hj, rfl, rfl, rfl⟩ := hrel
  by_cases hlt : j < k
  ·
   have hji : (j : Int) < (k : Int) := by omega
   have hjr : j < r.length := by have := HK.out.1; omega
   have hck : wr.cell? ⟨g, off + (2 + j), none⟩ = some (.int .u8 ((r.getD j 0).toNat : Int)) := HC.out j _ (by rw [List.getD_eq_getElem?_getD, List.getElem?_eq_getElem hjr]; rfl)
   have hti : ((2 : Int) + (j : Int)).toNat = 2 + j := by omega
   have hm2 : (2 : Int) + (j : Int) < (m : Int) := by have := HK.out.2.2; omega
   have HVT := Lib.hid (vl_take r j hjr)
   have hvb : vl (r.take j) < 65536 := by
    have h1 := vl_lt (r.take j).length (r.take j) rfl
    rw [List.length_take, Nat.min_eq_left (by omega)] at h1
    have h2 : (256 : Nat) ^ j ≤ 256 ^ 2 := Nat.pow_le_pow_right (by omega) (by have := HK.out.2.1; omega)
    have h3 : (256 : Nat) ^ 2 = 65536 := by decide
    omega
   obtain ⟨v, hv⟩ : ∃ v, vl (r.take j) = v := ⟨_, rfl⟩
   obtain ⟨y, hy⟩ : ∃ y : Nat, (r.getD j 0).toNat = y := ⟨_, rfl⟩
   have hyb : y < 256 := by rw [← hy]; exact (r.getD j 0).toNat_lt
   rw [hv] at hvb HVT
   rw [hy] at hck HVT
   try rw [hv]
   clear hv hy hjr
   go_wp2_with fail
   refine ⟨⟨j + 1, by omega, by go_num, ?_, by first | rfl | trivial⟩, by simp [intOf]; omega⟩
   rw [HVT.out]
   try go_num
  ·
   have hjk : j = k := by omega
   subst hjk
   have hge : ¬ ((j : Int) < (j : Int)) := by omega
   rw [HN.out]
   have hNI : (N : Int) < 16777216 := by
    have h1 := vl_lt (r.take j).length (r.take j) rfl
    rw [HN.out, List.length_take, Nat.min_eq_left HK.out.1] at h1
    have h2 : (256 : Nat) ^ j ≤ 256 ^ 3 := Nat.pow_le_pow_right (by omega) HK.out.2.1
    have h3 : (256 : Nat) ^ 3 = 16777216 := by decide
    omega
   go_wp2_with fail
   refine (HLN.out wr).mono ?_
   rintro e w2 ⟨vq, rfl, hoq, hq3⟩
   obtain ⟨Aq, cq, rfl, _⟩ := own_rd3 hoq
   have H02 : w2.cell? ⟨g, off, none⟩ = some (.int .u8 tz) := by
    rw [hq3.cell (p := ⟨g, off, none⟩) (World.block_lt_of_cell? _ _ H00.out)]
    exact H00.out
   have HB2 := Lib.hid hq3
   clear hoq hq3 hge hlt hj
   by_cases hle : (lenb N).length = 1 + j
   ·
    have hr : LR = .tuple #[.int .u8 tz, .int .i64 (2 + (j : Int)), .int .i64 (N : Int), .bool true] := by
     rw [← HLR.out, if_pos hle, ← HTZ.out]
     show Value.tuple #[.int .u8 (t.toNat : Int), .int .i64 (((1 + (1 + j) : Nat)) : Int), .int .i64 (N : Int), .bool true] = _
     rw [show (((1 + (1 + j) : Nat)) : Int) = 2 + (j : Int) by omega]
    have HLR2 := Lib.hid hr
    have hli : (((lenb N).length : Int) != 1 + (j : Int)) = false := by simp; omega
    clear hle hr
    go_wp2_with fail
    ((try simp only [Exit.inBlock, Exit.then]); refine bodyPost_ret (results_tmp4 rfl _ _ _) rfl ?_)
    exact ⟨by rw [HLR2.out]; rfl, HB2.out⟩
   ·
    have hr : LR = .tuple #[.int .u8 0, .int .i64 0, .int .i64 0, .bool false] := by
     rw [← HLR.out, if_neg hle]
     rfl
    have HLR2 := Lib.hid hr
    have hli : (((lenb N).length : Int) != 1 + (j : Int)) = true := by simp; omega
    clear hle hr
    go_wp2_with fail
    ((try simp only [Exit.inBlock, Exit.then]); refine bodyPost_ret (results_tmp4 rfl _ _ _) rfl ?_)
    exact ⟨by rw [HLR2.out]; rfl, HB2.out⟩
end Go.Proofs.YtcgffkkfeimifaaGreat
namespace Go.Proofs.YtcgffkkfeimifaaGreat
open Go.RowKit Sha Oc
set_option linter.unusedVariables false
set_option linter.unusedSimpArgs false
set_option maxRecDepth 100000
theorem rdl_lt : ∀ (r : List UInt8) (k n : Nat), rdl r = some (k, n) → n < 16777216
 | [], k, n, h => by cases h
 | c :: r, k, n, h => by
  rw [rdl] at h
  by_cases h1 : c.toNat < 128
  ·
   rw [if_pos h1] at h
   cases h
   omega
  rw [if_neg h1] at h
  by_cases h2 : c.toNat < 129
  ·
   rw [if_pos h2] at h; cases h
  rw [if_neg h2] at h
  by_cases h3 : 131 < c.toNat
  ·
   rw [if_pos h3] at h; cases h
  rw [if_neg h3] at h
  by_cases h4 : r.length < c.toNat - 128
  ·
   rw [if_pos h4] at h; cases h
  rw [if_neg h4] at h
  have h5 : (if (lenb (vl (r.take (c.toNat - 128)))).length = 1 + (c.toNat - 128) then some (1 + (c.toNat - 128), vl (r.take (c.toNat - 128))) else none) = some (k, n) := h
  split at h5
  ·
   cases h5
   have h6 := vl_lt (r.take (c.toNat - 128)).length (r.take (c.toNat - 128)) rfl
   rw [List.length_take, Nat.min_eq_left (by omega)] at h6
   have h7 : (256 : Nat) ^ (c.toNat - 128) ≤ 256 ^ 3 := Nat.pow_le_pow_right (by omega) (by omega)
   have h8 : (256 : Nat) ^ 3 = 16777216 := by decide
   omega
  ·
   cases h5
theorem hdV_some (b : List UInt8) (t : UInt8) (a n : Nat) (h : hdV b = some (t, a, n)) : 2 ≤ a ∧ a ≤ b.length ∧ n < 16777216 := by
 cases b with
 | nil => cases h
 | cons x r =>
  rw [hdV] at h
  by_cases hx : x = 0
  ·
   rw [if_pos hx] at h; cases h
  ·
   rw [if_neg hx] at h
   cases hr : rdl r with
   | none => rw [hr] at h; cases h
   | some p =>
    obtain ⟨k, m⟩ := p
    rw [hr] at h
    cases h
    obtain ⟨h1, h2, _⟩ := rdl_some r k m hr
    have h3 := rdl_lt r k m hr
    rw [List.length_cons]
    omega
theorem rd_none (d : Nat) (b : List UInt8) (h : hdV b = none) : rd d b = none := by
 cases d with
 | zero => cases b <;> rfl
 | succ d =>
  cases b with
  | nil => rfl
  | cons x r =>
   rw [hdV] at h
   rw [rd]
   by_cases hx : x = 0
   ·
    rw [if_pos hx]
   ·
    rw [if_neg hx] at h ⊢
    cases hr : rdl r with
    | none => rfl
    | some p => rw [hr] at h; cases h
theorem rd_head (d : Nat) (b : List UInt8) (t : UInt8) (a n : Nat) (h : hdV b = some (t, a, n)) : rd (d + 1) b = if b.length < a + n then none else if t.toNat < 128 then some (.mk t ((b.drop a).take n) [], a + n) else (rds (rd d) n ((b.drop a).take n)).map fun l => (.mk t [] l, a + n) := by
 cases b with
 | nil => cases h
 | cons x r =>
  rw [hdV] at h
  rw [rd]
  by_cases hx : x = 0
  ·
   rw [if_pos hx] at h; cases h
  ·
   rw [if_neg hx] at h ⊢
   cases hr : rdl r with
   | none => rw [hr] at h; cases h
   | some p =>
    obtain ⟨k, m⟩ := p
    rw [hr] at h
    cases h
    show (if r.length < k + m then none else _) = _
    rw [show 1 + k = k + 1 by omega, List.drop_succ_cons, List.length_cons]
    try dsimp only
    by_cases hl : r.length < k + m
    ·
     rw [if_pos hl, if_pos (show r.length + 1 < k + 1 + m by omega)]
    ·
     rw [if_neg hl, if_neg (show ¬ r.length + 1 < k + 1 + m by omega)]
theorem head_any (b : List UInt8) (hb : b.length ≤ 1000000) (A : Option Addr) (c : Nat) (w : World) (hs : SrcAt A b w) :
  Calls Tryz.prog 85 #[.slice A b.length c] w (HdPost (hdR (hdV b)) w) := by
 cases b with
 | nil => exact head_few 0 (by omega) A c w
 | cons t r =>
  cases r with
  | nil =>
   have h : hdV [t] = none := by
    rw [hdV]
    split <;> rfl
   rw [h]
   exact head_few 1 (by omega) A c w
  | cons x r =>
   obtain ⟨g, off, rfl, hc⟩ := hs (by simp)
   have h0 := hc 0 t rfl
   have h1 := hc 1 x rfl
   rw [Nat.add_zero] at h0
   have hl : (t :: x :: r).length = r.length + 2 := by rw [List.length_cons, List.length_cons]
   by_cases ht : t = 0
   ·
    subst ht
    have h : hdV (0 :: x :: r) = none := by rw [hdV, if_pos rfl]
    rw [h]
    exact head_zero _ (by rw [hl]; omega) g off c w h0
   ·
    by_cases hx : x.toNat < 128
    ·
     have h : hdV (t :: x :: r) = some (t, 1 + 1, x.toNat) := by rw [hdV, if_neg ht, rdl, if_pos hx]; rfl
     rw [h]
     exact head_short _ (by rw [hl]; omega) g off c t x ht hx w h0 h1
    ·
     by_cases hbad : x.toNat < 129 ∨ 131 < x.toNat ∨ (t :: x :: r).length < 2 + (x.toNat - 128)
     ·
      have h : hdV (t :: x :: r) = none := by
       rw [hdV, if_neg ht, rdl, if_neg hx]
       by_cases h2 : x.toNat < 129
       ·
        rw [if_pos h2]; rfl
       rw [if_neg h2]
       by_cases h3 : 131 < x.toNat
       ·
        rw [if_pos h3]; rfl
       rw [if_neg h3, if_pos (by rw [hl] at hbad; omega)]
       rfl
      rw [h]
      exact head_bad _ (by rw [hl]; omega) g off c t x ht (by omega) hbad hb w h0 h1
     ·
      have h : hdV (t :: x :: r) = if (lenb (vl (r.take (x.toNat - 128)))).length = 1 + (x.toNat - 128) then some (t, 1 + (1 + (x.toNat - 128)), vl (r.take (x.toNat - 128))) else none := by
       rw [hdV, if_neg ht, rdl, if_neg hx, if_neg (by omega), if_neg (by omega), if_neg (by rw [hl] at hbad; omega)]
       show Option.map _ (if (lenb (vl (r.take (x.toNat - 128)))).length = 1 + (x.toNat - 128) then some (1 + (x.toNat - 128), vl (r.take (x.toNat - 128))) else none) = _
       split <;> rfl
      rw [h]
      exact head_long r (x.toNat - 128) _ (by omega) (by omega) hl (by rw [hl] at hbad; omega) hb g off c t x ht (by omega) w h0 h1 (fun j y hj => by
       have h2 := hc (j + 2) y hj
       rw [show off + (2 + j) = off + (j + 2) by omega]
       exact h2)
end Go.Proofs.YtcgffkkfeimifaaGreat
namespace Go.Proofs.YtcgffkkfeimifaaGreat
open Go.RowKit Sha Oc
set_option linter.unusedVariables false
set_option linter.unusedSimpArgs false
set_option maxRecDepth 100000
def trO : Option (Oct × Nat) → Oct
 | none => nilO
 | some (o, _) => o
def trN : Option (Oct × Nat) → Nat
 | none => 0
 | some (_, n) => n
def trB : Option (Oct × Nat) → Bool
 | none => false
 | some _ => true
def TrPost (r : Option (Oct × Nat)) (w : World) (e : Ending) (w' : World) : Prop := Below w.heap.size w w' ∧ ∃ x y, e = .returned (.tuple #[.agg (cell3 (trO r) x y), .int .i64 (trN r : Int), .bool (trB r)]) ∧ At (Rw w.heap.size w') w' (trO r) x y
theorem results_take {fn : Func} {p q s : Tmp} (h : fn.results = #[.cell p 50, .tmp q, .tmp s]) (tmps : Array Value) (w : World) (g : Nat) (a b c : Value)
  (hp : tmps.getD p undef = .pointer (some ⟨g, 0, none⟩)) (hg : w.heap[g]? = some (.cells #[a, b, c] 50 (0, 0))) :
  (results fn tmps).run Tryz.prog w = .ok (.tuple #[.agg #[a, b, c], tmps.getD q undef, tmps.getD s undef]) w := by
 have hp' : tmps[p]?.getD undef = .pointer (some ⟨g, 0, none⟩) := by simpa using hp
 simp [results, h, hp', asAddr, run_loadVar_row w g _ _ _ _ _ hg Tryz.underlying50 rfl (sz3o a b c)]
theorem wpList_slice_any {ops : Array Oper} {rest : List Oper} {o : Oper} {a : Act} {w : World} {Q : Exit → Act → World → Prop} (hgd : o.guard = none) (x lo hi : Operand) (ho : o.op = .slice 31 x (some lo) (some hi) none)
  (g off m c i j : Nat) (H : Int) (hH : H = (i : Int) + (j : Int)) (hx : a.eval x = .slice (some ⟨g, off, none⟩) m c) (hlo : a.eval lo = .int .i64 (i : Int)) (hhi : a.eval hi = .int .i64 H) (hij : i + j ≤ c)
  (h : ∀ (A' : Option Addr) (c' : Nat), (A' = some ⟨g, off + i, none⟩ ∨ j = 0) → j ≤ c' → c' ≤ c → (A' = none → c' = 0) → wpList Tryz.prog ops Q rest (a.put o.dst (.slice A' j c')) w) : wpList Tryz.prog ops Q (o :: rest) a w := by
 subst hH
 refine wpList_plain hgd fun K hK => ?_
 have t1 : (i : Int) + (j : Int) ≤ (c : Int) := by omega
 have t2 : ((i : Int) + (j : Int)).toNat = i + j := by omega
 have t3 : (i : Int) ≤ (i : Int) + (j : Int) := by omega
 have t4 : (0 : Int) ≤ (i : Int) + (j : Int) := by omega
 have t5 : i + j - i = j := by omega
 by_cases hc : c = i
 ·
  have hj : j = 0 := by omega
  have h1 := h (some ⟨g, off, none⟩) 0 (.inr hj) (by omega) (by omega) (fun e => by cases e)
  unfold Oper.wp execOp
  simp only [ho, hx, hlo, hhi, Option.map_some, Option.map_none]
  simp [Instr.sliceAt, Tryz.underlying31, go_sem, hc, hj]
  rw [hj] at h1
  exact hK _ _ h1
 ·
  have hc2 : ¬ c - i = 0 := by omega
  have h1 := h (some ⟨g, off + i, none⟩) (c - i) (.inl rfl) (by omega) (by omega) (fun e => by cases e)
  unfold Oper.wp execOp
  simp only [ho, hx, hlo, hhi, Option.map_some, Option.map_none]
  simp [Instr.sliceAt, Tryz.underlying31, go_sem, t1, t2, t3, t4, t5, hc2]
  rw [if_neg hc]
  exact hK _ _ h1
theorem src_or {A' : Option Addr} {C : List UInt8} {n g o : Nat} {w : World} (h : A' = some ⟨g, o, none⟩ ∨ n = 0) (hC : C.length = n) (hs : SrcAt (some ⟨g, o, none⟩) C w) : SrcAt A' C w := by
 rcases h with rfl | h
 ·
  exact hs
 ·
  exact fun hne => absurd (List.length_eq_zero_iff.1 (hC.trans h)) hne
set_option maxHeartbeats 4000000 in
theorem take_none (b : List UInt8) (d : Nat) (D : Int) (hD : D = 13 - (d : Int)) (hd : d ≤ 12) (hb : b.length ≤ 1000000) (A : Option Addr) (c : Nat) (w : World) (hs : SrcAt A b w)
  (hno : hdV b = none ∨ (∃ t a n, hdV b = some (t, a, n) ∧ (b.length < a + n ∨ d = 0))) :
  Calls Tryz.prog 57 #[.slice A b.length c, .int .i64 D] w (TrPost none w) := by
 have HH := Lib.hid (fun (V : World) (hb0 : Below w.heap.size w V) => head_any b hb A c V (hs.on hb0))
 unfold HdPost at HH
 obtain ⟨m, hm⟩ : ∃ m, b.length = m := ⟨_, rfl⟩
 have hsm := hdV_some b
 rw [hm] at HH hno hsm ⊢
 have hr0 := heap_alloc_new w (.cells #[.int .u8 0, .slice none 0 0, .slice none 0 0] 50)
 have hb0 := below_new w (.cells #[.int .u8 0, .slice none 0 0, .slice none 0 0] 50)
 have HR0 := Lib.hid hr0
 have HB0 := Lib.hid hb0
 unfold TrPost
 rcases hno with hh | ⟨t, a, n, hh, hno⟩
 ·
  rw [hh] at HH
  unfold hdR at HH
  clear hr0 hb0 hs hm hsm hh hD hd hb
  go_enter Tryz.func57, Tryz.ntmps57
  go_upto_region 1 with (fail)
  generalize hV : World.alloc w _ = V at HR0 HB0 ⊢
  clear hV
  go_wp2_with fail
  refine (HH.out V HB0.out).mono ?_
  rintro e w1 ⟨rfl, hb1⟩
  have HR1 := Lib.hid (row_on HR0.out hb1)
  have HB1 := Lib.hid (chain HB0.out hb1)
  clear hb1 HR0 HB0 HH
  have hlt := (Array.getElem?_eq_some_iff.1 HR1.out).1
  obtain ⟨⟨hf0, hf1, hf2⟩, hc0, hc1, hc2⟩ := facts3 HR1.out
  go_wp2_with fail
  have e9 : ∀ a b c : Value, ((w1.setCell ⟨w.heap.size, 0, none⟩ a).setCell ⟨w.heap.size, 1, none⟩ b).setCell ⟨w.heap.size, 2, none⟩ c = w1.setCells w.heap.size 0 [a, b, c] := fun _ _ _ => rfl
  rw [e9]
  refine bodyPost_ret (v := .tuple #[.agg #[.int .u8 0, .slice none 0 0, .slice none 0 0], .int .i64 0, .bool false]) (results_take (p := 4) (q := 5) (s := 6) rfl _ _ w.heap.size _ _ _ rfl (row_setCells8 HR1.out rfl)) rfl ⟨below_setCells8 _ _ _ HB1.out (Nat.le_refl _), _, _, rfl, nil_list _ _⟩
 ·
  obtain ⟨ha1, ha2, hn1⟩ := hsm t a n hh
  rw [hh] at HH
  have h1 : (a : Int) ≤ (m : Int) := by omega
  have h2 : (n : Int) < 16777216 := by omega
  have h3 : (m : Int) ≤ 1000000 := by omega
  obtain ⟨tz, htz⟩ : ∃ z : Int, ((t.toNat : Nat) : Int) = z := ⟨_, rfl⟩
  rw [show hdR (some (t, a, n)) = .tuple #[.int .u8 tz, .int .i64 (a : Int), .int .i64 (n : Int), .bool true] by rw [← htz]; rfl] at HH
  by_cases hmn : m < a + n
  ·
   have h4 : (m : Int) - (a : Int) < (n : Int) := by omega
   clear hr0 hb0 hs hm hsm hh hD hd hb htz hno ha1 ha2 hn1 hmn
   go_enter Tryz.func57, Tryz.ntmps57
   go_upto_region 1 with (fail)
   generalize hV : World.alloc w _ = V at HR0 HB0 ⊢
   clear hV
   go_wp2_with fail
   refine (HH.out V HB0.out).mono ?_
   rintro e w1 ⟨rfl, hb1⟩
   have HR1 := Lib.hid (row_on HR0.out hb1)
   have HB1 := Lib.hid (chain HB0.out hb1)
   clear hb1 HR0 HB0 HH
   have hlt := (Array.getElem?_eq_some_iff.1 HR1.out).1
   obtain ⟨⟨hf0, hf1, hf2⟩, hc0, hc1, hc2⟩ := facts3 HR1.out
   go_wp2_with fail
   have e9 : ∀ a b c : Value, ((w1.setCell ⟨w.heap.size, 0, none⟩ a).setCell ⟨w.heap.size, 1, none⟩ b).setCell ⟨w.heap.size, 2, none⟩ c = w1.setCells w.heap.size 0 [a, b, c] := fun _ _ _ => rfl
   rw [e9]
   refine bodyPost_ret (v := .tuple #[.agg #[.int .u8 0, .slice none 0 0, .slice none 0 0], .int .i64 0, .bool false]) (results_take (p := 4) (q := 5) (s := 6) rfl _ _ w.heap.size _ _ _ rfl (row_setCells8 HR1.out rfl)) rfl ⟨below_setCells8 _ _ _ HB1.out (Nat.le_refl _), _, _, rfl, nil_list _ _⟩
  ·
   have h4 : ¬ (m : Int) - (a : Int) < (n : Int) := by omega
   have h5 : (12 : Int) < D := by omega
   clear hr0 hb0 hs hm hsm hh hD hd hb htz hno ha1 ha2 hn1 hmn
   go_enter Tryz.func57, Tryz.ntmps57
   go_upto_region 1 with (fail)
   generalize hV : World.alloc w _ = V at HR0 HB0 ⊢
   clear hV
   go_wp2_with fail
   refine (HH.out V HB0.out).mono ?_
   rintro e w1 ⟨rfl, hb1⟩
   have HR1 := Lib.hid (row_on HR0.out hb1)
   have HB1 := Lib.hid (chain HB0.out hb1)
   clear hb1 HR0 HB0 HH
   have hlt := (Array.getElem?_eq_some_iff.1 HR1.out).1
   obtain ⟨⟨hf0, hf1, hf2⟩, hc0, hc1, hc2⟩ := facts3 HR1.out
   go_wp2_with fail
   have e9 : ∀ a b c : Value, ((w1.setCell ⟨w.heap.size, 0, none⟩ a).setCell ⟨w.heap.size, 1, none⟩ b).setCell ⟨w.heap.size, 2, none⟩ c = w1.setCells w.heap.size 0 [a, b, c] := fun _ _ _ => rfl
   rw [e9]
   refine bodyPost_ret (v := .tuple #[.agg #[.int .u8 0, .slice none 0 0, .slice none 0 0], .int .i64 0, .bool false]) (results_take (p := 4) (q := 5) (s := 6) rfl _ _ w.heap.size _ _ _ rfl (row_setCells8 HR1.out rfl)) rfl ⟨below_setCells8 _ _ _ HB1.out (Nat.le_refl _), _, _, rfl, nil_list _ _⟩
def TakeC (d : Nat) : Prop := ∀ (b : List UInt8) (A : Option Addr) (c : Nat) (D : Int) (V : World), D = 13 - (d : Int) → b.length ≤ 1000000 → b.length ≤ c → c ≤ 140737488355328 → SrcAt A b V → Calls Tryz.prog 57 #[.slice A b.length c, .int .i64 D] V (TrPost (rd d b) V)
theorem take_zero : TakeC 0 := fun b A c D V hD hb hc hcm hs => by
 have h : rd 0 b = none := by cases b <;> rfl
 rw [h]
 cases hh : hdV b with
 | none => exact take_none b 0 D hD (by omega) hb A c V hs (.inl hh)
 | some p => exact take_none b 0 D hD (by omega) hb A c V hs (.inr ⟨p.1, p.2.1, p.2.2, hh, .inr rfl⟩)
set_option maxHeartbeats 8000000 in
theorem take_some (d : Nat) (hd : d ≤ 11) (hT : TakeC d) (b : List UInt8) (t : UInt8) (a n : Nat) (hh : hdV b = some (t, a, n)) (hmn : a + n ≤ b.length) (D : Int) (hD : D = 13 - ((d + 1 : Nat) : Int)) (hb : b.length ≤ 1000000) (A : Option Addr) (c : Nat) (hc : b.length ≤ c) (hcm : c ≤ 140737488355328) (w : World) (hs : SrcAt A b w) :
  Calls Tryz.prog 57 #[.slice A b.length c, .int .i64 D] w (TrPost (rd (d + 1) b) w) := by
 have HH := Lib.hid (fun (V : World) (hb0 : Below w.heap.size w V) => head_any b hb A c V (hs.on hb0))
 unfold HdPost at HH
 obtain ⟨m, hm⟩ : ∃ m, b.length = m := ⟨_, rfl⟩
 obtain ⟨ha1, ha2, hn1⟩ := hdV_some b t a n hh
 have hrd := rd_head d b t a n hh
 rw [if_neg (by omega)] at hrd
 obtain ⟨C, hC⟩ : ∃ C, (b.drop a).take n = C := ⟨_, rfl⟩
 have hCl : C.length = n := by rw [← hC, List.length_take, List.length_drop]; omega
 have hsC := srcAt_take (srcAt_drop hs a) n
 rw [hC] at hsC hrd
 obtain ⟨g, off, rfl, _⟩ := hs (fun e => by rw [e, List.length_nil] at ha2; omega)
 rw [Option.map_some, add_eq] at hsC
 rw [hh] at HH
 rw [hm] at HH hc ha2 hmn hb ⊢
 obtain ⟨tz, htz⟩ : ∃ z : Int, ((t.toNat : Nat) : Int) = z := ⟨_, rfl⟩
 rw [show hdR (some (t, a, n)) = .tuple #[.int .u8 tz, .int .i64 (a : Int), .int .i64 (n : Int), .bool true] by rw [← htz]; rfl] at HH
 have HTZ := Lib.hid htz
 obtain ⟨RR, hRR⟩ : ∃ RR, rd (d + 1) b = RR := ⟨_, rfl⟩
 rw [hRR] at hrd ⊢
 have HRD := Lib.hid hrd
 have HSC := Lib.hid hsC
 have HCL := Lib.hid hCl
 have HCM := Lib.hid (And.intro hc hcm)
 have HT := Lib.hid hT
 unfold TakeC TrPost at HT
 have hr0 := heap_alloc_new w (.cells #[.int .u8 0, .slice none 0 0, .slice none 0 0] 50)
 have hb0 := below_new w (.cells #[.int .u8 0, .slice none 0 0, .slice none 0 0] 50)
 have HR0 := Lib.hid hr0
 have HB0 := Lib.hid hb0
 unfold TrPost
 have h1 : (a : Int) ≤ (m : Int) := by omega
 have h2 : (n : Int) ≤ 1000000 := by omega
 have h3 : (m : Int) ≤ 1000000 := by omega
 have h4 : ¬ (m : Int) - (a : Int) < (n : Int) := by omega
 have h5 : ¬ (12 : Int) < D := by omega
 have h6 : 1 ≤ D := by omega
 have HAN := Lib.hid (And.intro ha1 (And.intro ha2 hmn))
 have HD := Lib.hid hD
 clear hr0 hb0 hs hm hh hD hd hb htz hn1 hsC hC hCl hrd hRR hT ha1 ha2 hmn hc hcm
 go_enter Tryz.func57, Tryz.ntmps57
 go_upto_region 1 with (fail)
 generalize hV : World.alloc w _ = V at HR0 HB0 ⊢
 clear hV
 go_wp2_with fail
 refine (HH.out V HB0.out).mono ?_
 rintro e w1 ⟨rfl, hb1⟩
 have HR1 := Lib.hid (row_on HR0.out hb1)
 have HB1 := Lib.hid (chain HB0.out hb1)
 clear hb1 HR0 HB0 HH
 have hlt := (Array.getElem?_eq_some_iff.1 HR1.out).1
 obtain ⟨⟨hf0, hf1, hf2⟩, hc0, hc1, hc2⟩ := facts3 HR1.out
 go_upto_region 4 with (fail)
 have hsz1 : w.heap.size < w1.heap.size := hlt
 obtain ⟨SB, hSB⟩ : ∃ SB, w1.heap.size = SB := ⟨_, rfl⟩
 have hr2 := heap_alloc_new w1 (.cells #[.int .u8 tz, .slice none 0 0, .slice none 0 0] 50)
 have hb2 := below_new w1 (.cells #[.int .u8 tz, .slice none 0 0, .slice none 0 0] 50)
 have hz2 : (w1.alloc (.cells #[.int .u8 tz, .slice none 0 0, .slice none 0 0] 50)).heap.size = SB + 1 := by rw [World.size_alloc, hSB]
 rw [hSB] at hr2 hsz1
 have HV2 := Lib.hid hr2
 have HR2 := Lib.hid (row_on HR1.out hb2)
 have HB2 := Lib.hid (chain HB1.out hb2)
 have HZ2 := Lib.hid (And.intro hsz1 hz2)
 clear hlt hf0 hf1 hf2 hc0 hc1 hc2 HR1 HB1 hr2 hb2 hsz1 hz2
 go_upto_region 5 with (fail)
 try rw [hSB]
 generalize hV2 : World.alloc w1 _ = V2 at HV2 HR2 HB2 HZ2 ⊢
 clear hV2 hSB
 go_upto_region 6 with (fail)
 have hAN := HAN.out
 have hCM := HCM.out
 have h7 : (a : Int) + (n : Int) ≤ (c : Int) := by omega
 have h8 : (c : Int) ≤ 140737488355328 := by omega
 have h9 : (2 : Int) ≤ (a : Int) := by omega
 have e1 : ((a : Int) + (n : Int)).toNat = a + n := by omega
 have hltV := (Array.getElem?_eq_some_iff.1 HV2.out).1
 obtain ⟨⟨hv0, hv1, hv2⟩, hw0, hw1, hw2⟩ := facts3 HV2.out
 clear hAN hCM
 by_cases ht : t.toNat < 128
 ·
  have h10 : tz < 128 := by have := HTZ.out; omega
  have hrd := HRD.out
  rw [if_pos ht] at hrd
  have HRD2 := Lib.hid hrd
  have hV2W : w.heap.size < SB ∧ SB < V2.heap.size := by have h1 := HZ2.out; omega
  have hnn : n ≤ 1000000 := by omega
  clear hrd ht HRD HT h1 h2 h3 h4 h5 h6
  have HE1 : RowKit.Hid ((V2.alloc (.cells #[] 5)).ownsRow V2.heap.size 5 1 (.slice (some ⟨V2.heap.size, 0, none⟩) 0 0) 0 []) := Lib.hid (own_empty8 (heap_alloc_new V2 _) (Nat.le_refl _))
  have HV2W := Lib.hid hV2W
  have HSC1 : RowKit.Hid (SrcAt (some ⟨g, off + a, none⟩) C (V2.alloc (.cells #[] 5))) := Lib.hid (HSC.out.on (chain HB2.out (below_new V2 _)))
  have HAC := Lib.hid (show a + n ≤ c by have h1 := HAN.out; have h2 := HCM.out; omega)
  have HN6 := Lib.hid (show n ≤ 1000000 by omega)
  have HVR3 := Lib.hid (row_on HV2.out (below_new V2 (.cells #[] 5)))
  have HRR3 := Lib.hid (row_on HR2.out (below_new V2 (.cells #[] 5)))
  have HNE1 : RowKit.Hid (some SB ≠ Value.ownBlock (.slice (some ⟨V2.heap.size, 0, none⟩) 0 0)) := Lib.hid (fun e => by have e2 : SB = V2.heap.size := Option.some.inj e; omega)
  have HNE2 : RowKit.Hid (some w.heap.size ≠ Value.ownBlock (.slice (some ⟨V2.heap.size, 0, none⟩) 0 0)) := Lib.hid (fun e => by have e2 : w.heap.size = V2.heap.size := Option.some.inj e; omega)
  clear hV2W
  go_upto_region 8 with (first | (refine wpList_slice_any rfl (.tmp 46) (.tmp 47) (.tmp 48) rfl g off m c a n _ rfl rfl rfl rfl HAC.out ?_; intro A7 c7 h71 h72 h73 h74; have HS7 := Lib.hid (src_or h71 HCL.out HSC1.out); have HN7 := Lib.hid h74; clear h71 h72 h73 h74) | (at_builtin; go_loud (refine append_src_at rfl (.tmp 45) (.tmp 49) rfl V2.heap.size _ _ _ rfl HE1.out A7 C c7 n HCL.out rfl HN7.out HS7.out (by have := HN6.out; omega) (by rw [World.size_alloc]; omega) ?_); intro v5 w5 hg5; have HG5 := Lib.hid hg5; clear hg5; have HVR5 := Lib.hid (HG5.out.row HVR3.out HNE1.out); have HRR5 := Lib.hid (HG5.out.row HRR3.out HNE2.out); have hlt5 := (Array.getElem?_eq_some_iff.1 HVR5.out).1; obtain ⟨⟨hf0, hf1, hf2⟩, hc0, hc1, hc2⟩ := facts3 HVR5.out; have ho5 := HG5.out.own; rw [Nat.zero_add, List.nil_append, ← HCL.out] at ho5; obtain ⟨A5, c5, rfl, hc5, hn5, hs5, hw5⟩ := own_rd3 ho5; have HC5 := Lib.hid hc5; have HN5 := Lib.hid hn5; have HS5 := Lib.hid hs5; have HW5 := Lib.hid hw5; clear ho5 hc5 hn5 hs5 hw5))
  clear hlt5 hf0 hf1 hf2 hc0 hc1 hc2 hltV hv0 hv1 hv2 hw0 hw1 hw2
  have hlV : SB < V2.heap.size := HV2W.out.2
  have hlW : w.heap.size < SB := HV2W.out.1
  have hb5 : Below V2.heap.size (V2.alloc (.cells #[] 5)) w5 := HG5.out.below HE1.out (by rw [World.size_alloc]; omega)
  have hb25 : Below w.heap.size w w5 := (chain HB2.out (below_new V2 _)).trans (hb5.mono (by omega))
  have hAt : At (Rw V2.heap.size w5) w5 (.mk t C []) (.slice A5 C.length c5) (.slice none 0 0) := .mk t C [] A5 c5 none 0 0 0 (fun _ => undef) (fun _ => undef) HC5.out (by have h1 := HCL.out; have h2 := HN6.out; omega) HN5.out HS5.out (fun ga oa e _ => HW5.out ga oa e) (Nat.le_refl _) (by decide) (fun _ => rfl) (fun h => absurd rfl h) (fun k o h => by simp at h) (fun k o h => by simp at h) (fun k o h => by simp at h) (fun k o h => by simp at h)
  have hat6 := at_setCells hAt hlV (Nat.le_refl _) 1 [.slice A5 C.length c5]
  have hv6 : (w5.setCell ⟨SB, 1, none⟩ (.slice A5 C.length c5)).heap[SB]? = some (.cells #[.int .u8 tz, .slice A5 C.length c5, .slice none 0 0] 50 (0, 0)) := heap_setCell_same _ _ _ _ _ _ HVR5.out
  have hr6 : (w5.setCell ⟨SB, 1, none⟩ (.slice A5 C.length c5)).heap[w.heap.size]? = some (.cells #[.int .u8 0, .slice none 0 0, .slice none 0 0] 50 (0, 0)) := (Below.heap_setCell _ _ _ _ (by show w.heap.size ≠ SB; omega)).trans HRR5.out
  have hb6 : Below w.heap.size w (w5.setCell ⟨SB, 1, none⟩ (.slice A5 C.length c5)) := hb25.setCell (by show w.heap.size ≤ SB; omega) _
  have HAT6 : RowKit.Hid (At (Rw V2.heap.size (w5.setCell ⟨SB, 1, none⟩ (.slice A5 C.length c5))) (w5.setCell ⟨SB, 1, none⟩ (.slice A5 C.length c5)) (.mk t C []) (.slice A5 C.length c5) (.slice none 0 0)) := Lib.hid hat6
  have HV6 := Lib.hid hv6
  have HR6 := Lib.hid hr6
  have HB6 := Lib.hid hb6
  clear hlV hlW hb5 hb25 hAt hat6 hv6 hr6 hb6
  generalize hw6 : World.setCell w5 _ _ = w6 at HAT6 HV6 HR6 HB6 ⊢
  clear hw6 HG5 HVR5 HRR5 HC5 HN5 HS5 HW5 HE1 HV2 HR2 HVR3 HRR3 HSC HSC1 HS7 HN7
  have hlt := (Array.getElem?_eq_some_iff.1 HV6.out).1
  obtain ⟨_, hc0, hc1, hc2⟩ := facts3 HV6.out
  have hrg := range3o hc0 hc1 hc2
  have hltR := (Array.getElem?_eq_some_iff.1 HR6.out).1
  obtain ⟨⟨hf0, hf1, hf2⟩, hd0, hd1, hd2⟩ := facts3 HR6.out
  go_wp2_with fail
  have e9 : ∀ a b c : Value, ((w6.setCell ⟨w.heap.size, 0, none⟩ a).setCell ⟨w.heap.size, 1, none⟩ b).setCell ⟨w.heap.size, 2, none⟩ c = w6.setCells w.heap.size 0 [a, b, c] := fun _ _ _ => rfl
  rw [e9]
  have hlW := HV2W.out
  refine bodyPost_ret (v := .tuple #[.agg #[.int .u8 tz, .slice A5 C.length c5, .slice none 0 0], .int .i64 ((a : Int) + (n : Int)), .bool true]) (results_take (p := 4) (q := 5) (s := 6) rfl _ _ w.heap.size _ _ _ rfl (row_setCells8 HR6.out rfl)) rfl ⟨below_setCells8 _ _ _ HB6.out (Nat.le_refl _), .slice A5 C.length c5, .slice none 0 0, ?_, ?_⟩
  ·
   rw [HRD2.out, ← HTZ.out]
   show _ = Ending.returned (.tuple #[.agg #[.int .u8 ((t.toNat : Nat) : Int), _, _], .int .i64 (((a + n : Nat)) : Int), .bool true])
   rw [show (((a + n : Nat)) : Int) = (a : Int) + (n : Int) by omega]
  ·
   rw [HRD2.out]
   exact at_setCells HAT6.out (by omega) (by omega) 0 _
 ·
  have h10 : ¬ tz < 128 := by have := HTZ.out; omega
  have hrd := HRD.out
  rw [if_neg ht] at hrd
  have HRD2 := Lib.hid hrd
  have hV2W : w.heap.size < SB ∧ SB < V2.heap.size := by have h1 := HZ2.out; omega
  have HV2W := Lib.hid hV2W
  have HLX2 : RowKit.Hid (LX V2 w.heap.size SB (.int .u8 tz) (.slice none 0 0) [] none 0 0 V2) := Lib.hid ⟨rfl, rfl, rfl, Nat.le_refl _, fun _ _ _ _ => rfl, hV2W.2, by omega, by omega, HV2.out, mk_none _ _⟩
  have HNN := Lib.hid (show n ≤ 1000000 by omega)
  obtain ⟨i0, hi, hz0, hz1, hz2⟩ := info_parts Tryz.info_oct
  have HI := Lib.hid hi
  clear hrd ht HRD hV2W hltV hv0 hv1 hv2 hw0 hw1 hw2 hi h1 h4 e1
  have h4 : (m : Int) ≤ (c : Int) := by have := HCM.out.1; omega
  go_wp2_with fail
  clear h10
  go_loopw [8] (fun at_ wr => ∃ (q : Nat) (ts : List (Oct × Value × Value)) (PB : Option Addr) (pd kk j : Nat), at_ = .int .i64 (q : Int) ∧ RowKit.Hid (a ≤ q ∧ q ≤ a + n ∧ (C.drop (q - a)).length ≤ j ∧ 2 * kk + (a + n - q) ≤ n ∧ rds (rd d) n C = (rds (rd d) j (C.drop (q - a))).map (ts.map (·.1) ++ ·)) ∧ RowKit.Hid (LX V2 w.heap.size SB (.int .u8 tz) (.slice none 0 0) ts PB pd kk wr) ∧ RowKit.Hid (Below w.heap.size w wr) ∧ RowKit.Hid (wr.heap[w.heap.size]? = some (.cells #[.int .u8 0, .slice none 0 0, .slice none 0 0] 50 (0, 0)))) (fun at_ _ => a + n - (intOf at_).toNat)
  case atStart => exact ⟨a, [], none, 0, 0, n, rfl, Lib.hid ⟨Nat.le_refl _, by omega, by rw [Nat.sub_self, List.drop_zero, HCL.out]; exact Nat.le_refl _, by omega, by rw [Nat.sub_self, List.drop_zero]; cases rds (rd d) n C <;> simp⟩, HLX2, HB2, HR2⟩
  case round =>
   clear HLX2 HB2 HR2 HV2
   obtain ⟨q, ts, PB, pd, kk, j, rfl, HJ, HLX, HBW, HRW⟩ := hrel
   by_cases hlt : q < a + n
   ·
    have hqi : (q : Int) < (a : Int) + (n : Int) := by omega
    have hq5 : (q : Int) ≤ 2000000 := by omega
    obtain ⟨Q, hQ⟩ : ∃ Q, C.drop (q - a) = Q := ⟨_, rfl⟩
    obtain ⟨jn, hjn⟩ : ∃ jn, a + n - q = jn := ⟨_, rfl⟩
    have hQl : Q.length = jn := by rw [← hQ, List.length_drop, HCL.out]; have := HJ.out; omega
    have hsq : SrcAt (some ⟨g, off + q, none⟩) Q wr := by
     have h1 := srcAt_drop (HSC.out.on HBW.out) (q - a)
     rw [hQ, Option.map_some, add_eq, show off + a + (q - a) = off + q by have := HJ.out.1; omega] at h1
     exact h1
    have hacq : q + jn ≤ c := by have h1 := HAN.out; have h2 := HCM.out; have h3 := HJ.out; omega
    have hup : (a : Int) + (n : Int) = (q : Int) + (jn : Int) := by omega
    have htq := fun (A7 : Option Addr) (c7 : Nat) (k1 : SrcAt A7 Q wr) (k2 : jn ≤ c7) (k3 : c7 ≤ c) => HT.out Q A7 c7 (D + 1) wr (by have := HD.out; omega) (by rw [hQl]; have := HNN.out; omega) (by rw [hQl]; exact k2) (by have := HCM.out.2; omega) k1
    rw [hQl] at htq
    have HUP := Lib.hid hup
    have HAQ := Lib.hid hacq
    have HSQ := Lib.hid hsq
    have HQL := Lib.hid hQl
    have HLT := Lib.hid hlt
    have HQ := Lib.hid hQ
    have HJN := Lib.hid hjn
    clear hup hacq hsq hQl hlt hQ hjn
    cases hr : rd d Q with
    | none =>
     rw [hr] at htq
     have HTQ := Lib.hid (fun (A7 : Option Addr) (c7 : Nat) k1 k2 k3 => (show Calls Tryz.prog 57 #[.slice A7 jn c7, .int .i64 (D + 1)] wr (fun e w' => Below wr.heap.size wr w' ∧ ∃ A2 m2 c2 B2 n2 d2, e = .returned (.tuple #[.agg #[.int .u8 0, .slice A2 m2 c2, .slice B2 n2 d2], .int .i64 0, .bool false])) from (htq A7 c7 k1 k2 k3).mono fun e w' ⟨p1, x, y, p2, p3⟩ => by
      obtain ⟨A2, m2, c2, B2, n2, d2, rfl, rfl⟩ := p3.slices
      exact ⟨p1, A2, m2, c2, B2, n2, d2, p2⟩))
     have HRN : RowKit.Hid (RR = none) := Lib.hid (by
      rw [HRD2.out, HJ.out.2.2.2.2, HQ.out]
      cases Q with
      | nil => exact absurd HQL.out (by rw [List.length_nil]; have := HLT.out; have := HJN.out; omega)
      | cons y Q' =>
       obtain ⟨i, rfl⟩ : ∃ i, j = i + 1 := ⟨j - 1, by have h1 := HJ.out.2.2.1; rw [HQ.out, List.length_cons] at h1; omega⟩
       rw [rds, hr]
       rfl)
     clear htq hr
     go_wp2_with (refine wpList_slice_any rfl (.tmp 58) (.tmp 59) (.tmp 60) rfl g off m c q jn _ HUP.out rfl rfl rfl HAQ.out ?_; intro A7 c7 h71 h72 h73 h74; have HCALL := Lib.hid (HTQ.out A7 c7 (src_or h71 HQL.out HSQ.out) h72 h73); clear h71 h72 h73 h74)
     refine HCALL.out.mono ?_
     rintro e z5 ⟨hb5, A2, m2, c2, B2, n2, d2, rfl⟩
     have HB6 : RowKit.Hid (Below w.heap.size w (z5.alloc (.cells #[.int .u8 0, .slice A2 m2 c2, .slice B2 n2 d2] 50))) := Lib.hid (HBW.out.trans ((chain hb5 (below_new z5 _)).mono HBW.out.size))
     have HR6 := Lib.hid (row_on HRW.out (chain hb5 (below_new z5 (.cells #[.int .u8 0, .slice A2 m2 c2, .slice B2 n2 d2] 50))))
     clear hb5 HLX HBW HRW HTQ HCALL HJ
     go_upto_region 11 with (fail)
     generalize hV6 : World.alloc z5 _ = z6 at HB6 HR6 ⊢
     clear hV6
     have hlt := (Array.getElem?_eq_some_iff.1 HR6.out).1
     obtain ⟨⟨hf0, hf1, hf2⟩, hc0, hc1, hc2⟩ := facts3 HR6.out
     go_wp2_with fail
     have e9 : ∀ a b c : Value, ((z6.setCell ⟨w.heap.size, 0, none⟩ a).setCell ⟨w.heap.size, 1, none⟩ b).setCell ⟨w.heap.size, 2, none⟩ c = z6.setCells w.heap.size 0 [a, b, c] := fun _ _ _ => rfl
     rw [e9]
     refine bodyPost_ret (v := .tuple #[.agg #[.int .u8 0, .slice none 0 0, .slice none 0 0], .int .i64 0, .bool false]) (results_take (p := 4) (q := 5) (s := 6) rfl _ _ w.heap.size _ _ _ rfl (row_setCells8 HR6.out rfl)) rfl ⟨below_setCells8 _ _ _ HB6.out (Nat.le_refl _), .slice none 0 0, .slice none 0 0, by rw [HRN.out]; rfl, by rw [HRN.out]; exact nil_list _ _⟩
    | some p =>
     obtain ⟨o, mm⟩ := p
     obtain ⟨_, _, hm1, hm2⟩ := rd_some d Q o mm hr
     have hm3 := enc_pos o
     rw [hm2, List.length_take, Nat.min_eq_left hm1] at hm3
     rw [hr] at htq
     obtain ⟨oz, hoz⟩ : ∃ oz : Int, ((tagO o).toNat : Int) = oz := ⟨_, rfl⟩
     have HTQ := Lib.hid (fun (A7 : Option Addr) (c7 : Nat) k1 k2 k3 => (show Calls Tryz.prog 57 #[.slice A7 jn c7, .int .i64 (D + 1)] wr (fun e w' => Below wr.heap.size wr w' ∧ ∃ x y, e = .returned (.tuple #[.agg #[.int .u8 oz, x, y], .int .i64 (mm : Int), .bool true]) ∧ At (Rw wr.heap.size w') w' o x y) from by rw [← hoz]; exact htq A7 c7 k1 k2 k3))
     have HOZ := Lib.hid hoz
     have HMM := Lib.hid (And.intro hm1 hm3)
     have HRS := Lib.hid hr
     clear htq hr hm1 hm2 hm3 hoz
     go_wp2_with (refine wpList_slice_any rfl (.tmp 58) (.tmp 59) (.tmp 60) rfl g off m c q jn _ HUP.out rfl rfl rfl HAQ.out ?_; intro A7 c7 h71 h72 h73 h74; have HCALL := Lib.hid (HTQ.out A7 c7 (src_or h71 HQL.out HSQ.out) h72 h73); clear h71 h72 h73 h74)
     refine HCALL.out.mono ?_
     rintro e z5 ⟨hb5, x, y, rfl, hat5⟩
     obtain ⟨A2, m2, c2, B2, n2, d2, rfl, rfl⟩ := hat5.slices
     have hone := oct_one hat5
     rw [HOZ.out] at hone
     have HONE := Lib.hid hone
     have hb6 := chain hb5 (below_new z5 (.cells #[.int .u8 oz, .slice A2 m2 c2, .slice B2 n2 d2] 50))
     have HB6 := Lib.hid hb6
     have HAT6 := Lib.hid (hat5.own (b' := wr.heap.size) (below_new z5 (.cells #[.int .u8 oz, .slice A2 m2 c2, .slice B2 n2 d2] 50)) (Nat.le_refl _))
     have HXB6 := Lib.hid (heap_alloc_new z5 (.cells #[.int .u8 oz, .slice A2 m2 c2, .slice B2 n2 d2] 50))
     have HLX6 := Lib.hid (HLX.out.on hb6)
     clear hb5 hb6 hat5 hone HTQ HCALL HSQ
     go_upto_region 13 with (fail)
     generalize hV6 : World.alloc z5 _ = z6 at HB6 HAT6 HXB6 HLX6 ⊢
     clear hV6
     have hlV := (Array.getElem?_eq_some_iff.1 HLX6.out.rg).1
     obtain ⟨⟨_, _, hv2⟩, hw0, hw1, hw2⟩ := facts3 HLX6.out.rg
     have hlX := (Array.getElem?_eq_some_iff.1 HXB6.out).1
     obtain ⟨_, hx0, hx1, hx2⟩ := facts3 HXB6.out
     have hrx := range3o hx0 hx1 hx2
     have hb7 := below_new z6 (.cells #[.int .u8 oz, .slice A2 m2 c2, .slice B2 n2 d2] 50)
     have HLX7 := Lib.hid (HLX6.out.on hb7)
     have HAT7 := Lib.hid (HAT6.out.own (b' := wr.heap.size) hb7 (Nat.le_refl _))
     have HB7 := Lib.hid (chain HB6.out hb7)
     have HLOO : RowKit.Hid (∀ j, Value.ownBlock (.slice PB kk pd) = some j → j < wr.heap.size) := Lib.hid (fun j hj => (HLX.out.lm.own.lt j hj).2)
     have HKB : RowKit.Hid (kk ≤ 500000) := Lib.hid (by have h1 := HJ.out.2.2.2.1; have h2 := HNN.out; omega)
     have HWS : RowKit.Hid (V2.heap.size ≤ wr.heap.size) := Lib.hid HLX.out.sz
     clear hb7
     go_upto_region 14 with (at_builtin; go_loud (refine wpList_append_own_at _ rfl (.tmp 72) (.tmp 74) 48 rfl V2.heap.size 50 i0 (.agg #[.int .u8 0, .slice none 0 0, .slice none 0 0]) 3 56 Tryz.underlying48 HI.out hz0 hz1 hz2 rfl (by decide) _ _ _ rfl HLX7.out.lm.own ⟨z6.heap.size, 0, none⟩ 1 1 [.int .u8 oz, .slice A2 m2 c2, .slice B2 n2 d2] rfl rfl (cell_three_new _ _ _ _ _) HONE.out (by have := HKB.out; unfold maxLen; omega) (by have := HKB.out; omega) HLX7.out.sz ?_); intro v8 z8 hown8 hgrow8 _ hloc8; have HO8 := Lib.hid hown8; have HG8 := Lib.hid hgrow8; have HL8 := Lib.hid hloc8; clear hown8 hgrow8 hloc8; obtain ⟨A8, c8, rfl⟩ := own_sliceO HO8.out; have HPUT := Lib.hid (HLX7.out.lm.put2 wr.heap.size HLOO.out HWS.out HAT7.out (by rw [HOZ.out]; exact HO8.out) HG8.out HL8.out); have HS8 := Lib.hid (HLX7.out.step HG8.out HPUT.out); obtain ⟨⟨_, _, hf8⟩, _, _, hc8⟩ := facts3 HS8.out.1; have hl8 := (Array.getElem?_eq_some_iff.1 HS8.out.1).1)
     clear hl8 hf8 hc8 hlV hv2 hw0 hw1 hw2 hlX hx0 hx1 hx2 hrx
     have hbl := HLX7.out.lm.own.lt
     have hsz := HWS.out
     have hlw := HV2W.out
     have hb7w : Below w.heap.size w (z6.alloc (.cells #[.int .u8 oz, .slice A2 m2 c2, .slice B2 n2 d2] 50)) := HBW.out.trans (HB7.out.mono HBW.out.size)
     have hb8 : Below w.heap.size w z8 := hb7w.grown HG8.out hb7w.size (fun j hj => by have := (hbl j hj).1; omega)
     have HX9 := Lib.hid HS8.out.2
     have HB9 := Lib.hid (hb8.setCell (p := ⟨SB, 2, none⟩) (by show w.heap.size ≤ SB; omega) (.slice A8 (kk + 1) c8))
     have HR9 : RowKit.Hid ((z8.setCell ⟨SB, 2, none⟩ (.slice A8 (kk + 1) c8)).heap[w.heap.size]? = some (.cells #[.int .u8 0, .slice none 0 0, .slice none 0 0] 50 (0, 0))) := Lib.hid (by
      have q5 := row_on HRW.out HB7.out
      rw [Below.heap_setCell _ _ _ _ (by show w.heap.size ≠ SB; omega), HG8.out.block w.heap.size (Array.getElem?_eq_some_iff.1 q5).1 (fun e => by have := (hbl _ e.symm).1; omega)]
      exact q5)
     clear hbl hb7w hb8
     generalize World.setCell _ _ _ = z9 at HX9 HB9 HR9 ⊢
     have hJ := HJ.out
     rw [HQ.out] at hJ
     have hmm := HMM.out
     have hql := HQL.out
     have hjn := HJN.out
     have hlt2 := HLT.out
     obtain ⟨i, rfl⟩ : ∃ i, j = i + 1 := ⟨j - 1, by have h1 := hJ.2.2.1; omega⟩
     have hdq : C.drop (q + mm - a) = Q.drop mm := by
      rw [← HQ.out, List.drop_drop]
      congr 1
      omega
     have HJ9 : RowKit.Hid (a ≤ q + mm ∧ q + mm ≤ a + n ∧ (C.drop (q + mm - a)).length ≤ i ∧ 2 * (kk + 1) + (a + n - (q + mm)) ≤ n ∧ rds (rd d) n C = (rds (rd d) i (C.drop (q + mm - a))).map ((ts ++ [(o, Value.slice A2 m2 c2, Value.slice B2 n2 d2)]).map (·.1) ++ ·)) := Lib.hid (by
      refine ⟨by omega, by omega, by rw [hdq, List.length_drop]; omega, by omega, ?_⟩
      rw [hdq, hJ.2.2.2.2]
      cases hQ2 : Q with
      | nil => exact absurd hql (by rw [hQ2, List.length_nil]; omega)
      | cons y Q' =>
       rw [rds, ← hQ2, HRS.out]
       show ((rds (rd d) i (Q.drop mm)).map (o :: ·)).map _ = _
       cases rds (rd d) i (Q.drop mm) <;> simp)
     have hmi : (mm : Int) ≤ 1000000 := by have h1 := HNN.out; omega
     have HMS : RowKit.Hid (a + n - (q + mm) < a + n - q) := Lib.hid (by omega)
     clear hJ hmm hql hjn hlt2 hdq hsz hlw
     go_wp2_with fail
     exact ⟨⟨q + mm, _, A8, c8, kk + 1, i, by first | rfl | go_num, HJ9, HX9, HB9, HR9⟩, by have h1 := HMS.out; simp [intOf]; omega⟩
   ·
    have hqe : q = a + n := by have := HJ.out.2.1; omega
    have hge : ¬ (q : Int) < (a : Int) + (n : Int) := by omega
    have hpr : rds (rd d) n C = some (ts.map (·.1)) := by
     rw [HJ.out.2.2.2.2, show C.drop (q - a) = [] from List.drop_of_length_le (by rw [HCL.out]; omega), show rds (rd d) j [] = some [] by cases j <;> rfl]
     simp
    have HP9 : RowKit.Hid (RR = some (.mk t [] (ts.map (·.1)), a + n)) := Lib.hid (by rw [HRD2.out, hpr]; rfl)
    have hlV := (Array.getElem?_eq_some_iff.1 HLX.out.rg).1
    obtain ⟨_, hc0, hc1, hc2⟩ := facts3 HLX.out.rg
    have hrg := range3o hc0 hc1 hc2
    have hltR := (Array.getElem?_eq_some_iff.1 HRW.out).1
    obtain ⟨⟨hf0, hf1, hf2⟩, hd0, hd1, hd2⟩ := facts3 HRW.out
    have hlm := HLX.out.lm
    have hln : kk = ts.length := hlm.len.symm
    have how := hlm.own
    rw [hln] at how
    obtain ⟨B2, d2, hv2, hfin⟩ := at_of_rows t (b := []) (A := none) (c := 0) how hlm.done (by have h1 := HJ.out.2.2.2.1; have h2 := HNN.out; omega) (Nat.le_refl _) (by decide) (fun _ => rfl) (fun h => absurd rfl h) (fun _ _ _ h => absurd rfl h)
    rw [← hln] at hfin
    have HFIN := Lib.hid hfin
    clear hpr hlm hln how hv2 hfin hlt hqe
    go_wp2_with fail
    have e9 : ∀ a b c : Value, ((wr.setCell ⟨w.heap.size, 0, none⟩ a).setCell ⟨w.heap.size, 1, none⟩ b).setCell ⟨w.heap.size, 2, none⟩ c = wr.setCells w.heap.size 0 [a, b, c] := fun _ _ _ => rfl
    rw [e9]
    have hlW := HV2W.out
    refine bodyPost_ret (v := .tuple #[.agg #[.int .u8 tz, .slice none 0 0, .slice PB kk pd], .int .i64 ((a : Int) + (n : Int)), .bool true]) (results_take (p := 4) (q := 5) (s := 6) rfl _ _ w.heap.size _ _ _ rfl (row_setCells8 HRW.out rfl)) rfl ⟨below_setCells8 _ _ _ HBW.out (Nat.le_refl _), .slice none 0 0, .slice PB kk pd, ?_, ?_⟩
    ·
     rw [HP9.out, ← HTZ.out]
     show _ = Ending.returned (.tuple #[.agg #[.int .u8 ((t.toNat : Nat) : Int), _, _], .int .i64 (((a + n : Nat)) : Int), .bool true])
     rw [show (((a + n : Nat)) : Int) = (a : Int) + (n : Int) by omega]
    ·
     rw [HP9.out]
     exact at_setCells HFIN.out (by omega) (by omega) 0 _
theorem take_step (d : Nat) (hd : d ≤ 11) (hT : TakeC d) : TakeC (d + 1) := fun b A c D V hD hb hc hcm hs => by
 cases hh : hdV b with
 | none =>
  rw [rd_none _ b hh]
  exact take_none b (d + 1) D hD (by omega) hb A c V hs (.inl hh)
 | some p =>
  obtain ⟨t, a, n⟩ := p
  by_cases hmn : b.length < a + n
  ·
   rw [rd_head d b t a n hh, if_pos hmn]
   exact take_none b (d + 1) D hD (by omega) hb A c V hs (.inr ⟨t, a, n, hh, .inl hmn⟩)
  ·
   exact take_some d hd hT b t a n hh (by omega) D hD hb A c hc hcm V hs
theorem take_all : ∀ d, d ≤ 12 → TakeC d := fun d => by
 induction d with
 | zero => intro _; exact take_zero
 | succ d ih => intro h; exact take_step d (by omega) (ih (by omega))
theorem decV_rd (b : List UInt8) : decV b = if 65536 < b.length then (nilO, 4) else if trB (rd 12 b) = true ∧ trN (rd 12 b) = b.length ∧ ckV (trO (rd 12 b)) = 0 then (trO (rd 12 b), 0) else (nilO, 12) := by
 by_cases h1 : 65536 < b.length
 ·
  rw [if_pos h1]
  unfold decV
  rw [if_pos h1]
 ·
  rw [if_neg h1]
  rcases decV_cases b with ⟨o, h2, h3, h4⟩ | ⟨h2, h3⟩ | ⟨h2, h3⟩
  ·
   have hr := back o ((ckV_good o).1 h4)
   rw [h3] at hr
   rw [h2, hr, if_pos ⟨rfl, rfl, h4⟩]
   rfl
  ·
   exact absurd h3 h1
  ·
   rw [h2, if_neg]
   rintro ⟨k1, k2, k3⟩
   cases hr : rd 12 b with
   | none => rw [hr] at k1; cases k1
   | some p =>
    obtain ⟨o, n⟩ := p
    rw [hr] at k2 k3
    obtain rfl : n = b.length := k2
    have he := (once b o hr).2.2
    have h5 := decV_enc o k3
    rw [he, h2] at h5
    cases (Prod.mk.inj h5).2
end Go.Proofs.YtcgffkkfeimifaaGreat
namespace Go.Proofs.YtcgffkkfeimifaaGreat
open Go.RowKit Sha Oc
set_option linter.unusedVariables false
set_option linter.unusedSimpArgs false
set_option maxRecDepth 100000
theorem results_dec {fn : Func} {p q : Tmp} (h : fn.results = #[.cell p 50, .tmp q]) (tmps : Array Value) (w : World) (g : Nat) (a b c : Value)
  (hp : tmps.getD p undef = .pointer (some ⟨g, 0, none⟩)) (hg : w.heap[g]? = some (.cells #[a, b, c] 50 (0, 0))) :
  (results fn tmps).run Tryz.prog w = .ok (.tuple #[.agg #[a, b, c], tmps.getD q undef]) w := by
 have hp' : tmps[p]?.getD undef = .pointer (some ⟨g, 0, none⟩) := by simpa using hp
 simp [results, h, hp', asAddr, run_loadVar_row w g _ _ _ _ _ hg Tryz.underlying50 rfl (sz3o a b c)]
set_option maxHeartbeats 4000000 in
theorem decode_ref_of (b : List UInt8) (hb : b.length ≤ 100000) (A : Option Addr) (c : Nat) (hc : b.length ≤ c) (hcm : c ≤ 140737488355328) (w : World) (hs : SrcAt A b w)
  (hCK : b.length ≤ 65536 → trB (rd 12 b) = true → ∀ (V : World) (x y : Value), At (fun _ => True) V (trO (rd 12 b)) x y → Calls Tryz.prog 58 #[.agg (cell3 (trO (rd 12 b)) x y)] V (fun e w' => e = .returned (.int .i64 (ckV (trO (rd 12 b)))) ∧ Below V.heap.size V w')) :
  Calls Tryz.prog 25 #[.slice A b.length c] w (DecPost b w) := by
 have hT := fun (V : World) (h : Below w.heap.size w V) => take_all 12 (Nat.le_refl _) b A c 1 V (by omega) (by omega) hc hcm (hs.on h)
 unfold TrPost at hT
 have hdv := decV_rd b
 unfold DecPost
 obtain ⟨m, hm⟩ : ∃ m, b.length = m := ⟨_, rfl⟩
 obtain ⟨R, hR⟩ : ∃ R, rd 12 b = R := ⟨_, rfl⟩
 rw [hR] at hT hdv hCK
 rw [hm] at hT hdv hb hCK ⊢
 obtain ⟨DV, hDV⟩ : ∃ DV, decV b = DV := ⟨_, rfl⟩
 rw [hDV] at hdv ⊢
 have HT := Lib.hid hT
 have HCK := Lib.hid hCK
 have HR0 := Lib.hid (heap_alloc_new w (.cells #[.int .u8 0, .slice none 0 0, .slice none 0 0] 50))
 have HB0 := Lib.hid (below_new w (.cells #[.int .u8 0, .slice none 0 0, .slice none 0 0] 50))
 by_cases h1 : 65536 < m
 ·
  rw [if_pos h1] at hdv
  have HDV := Lib.hid hdv
  have h1i : (65536 : Int) < (m : Int) := by omega
  clear hT hCK hs hm hR hDV hdv h1 hc hcm hb
  go_enter Tryz.func25, Tryz.ntmps25
  go_upto_region 1 with (fail)
  generalize hV : World.alloc w _ = V at HR0 HB0 ⊢
  clear hV
  have hlt := (Array.getElem?_eq_some_iff.1 HR0.out).1
  obtain ⟨⟨hf0, hf1, hf2⟩, hc0, hc1, hc2⟩ := facts3 HR0.out
  go_wp2_with fail
  have e9 : ∀ a b c : Value, ((V.setCell ⟨w.heap.size, 0, none⟩ a).setCell ⟨w.heap.size, 1, none⟩ b).setCell ⟨w.heap.size, 2, none⟩ c = V.setCells w.heap.size 0 [a, b, c] := fun _ _ _ => rfl
  rw [e9]
  refine bodyPost_ret (v := .tuple #[.agg #[.int .u8 0, .slice none 0 0, .slice none 0 0], .int .i64 4]) (results_dec (p := 2) (q := 3) rfl _ _ w.heap.size _ _ _ rfl (row_setCells8 HR0.out rfl)) rfl ⟨below_setCells8 _ _ _ HB0.out (Nat.le_refl _), .slice none 0 0, .slice none 0 0, by rw [HDV.out]; rfl, by rw [HDV.out]; exact nil_list _ _⟩
 ·
  rw [if_neg h1] at hdv
  have HDV := Lib.hid hdv
  have h1i : ¬ (65536 : Int) < (m : Int) := by omega
  have HM := Lib.hid (show m ≤ 65536 by omega)
  clear hT hCK hs hm hR hDV hdv h1 hc hcm hb
  go_enter Tryz.func25, Tryz.ntmps25
  go_upto_region 1 with (fail)
  generalize hV : World.alloc w _ = V at HR0 HB0 ⊢
  clear hV
  go_wp2_with fail
  refine (HT.out V HB0.out).mono ?_
  rintro e w1 ⟨hb1, x, y, rfl, hat1⟩
  obtain ⟨A2, m2, c2, B2, n2, d2, rfl, rfl⟩ := hat1.slices
  obtain ⟨tz, htz⟩ : ∃ tz : Int, ((tagO (trO R)).toNat : Int) = tz := ⟨_, rfl⟩
  obtain ⟨bk, hbk⟩ : ∃ bk, trB R = bk := ⟨_, rfl⟩
  obtain ⟨N, hN⟩ : ∃ N, trN R = N := ⟨_, rfl⟩
  obtain ⟨E, hE⟩ : ∃ E, ckV (trO R) = E := ⟨_, rfl⟩
  have hck := HCK.out HM.out
  unfold cell3 at hck
  rw [htz, hbk, hE] at hck
  have hdv := HDV.out
  rw [hbk, hN, hE] at hdv
  unfold cell3
  rw [htz, hbk, hN]
  have hb2 := below_new w1 (.cells #[.int .u8 tz, .slice A2 m2 c2, .slice B2 n2 d2] 50)
  have hat2 := hat1.own (b' := V.heap.size) hb2 (Nat.le_refl _)
  have HXB := Lib.hid (heap_alloc_new w1 (.cells #[.int .u8 tz, .slice A2 m2 c2, .slice B2 n2 d2] 50))
  have HR2 := Lib.hid (row_on HR0.out (chain hb1 hb2))
  have HB2 := Lib.hid (chain HB0.out (chain hb1 hb2))
  have HVS : RowKit.Hid (w.heap.size < V.heap.size) := Lib.hid ((Array.getElem?_eq_some_iff.1 HR0.out).1)
  have HAT2 := Lib.hid hat2
  have HTZ := Lib.hid htz
  clear hb1 hb2 hat1 hat2 htz hbk hN hE HT HCK HDV HR0 HB0
  have HCK := Lib.hid hck
  clear hck
  go_upto_region 4 with (fail)
  obtain ⟨XB, hXB⟩ : ∃ XB, w1.heap.size = XB := ⟨_, rfl⟩
  rw [hXB] at HXB
  try rw [hXB]
  generalize hV2 : World.alloc w1 _ = w2 at HXB HR2 HB2 HAT2 ⊢
  clear hV2 hXB
  have hlX := (Array.getElem?_eq_some_iff.1 HXB.out).1
  obtain ⟨_, hx0, hx1, hx2⟩ := facts3 HXB.out
  have hrx := range3o hx0 hx1 hx2
  cases bk with
  | false =>
   rw [if_neg (fun h => by cases h.1)] at hdv
   have HDV := Lib.hid hdv
   clear hdv
   have hlt := (Array.getElem?_eq_some_iff.1 HR2.out).1
   obtain ⟨⟨hf0, hf1, hf2⟩, hc0, hc1, hc2⟩ := facts3 HR2.out
   go_wp2_with fail
   have e9 : ∀ a b c : Value, ((w2.setCell ⟨w.heap.size, 0, none⟩ a).setCell ⟨w.heap.size, 1, none⟩ b).setCell ⟨w.heap.size, 2, none⟩ c = w2.setCells w.heap.size 0 [a, b, c] := fun _ _ _ => rfl
   rw [e9]
   refine bodyPost_ret (v := .tuple #[.agg #[.int .u8 0, .slice none 0 0, .slice none 0 0], .int .i64 12]) (results_dec (p := 2) (q := 3) rfl _ _ w.heap.size _ _ _ rfl (row_setCells8 HR2.out rfl)) rfl ⟨below_setCells8 _ _ _ HB2.out (Nat.le_refl _), .slice none 0 0, .slice none 0 0, by rw [HDV.out]; rfl, by rw [HDV.out]; exact nil_list _ _⟩
  | true =>
   by_cases hNm : N = m
   ·
    subst hNm
    have hne : ((N : Int) != (N : Int)) = false := by simp
    go_wp2_with fail
    refine (HCK.out (by first | rfl | trivial) w2 _ _ HAT2.out.any).mono ?_
    rintro e w3 ⟨rfl, hb3⟩
    have HR3 := Lib.hid (row_on HR2.out hb3)
    have HX3 := Lib.hid (row_on HXB.out hb3)
    have HB3 := Lib.hid (chain HB2.out hb3)
    have HAT3 := Lib.hid (HAT2.out.own (b' := V.heap.size) hb3 (Nat.le_refl _))
    clear hb3 hlX hx0 hx1 hx2 hrx HR2 HXB HB2 HAT2
    have hlX := (Array.getElem?_eq_some_iff.1 HX3.out).1
    obtain ⟨_, hx0, hx1, hx2⟩ := facts3 HX3.out
    have hrx := range3o hx0 hx1 hx2
    by_cases he : E = 0
    ·
     rw [if_pos ⟨by first | rfl | trivial, by first | rfl | trivial, he⟩] at hdv
     have HDV := Lib.hid hdv
     subst he
     clear hdv
     have hlt := (Array.getElem?_eq_some_iff.1 HR3.out).1
     obtain ⟨⟨hf0, hf1, hf2⟩, hc0, hc1, hc2⟩ := facts3 HR3.out
     go_wp2_with fail
     have e9 : ∀ a b c : Value, ((w3.setCell ⟨w.heap.size, 0, none⟩ a).setCell ⟨w.heap.size, 1, none⟩ b).setCell ⟨w.heap.size, 2, none⟩ c = w3.setCells w.heap.size 0 [a, b, c] := fun _ _ _ => rfl
     rw [e9]
     refine bodyPost_ret (v := .tuple #[.agg #[.int .u8 tz, .slice A2 m2 c2, .slice B2 n2 d2], .int .i64 0]) (results_dec (p := 2) (q := 3) rfl _ _ w.heap.size _ _ _ rfl (row_setCells8 HR3.out rfl)) rfl ⟨below_setCells8 _ _ _ HB3.out (Nat.le_refl _), .slice A2 m2 c2, .slice B2 n2 d2, ?_, ?_⟩
     ·
      rw [HDV.out, ← HTZ.out]
      try rfl
     ·
      rw [HDV.out]
      exact at_setCells HAT3.out HVS.out (Nat.le_of_lt HVS.out) 0 _
    ·
     rw [if_neg (fun h => he h.2.2)] at hdv
     have HDV := Lib.hid hdv
     have hne2 : ((E : Int) != 0) = true := by simp [he]
     clear hdv he
     have hlt := (Array.getElem?_eq_some_iff.1 HR3.out).1
     obtain ⟨⟨hf0, hf1, hf2⟩, hc0, hc1, hc2⟩ := facts3 HR3.out
     go_wp2_with fail
     have e9 : ∀ a b c : Value, ((w3.setCell ⟨w.heap.size, 0, none⟩ a).setCell ⟨w.heap.size, 1, none⟩ b).setCell ⟨w.heap.size, 2, none⟩ c = w3.setCells w.heap.size 0 [a, b, c] := fun _ _ _ => rfl
     rw [e9]
     refine bodyPost_ret (v := .tuple #[.agg #[.int .u8 0, .slice none 0 0, .slice none 0 0], .int .i64 12]) (results_dec (p := 2) (q := 3) rfl _ _ w.heap.size _ _ _ rfl (row_setCells8 HR3.out rfl)) rfl ⟨below_setCells8 _ _ _ HB3.out (Nat.le_refl _), .slice none 0 0, .slice none 0 0, by rw [HDV.out]; rfl, by rw [HDV.out]; exact nil_list _ _⟩
   ·
    rw [if_neg (fun h => hNm h.2.1)] at hdv
    have HDV := Lib.hid hdv
    have hne : ((N : Int) != (m : Int)) = true := by simp; omega
    clear hdv hNm
    have hlt := (Array.getElem?_eq_some_iff.1 HR2.out).1
    obtain ⟨⟨hf0, hf1, hf2⟩, hc0, hc1, hc2⟩ := facts3 HR2.out
    go_wp2_with fail
    have e9 : ∀ a b c : Value, ((w2.setCell ⟨w.heap.size, 0, none⟩ a).setCell ⟨w.heap.size, 1, none⟩ b).setCell ⟨w.heap.size, 2, none⟩ c = w2.setCells w.heap.size 0 [a, b, c] := fun _ _ _ => rfl
    rw [e9]
    refine bodyPost_ret (v := .tuple #[.agg #[.int .u8 0, .slice none 0 0, .slice none 0 0], .int .i64 12]) (results_dec (p := 2) (q := 3) rfl _ _ w.heap.size _ _ _ rfl (row_setCells8 HR2.out rfl)) rfl ⟨below_setCells8 _ _ _ HB2.out (Nat.le_refl _), .slice none 0 0, .slice none 0 0, by rw [HDV.out]; rfl, by rw [HDV.out]; exact nil_list _ _⟩
theorem decode_ref (b : List UInt8) (hb : b.length ≤ 100000) (A : Option Addr) (c : Nat) (hc : b.length ≤ c) (hcm : c ≤ 140737488355328) (w : World) (hs : SrcAt A b w) :
  Calls Tryz.prog 25 #[.slice A b.length c] w (DecPost b w) :=
 decode_ref_of b hb A c hc hcm w hs fun h1 h2 V x y hat => by
  cases hr : rd 12 b with
  | none => rw [hr] at h2; cases h2
  | some p =>
   obtain ⟨o, n⟩ := p
   obtain ⟨_, _, h3, h4⟩ := rd_some 12 b o n hr
   have h5 : (enc o).length ≤ 65536 := by rw [h4, List.length_take]; omega
   rw [hr] at hat
   have h6 := cnt_enc o
   have h7 := tot_enc o
   exact check_ref8 o (by omega) (by omega) V x y hat
end Go.Proofs.YtcgffkkfeimifaaGreat
