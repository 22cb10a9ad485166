import Derived.Test.YtcgffkkfeimifaaGreatDoorSgC
namespace Go.Proofs.YtcgffkkfeimifaaGreatDoor
namespace Sg
open Go.RowKit Sha
set_option linter.unusedVariables false
set_option linter.unusedSimpArgs false
theorem ba_eq (a b : ByteArray) : (a.toList == b.toList) = decide (a = b) := by
 rw [ByteArray.toList_eq, ByteArray.toList_eq, Bool.eq_iff_iff, beq_iff_eq, decide_eq_true_eq]
 constructor
 ·
  intro h
  apply ByteArray.ext
  exact Array.ext' h
 ·
  intro h; rw [h]
structure Sgn where
 idx : Int
 cs : List (List UInt8)
 ps : List (List UInt8)
 deriving DecidableEq
structure Rl where
 iss : ByteArray
 num : Int
 fr : Int
 tt : Int
 ser : List Int
 sg : Sgn
 deriving DecidableEq
structure Mp where
 SA : Option Addr
 sc : Nat
 CA : Option Addr
 cc : Nat
 PA : Option Addr
 pc : Nat
def sgV (s : Sgn) (CA : Option Addr) (cc : Nat) (PA : Option Addr) (pc : Nat) : Value := .agg #[.int .i64 s.idx, .slice CA s.cs.length cc, .slice PA s.ps.length pc]
def rlC (l : Rl) (m : Mp) : Array Value := #[.string l.iss, .int .u64 l.num, .int .i64 l.fr, .int .i64 l.tt, .slice m.SA l.ser.length m.sc, .int .i64 l.sg.idx, .slice m.CA l.sg.cs.length m.cc, .slice m.PA l.sg.ps.length m.pc]
structure RlAt (l : Rl) (m : Mp) (w : World) : Prop where
 ser : Nums m.SA l.ser w
 cs : Shs m.CA l.sg.cs w
 ps : Shs m.PA l.sg.ps w
 ls : l.ser.length ≤ 1000000
 lc : l.sg.cs.length ≤ 100000
 lp : l.sg.ps.length ≤ 100000
theorem RlAt.on {l : Rl} {m : Mp} {w V : World} (h : RlAt l m w) (hb : Below w.heap.size w V) : RlAt l m V := ⟨h.ser.on hb, h.cs.on hb, h.ps.on hb, h.ls, h.lc, h.lp⟩
theorem two_rows (w : World) (o1 o2 : Obj) : Below w.heap.size w ((w.alloc o1).alloc o2) ∧ ((w.alloc o1).alloc o2).heap[w.heap.size]? = some o1 ∧ ((w.alloc o1).alloc o2).heap[w.heap.size + 1]? = some o2 := by
 have b1 := below_new w o1
 have b2 := below_new (w.alloc o1) o2
 have h1 := heap_alloc_new w o1
 have h2 := heap_alloc_new (w.alloc o1) o2
 have s1 : (w.alloc o1).heap.size = w.heap.size + 1 := World.size_alloc ..
 rw [s1] at h2
 refine ⟨chain b1 b2, ?_, h2⟩
 rw [b2.block _ (by rw [s1]; omega)]
 exact h1
theorem sgn_dec (a b : Sgn) : decide (a = b) = (decide (a.idx = b.idx) && decide (a.cs = b.cs) && decide (a.ps = b.ps)) := by
 rw [Bool.eq_iff_iff]
 simp only [Bool.and_eq_true, decide_eq_true_eq]
 cases a; cases b
 simp only [Sgn.mk.injEq]
 constructor
 ·
  rintro ⟨h1, h2, h3⟩; exact ⟨⟨h1, h2⟩, h3⟩
 ·
  rintro ⟨⟨h1, h2⟩, h3⟩; exact ⟨h1, h2, h3⟩
theorem rl_dec (a b : Rl) : decide (a = b) = (decide (a.iss = b.iss) && decide (a.num = b.num) && (decide (a.fr = b.fr) && decide (a.tt = b.tt)) && decide (a.ser = b.ser) && decide (a.sg = b.sg)) := by
 rw [Bool.eq_iff_iff]
 simp only [Bool.and_eq_true, decide_eq_true_eq]
 cases a; cases b
 simp only [Rl.mk.injEq]
 constructor
 ·
  rintro ⟨h1, h2, h3, h4, h5, h6⟩; exact ⟨⟨⟨⟨h1, h2⟩, h3, h4⟩, h5⟩, h6⟩
 ·
  rintro ⟨⟨⟨⟨h1, h2⟩, h3, h4⟩, h5⟩, h6⟩; exact ⟨h1, h2, h3, h4, h5, h6⟩
theorem Tryz.fieldsWin : (Tryz.prog.fieldsOf 27).toList = [{ name := "From", type := 2, offset := 0, embedded := false, tag := "", pkgPath := "", byteOffset := 0 }, { name := "To", type := 2, offset := 1, embedded := false, tag := "", pkgPath := "", byteOffset := 8 }] := by kernel_rfl
theorem eql_win (a b c d : Int) (w : World) : (binOp .eql 27 (.agg #[.int .i64 a, .int .i64 b]) (.agg #[.int .i64 c, .int .i64 d])).run Tryz.prog w = .ok (.bool ((a == c) && (b == d))) w := by
 rw [run_eql_struct, run_equalIn_struct w 9999 27 _ _ (by kernel_rfl) (by kernel_rfl), Tryz.fieldsWin]
 have h1 : (Op.equalIn 9999 2 (.int .i64 a) (.int .i64 c)).run Tryz.prog w = .ok (a == c) w := run_equalIn_int w 9998 2 .i64 .i64 a c Tryz.underlying2
 have h2 : (Op.equalIn 9999 2 (.int .i64 b) (.int .i64 d)).run Tryz.prog w = .ok (b == d) w := run_equalIn_int w 9998 2 .i64 .i64 b d Tryz.underlying2
 have hs : (sizeOf 2).run Tryz.prog w = .ok 1 w := by kernel_rfl
 have ha : (isAgg 2).run Tryz.prog w = .ok false w := by kernel_rfl
 have p1 : ∀ x y : Int, (part 2 #[.int .i64 x, .int .i64 y] 0).run Tryz.prog w = .ok (.int .i64 x) w := fun x y => by simp only [part, Sem.run_bind, ha, Result.andThen_ok, Bool.false_eq_true, if_false]; rfl
 have p2 : ∀ x y : Int, (part 2 #[.int .i64 x, .int .i64 y] 1).run Tryz.prog w = .ok (.int .i64 y) w := fun x y => by simp only [part, Sem.run_bind, ha, Result.andThen_ok, Bool.false_eq_true, if_false]; rfl
 simp only [Op.eqFields]
 rw [if_pos (by decide), if_pos (by decide)]
 simp only [Sem.run_bind, p1, p2, Result.andThen_ok, h1, h2]
 cases hb : (a == c)
 ·
  simp
 ·
  cases hc : (b == d)
  ·
   simp [h2, hc, p2]
  ·
   simp [h2, hc, p2]
set_option maxRecDepth 100000 in
set_option maxHeartbeats 8000000 in
theorem samesig_ref (s t : Sgn) (CA PA CB PB : Option Addr) (cc pc dc qc : Nat) (hl : s.cs.length ≤ 100000 ∧ s.ps.length ≤ 100000) (w : World) (h1 : Shs CA s.cs w) (h2 : Shs PA s.ps w) (h3 : Shs CB t.cs w) (h4 : Shs PB t.ps w) :
  Calls Tryz.prog 49 #[sgV s CA cc PA pc, sgV t CB dc PB qc] w fun e w' => e = .returned (.bool (decide (s = t))) ∧ Below w.heap.size w w' := by
 have hd := sgn_dec s t
 obtain ⟨n, cs, ps⟩ := s
 obtain ⟨n2, cs2, ps2⟩ := t
 unfold sgV
 simp only at hd h1 h2 h3 h4 hl ⊢
 have C1 := Lib.hid (fun (V : World) (hb : Below w.heap.size w V) => same_shs cs cs2 CA CB cc dc (by omega) V (h1.on hb) (h3.on hb))
 have C2 := Lib.hid (fun (V : World) (hb : Below w.heap.size w V) => same_shs ps ps2 PA PB pc qc (by omega) V (h2.on hb) (h4.on hb))
 obtain ⟨hB0, hRa, hRb⟩ := two_rows w (.cells #[.int .i64 n, .slice CA cs.length cc, .slice PA ps.length pc] 30) (.cells #[.int .i64 n2, .slice CB cs2.length dc, .slice PB ps2.length qc] 30)
 have HB0 := Lib.hid hB0
 have HRa := Lib.hid hRa
 have HRb := Lib.hid hRb
 generalize decide ((⟨n, cs, ps⟩ : Sgn) = ⟨n2, cs2, ps2⟩) = R at hd ⊢
 generalize decide (cs = cs2) = E1 at hd C1
 generalize decide (ps = ps2) = E2 at hd C2
 clear h1 h2 h3 h4 hl hB0 hRa hRb
 go_enter Tryz.func49, Tryz.ntmps49
 by_cases hn : n = n2
 ·
  have i1 : (n == n2) = true := by rw [beq_iff_eq]; exact hn
  rw [decide_eq_true hn, Bool.true_and] at hd
  have HD := Lib.hid hd
  clear hd hn
  go_wp2_with fail
  refine (C1.out _ HB0.out).mono ?_
  rintro e w2 ⟨rfl, hb⟩
  have HB2 := Lib.hid (chain HB0.out hb)
  have HRa2 := Lib.hid (row_on HRa.out hb)
  have HRb2 := Lib.hid (row_on HRb.out hb)
  clear hb
  cases E1
  ·
   have HR : RowKit.Hid (R = false) := Lib.hid (by rw [HD.out]; rfl)
   go_wp2_with fail
   go_ret
   exact ⟨by rw [HR.out]; rfl, HB2.out⟩
  ·
   have HR : RowKit.Hid (R = E2) := Lib.hid (by rw [HD.out]; rfl)
   obtain ⟨_, a0, a1, a2⟩ := facts3 HRa2.out
   obtain ⟨_, b0, b1, b2⟩ := facts3 HRb2.out
   have ha := (Array.getElem?_eq_some_iff.1 HRa2.out).1
   have hbl := (Array.getElem?_eq_some_iff.1 HRb2.out).1
   go_wp2_with fail
   refine (C2.out _ HB2.out).mono ?_
   rintro e w3 ⟨rfl, hb⟩
   have HB3 := Lib.hid (chain HB2.out hb)
   clear hb a0 a1 a2 b0 b1 b2 ha hbl
   go_wp2_with fail
   go_ret
   exact ⟨by rw [HR.out]; rfl, HB3.out⟩
 ·
  have i1 : (n == n2) = false := by rw [beq_eq_false_iff_ne]; exact hn
  have HR : RowKit.Hid (R = false) := Lib.hid (by rw [hd, decide_eq_false hn]; rfl)
  clear hd hn
  go_wp2_with fail
  go_ret
  exact ⟨by rw [HR.out]; rfl, HB0.out⟩
set_option maxRecDepth 100000 in
set_option maxHeartbeats 16000000 in
theorem revsame_ref (l m : Rl) (p q : Mp) (w : World) (h1 : RlAt l p w) (h2 : RlAt m q w) :
  Calls Tryz.prog 21 #[.agg (rlC l p), .agg (rlC m q)] w fun e w' => e = .returned (.bool (decide (l = m))) ∧ Below w.heap.size w w' := by
 have hd := rl_dec l m
 obtain ⟨iss, num, fr, tt, xs, n, cs, ps⟩ := l
 obtain ⟨iss2, num2, fr2, tt2, xs2, n2, cs2, ps2⟩ := m
 obtain ⟨SA, sc, CA, cc, PA, pc⟩ := p
 obtain ⟨SB, sd, CB, dc, PB, qc⟩ := q
 unfold rlC
 have j1 := h1.ls
 have j2 := h1.lc
 have j3 := h1.lp
 simp only at hd j1 j2 j3 ⊢
 have C0 := Lib.hid (fun (V : World) (hb : Below w.heap.size w V) => same_nums xs xs2 SA SB sc sd j1 V (h1.ser.on hb) (h2.ser.on hb))
 have C1 := Lib.hid (fun (V : World) (hb : Below w.heap.size w V) => samesig_ref ⟨n, cs, ps⟩ ⟨n2, cs2, ps2⟩ CA PA CB PB cc pc dc qc ⟨j2, j3⟩ V (h1.cs.on hb) (h1.ps.on hb) (h2.cs.on hb) (h2.ps.on hb))
 unfold sgV at C1
 simp only at C1
 obtain ⟨hB0, hRa, hRb⟩ := two_rows w (.cells #[.string iss, .int .u64 num, .int .i64 fr, .int .i64 tt, .slice SA xs.length sc, .int .i64 n, .slice CA cs.length cc, .slice PA ps.length pc] 32) (.cells #[.string iss2, .int .u64 num2, .int .i64 fr2, .int .i64 tt2, .slice SB xs2.length sd, .int .i64 n2, .slice CB cs2.length dc, .slice PB ps2.length qc] 32)
 have HB0 := Lib.hid hB0
 have HRa0 := Lib.hid hRa
 have HRb0 := Lib.hid hRb
 have hei := ba_eq iss iss2
 have hew := eql_win fr tt fr2 tt2
 generalize decide ((⟨iss, num, fr, tt, xs, ⟨n, cs, ps⟩⟩ : Rl) = ⟨iss2, num2, fr2, tt2, xs2, ⟨n2, cs2, ps2⟩⟩) = R at hd ⊢
 generalize decide (xs = xs2) = E0 at hd C0
 generalize decide ((⟨n, cs, ps⟩ : Sgn) = ⟨n2, cs2, ps2⟩) = E1 at hd C1
 clear h1 h2 hB0 hRa hRb j1 j2 j3
 go_enter Tryz.func21, Tryz.ntmps21
 generalize decide (iss = iss2) = EI at hd hei
 cases EI
 ·
  have HR : RowKit.Hid (R = false) := Lib.hid (by rw [hd]; rfl)
  clear hd hew
  go_wp2_with fail
  go_ret
  exact ⟨by rw [HR.out]; rfl, HB0.out⟩
 ·
  rw [Bool.true_and] at hd
  by_cases hn : num = num2
  ·
   have i1 : (num == num2) = true := by rw [beq_iff_eq]; exact hn
   rw [decide_eq_true hn, Bool.true_and] at hd
   clear hn
   by_cases hw : fr = fr2 ∧ tt = tt2
   ·
    have hw2 : ((fr == fr2) && (tt == tt2)) = true := by rw [hw.1, hw.2]; simp
    rw [hw2] at hew
    rw [decide_eq_true hw.1, decide_eq_true hw.2, Bool.and_self, Bool.true_and] at hd
    have HD := Lib.hid hd
    clear hd hw hw2
    go_wp2_with fail
    refine (C0.out _ HB0.out).mono ?_
    rintro e w2 ⟨rfl, hb⟩
    have HB2 := Lib.hid (chain HB0.out hb)
    have HRa2 := Lib.hid (row_on HRa0.out hb)
    have HRb2 := Lib.hid (row_on HRb0.out hb)
    clear hb hew hei i1
    cases E0
    ·
     have HR : RowKit.Hid (R = false) := Lib.hid (by rw [HD.out]; rfl)
     go_wp2_with fail
     go_ret
     exact ⟨by rw [HR.out]; rfl, HB2.out⟩
    ·
     have HD2 : RowKit.Hid (R = E1) := Lib.hid (by rw [HD.out, Bool.true_and])
     obtain ⟨ha, a0, a1, a2, a3, a4, a5, a6, a7⟩ := facts8 HRa2.out
     obtain ⟨hbl, b0, b1, b2, b3, b4, b5, b6, b7⟩ := facts8 HRb2.out
     go_wp2_with fail
     refine (C1.out _ HB2.out).mono ?_
     rintro e w3 ⟨rfl, hb⟩
     have HB3 := Lib.hid (chain HB2.out hb)
     clear hb ha a0 a1 a2 a3 a4 a5 a6 a7 hbl b0 b1 b2 b3 b4 b5 b6 b7
     go_wp2_with fail
     go_ret
     exact ⟨by rw [HD2.out]; rfl, HB3.out⟩
   ·
    have hw2 : ((fr == fr2) && (tt == tt2)) = false := by
     rw [Bool.eq_false_iff]
     intro h
     rw [Bool.and_eq_true, beq_iff_eq, beq_iff_eq] at h
     exact hw h
    have hw3 : (decide (fr = fr2) && decide (tt = tt2)) = false := by
     rw [Bool.eq_false_iff]
     intro h
     rw [Bool.and_eq_true, decide_eq_true_eq, decide_eq_true_eq] at h
     exact hw h
    rw [hw2] at hew
    have HR : RowKit.Hid (R = false) := Lib.hid (by rw [hd, hw3]; rfl)
    clear hd hw hw2 hw3
    go_wp2_with fail
    go_ret
    exact ⟨by rw [HR.out]; rfl, HB0.out⟩
  ·
   have i1 : (num == num2) = false := by rw [beq_eq_false_iff_ne]; exact hn
   have HR : RowKit.Hid (R = false) := Lib.hid (by rw [hd, decide_eq_false hn]; rfl)
   clear hd hn hew
   go_wp2_with fail
   go_ret
   exact ⟨by rw [HR.out]; rfl, HB0.out⟩
end Sg
end Go.Proofs.YtcgffkkfeimifaaGreatDoor
