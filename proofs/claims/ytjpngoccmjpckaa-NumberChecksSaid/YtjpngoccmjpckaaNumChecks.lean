/-
  THE WALK over NumberChecks.
-/
import Derived.Test.YtjpngoccmjpckaaNumName
namespace Go.Proofs.Ytjpngoccmjpckaa
open Go.RowKit Nm
theorem alloc_at {w : World} {cs : Array Value} {t : TypeId} {j n : Nat} {v : Value} (hn : n = w.heap.size) (h : cs[j]? = some v) : (w.alloc (.cells cs t)).cell? ⟨n, j, none⟩ = some v := by
  exact (World.cell?_alloc_at _ _ _ _ hn).trans h
theorem alloc_old {w : World} {o : Obj} {a : Addr} {v : Value} (h : w.cell? a = some v) : (w.alloc o).cell? a = some v := by
  exact (World.cell?_alloc_some w a o (by rw [h]; rfl)).trans h
theorem allocS {B : Nat} {wS W : World} {o : Obj} (S : ∀ b o, b < B → W.cell? ⟨b, o, none⟩ = wS.cell? ⟨b, o, none⟩) (hB : B ≤ W.heap.size) : (∀ b j, b < B → (W.alloc o).cell? ⟨b, j, none⟩ = wS.cell? ⟨b, j, none⟩) ∧ B ≤ (W.alloc o).heap.size :=
  ⟨fun b j h => (World.cell?_alloc_past _ _ _ (Nat.lt_of_lt_of_le h hB)).trans (S b j h), Nat.le_trans hB (by simp)⟩
theorem chain {n : Nat} {a b c : World} (h : Below n a b ∧ n ≤ b.heap.size) (k : Below b.heap.size b c) : Below n a c ∧ n ≤ c.heap.size := ⟨h.1.trans (k.mono h.2), Nat.le_trans h.2 k.size⟩
theorem chainD {n : Nat} {a b : World} (h : Below n a b ∧ n ≤ b.heap.size) : Below n a b.drew ∧ n ≤ b.drew.heap.size := ⟨h.1.drew, h.2⟩
theorem keepS {B : Nat} {wS W W' : World} (S : ∀ b o, b < B → W.cell? ⟨b, o, none⟩ = wS.cell? ⟨b, o, none⟩) (hB : B ≤ W.heap.size) (hb : Below W.heap.size W W') : (∀ b o, b < B → W'.cell? ⟨b, o, none⟩ = wS.cell? ⟨b, o, none⟩) ∧ B ≤ W'.heap.size :=
  ⟨fun b o h => (hb.cell (p := ⟨b, o, none⟩) (Nat.lt_of_lt_of_le h hB)).trans (S b o h), Nat.le_trans hB hb.size⟩
set_option maxHeartbeats 2000000 in
set_option maxRecDepth 100000 in
theorem checks_big (f h l h' l' n pf ph pl pn qf qh ql qn : Int) (s : ByteArray) (w : World) (hs : s.size ≤ maxLen) (hb : 1000 < s.size) :
    Calls Try.prog 3 #[.int .u8 f, .agg #[.int .u64 h, .int .u64 l], .agg #[.int .u64 h', .int .u64 l'], .int .i64 n, .agg #[.int .u8 pf, .int .u64 ph, .int .u64 pl, .int .i64 pn], .agg #[.int .u8 qf, .int .u64 qh, .int .u64 ql, .int .i64 qn], .string s] w fun e w' => e = .returned (.bool true) ∧ Below w.heap.size w w' := by
  unfold maxLen at hs
  go_enter Try.func3, Try.ntmps3
  go_wp2
  go_ret
  exact ⟨rfl, (((((Below.refl _ _).alloc (Nat.le_refl _) _).alloc (by simp) _).alloc (by simp; omega) _).alloc (by simp; omega) _)⟩
set_option maxHeartbeats 2000000 in
set_option maxRecDepth 100000 in
theorem checks_any (f h l h' l' n pf ph pl pn qf qh ql qn : Int) (s : ByteArray) (w : World) (uh : U64 h) (ul : U64 l) (uph : U64 ph) (upl : U64 pl) (uqh : U64 qh) (uql : U64 ql) (hs : s.size ≤ maxLen) (hb : s.size ≤ 1000) :
    Calls Try.prog 3 #[.int .u8 f, .agg #[.int .u64 h, .int .u64 l], .agg #[.int .u64 h', .int .u64 l'], .int .i64 n, .agg #[.int .u8 pf, .int .u64 ph, .int .u64 pl, .int .i64 pn], .agg #[.int .u8 qf, .int .u64 qh, .int .u64 ql, .int .i64 qn], .string s] w fun e w' => e = .returned (.bool true) ∧ Below w.heap.size w w' := by
  have Hs := Lib.hid hs
  have l0 := ul.1
  have Uh := Lib.hid uh
  have Ul := Lib.hid ul
  have Uph := Lib.hid uph
  have Upl := Lib.hid upl
  have Uqh := Lib.hid uqh
  have Uql := Lib.hid uql
  clear uh ul uph upl uqh uql
  unfold maxLen at hs
  go_enter Try.func3, Try.ntmps3
  go_wp2_with fail
  generalize hw0 : (World.alloc _ _) = w0
  have a0 : w0.cell? ⟨w.heap.size, 0, none⟩ = some (.int .u64 h) := by rw [← hw0]; exact alloc_old (alloc_old (alloc_old (alloc_at (by simp) rfl)))
  have a1 : w0.cell? ⟨w.heap.size, 1, none⟩ = some (.int .u64 l) := by rw [← hw0]; exact alloc_old (alloc_old (alloc_old (alloc_at (by simp) rfl)))
  have b0 : w0.cell? ⟨w.heap.size + 1, 0, none⟩ = some (.int .u64 h') := by rw [← hw0]; exact alloc_old (alloc_old (alloc_at (by simp) rfl))
  have b1 : w0.cell? ⟨w.heap.size + 1, 1, none⟩ = some (.int .u64 l') := by rw [← hw0]; exact alloc_old (alloc_old (alloc_at (by simp) rfl))
  have p0 : w0.cell? ⟨w.heap.size + 1 + 1, 0, none⟩ = some (.int .u8 pf) := by rw [← hw0]; exact alloc_old (alloc_at (by simp) rfl)
  have p1 : w0.cell? ⟨w.heap.size + 1 + 1, 1, none⟩ = some (.int .u64 ph) := by rw [← hw0]; exact alloc_old (alloc_at (by simp) rfl)
  have p2 : w0.cell? ⟨w.heap.size + 1 + 1, 2, none⟩ = some (.int .u64 pl) := by rw [← hw0]; exact alloc_old (alloc_at (by simp) rfl)
  have p3 : w0.cell? ⟨w.heap.size + 1 + 1, 3, none⟩ = some (.int .i64 pn) := by rw [← hw0]; exact alloc_old (alloc_at (by simp) rfl)
  have q0 : w0.cell? ⟨w.heap.size + 1 + 1 + 1, 0, none⟩ = some (.int .u8 qf) := by rw [← hw0]; exact alloc_at (by simp) rfl
  have q1 : w0.cell? ⟨w.heap.size + 1 + 1 + 1, 1, none⟩ = some (.int .u64 qh) := by rw [← hw0]; exact alloc_at (by simp) rfl
  have q2 : w0.cell? ⟨w.heap.size + 1 + 1 + 1, 2, none⟩ = some (.int .u64 ql) := by rw [← hw0]; exact alloc_at (by simp) rfl
  have q3 : w0.cell? ⟨w.heap.size + 1 + 1 + 1, 3, none⟩ = some (.int .i64 qn) := by rw [← hw0]; exact alloc_at (by simp) rfl
  have z0 : w0.heap.size = w.heap.size + 4 := by rw [← hw0]; simp
  have B0 := Lib.hid (show Below w.heap.size w w0 by rw [← hw0]; exact ((((Below.refl _ _).alloc (Nat.le_refl _) _).alloc (by simp) _).alloc (by simp; omega) _).alloc (by simp; omega) _)
  clear hw0
  have T0 : (∀ b o, b < w.heap.size + 4 → w0.cell? ⟨b, o, none⟩ = w0.cell? ⟨b, o, none⟩) ∧ w.heap.size + 4 ≤ w0.heap.size := ⟨fun _ _ _ => rfl, by omega⟩
  have Z0 := Lib.hid z0
  clear z0
  refine (bit_any _ _ _ _ _ Uh.out Ul.out).mono ?_
  rintro e w1 ⟨rfl, hb1⟩
  obtain ⟨S1, N1⟩ := keepS T0.1 T0.2 hb1
  clear T0
  go_wp2_with fail
  refine (rbit_any _ _ _ _ _ Uh.out Ul.out).mono ?_
  rintro e w2 ⟨rfl, hb2⟩
  obtain ⟨S2, N2⟩ := keepS S1 N1 hb2
  have Y1 := Lib.hid N1
  clear S1 N1
  go_wp2_with fail
  refine (cut_any _ _ _ _ _ Uh.out Ul.out).mono ?_
  rintro e w3 ⟨rfl, hb3⟩
  obtain ⟨S3, N3⟩ := keepS S2 N2 hb3
  have Y2 := Lib.hid N2
  clear S2 N2
  have y3 : w.heap.size < w3.heap.size := by omega
  go_wp2_with fail
  generalize hv3 : w3.alloc _ = v3
  have u0 : v3.cell? ⟨w3.heap.size, 0, none⟩ = some (.int .u8 (cutF f h l n)) := by rw [← hv3]; exact alloc_at rfl rfl
  have u1 : v3.cell? ⟨w3.heap.size, 1, none⟩ = some (.int .u64 (cutH f h l n)) := by rw [← hv3]; exact alloc_at rfl rfl
  have u2 : v3.cell? ⟨w3.heap.size, 2, none⟩ = some (.int .u64 (cutL f h l n)) := by rw [← hv3]; exact alloc_at rfl rfl
  have u3 : v3.cell? ⟨w3.heap.size, 3, none⟩ = some (.int .i64 (cutN f h l n)) := by rw [← hv3]; exact alloc_at rfl rfl
  obtain ⟨S4, N4⟩ := allocS (o := .cells #[.int .u8 (cutF f h l n), .int .u64 (cutH f h l n), .int .u64 (cutL f h l n), .int .i64 (cutN f h l n)] 26) S3 N3
  rw [hv3] at S4 N4
  have hBv3 := Lib.hid (show Below w3.heap.size w3 v3 by rw [← hv3]; exact (Below.refl _ _).alloc (Nat.le_refl _) _)
  have x3 : w3.heap.size < v3.heap.size := by rw [← hv3]; simp
  clear hv3 S3 N3 y3
  refine (rcut_any _ _ _ _ _ Uh.out Ul.out).mono ?_
  rintro e w4 ⟨rfl, hb4⟩
  obtain ⟨S5, N5⟩ := keepS S4 N4 hb4
  have y4 : w.heap.size < w4.heap.size := by omega
  have x4 : w3.heap.size < w4.heap.size := by have := hb4.size; omega
  have u0' := (hb4.cell (p := ⟨w3.heap.size, 0, none⟩) x3).trans u0
  have u1' := (hb4.cell (p := ⟨w3.heap.size, 1, none⟩) x3).trans u1
  have u2' := (hb4.cell (p := ⟨w3.heap.size, 2, none⟩) x3).trans u2
  have u3' := (hb4.cell (p := ⟨w3.heap.size, 3, none⟩) x3).trans u3
  clear S4 N4 u0 u1 u2 u3
  go_wp2_with fail
  generalize hv4 : w4.alloc _ = v4
  obtain ⟨S6, N6⟩ := allocS (o := .cells #[.int .u8 (cutF f h l n), .int .u64 (cutH f h l n), .int .u64 (cutL f h l n), .int .i64 (cutN f h l n)] 26) S5 N5
  have v_0 : v4.cell? ⟨w4.heap.size, 0, none⟩ = some (.int .u8 (cutF f h l n)) := by rw [← hv4]; exact alloc_at rfl rfl
  have v_1 : v4.cell? ⟨w4.heap.size, 1, none⟩ = some (.int .u64 (cutH f h l n)) := by rw [← hv4]; exact alloc_at rfl rfl
  have v_2 : v4.cell? ⟨w4.heap.size, 2, none⟩ = some (.int .u64 (cutL f h l n)) := by rw [← hv4]; exact alloc_at rfl rfl
  have v_3 : v4.cell? ⟨w4.heap.size, 3, none⟩ = some (.int .i64 (cutN f h l n)) := by rw [← hv4]; exact alloc_at rfl rfl
  have u_0 : v4.cell? ⟨w3.heap.size, 0, none⟩ = some (.int .u8 (cutF f h l n)) := by rw [← hv4]; exact alloc_old u0'
  have u_1 : v4.cell? ⟨w3.heap.size, 1, none⟩ = some (.int .u64 (cutH f h l n)) := by rw [← hv4]; exact alloc_old u1'
  have u_2 : v4.cell? ⟨w3.heap.size, 2, none⟩ = some (.int .u64 (cutL f h l n)) := by rw [← hv4]; exact alloc_old u2'
  have u_3 : v4.cell? ⟨w3.heap.size, 3, none⟩ = some (.int .i64 (cutN f h l n)) := by rw [← hv4]; exact alloc_old u3'
  rw [hv4] at S6 N6
  have a_0 := (S6 (w.heap.size) 0 (by omega)).trans a0
  have a_1 := (S6 (w.heap.size) 1 (by omega)).trans a1
  have b_0 := (S6 (w.heap.size + 1) 0 (by omega)).trans b0
  have b_1 := (S6 (w.heap.size + 1) 1 (by omega)).trans b1
  have p_0 := (S6 (w.heap.size + 1 + 1) 0 (by omega)).trans p0
  have p_1 := (S6 (w.heap.size + 1 + 1) 1 (by omega)).trans p1
  have p_2 := (S6 (w.heap.size + 1 + 1) 2 (by omega)).trans p2
  have p_3 := (S6 (w.heap.size + 1 + 1) 3 (by omega)).trans p3
  have q_0 := (S6 (w.heap.size + 1 + 1 + 1) 0 (by omega)).trans q0
  have q_1 := (S6 (w.heap.size + 1 + 1 + 1) 1 (by omega)).trans q1
  have q_2 := (S6 (w.heap.size + 1 + 1 + 1) 2 (by omega)).trans q2
  have q_3 := (S6 (w.heap.size + 1 + 1 + 1) 3 (by omega)).trans q3
  have hBv4 := Lib.hid (show Below w4.heap.size w4 v4 by rw [← hv4]; exact (Below.refl _ _).alloc (Nat.le_refl _) _)
  have x4' : w4.heap.size < v4.heap.size := by rw [← hv4]; simp
  have m0 : w.heap.size < v4.heap.size := by omega
  have m1 : w.heap.size + 1 < v4.heap.size := by omega
  have m2 : w.heap.size + 1 + 1 < v4.heap.size := by omega
  have m3 : w.heap.size + 1 + 1 + 1 < v4.heap.size := by omega
  have m4 : w3.heap.size < v4.heap.size := by omega
  clear S5 N5 S6 N6 hv4 u0' u1' u2' u3' y4 x4 a0 a1 b0 b1 p0 p1 p2 p3 q0 q1 q2 q3
  have R0 : ∀ b o, b < v4.heap.size → v4.drew.cell? ⟨b, o, none⟩ = v4.cell? ⟨b, o, none⟩ := fun _ _ _ => rfl
  go_region_held3 (fun x => ∀ b o, b < v4.heap.size → x.cell? ⟨b, o, none⟩ = v4.cell? ⟨b, o, none⟩)
    (first | exact R0 | exact R1 | exact R2 | exact R3 | exact R4 | exact R5 | exact R6 | exact R7 | exact R8)
    (first | (go_at_call 8; refine (name_any _ _ Hs.out).mono ?_; rintro e x0 ⟨rfl, rfl⟩) | (go_at_call 9; refine (rname_any _ _ Hs.out).mono ?_; rintro e x0 ⟨rfl, rfl⟩) | (go_at_call 10; refine (ca_any _ _ _ _ l0).mono ?_; rintro e x1 ⟨rfl, hx1⟩; obtain ⟨R1, M1⟩ := keepS R0 (Nat.le_refl _) hx1) | (go_at_call 11; refine (rca_any _ _ _ _ l0).mono ?_; rintro e x2 ⟨rfl, hx2⟩; obtain ⟨R2, M2⟩ := keepS R1 M1 hx2) | (go_at_call 12; refine (cmp_any _ _ _ _ _).mono ?_; rintro e x3 ⟨rfl, hx3⟩; obtain ⟨R3, M3⟩ := keepS R2 M2 hx3) | (go_at_call 13; refine (rcmp_any _ _ _ _ _).mono ?_; rintro e x4 ⟨rfl, hx4⟩; obtain ⟨R4, M4⟩ := keepS R3 M3 hx4) | (go_at_call 14; refine (chk_any _ _ _ _ _ Uph.out Upl.out).mono ?_; rintro e x5 ⟨rfl, hx5⟩; obtain ⟨R5, M5⟩ := keepS R4 M4 hx5) | (go_at_call 15; refine (rchk_any _ _ _ _ _ Uph.out Upl.out).mono ?_; rintro e x6 ⟨rfl, hx6⟩; obtain ⟨R6, M6⟩ := keepS R5 M5 hx6) | (go_at_call 16; refine (cov_any _ _ _ _ _ _ _ _ _ Uph.out Upl.out Uqh.out Uql.out).mono ?_; rintro e x7 ⟨rfl, hx7⟩; obtain ⟨R7, M7⟩ := keepS R6 M6 hx7) | (go_at_call 17; refine (rcov_any _ _ _ _ _ _ _ _ _ Uph.out Upl.out Uqh.out Uql.out).mono ?_; rintro e x8 ⟨rfl, hx8⟩; obtain ⟨R8, M8⟩ := keepS R7 M7 hx8))
  go_wp2
  go_ret
  refine ⟨rfl, ?_⟩
  have c0 : Below w.heap.size w w0 ∧ w.heap.size ≤ w0.heap.size := ⟨B0.out, by have := Z0.out; omega⟩
  have c4 := chain (chain (chain (chain (chain (chain c0 hb1) hb2) hb3) hBv3.out) hb4) hBv4.out
  exact (chain (chain (chain (chain (chain (chain (chain (chain (chainD c4) hx1) hx2) hx3) hx4) hx5) hx6) hx7) hx8).1
end Go.Proofs.Ytjpngoccmjpckaa
