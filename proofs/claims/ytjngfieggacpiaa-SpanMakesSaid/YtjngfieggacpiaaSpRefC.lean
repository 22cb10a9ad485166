/-
  THE WALKS over the reference of layer 2: the halves of a prefix.
-/
import Derived.Test.YtjngfieggacpiaaSpRefB
import Derived.Deep.DeepCutAuto
import Derived.IntWalk
namespace Go.Proofs.Ytjngfieggacpiaa
open Go.RowKit Adr Spn
set_option linter.unusedVariables false
set_option linter.unusedSimpArgs false
theorem Pf4.set {B : Nat} {w : World} {a b c d a' b' c' d' : Int} (h : Pf4 B w a b c d) : Pf4 B ((((w.setCell ⟨B, 0, none⟩ (.int .u8 a')).setCell ⟨B, 1, none⟩ (.int .u64 b')).setCell ⟨B, 2, none⟩ (.int .u64 c')).setCell ⟨B, 3, none⟩ (.int .i64 d')) a' b' c' d' := by
  obtain ⟨a0, a1, a2, a3, f0, f1, f2, f3⟩ := h
  refine ⟨?_, ?_, ?_, ?_, by simpa using f0, by simpa using f1, by simpa using f2, by simpa using f3⟩
  · exact cset_far (cset_far (cset_far (cset_same a0) (by simp)) (by simp)) (by simp)
  · exact cset_far (cset_far (cset_same (cset_far a1 (by simp))) (by simp)) (by simp)
  · exact cset_far (cset_same (cset_far (cset_far a2 (by simp)) (by simp))) (by simp)
  · exact cset_same (cset_far (cset_far (cset_far a3 (by simp)) (by simp)) (by simp))
theorem Pf4.away {B g : Nat} {w : World} {a b c d : Int} {j : Nat} {v : Value} (h : Pf4 B w a b c d) (hne : g ≠ B) : Pf4 B (w.setCell ⟨g, j, none⟩ v) a b c d := by
  obtain ⟨a0, a1, a2, a3, f0, f1, f2, f3⟩ := h
  exact ⟨cset_far a0 (by simp [hne]), cset_far a1 (by simp [hne]), cset_far a2 (by simp [hne]), cset_far a3 (by simp [hne]), by simpa using f0, by simpa using f1, by simpa using f2, by simpa using f3⟩
set_option maxRecDepth 100000 in
set_option maxHeartbeats 2000000 in
theorem rhalf_any {f : Int} {W : Nat} (hf : Fam f W) (N n : Nat) (b : Nat) (hb : b = 0 ∨ b = 1) (hn : n < W) (hN : N < 2 ^ W) (ha : N % 2 ^ (W - n) = 0) (w : World) :
    Calls Try.prog 37 #[.agg #[.int .u8 f, .int .u64 (aH N), .int .u64 (aL N), .int .i64 n], .int .i64 b] w fun e w' => e = .returned (.agg #[.int .u8 f, .int .u64 (aH (N + b * 2 ^ (W - 1 - n))), .int .u64 (aL (N + b * 2 ^ (W - 1 - n))), .int .i64 ((n + 1 : Nat) : Int)]) ∧ Below w.heap.size w w' := by
  have HBits := Lib.hid (fun w => rbits_call hf N (hf.lt hN) w)
  have HAddr := Lib.hid (fun g cap M (hM : M < 2 ^ W) w hb => raddr_call g cap W M hf.wid.2.2.2 hM w hb)
  have e1 : 2 ^ (W - n) = 2 ^ (W - 1 - n) + 2 ^ (W - 1 - n) := by rw [show W - n = W - 1 - n + 1 by omega, Nat.pow_succ]; omega
  have hd : biP N (W - 1 - n) = 0 := by
    unfold biP
    rw [dvd_bit (by rw [show W - 1 - n + 1 = W - n by omega]; exact ha)]
    rfl
  have hblk := blk_le ha hN (Nat.sub_le W n)
  have hE : N + b * 2 ^ (W - 1 - n) < 2 ^ W := by
    have hp := Nat.two_pow_pos (W - 1 - n)
    rcases hb with rfl | rfl
    · omega
    · omega
  have hS : ∀ g (wr : World), BitsAt g W N wr → BitsAt g W (N + b * 2 ^ (W - 1 - n)) (wr.setCell ⟨g, n, none⟩ (.int .i64 b)) := fun g wr hB => by
    have e2 : W - 1 - (W - 1 - n) = n := by omega
    rcases hb with rfl | rfl
    · have h := hB.set (M' := N) (b := 0) (show W - 1 - n < W by omega) (fun m => by
        by_cases e : m = W - 1 - n
        · subst e; rw [if_pos rfl]; exact hd
        · rw [if_neg e])
      rw [e2] at h
      simpa using h
    · have h := hB.set (show W - 1 - n < W by omega) (biP_up hd)
      rw [e2] at h
      simpa using h
  obtain ⟨E, hEE⟩ : ∃ E, N + b * 2 ^ (W - 1 - n) = E := ⟨_, rfl⟩
  rw [hEE] at hE hS ⊢
  have HS := Lib.hid hS
  have HE := Lib.hid hE
  obtain ⟨w1, w2, w3, w4⟩ := hf.wid
  clear hN hf ha w1 w2 hS hE hEE hblk hd e1 hb
  go_enter Try.func37, Try.ntmps37
  go_wp2_with fail
  generalize hv : World.alloc (World.alloc _ _) _ = v
  have TR : RowKit.Hid (Pf4 (w.heap.size + 1) v 0 0 0 0) := Lib.hid (by
    rw [← hv]
    have := Pf4.new (w.alloc (.cells #[.int .u8 f, .int .u64 (aH N), .int .u64 (aL N), .int .i64 n] 28)) 0 0 0 0 28
    simpa using this)
  have TP : RowKit.Hid (Pf4 w.heap.size v f (aH N) (aL N) n) := Lib.hid (by rw [← hv]; exact (Pf4.new w _ _ _ _ _).on (below_new _ _))
  have HB := Lib.hid (show Below w.heap.size w v by rw [← hv]; exact ((Below.refl _ _).alloc (Nat.le_refl _) _).alloc (by simp) _)
  clear hv
  obtain ⟨p0, p1, p2, p3, _, _, _, _⟩ := TP.out
  go_wp2_with fail
  refine (HBits.out v).mono ?_
  rintro e w2 ⟨g, cap, rfl, hg, hbits, hc1, hc2, hb2⟩
  have TR2 := Lib.hid (TR.out.on hb2)
  have TP2 := Lib.hid (TP.out.on hb2)
  have HB2 := Lib.hid (HB.out.trans (hb2.mono HB.out.size))
  have hg1 : w.heap.size + 1 < g := by have := TR.out.lt; omega
  have HBI := Lib.hid hbits
  have fk := hbits.free n hn
  obtain ⟨x, hx⟩ := (⟨_, hbits.cell n hn⟩ : ∃ x, w2.cell? ⟨g, n, none⟩ = some x)
  clear hb2 TR HB TP hbits p0 p1 p2 p3
  obtain ⟨p0, p1, p2, p3, _, _, _, _⟩ := TP2.out
  have hgr := HBI.out.lt
  go_wp2_with fail
  generalize hv : World.setCell _ _ _ = v3
  have HS3 := Lib.hid (show BitsAt g W E v3 by rw [← hv]; exact HS.out g w2 HBI.out)
  have HB3 := Lib.hid (show Below w.heap.size w v3 by rw [← hv]; exact HB2.out.setCell (by show w.heap.size ≤ g; omega) _)
  have TR3 := Lib.hid (show Pf4 (w.heap.size + 1) v3 0 0 0 0 by rw [← hv]; exact TR2.out.away (by omega))
  have TP3 := Lib.hid (show Pf4 w.heap.size v3 f (aH N) (aL N) n by rw [← hv]; exact TP2.out.away (by omega))
  clear hv p0 p1 p2 p3 HB2 TR2 TP2 HBI fk hx
  obtain ⟨p0, p1, p2, p3, _, _, _, _⟩ := TP3.out
  obtain ⟨s0, s1, s2, s3, g0, g1, g2, g3⟩ := TR3.out
  have zp := TP3.out.lt
  have zs := TR3.out.lt
  have hwn : IntKind.i64.wrap ((n : Int) + 1) = (n : Int) + 1 := IntWalk.i64_in _ (by omega)
  go_region_with (go_at_call 25; refine (HAddr.out g cap E HE.out _ (HS3.out.on ((Below.refl _ _).drew))).mono ?_; rintro e w5 ⟨rfl, hb5⟩; obtain ⟨hc5, hf5⟩ := bcellD hb5; have zp5 : w.heap.size < w5.heap.size := (by (have := hb5.size; (try simp at this); omega)); have zs5 : w.heap.size + 1 < w5.heap.size := (by (have := hb5.size; (try simp at this); omega)))
  all_goals
    have HB5 := Lib.hid ((((Below.refl v3.heap.size v3).drew).trans hb5))
    have TR5 := Lib.hid (TR3.out.on HB5.out)
    clear hb5 hc5 hf5 hwn
    go_wp2_with fail
    have A := TR5.out.set (a' := f) (b' := aH E) (c' := aL E) (d' := (n : Int) + 1)
    have HB6 := HB3.out.trans (HB5.out.mono HB3.out.size)
    refine bodyPost_ret (v := .agg #[.int .u8 f, .int .u64 (aH E), .int .u64 (aL E), .int .i64 ((n + 1 : Nat) : Int)]) (by simp [results, Try.results37, go_sem, A.a0, A.a1, A.a2, A.a3]) rfl ⟨rfl, ?_⟩
    first
      | exact pf_below HB6 (by omega)
      | exact (pf_below HB6 (by omega)).drew
end Go.Proofs.Ytjngfieggacpiaa
