import Derived.Test.YtcgffkkfeimifaaGreatDoorRwAB
import Derived.Test.YtcgffkkfeimifaaGreatDoorRvSU
import Derived.Test.YtcgffkkfeimifaaGreatDoorSgJP
namespace Go.Proofs.YtcgffkkfeimifaaGreatDoor
open Go.RowKit Sha Ots
set_option linter.unusedVariables false
set_option linter.unusedSimpArgs false
theorem sgn35 (a m : List UInt8) : (sgn a m).length = 35 := by
 have h : sgn a m = (List.range 35).map fun i => chn a i ((dig m).getD i 0) := rfl
 rw [h, List.length_map, List.length_range]
namespace Sg
open Oc
theorem shs_from {A : Option Addr} {ls : List (List UInt8)} {w : World} (h : Shorts A ls w) : Shs A ls w := ⟨h.row, h.len⟩
theorem nums_lt {A : Option Addr} {xs : List Int} {w : World} (h : Nums A xs w) (hne : xs ≠ []) (g o : Nat) (e : A = some ⟨g, o, none⟩) : g < w.heap.size := by
 cases xs with
 | nil => exact absurd rfl hne
 | cons x r =>
  obtain ⟨g2, o2, e2, hc⟩ := h.row 0 x rfl
  rw [e] at e2
  injection e2 with e3
  injection e3 with e4 e5
  subst e4
  exact World.block_lt_of_cell? _ _ hc
theorem nums_keep9 {A : Option Addr} {xs : List Int} {w w' : World} {X : Nat} (h : Nums A xs w) (hne : ∀ g o, A = some ⟨g, o, none⟩ → xs ≠ [] → g ≠ X) (ho : ∀ b, b ≠ X → w'.heap[b]? = w.heap[b]?) : Nums A xs w' := by
 cases xs with
 | nil => exact ⟨fun i x hi => by simp at hi⟩
 | cons x r => exact nums_keep h (fun g o e => hne g o e (fun k => by cases k)) ho
def sgn0 (l : Rl) : Rl := { l with sg := ⟨0, [], []⟩ }
def sgR (l : Rl) (seed : List UInt8) (h n : Int) : Rl × Int :=
 if rvC (sgn0 l) = 0 then (if 0 ≤ h ∧ h ≤ 4 ∧ 0 ≤ n ∧ n < ((2 ^ h.toNat : Nat) : Int) then ({ l with sg := ⟨(n.toNat : Int), sgn (msd seed n.toNat) (enc (rbv (rbOf l))), pth seed 0 n.toNat h.toNat⟩ }, 0) else (rl0, 2)) else (rl0, rvC (sgn0 l))
end Sg
end Go.Proofs.YtcgffkkfeimifaaGreatDoor
namespace Go.Proofs.YtcgffkkfeimifaaGreatDoor
open Go.RowKit Sha Ots
set_option linter.unusedVariables false
set_option linter.unusedSimpArgs false
namespace Sg
open Oc
set_option maxRecDepth 100000 in
set_option maxHeartbeats 1000000 in
theorem with_any (xs : List Int) (A : Option Addr) (c : Nat) (hl : xs.length ≤ 1000000) (w : World) (h : Nums A xs w) :
  Calls Tryz.prog 7 #[.slice A xs.length c] w fun e w' => e = .returned (.int .i64 (rvC { exL with ser := xs })) ∧ Below w.heap.size w w' := by
 obtain ⟨L, hL⟩ : ∃ L : Rl, { exL with ser := xs } = L := ⟨_, rfl⟩
 have hz : L.iss.size ≤ maxLen := by
  rw [← hL]
  show (1 : Nat) ≤ maxLen
  decide
 have hser : L.ser = xs := by rw [← hL]
 have hex := fun (V : World) => example_any V
 have hck := fun (m : Mp) (V : World) (hb : Below w.heap.size w V) => lchk_any L ⟨A, c, m.CA, m.cc, m.PA, m.pc⟩ V hz (show Nums A L.ser V by rw [hser]; exact h.on hb)
 rw [hL]
 obtain ⟨E, hE⟩ : ∃ E, rvC L = E := ⟨_, rfl⟩
 obtain ⟨n, hn⟩ : ∃ n, xs.length = n := ⟨_, rfl⟩
 rw [hE] at hck ⊢
 rw [← hL] at hck
 unfold rlC exL at hck
 dsimp only [List.length_nil] at hck
 rw [hn] at hck ⊢
 have HEX := Lib.hid hex
 have HCK := Lib.hid hck
 clear hex hck hE hn hl h hz hser hL
 go_enter Tryz.func7, Tryz.ntmps7
 go_wp2_with fail
 refine (HEX.out w).mono ?_
 rintro e V1 ⟨m, rfl, hat, hb1⟩
 have HB1 := Lib.hid hb1
 clear hat hb1 HEX
 unfold rlC exL
 dsimp only [List.length_cons, List.length_nil]
 go_upto_region 2 with (fail)
 have HM2 := Lib.hid (heap_alloc_new V1 (.cells #[.string ⟨#[97]⟩, .int .u64 2, .int .i64 0, .int .i64 9, .slice m.SA 2 m.sc, .int .i64 0, .slice m.CA 0 m.cc, .slice m.PA 0 m.pc] 32))
 obtain ⟨M, hM⟩ : ∃ M, V1.heap.size = M := ⟨_, rfl⟩
 have HMW := Lib.hid (show w.heap.size ≤ M by have := HB1.out.size; omega)
 rw [hM] at HM2 ⊢
 generalize hV2 : World.alloc V1 _ = V2 at HM2 ⊢
 have HB2 := Lib.hid (show Below w.heap.size w V2 from chain HB1.out (by rw [← hV2]; exact below_new _ _))
 clear hV2 hM HB1
 obtain ⟨hl0, f0, f1, f2, f3, f4, f5, f6, f7⟩ := facts8 HM2.out
 obtain ⟨z0, z1, z2, z3, z4, z5, z6, z7⟩ := free8 HM2.out
 go_upto_region 3 with (fail)
 generalize hV3 : World.setCell _ _ _ = V3
 have HM3 := Lib.hid (show V3.heap[M]? = some (.cells #[.string ⟨#[97]⟩, .int .u64 2, .int .i64 0, .int .i64 9, .slice A n c, .int .i64 0, .slice m.CA 0 m.cc, .slice m.PA 0 m.pc] 32 (0, 0)) by rw [← hV3]; exact heap_setCell8 HM2.out)
 have HB3 := Lib.hid (show Below w.heap.size w V3 by rw [← hV3]; exact below_setCell HB2.out HMW.out)
 clear hV3 hl0 f0 f1 f2 f3 f4 f5 f6 f7 z0 z1 z2 z3 z4 z5 z6 z7 HM2 HB2
 obtain ⟨hl0, f0, f1, f2, f3, f4, f5, f6, f7⟩ := facts8 HM3.out
 go_wp2_with fail
 refine (HCK.out m V3 HB3.out).mono ?_
 rintro e V4 ⟨rfl, hb⟩
 have HB4 := Lib.hid (chain HB3.out hb)
 clear hb
 go_wp2_with fail
 refine bodyPost_ret (v := .int .i64 E) (by simp [results, Tryz.results7, go_sem]) rfl ⟨rfl, HB4.out⟩
end Sg
end Go.Proofs.YtcgffkkfeimifaaGreatDoor
namespace Go.Proofs.YtcgffkkfeimifaaGreatDoor
open Go.RowKit Sha Ots
set_option linter.unusedVariables false
set_option linter.unusedSimpArgs false
theorem sgn_16 (a m : List UInt8) : ∀ x ∈ sgn a m, x.length = 16 := fun x hx => by
 have h : sgn a m = (List.range 35).map fun i => chn a i ((dig m).getD i 0) := rfl
 rw [h] at hx
 obtain ⟨i, _, rfl⟩ := List.mem_map.1 hx
 exact chn_len _ _ _
namespace Sg
open Oc
theorem rvC_other {l : Rl} (h : rvC l = 0) {n : Int} {cs ps : List (List UInt8)} (hw : wfV n cs.length ps.length = true) : rvC { l with sg := ⟨n, cs, ps⟩ } = 0 := by
 unfold rvC rcV at h ⊢
 dsimp only
 split at h
 ·
  omega
 ·
  rename_i h5
  rw [if_neg h5]
  split at h
  ·
   rename_i h6
   rw [if_pos ⟨h6.1, h6.2.1, h6.2.2.1, hw⟩]
  ·
   omega
end Sg
end Go.Proofs.YtcgffkkfeimifaaGreatDoor
