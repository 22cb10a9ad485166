/-
  THE WALKS over the law's own string of a digest, and over the chapter's examples.
-/
import Derived.Test.YtjgebpgdiinmbaaDoorDigL
import Derived.Lib.SlBytesConst
namespace Go.Proofs.YtjgebpgdiinmbaaDoor
open Go.RowKit Sha
set_option linter.unusedVariables false
set_option linter.unusedSimpArgs false
theorem srcAt_row {w : World} {g : Nat} {l : List UInt8} {t : TypeId} {fr : Nat × Nat} (h : w.heap[g]? = some (.cells (bcells l) t fr)) : SrcAt (some ⟨g, 0, none⟩) l w := fun _ =>
  ⟨g, 0, rfl, fun j x hj => by
    obtain ⟨hlt, e⟩ := List.getElem?_eq_some_iff.1 hj
    rw [Nat.zero_add, cell_of_row w g j _ _ _ h, bcells_at _ _ hlt, List.getD_eq_getElem?_getD, hj]
    rfl⟩
theorem sha_len (l : List UInt8) : (sha l).length = 32 := hp_len _ _
set_option maxRecDepth 100000 in
set_option maxHeartbeats 1000000 in
theorem lhex_any (F : List UInt8) (hF : F.length = 32) (w : World) :
    Calls Tryd.prog 9 #[.agg (bcells F)] w fun e w' => e = .returned (.string (bs (hexS F))) ∧ Below w.heap.size w w' := by
  have hx : ∀ V : World, V.heap[w.heap.size]? = some (.cells (bcells F) 24 (0, 0)) → Calls Tryd.prog 21 #[.slice (some ⟨w.heap.size, 0, none⟩) 32 32] V fun e w' => e = .returned (.string (bs (hexS F))) ∧ Below V.heap.size V w' := fun V hV => by
    have h := hex_any F (some ⟨w.heap.size, 0, none⟩) 32 (by omega) (by omega) V (srcAt_row hV)
    rw [hF] at h
    exact h
  obtain ⟨X, hX⟩ : ∃ X, bs (hexS F) = X := ⟨_, rfl⟩
  rw [hX] at hx ⊢
  obtain ⟨C, hC⟩ : ∃ C, bcells F = C := ⟨_, rfl⟩
  rw [hC] at hx ⊢
  have HX := Lib.hid hx
  have s2 := slice_hash w.heap.size
  clear hx hX hC hF
  go_enter Tryd.func9, Tryd.ntmps9
  go_wp2_with fail
  refine (HX.out _ (heap_alloc_new _ _)).mono ?_
  rintro e w1 ⟨rfl, hb⟩
  have HB := Lib.hid ((below_new w _).trans (hb.mono (by simp)))
  clear hb
  go_wp2_with fail
  go_ret
  exact ⟨rfl, HB.out⟩
/-- the chapter's examples, closed -/
def x0 : ByteArray := bs (hexS (sha []))
def x3 : ByteArray := bs (hexS (sha [97, 98, 99]))
theorem x0_size : x0.size = 64 := by unfold x0; rw [sha_nil]; rfl
theorem x3_size : x3.size = 64 := by unfold x3; rw [sha_abc]; rfl
theorem x0_head : ((x0.extract 0 16).toList == [101, 51, 98, 48, 99, 52, 52, 50, 57, 56, 102, 99, 49, 99, 49, 52]) = true := by unfold x0; rw [sha_nil]; decide +kernel
theorem x3_head : ((x3.extract 0 16).toList == [98, 97, 55, 56, 49, 54, 98, 102, 56, 102, 48, 49, 99, 102, 101, 97]) = true := by unfold x3; rw [sha_abc]; decide +kernel
theorem x_hex : bs (hexS [0, 255, 16]) = ⟨#[48, 48, 102, 102, 49, 48]⟩ := by
  have h : hexS [0, 255, 16] = [48, 48, 102, 102, 49, 48] := by decide +kernel
  rw [h]; rfl
theorem x_b64 : bs (b64S [0, 255, 16]) = ⟨#[65, 80, 56, 81]⟩ := by
  have h : b64S [0, 255, 16] = [65, 80, 56, 81] := by decide +kernel
  rw [h]; rfl
theorem conv_const (C : Array Value) (n : Nat) (V : World) : (convert 26 26 (.slice (some ⟨V.heap.size, 0, none⟩) n n)).run Tryd.prog (V.alloc (.cells C 5)) = .ok (.slice (some ⟨V.heap.size, 0, none⟩) n n) (V.alloc (.cells C 5 (C.size, C.size + 1))) :=
  Lib.run_convert_bytes_const V 26 5 C n n Tryd.underlying26 Tryd.underlying5
set_option maxRecDepth 100000 in
set_option maxHeartbeats 2000000 in
theorem alive_any (w : World) (env : DEnv w) :
    Calls Tryd.prog 15 #[] w fun e w' => e = .returned (.bool true) ∧ Below w.heap.size w w' := by
  have hs0 : ∀ V, Below w.heap.size w V → Calls Tryd.prog 10 #[.slice none 0 0] V fun e w' => e = .returned (.agg (bcells (sha []))) ∧ Below V.heap.size V w' := fun V hb =>
    sum_any [] none 0 (by simp) (by simp) (by decide) V (fun h => absurd rfl h) (env.on hb)
  have hs3 : ∀ V (g : Nat), Below w.heap.size w V → V.heap[g]? = some (.cells (bcells [97, 98, 99]) 5 (3, 4)) → Calls Tryd.prog 10 #[.slice (some ⟨g, 0, none⟩) 3 3] V fun e w' => e = .returned (.agg (bcells (sha [97, 98, 99]))) ∧ Below V.heap.size V w' := fun V g hb hg =>
    sum_any [97, 98, 99] (some ⟨g, 0, none⟩) 3 (by decide) (by decide) (by decide) V (srcAt_row hg) (env.on hb)
  have hh0 : ∀ V, Calls Tryd.prog 9 #[.agg (bcells (sha []))] V fun e w' => e = .returned (.string x0) ∧ Below V.heap.size V w' := fun V => lhex_any _ (sha_len _) V
  have hh3 : ∀ V, Calls Tryd.prog 9 #[.agg (bcells (sha [97, 98, 99]))] V fun e w' => e = .returned (.string x3) ∧ Below V.heap.size V w' := fun V => lhex_any _ (sha_len _) V
  have hx : ∀ V (g : Nat), V.heap[g]? = some (.cells (bcells [0, 255, 16]) 5 (0, 0)) → Calls Tryd.prog 21 #[.slice (some ⟨g, 0, none⟩) 3 3] V fun e w' => e = .returned (.string ⟨#[48, 48, 102, 102, 49, 48]⟩) ∧ Below V.heap.size V w' := fun V g hg => by
    have h := hex_any [0, 255, 16] (some ⟨g, 0, none⟩) 3 (by decide) (by decide) V (srcAt_row hg)
    rw [x_hex] at h
    exact h
  have hy : ∀ V (g : Nat), V.heap[g]? = some (.cells (bcells [0, 255, 16]) 5 (0, 0)) → Calls Tryd.prog 12 #[.slice (some ⟨g, 0, none⟩) 3 3] V fun e w' => e = .returned (.string ⟨#[65, 80, 56, 81]⟩) ∧ Below V.heap.size V w' := fun V g hg => by
    have h := b64_any [0, 255, 16] (some ⟨g, 0, none⟩) 3 (by decide) (by decide) V (srcAt_row hg)
    rw [x_b64] at h
    exact h
  obtain ⟨C0, hC0⟩ : ∃ C0, bcells (sha []) = C0 := ⟨_, rfl⟩
  obtain ⟨C3, hC3⟩ : ∃ C3, bcells (sha [97, 98, 99]) = C3 := ⟨_, rfl⟩
  obtain ⟨X0, hX0⟩ : ∃ X0, x0 = X0 := ⟨_, rfl⟩
  obtain ⟨X3, hX3⟩ : ∃ X3, x3 = X3 := ⟨_, rfl⟩
  rw [hC0] at hs0 hh0
  rw [hC3] at hs3 hh3
  rw [hX0] at hh0
  rw [hX3] at hh3
  have z0 : X0.size = 64 := by rw [← hX0]; exact x0_size
  have z3 : X3.size = 64 := by rw [← hX3]; exact x3_size
  have d0 : ((X0.extract 0 16).toList == [101, 51, 98, 48, 99, 52, 52, 50, 57, 56, 102, 99, 49, 99, 49, 52]) = true := by rw [← hX0]; exact x0_head
  have d3 : ((X3.extract 0 16).toList == [98, 97, 55, 56, 49, 54, 98, 102, 56, 102, 48, 49, 99, 102, 101, 97]) = true := by rw [← hX3]; exact x3_head
  have S0 := Lib.hid hs0
  have S3 := Lib.hid hs3
  have HH0 := Lib.hid hh0
  have HH3 := Lib.hid hh3
  have HX := Lib.hid hx
  have HY := Lib.hid hy
  have hcv := conv_const
  clear hs0 hs3 hh0 hh3 hx hy hC0 hC3 hX0 hX3 env
  go_enter Tryd.func15, Tryd.ntmps15
  go_wp2_with fail
  refine (S0.out _ (Below.refl _ _)).mono ?_
  rintro e w1 ⟨rfl, hb1⟩
  have HB1 := Lib.hid hb1
  clear hb1
  go_wp2_with fail
  refine (HH0.out _).mono ?_
  rintro e w2 ⟨rfl, hb2⟩
  have HB2 := Lib.hid (chain HB1.out hb2)
  clear hb2 HB1
  go_wp2_with fail
  refine (S3.out _ _ (HB2.out.alloc HB2.out.size _) (heap_alloc_new _ _)).mono ?_
  rintro e w3 ⟨rfl, hb3⟩
  have HB3 := Lib.hid ((HB2.out.alloc HB2.out.size _).trans (hb3.mono (by have := HB2.out.size; simp; omega)))
  clear hb3 HB2
  go_wp2_with fail
  refine (HH3.out _).mono ?_
  rintro e w4 ⟨rfl, hb4⟩
  have HB4 := Lib.hid (chain HB3.out hb4)
  clear hb4 HB3
  go_wp2_with fail
  refine (HX.out _ _ (heap_alloc_new _ _)).mono ?_
  rintro e w5 ⟨rfl, hb5⟩
  have HB5 := Lib.hid ((HB4.out.alloc HB4.out.size _).trans (hb5.mono (by have := HB4.out.size; simp; omega)))
  clear hb5 HB4
  go_wp2_with fail
  refine (HY.out _ _ (heap_alloc_new _ _)).mono ?_
  rintro e w6 ⟨rfl, hb6⟩
  have HB6 := Lib.hid ((HB5.out.alloc HB5.out.size _).trans (hb6.mono (by have := HB5.out.size; simp; omega)))
  clear hb6 HB5
  go_wp2_with fail
  go_ret
  exact ⟨rfl, HB6.out⟩
end Go.Proofs.YtjgebpgdiinmbaaDoor
