/- DigestNames: published digests, and strings. Condition: what the row lists of the program's tables (tied by the card). -/
import Derived.Test.YtjgebpgdiinmbaaDoorDigW
import Derived.Test.YtjgebpgdiinmbaaDoorLawKit
import Derived.Test.YtjgebpgdiinmbaaDoorCards
import Derived.Stop.BytesEq
namespace Go.Proofs.YtjgebpgdiinmbaaDoor
open Go.ChangeShapes Go.WideShapes Go.ChangeAt Go.RowKit Sha
open Go.WideMaps Go.WideElems
set_option linter.unusedVariables false
set_option linter.unusedSimpArgs false
def mM : List UInt8 := [97, 98, 99, 100, 98, 99, 100, 101, 99, 100, 101, 102, 100, 101, 102, 103, 101, 102, 103, 104, 102, 103, 104, 105, 103, 104, 105, 106, 104, 105, 106, 107, 105, 106, 107, 108, 106, 107, 108, 109, 107, 108, 109, 110, 108, 109, 110, 111, 109, 110, 111, 112, 110, 111, 112, 113]
theorem sha_M : sha mM = [36, 141, 106, 97, 210, 6, 56, 184, 229, 192, 38, 147, 12, 62, 96, 57, 163, 60, 228, 89, 100, 255, 33, 103, 246, 236, 237, 212, 25, 219, 6, 193] := by decide +kernel
def xM : ByteArray := bs (hexS (sha mM))
theorem xM_eq : (xM.toList == [50, 52, 56, 100, 54, 97, 54, 49, 100, 50, 48, 54, 51, 56, 98, 56, 101, 53, 99, 48, 50, 54, 57, 51, 48, 99, 51, 101, 54, 48, 51, 57, 97, 51, 51, 99, 101, 52, 53, 57, 54, 52, 102, 102, 50, 49, 54, 55, 102, 54, 101, 99, 101, 100, 100, 52, 49, 57, 100, 98, 48, 54, 99, 49]) = true := by unfold xM; rw [sha_M]; decide +kernel
theorem x0_eq : (x0.toList == [101, 51, 98, 48, 99, 52, 52, 50, 57, 56, 102, 99, 49, 99, 49, 52, 57, 97, 102, 98, 102, 52, 99, 56, 57, 57, 54, 102, 98, 57, 50, 52, 50, 55, 97, 101, 52, 49, 101, 52, 54, 52, 57, 98, 57, 51, 52, 99, 97, 52, 57, 53, 57, 57, 49, 98, 55, 56, 53, 50, 98, 56, 53, 53]) = true := by unfold x0; rw [sha_nil]; decide +kernel
theorem x3_eq : (x3.toList == [98, 97, 55, 56, 49, 54, 98, 102, 56, 102, 48, 49, 99, 102, 101, 97, 52, 49, 52, 49, 52, 48, 100, 101, 53, 100, 97, 101, 50, 50, 50, 51, 98, 48, 48, 51, 54, 49, 97, 51, 57, 54, 49, 55, 55, 97, 57, 99, 98, 52, 49, 48, 102, 102, 54, 49, 102, 50, 48, 48, 49, 53, 97, 100]) = true := by unfold x3; rw [sha_abc]; decide +kernel
def s14 : List ByteArray := [⟨#[90, 103, 61]⟩, ⟨#[90, 103]⟩, ⟨#[90]⟩, ⟨#[90, 104, 61, 61]⟩, ⟨#[90, 109, 57, 61]⟩, ⟨#[90, 103, 61, 61, 90, 103, 61, 61]⟩, ⟨#[90, 61, 61, 61]⟩, ⟨#[61, 61, 61, 61]⟩, ⟨#[61]⟩, ⟨#[90, 109, 57, 118, 10]⟩, ⟨#[90, 109, 45, 118]⟩, ⟨#[90, 109, 32, 57]⟩, ⟨#[90, 103, 61, 97]⟩, ⟨#[90, 109, 56, 61, 61, 90, 109, 56, 61]⟩]
def s6 : List ByteArray := [⟨#[48]⟩, ⟨#[48, 103]⟩, ⟨#[65, 66]⟩, ⟨#[97, 32, 98, 32]⟩, ⟨#[48, 48, 48]⟩, ⟨#[48, 120]⟩]
theorem s14_no : ∀ k : Fin 14, ¬ (bs (b64S (undB (s14.getD k.val ⟨#[]⟩)))).data.toList = (s14.getD k.val ⟨#[]⟩).data.toList ∧ (s14.getD k.val ⟨#[]⟩).size ≤ 20000 := by decide +kernel
theorem s6_no : ∀ k : Fin 6, ¬ (bs (hexS (undX (s6.getD k.val ⟨#[]⟩)))).data.toList = (s6.getD k.val ⟨#[]⟩).data.toList ∧ (s6.getD k.val ⟨#[]⟩).size ≤ 20000 := by decide +kernel
theorem bad14 (k : Nat) (h : k < 14) (V : World) : Calls Tryd.prog 13 #[.string (s14.getD k ⟨#[]⟩)] V fun e w' => e = .returned (.tuple #[.slice none 0 0, .int .i64 12]) ∧ Below V.heap.size V w' :=
  fb_no _ (s14_no ⟨k, h⟩).2 (fun e => (s14_no ⟨k, h⟩).1 (by rw [e])) V
theorem bad6 (k : Nat) (h : k < 6) (V : World) : Calls Tryd.prog 14 #[.string (s6.getD k ⟨#[]⟩)] V fun e w' => e = .returned (.tuple #[.slice none 0 0, .int .i64 12]) ∧ Below V.heap.size V w' :=
  fh_no _ (s6_no ⟨k, h⟩).2 (fun e => (s6_no ⟨k, h⟩).1 (by rw [e])) V
theorem sum_lit (l : List UInt8) (n : Nat) (hn : l.length = n) (h5 : n ≤ 1000) (w V : World) (g : Nat) (fr : Nat × Nat) (env : DEnv w) (hb : Below w.heap.size w V) (hg : V.heap[g]? = some (.cells (bcells l) 5 fr)) :
    Calls Tryd.prog 10 #[.slice (some ⟨g, 0, none⟩) n n] V fun e w' => e = .returned (.agg (bcells (sha l))) ∧ Below V.heap.size V w' := by
  subst hn
  exact sum_any l (some ⟨g, 0, none⟩) l.length (by omega) (Nat.le_refl _) (by unfold maxLen; omega) V (srcAt_row hg) (env.on hb)
theorem b64_lit (l : List UInt8) (n : Nat) (hn : l.length = n) (h5 : n ≤ 1000) (X : ByteArray) (hX : bs (b64S l) = X) (V : World) (g : Nat) (fr : Nat × Nat) (hg : V.heap[g]? = some (.cells (bcells l) 5 fr)) :
    Calls Tryd.prog 12 #[.slice (some ⟨g, 0, none⟩) n n] V fun e w' => e = .returned (.string X) ∧ Below V.heap.size V w' := by
  subst hn
  subst hX
  exact b64_any l (some ⟨g, 0, none⟩) l.length (by omega) (Nat.le_refl _) V (srcAt_row hg)
theorem b64_nil (V : World) : Calls Tryd.prog 12 #[.slice none 0 0] V fun e w' => e = .returned (.string ⟨#[]⟩) ∧ Below V.heap.size V w' := by
  have h := b64_any [] none 0 (by decide) (by decide) V (fun h => absurd rfl h)
  rw [show bs (b64S []) = ⟨#[]⟩ by rw [show b64S [] = [] by decide +kernel]; rfl] at h
  exact h
theorem join4 (w V : World) (g1 g2 X : Nat) (f1 f2 : Nat × Nat) (env : DEnv w) (hb : Below w.heap.size w V) (h1 : V.heap[g1]? = some (.cells (bcells [97, 98]) 5 f1)) (h2 : V.heap[g2]? = some (.cells (bcells [99]) 5 f2))
    (hX : V.heap[X]? = some (.cells #[.slice none 0 0, .slice (some ⟨g1, 0, none⟩) 2 2, .slice none 0 0, .slice (some ⟨g2, 0, none⟩) 1 1] 26 (0, 0))) :
    Calls Tryd.prog 11 #[.slice (some ⟨X, 0, none⟩) 4 4] V fun e w' => e = .returned (.agg (bcells (sha [97, 98, 99]))) ∧ Below V.heap.size V w' := by
  have h := join_any [[], [97, 98], [], [99]] (some ⟨X, 0, none⟩) 4 (fun j => if j = 1 then (some ⟨g1, 0, none⟩, 2) else if j = 3 then (some ⟨g2, 0, none⟩, 1) else (none, 0)) (by decide) (by decide) (by decide) V ⟨?_, ?_⟩ (env.on hb)
  · exact h
  · intro j l hj
    have hcell : ∀ i, V.cell? ⟨X, 0 + i, none⟩ = (#[.slice none 0 0, .slice (some ⟨g1, 0, none⟩) 2 2, .slice none 0 0, .slice (some ⟨g2, 0, none⟩) 1 1] : Array Value)[i]? := fun i => by rw [Nat.zero_add]; exact cell_of_row V X i _ _ _ hX
    refine ⟨X, 0, rfl, ?_⟩
    rw [hcell]
    match j, hj with
    | 0, hj => obtain rfl : [] = l := by simpa using hj
               exact ⟨rfl, fun h => absurd rfl h⟩
    | 1, hj => obtain rfl : [97, 98] = l := by simpa using hj
               exact ⟨rfl, srcAt_row h1⟩
    | 2, hj => obtain rfl : [] = l := by simpa using hj
               exact ⟨rfl, fun h => absurd rfl h⟩
    | 3, hj => obtain rfl : [99] = l := by simpa using hj
               exact ⟨rfl, srcAt_row h2⟩
    | j + 4, hj => simp at hj
  · intro j l hj
    match j, hj with
    | 0, hj => obtain rfl : [] = l := by simpa using hj
               refine ⟨?_, ?_⟩ <;> simp [maxLen]
    | 1, hj => obtain rfl : [97, 98] = l := by simpa using hj
               refine ⟨?_, ?_⟩ <;> simp [maxLen]
    | 2, hj => obtain rfl : [] = l := by simpa using hj
               refine ⟨?_, ?_⟩ <;> simp [maxLen]
    | 3, hj => obtain rfl : [99] = l := by simpa using hj
               refine ⟨?_, ?_⟩ <;> simp [maxLen]
    | j + 4, hj => simp at hj
theorem join0 (w V : World) (env : DEnv w) (hb : Below w.heap.size w V) : Calls Tryd.prog 11 #[.slice none 0 0] V fun e w' => e = .returned (.agg (bcells (sha []))) ∧ Below V.heap.size V w' :=
  join_any [] none 0 (fun _ => (none, 0)) (by decide) (by decide) (by decide) V ⟨fun j l hj => (by simp at hj), fun j l hj => (by simp at hj)⟩ (env.on hb)
theorem eql_hash (F : List UInt8) (hF : F.length = 32) (w : World) : (binOp .eql 24 (.agg (bcells F)) (.agg (bcells F))).run Tryd.prog w = .ok (.bool true) w := by
  have h := run_eql_bytes (P := Tryd.prog) w 24 5 32 Tryd.underlying24 Tryd.underlying5 (fun _ => by kernel_rfl) F F hF hF
  rw [show (F == F) = true by simp] at h
  exact h
theorem fromhex_lit (s : ByteArray) (l : List UInt8) (n : Nat) (hn : l.length = n) (hl : undX s = l) (hs : bs (hexS l) = s) (h2 : s.size ≤ 2000) (V : World) : Calls Tryd.prog 14 #[.string s] V fun e w' => ∃ g cap, e = .returned (.tuple #[.slice (some ⟨g, 0, none⟩) n cap, .int .i64 0]) ∧ n ≤ cap ∧ SrcAt (some ⟨g, 0, none⟩) l w' ∧ Below V.heap.size V w' := by
  subst hn
  have h := fh_yes s (by omega) (by rw [hl]; exact hs) V
  rw [hl] at h
  refine h.mono fun e w' ⟨v, he, hown, hnn, hb⟩ => ?_
  obtain ⟨g, cap, rfl, hg, h1, h2, h3⟩ := own_src hown hnn
  exact ⟨g, cap, he, h1, h3, hb⟩
theorem fromb64_lit (s : ByteArray) (l : List UInt8) (n : Nat) (hn : l.length = n) (hl : undB s = l) (hs : bs (b64S l) = s) (h2 : s.size ≤ 2000) (V : World) : Calls Tryd.prog 13 #[.string s] V fun e w' => ∃ g cap, e = .returned (.tuple #[.slice (some ⟨g, 0, none⟩) n cap, .int .i64 0]) ∧ n ≤ cap ∧ SrcAt (some ⟨g, 0, none⟩) l w' ∧ Below V.heap.size V w' := by
  subst hn
  have h := fb_yes s (by omega) (by rw [hl]; exact hs) V
  rw [hl] at h
  refine h.mono fun e w' ⟨v, he, hown, hnn, hb⟩ => ?_
  obtain ⟨g, cap, rfl, hg, h1, h2, h3⟩ := own_src hown hnn
  exact ⟨g, cap, he, h1, h3, hb⟩
theorem conv_const1 (C : Array Value) (n : Nat) (V : World) (o : Obj) : (convert 26 26 (.slice (some ⟨V.heap.size + 1, 0, none⟩) n n)).run Tryd.prog ((V.alloc o).alloc (.cells C 5)) = .ok (.slice (some ⟨V.heap.size + 1, 0, none⟩) n n) ((V.alloc o).alloc (.cells C 5 (C.size, C.size + 1))) :=
  Joins.run_convert_bytes_const_at (V.alloc o) 26 5 C n n (V.heap.size + 1) (by simp) Tryd.underlying26 Tryd.underlying5
theorem bs_ext {l m : List UInt8} (h : l = m) : bs l = bs m := by rw [h]
set_option maxRecDepth 100000 in
set_option maxHeartbeats 8000000 in
theorem names_true (w : World) (env : DEnv w) :
    Calls Tryd.prog 3 #[] w fun e w' => e = .returned (.bool true) ∧ Below w.heap.size w w' := by
  have hs0 : ∀ V, Below w.heap.size w V → Calls Tryd.prog 10 #[.slice none 0 0] V fun e w' => e = .returned (.agg (bcells (sha []))) ∧ Below V.heap.size V w' := fun V hb =>
    sum_any [] none 0 (by simp) (by simp) (by decide) V (fun h => absurd rfl h) (env.on hb)
  have hsM := fun V g fr (hb : Below w.heap.size w V) hg => sum_lit mM 56 rfl (by decide) w V g fr env hb hg
  have hs3 := fun V g fr (hb : Below w.heap.size w V) hg => sum_lit [97, 98, 99] 3 rfl (by decide) w V g fr env hb hg
  have hh0 : ∀ V, Calls Tryd.prog 9 #[.agg (bcells (sha []))] V fun e w' => e = .returned (.string x0) ∧ Below V.heap.size V w' := fun V => lhex_any _ (sha_len _) V
  have hh3 : ∀ V, Calls Tryd.prog 9 #[.agg (bcells (sha [97, 98, 99]))] V fun e w' => e = .returned (.string x3) ∧ Below V.heap.size V w' := fun V => lhex_any _ (sha_len _) V
  have hhM : ∀ V, Calls Tryd.prog 9 #[.agg (bcells (sha mM))] V fun e w' => e = .returned (.string xM) ∧ Below V.heap.size V w' := fun V => lhex_any _ (sha_len _) V
  have hj0 := fun V (hb : Below w.heap.size w V) => join0 w V env hb
  have hj4 := fun V g1 g2 X f1 f2 (hb : Below w.heap.size w V) h1 h2 hX => join4 w V g1 g2 X f1 f2 env hb h1 h2 hX
  have q0 := eql_hash (sha []) (sha_len _)
  have q3 := eql_hash (sha [97, 98, 99]) (sha_len _)
  have hal : ∀ V, Below w.heap.size w V → Calls Tryd.prog 15 #[] V fun e w' => e = .returned (.bool true) ∧ Below V.heap.size V w' := fun V hb => alive_any V (env.on hb)
  obtain ⟨C0, hC0⟩ : ∃ C0, bcells (sha []) = C0 := ⟨_, rfl⟩
  obtain ⟨C3, hC3⟩ : ∃ C3, bcells (sha [97, 98, 99]) = C3 := ⟨_, rfl⟩
  obtain ⟨CM, hCM⟩ : ∃ CM, bcells (sha mM) = CM := ⟨_, rfl⟩
  obtain ⟨X0, hX0⟩ : ∃ X0, x0 = X0 := ⟨_, rfl⟩
  obtain ⟨X3, hX3⟩ : ∃ X3, x3 = X3 := ⟨_, rfl⟩
  obtain ⟨XM, hXM⟩ : ∃ XM, xM = XM := ⟨_, rfl⟩
  rw [hC0] at hs0 hh0 hj0 q0
  rw [hC3] at hs3 hh3 hj4 q3
  rw [hCM] at hsM hhM
  rw [hX0] at hh0
  rw [hX3] at hh3
  rw [hXM] at hhM
  have t0 := x0_eq
  have t3 := x3_eq
  have tM := xM_eq
  rw [hX0] at t0
  rw [hX3] at t3
  rw [hXM] at tM
  have S0 := Lib.hid hs0
  have SM := Lib.hid hsM
  have S3 := Lib.hid hs3
  have HH0 := Lib.hid hh0
  have HH3 := Lib.hid hh3
  have HHM := Lib.hid hhM
  have J0 := Lib.hid hj0
  have J4 := Lib.hid hj4
  have AL := Lib.hid hal
  have hcv := conv_const
  have hcv1 := conv_const1
  clear hs0 hsM hs3 hh0 hh3 hhM hj0 hj4 hal hC0 hC3 hCM hX0 hX3 hXM env
  go_enter Tryd.func3, Tryd.ntmps3
  have HB0 : RowKit.Hid (Below w.heap.size w w) := Lib.hid (Below.refl _ _)
  go_wp2_with fail
  refine (SM.out _ _ _ (Below.alloc HB0.out HB0.out.size _) (heap_alloc_new _ _)).mono ?_
  rintro e w1 ⟨rfl, hb1⟩
  have HB1 := Lib.hid (Below.trans (Below.alloc HB0.out (by have := HB0.out.size; first | exact this | (simp; omega)) _) (hb1.mono (by have := HB0.out.size; first | (simp; done) | (simp; omega))))
  clear hb1
  go_wp2_with fail
  refine (HHM.out _).mono ?_
  rintro e w2 ⟨rfl, hb2⟩
  have HB2 := Lib.hid (chain HB1.out hb2)
  clear hb2
  go_wp2_with fail
  refine (S0.out _ HB2.out).mono ?_
  rintro e w3 ⟨rfl, hb3⟩
  have HB3 := Lib.hid (chain HB2.out hb3)
  clear hb3
  go_wp2_with fail
  refine (HH0.out _).mono ?_
  rintro e w4 ⟨rfl, hb4⟩
  have HB4 := Lib.hid (chain HB3.out hb4)
  clear hb4
  go_wp2_with fail
  refine (S3.out _ _ _ (Below.alloc HB4.out HB4.out.size _) (heap_alloc_new _ _)).mono ?_
  rintro e w5 ⟨rfl, hb5⟩
  have HB5 := Lib.hid (Below.trans (Below.alloc HB4.out (by have := HB4.out.size; first | exact this | (simp; omega)) _) (hb5.mono (by have := HB4.out.size; first | (simp; done) | (simp; omega))))
  clear hb5
  go_wp2_with fail
  refine (HH3.out _).mono ?_
  rintro e w6 ⟨rfl, hb6⟩
  have HB6 := Lib.hid (chain HB5.out hb6)
  clear hb6
  go_wp2_with fail
  refine (J0.out _ HB6.out).mono ?_
  rintro e w7 ⟨rfl, hb7⟩
  have HB7 := Lib.hid (chain HB6.out hb7)
  clear hb7
  go_wp2_with fail
  refine (S0.out _ HB7.out).mono ?_
  rintro e w8 ⟨rfl, hb8⟩
  have HB8 := Lib.hid (chain HB7.out hb8)
  clear hb8
  go_wp2_with fail
  refine (J4.out _ _ _ _ _ _ (Below.alloc (Below.alloc (Below.alloc HB8.out HB8.out.size _) (by have := HB8.out.size; first | exact this | (simp; omega)) _) (by have := HB8.out.size; first | exact this | (simp; omega)) _) (heap3_first _ _ _ _) (heap3_mid _ _ _ _) (heap3_last _ _ _ _)).mono ?_
  rintro e w9 ⟨rfl, hb9⟩
  have HB9 := Lib.hid (Below.trans (Below.alloc (Below.alloc (Below.alloc HB8.out (by have := HB8.out.size; first | exact this | (simp; omega)) _) (by have := HB8.out.size; first | exact this | (simp; omega)) _) (by have := HB8.out.size; first | exact this | (simp; omega)) _) (hb9.mono (by have := HB8.out.size; first | (simp; done) | (simp; omega))))
  clear hb9
  go_wp2_with fail
  refine (S3.out _ _ _ (Below.alloc HB9.out HB9.out.size _) (heap_alloc_new _ _)).mono ?_
  rintro e w10 ⟨rfl, hb10⟩
  have HB10 := Lib.hid (Below.trans (Below.alloc HB9.out (by have := HB9.out.size; first | exact this | (simp; omega)) _) (hb10.mono (by have := HB9.out.size; first | (simp; done) | (simp; omega))))
  clear hb10
  go_wp2_with fail
  refine (b64_nil _).mono ?_
  rintro e w11 ⟨rfl, hb11⟩
  have HB11 := Lib.hid (chain HB10.out hb11)
  clear hb11
  go_wp2_with fail
  refine (b64_lit [102] 1 rfl (by decide) ⟨#[90, 103, 61, 61]⟩ (bs_ext (by decide +kernel)) _ _ _ (heap_alloc_new _ _)).mono ?_
  rintro e w12 ⟨rfl, hb12⟩
  have HB12 := Lib.hid (Below.trans (Below.alloc HB11.out (by have := HB11.out.size; first | exact this | (simp; omega)) _) (hb12.mono (by have := HB11.out.size; first | (simp; done) | (simp; omega))))
  clear hb12
  go_wp2_with fail
  refine (b64_lit [102, 111] 2 rfl (by decide) ⟨#[90, 109, 56, 61]⟩ (bs_ext (by decide +kernel)) _ _ _ (heap_alloc_new _ _)).mono ?_
  rintro e w13 ⟨rfl, hb13⟩
  have HB13 := Lib.hid (Below.trans (Below.alloc HB12.out (by have := HB12.out.size; first | exact this | (simp; omega)) _) (hb13.mono (by have := HB12.out.size; first | (simp; done) | (simp; omega))))
  clear hb13
  go_wp2_with fail
  refine (b64_lit [102, 111, 111] 3 rfl (by decide) ⟨#[90, 109, 57, 118]⟩ (bs_ext (by decide +kernel)) _ _ _ (heap_alloc_new _ _)).mono ?_
  rintro e w14 ⟨rfl, hb14⟩
  have HB14 := Lib.hid (Below.trans (Below.alloc HB13.out (by have := HB13.out.size; first | exact this | (simp; omega)) _) (hb14.mono (by have := HB13.out.size; first | (simp; done) | (simp; omega))))
  clear hb14
  go_wp2_with fail
  refine (b64_lit [102, 111, 111, 98, 97, 114] 6 rfl (by decide) ⟨#[90, 109, 57, 118, 89, 109, 70, 121]⟩ (bs_ext (by decide +kernel)) _ _ _ (heap_alloc_new _ _)).mono ?_
  rintro e w15 ⟨rfl, hb15⟩
  have HB15 := Lib.hid (Below.trans (Below.alloc HB14.out (by have := HB14.out.size; first | exact this | (simp; omega)) _) (hb15.mono (by have := HB14.out.size; first | (simp; done) | (simp; omega))))
  clear hb15
  go_wp2_with fail
  refine (b64_lit [255, 255, 254] 3 rfl (by decide) ⟨#[47, 47, 47, 43]⟩ (bs_ext (by decide +kernel)) _ _ _ (heap_alloc_new _ _)).mono ?_
  rintro e w16 ⟨rfl, hb16⟩
  have HB16 := Lib.hid (Below.trans (Below.alloc HB15.out (by have := HB15.out.size; first | exact this | (simp; omega)) _) (hb16.mono (by have := HB15.out.size; first | (simp; done) | (simp; omega))))
  clear hb16
  go_wp2_with fail
  obtain ⟨Z17, hZ17⟩ : ∃ Z, w16.heap.size = Z := ⟨_, rfl⟩
  try simp only [hZ17]
  generalize hV17 : World.alloc w16 _ = V17
  have hr17 : V17.heap[Z17]? = some (.cells (s14.map Value.string).toArray 9 (0, 0)) := by rw [← hV17, ← hZ17]; exact (heap_alloc_new _ _).trans rfl
  have HBV17 := Lib.hid (show Below w.heap.size w V17 by rw [← hV17]; exact HB16.out.alloc HB16.out.size _)
  have HR17 := Lib.hid hr17
  have hzl17 : Z17 < V17.heap.size := (Array.getElem?_eq_some_iff.1 hr17).1
  clear hV17 hZ17 hr17
  go_loopw [88] (fun i wr => ∃ k : Nat, k ≤ 14 ∧ i = .int .i64 (k : Int) ∧ Below V17.heap.size V17 wr) (fun i _ => 14 - (intOf i).toNat)
  case atStart => exact ⟨0, by omega, rfl, Below.refl _ _⟩
  case round =>
    obtain ⟨k, hk, rfl, hbel⟩ := hrel
    have HBL := Lib.hid hbel
    clear hbel
    by_cases hlt : k < 14
    · have hcell : wr.cell? ⟨Z17, k, none⟩ = some (.string (s14.getD k ⟨#[]⟩)) := by
        rw [cell_of_row wr Z17 k _ _ _ ((HBL.out.block _ hzl17).trans HR17.out), List.getElem?_toArray, List.getElem?_map, List.getD_eq_getElem?_getD, List.getElem?_eq_getElem hlt]
        rfl
      have HBAD := Lib.hid (fun V => bad14 k hlt V)
      obtain ⟨sk, hsk⟩ : ∃ sk, s14.getD k ⟨#[]⟩ = sk := ⟨_, rfl⟩
      rw [hsk] at hcell HBAD
      have hki : (k : Int) < 14 := by omega
      clear hsk
      go_wp2_with fail
      refine (HBAD.out _).mono ?_
      rintro e wq ⟨rfl, hbq⟩
      have HBQ := Lib.hid (chain HBL.out hbq)
      clear hbq
      go_wp2_with fail
      go_roundw
      case rel => exact ⟨k + 1, by omega, by go_num, HBQ.out⟩
      case measure => simp [intOf]; omega
    · have hkN : k = 14 := by omega
      subst hkN
      have hge : ¬ ((14 : Nat) : Int) < 14 := by omega
      have HB17 := Lib.hid (chain HBV17.out HBL.out)
      clear HBL HBV17 HR17 hzl17 hlt
      obtain ⟨w17, hwr⟩ : ∃ w17, wr = w17 := ⟨_, rfl⟩
      rw [hwr] at HB17 ⊢
      clear hwr
      go_wp2_with fail
      obtain ⟨Z18, hZ18⟩ : ∃ Z, w17.heap.size = Z := ⟨_, rfl⟩
      try simp only [hZ18]
      generalize hV18 : World.alloc w17 _ = V18
      have hr18 : V18.heap[Z18]? = some (.cells (s6.map Value.string).toArray 9 (0, 0)) := by rw [← hV18, ← hZ18]; exact (heap_alloc_new _ _).trans rfl
      have HBV18 := Lib.hid (show Below w.heap.size w V18 by rw [← hV18]; exact HB17.out.alloc HB17.out.size _)
      have HR18 := Lib.hid hr18
      have hzl18 : Z18 < V18.heap.size := (Array.getElem?_eq_some_iff.1 hr18).1
      clear hV18 hZ18 hr18
      go_loopw [102] (fun i wr => ∃ k : Nat, k ≤ 6 ∧ i = .int .i64 (k : Int) ∧ Below V18.heap.size V18 wr) (fun i _ => 6 - (intOf i).toNat)
      case atStart => exact ⟨0, by omega, rfl, Below.refl _ _⟩
      case round =>
        obtain ⟨k, hk, rfl, hbel⟩ := hrel
        have HBL := Lib.hid hbel
        clear hbel
        by_cases hlt : k < 6
        · have hcell : wr.cell? ⟨Z18, k, none⟩ = some (.string (s6.getD k ⟨#[]⟩)) := by
            rw [cell_of_row wr Z18 k _ _ _ ((HBL.out.block _ hzl18).trans HR18.out), List.getElem?_toArray, List.getElem?_map, List.getD_eq_getElem?_getD, List.getElem?_eq_getElem hlt]
            rfl
          have HBAD := Lib.hid (fun V => bad6 k hlt V)
          obtain ⟨sk, hsk⟩ : ∃ sk, s6.getD k ⟨#[]⟩ = sk := ⟨_, rfl⟩
          rw [hsk] at hcell HBAD
          have hki : (k : Int) < 6 := by omega
          clear hsk
          go_wp2_with fail
          refine (HBAD.out _).mono ?_
          rintro e wq ⟨rfl, hbq⟩
          have HBQ := Lib.hid (chain HBL.out hbq)
          clear hbq
          go_wp2_with fail
          go_roundw
          case rel => exact ⟨k + 1, by omega, by go_num, HBQ.out⟩
          case measure => simp [intOf]; omega
        · have hkN : k = 6 := by omega
          subst hkN
          have hge : ¬ ((6 : Nat) : Int) < 6 := by omega
          have HB18 := Lib.hid (chain HBV18.out HBL.out)
          clear HBL HBV18 HR18 hzl18 hlt
          obtain ⟨w18, hwr⟩ : ∃ w18, wr = w18 := ⟨_, rfl⟩
          rw [hwr] at HB18 ⊢
          clear hwr
          go_wp2_with fail
          refine (fromhex_lit ⟨#[48, 48, 102, 102, 49, 48]⟩ [0, 255, 16] 3 rfl (by decide +kernel) (bs_ext (by decide +kernel)) (by decide) _).mono ?_
          rintro e w19 ⟨g19, c19, rfl, hc19, hs19, hb19⟩
          have HC19 := Lib.hid hc19
          have HS19 := Lib.hid hs19
          have HB19 := Lib.hid (chain HB18.out hb19)
          have hx19 := Lib.hid hb19
          clear hb19 hc19 hs19
          go_wp2_with fail
          refine (fromb64_lit ⟨#[90, 109, 56, 61]⟩ [102, 111] 2 rfl (by decide +kernel) (bs_ext (by decide +kernel)) (by decide) _).mono ?_
          rintro e w20 ⟨g20, c20, rfl, hc20, hs20, hb20⟩
          have HC20 := Lib.hid hc20
          have HS20 := Lib.hid hs20
          have HB20 := Lib.hid (chain HB19.out hb20)
          have hx20 := Lib.hid hb20
          clear hb20 hc20 hs20
          go_wp2_with fail
          refine (fromhex_lit ⟨#[]⟩ [] 0 rfl (by decide +kernel) (bs_ext (by decide +kernel)) (by decide) _).mono ?_
          rintro e w21 ⟨g21, c21, rfl, hc21, hs21, hb21⟩
          have HC21 := Lib.hid hc21
          have HS21 := Lib.hid hs21
          have HB21 := Lib.hid (chain HB20.out hb21)
          have hx21 := Lib.hid hb21
          clear hb21 hc21 hs21
          go_wp2_with fail
          refine (fromb64_lit ⟨#[]⟩ [] 0 rfl (by decide +kernel) (bs_ext (by decide +kernel)) (by decide) _).mono ?_
          rintro e w22 ⟨g22, c22, rfl, hc22, hs22, hb22⟩
          have HC22 := Lib.hid hc22
          have HS22 := Lib.hid hs22
          have HB22 := Lib.hid (chain HB21.out hb22)
          have hx22 := Lib.hid hb22
          clear hb22 hc22 hs22
          go_wp2_with fail
          refine (AL.out _ HB22.out).mono ?_
          rintro e w23 ⟨rfl, hb23⟩
          have HB23 := Lib.hid (chain HB22.out hb23)
          have hx23 := Lib.hid hb23
          clear hb23
          have S2 := Lib.hid (HS19.out.on (chain (chain (chain (chain (Below.refl _ _) hx20.out) hx21.out) hx22.out) hx23.out))
          go_wp2_with fail
          refine (same_eq [0, 255, 16] _ _ _ _ (by decide) HC19.out (by decide) _ (S2.out.on (Below.alloc (Below.refl _ _) (Nat.le_refl _) _)) (srcAt_row (heap_alloc_new _ _))).mono ?_
          rintro e w24 ⟨rfl, m24, hm24⟩
          have HB24 := Lib.hid (show Below w.heap.size w w24 by rw [hm24]; exact below_drewN (Below.alloc HB23.out HB23.out.size _) _)
          have hx24 := Lib.hid (show Below w23.heap.size w23 w24 by rw [hm24]; exact below_drewN (Below.alloc (Below.refl _ _) (Nat.le_refl _) _) _)
          clear hm24 S2
          have S2 := Lib.hid (HS20.out.on (chain (chain (chain (chain (Below.refl _ _) hx21.out) hx22.out) hx23.out) hx24.out))
          go_wp2_with fail
          refine (same_eq [102, 111] _ _ _ _ (by decide) HC20.out (by decide) _ (S2.out.on (Below.alloc (Below.refl _ _) (Nat.le_refl _) _)) (srcAt_row (heap_alloc_new _ _))).mono ?_
          rintro e w25 ⟨rfl, m25, hm25⟩
          have HB25 := Lib.hid (show Below w.heap.size w w25 by rw [hm25]; exact below_drewN (Below.alloc HB24.out HB24.out.size _) _)
          have hx25 := Lib.hid (show Below w24.heap.size w24 w25 by rw [hm25]; exact below_drewN (Below.alloc (Below.refl _ _) (Nat.le_refl _) _) _)
          clear hm25 S2
          go_wp2_with fail
          go_ret
          exact ⟨rfl, HB25.out⟩
set_option maxRecDepth 100000 in
theorem names_lifted (os : Os) (started : os.Started) (H : Type) (enc : TypeId × Value → H) :
    ReturnsInHanded {} Tryd.checked os 3 .any (fun w args => (Rows.digestNamesSpec.pre enc Tryd.prog Tryd.f3 Rows.digestNamesRow.domain false w args ∧ laidMet Tryd.prog laidDig w) ∧ sizedMet enc Tryd.prog Tryd.f3 (OpenSpec.ofChange Rows.digestNamesSpec) false w args)
      (Rows.digestNamesSpec.post enc Tryd.prog Tryd.f3 false true false false) := by
  refine returns_laid (C := Tryd.checked) (X := fun w => laidMet Tryd.prog laidDig w) (fun _ _ hh h => h.of_heap hh) Tryd.own started (by kernel_rfl) Tryd.func3
    (ChangeSpec.witness_at (enc := enc) (C := Tryd.checked) (os := os) (X := fun w _ => laidMet Tryd.prog laidDig w) false (laidWorldD os) #[] 8 rfl (by kernel_rfl) (by kernel_rfl) (by kernel_rfl) (by kernel_rfl) (by kernel_rfl) (laidWorldD_met os _)) ?_
  intro W base args ds gs before hval0 hW hL hsh
  have hval : ∀ (j : Nat) t v, Tryd.f3.params[j]? = some t → args[j]? = some v → Value.okWide Tryd.prog W .any base t v := hval0
  have env := denv_of_laid hL
  have hW' := hW
  obtain ⟨p, q, hA0, hV, rfl, hfz, hnd⟩ := hW
  have hA : DataW.TrodAll enc Tryd.prog W 0 (fun _ => true) true Tryd.f3.params.toList args.toList ds p := hA0
  rw [Tryd.params3] at hA hval
  obtain ⟨hargs, rfl, rfl⟩ := trodAll_nil hA
  obtain rfl : args = #[] := by cases args; simp_all
  obtain ⟨rfl, rfl⟩ := trodVars_none hV
  refine (names_true   W  env).mono fun e W' ⟨he, hg⟩ => ?_
  subst he
  exact ⟨_, rfl, law_post Tryd.laidOut (by kernel_rfl) (by kernel_rfl) hW' hg (trodAll_cons_mk (shut_bool Tryd.underlying4 _) trodAll_mk0) rfl rfl⟩
/-- the row -/
theorem names_row : Rows.DigestNamesSaid :=
  OpenClaim.holds_of_wide 3 Tryd.f3 rfl rfl rfl rfl rfl rfl rfl ⟨rfl, rfl, rfl, rfl, rfl⟩ rfl rfl rfl rfl rfl (by kernel_rfl) Tryd.func3 (by kernel_rfl)
    (of_decide_eq_true (by kernel_rfl)) (by unfold Func.isWrapper; rw [if_neg (of_decide_eq_false (by kernel_rfl))]; exact ⟨rfl, rfl⟩)
    (fun os started H enc _ => names_lifted os started H enc)
/-- the statement -/
theorem names_holds : Rows.DigestNamesCardSaid :=
  Claim7.holds_tied_plain_at .later [] [.data, .data] true (true, "b86af4fe130f55cd64608773ec711eb422a857e1c5e1d3a0e74c34bd440be449") false
    names_row (fun _ h => by cases h) (by kernel_rfl) (fun _ h => by cases h) digestNames_row_tie rfl ⟨rfl, rfl⟩ (by kernel_rfl) rfl
    (fun f fn hf hfn => by
      obtain rfl : f = 3 := Option.some.inj ((show Tryd.prog.funcNamed "gatepath/gatepathlaw05.DigestNames" = some 3 by kernel_rfl).symm.trans hf) |>.symm
      obtain rfl : fn = Tryd.f3 := (Option.some.inj (Tryd.func3.symm.trans hfn)).symm
      exact ⟨by kernel_rfl, fun j t ht => by
        rw [Tryd.params3] at ht
        simp at ht⟩)
    (by kernel_rfl)
#print axioms names_holds
end Go.Proofs.YtjgebpgdiinmbaaDoor
