/- DigestJoins, for every input: however bytes are divided, Join of the parts is Sum of the whole. Condition: what the row lists of the program's tables (tied by the card). -/
import Derived.Test.YtjgebpgdiinmbaaDoorDigDoor
import Derived.Test.YtjgebpgdiinmbaaDoorDigSame
import Derived.Test.YtjgebpgdiinmbaaDoorLawKit
import Derived.Test.YtjgebpgdiinmbaaDoorCards
import Derived.Stop.BytesEq
namespace Go.Proofs.YtjgebpgdiinmbaaDoor
open Go.ChangeShapes Go.WideShapes Go.ChangeAt Go.RowKit Sha
open Go.WideMaps Go.WideElems
set_option linter.unusedVariables false
set_option linter.unusedSimpArgs false
theorem eql_hashj (F : List UInt8) (hF : F.length = 32) (w : World) : (binOp .eql 24 (.agg (bcells F)) (.agg (bcells F))).run Tryd.prog w = .ok (.bool true) w := by
  have h := run_eql_bytes (P := Tryd.prog) w 24 5 32 Tryd.underlying24 Tryd.underlying5 (fun _ => by kernel_rfl) F F hF hF
  rw [show (F == F) = true by simp] at h
  exact h
theorem st_row (F : List UInt8) (hF : F.length = 32) (U : World) (X : Nat) (Z : Array Value) (T : TypeId) (hX : U.heap[X]? = some (.cells Z T (0, 0))) (hZ : Z.size = 32) : (storeCells ⟨X, 0, none⟩ (bcells F).toList).run Tryd.prog U = .ok () (U.setRow X (bcells F)) := by
  have h := run_storeCells_from (P := Tryd.prog) X T (bcells F).toList 0 Z U hX (by rw [Array.length_toList, bcells_size, hF, hZ]) (fun v hv => (Array.all_eq_true_iff_forall_mem.1 (bcells_one F)) v (by simpa using hv))
  rw [List.take_zero, List.nil_append, Array.toArray_toList] at h
  exact h
theorem st_new (F : List UInt8) (hF : F.length = 32) (U : World) (Z : Array Value) (T : TypeId) (hZ : Z.size = 32) : (storeCells ⟨U.heap.size, 0, none⟩ (bcells F).toList).run Tryd.prog (U.alloc (.cells Z T)) = .ok () (U.alloc (.cells (bcells F) T)) := by
  rw [st_row F hF _ _ Z T (heap_alloc_new _ _) hZ, World.setRow_alloc_new]
theorem ld_row (F : List UInt8) (hF : F.length = 32) (U : World) (X : Nat) (T : TypeId) (hX : U.heap[X]? = some (.cells (bcells F) T (0, 0))) : (loadCells ⟨X, 0, none⟩ 32).run Tryd.prog U = .ok (bcells F) U := by
  have h := run_loadCells_list (P := Tryd.prog) U ⟨X, 0, none⟩ (bcells F).toList (fun j v hv => by
    rw [add_eq, Nat.zero_add, cell_of_row _ _ _ _ _ _ hX]
    simpa using hv)
  rw [Array.length_toList, bcells_size, hF] at h
  exact h
theorem ld_row2 (F : List UInt8) (hF : F.length = 32) (U : World) (X : Nat) (T : TypeId) (hX : U.heap[X]? = some (.cells (bcells F) T (0, 0))) : (loadCellsFrom ⟨X, 0, none⟩ 0 32 #[]).run Tryd.prog U = .ok (bcells F) U := ld_row F hF U X T hX
theorem rangeAt_on {z w : World} {X : Nat} {cs : List Value} (h : z.rangeAt X 0 cs) (hb : Below z.heap.size z w) : w.rangeAt X 0 cs := fun j v hv => by
  have h1 := h j v hv
  rw [hb.cell (p := ⟨X, 0 + j, none⟩) (World.block_lt_of_cell? _ _ h1)]
  exact h1
theorem rangeAt_row {z : World} {X : Nat} {F : List UInt8} {T : TypeId} (h : z.heap[X]? = some (.cells (bcells F) T (0, 0))) : z.rangeAt X 0 (bvals F) := fun j v hv => by
  rw [Nat.zero_add, cell_of_row _ _ _ _ _ _ h]
  unfold bcells
  simpa [bvals] using hv
theorem keepJ {V z w : World} {X1 X2 X3 : Nat} {cs : List Value} (h : Below V.heap.size V z ∧ z.rangeAt X1 0 cs ∧ z.rangeAt X2 0 cs ∧ z.rangeAt X3 0 cs) (hb : Below z.heap.size z w) : Below V.heap.size V w ∧ w.rangeAt X1 0 cs ∧ w.rangeAt X2 0 cs ∧ w.rangeAt X3 0 cs :=
  ⟨chain h.1 hb, rangeAt_on h.2.1 hb, rangeAt_on h.2.2.1 hb, rangeAt_on h.2.2.2 hb⟩
/-- a piece of a slice: where it begins -/
def cutA (A : Option Addr) (c l : Nat) : Option Addr := if c = l then A else A.map (·.add l)
theorem run_cut (A : Option Addr) (n c l h : Nat) (lo hi : Option Value) (hlo : (lo = none ∧ l = 0) ∨ lo = some (.int .i64 (l : Int))) (hhi : (hi = none ∧ h = n) ∨ hi = some (.int .i64 (h : Int))) (h1 : l ≤ h) (h2 : h ≤ c) (w : World) :
    (Instr.slice 26 (.slice A n c) lo hi none).run Tryd.prog w = .ok (.slice (cutA A c l) (h - l) (c - l)) w := by
  have hs : ∀ w, (sizeOf 5).run Tryd.prog w = .ok 1 w := fun _ => by kernel_rfl
  have a1 : (0 : Int) ≤ (l : Int) ∧ (l : Int) ≤ (h : Int) := by omega
  have a2 : (0 : Int) ≤ (h : Int) ∧ (h : Int) ≤ (c : Int) := by omega
  unfold cutA
  rcases hlo with ⟨rfl, rfl⟩ | rfl <;> rcases hhi with ⟨rfl, rfl⟩ | rfl
  all_goals simp [Instr.slice, Instr.sliceBounds, Instr.sliceBound, run_underlying Tryd.underlying26, asIntOf, hs, h1, h2, Nat.not_lt.2 h1, Nat.not_lt.2 h2]
theorem SrcAt.cut {A : Option Addr} {L : List UInt8} {w : World} (h : SrcAt A L w) (c l k : Nat) (hc : L.length ≤ c) : SrcAt (cutA A c l) ((L.drop l).take k) w := fun hne => by
  have hl : l < L.length := by
    by_cases e : l < L.length
    · exact e
    · rw [List.drop_of_length_le (by omega)] at hne
      simp at hne
  have hLn : L ≠ [] := by intro e; rw [e] at hl; simp at hl
  obtain ⟨g, o, rfl, hcell⟩ := h hLn
  unfold cutA
  rw [if_neg (by omega)]
  refine ⟨g, o + l, by rw [Option.map_some, add_eq], fun j x hj => ?_⟩
  have hj2 : (L.drop l)[j]? = some x := by
    rw [List.getElem?_take] at hj
    split at hj
    · exact hj
    · cases hj
  rw [List.getElem?_drop] at hj2
  rw [Nat.add_assoc]
  exact hcell _ _ hj2
/-- a slice of slices made, its Join called, beside a new block: in each order -/
theorem three_ways (k : Nat) (obs : Array Value) (F : List UInt8) (w V : World) (hB : Below w.heap.size w V)
    (hJ : ∀ (U : World) (X : Nat), Below w.heap.size w U → (∀ (j : Nat) v, obs[j]? = some v → U.cell? ⟨X, j, none⟩ = some v) → Calls Tryd.prog 11 #[.slice (some ⟨X, 0, none⟩) k k] U fun e w' => e = .returned (.agg (bcells F)) ∧ Below U.heap.size U w') :
    (Calls Tryd.prog 11 #[.slice (some ⟨V.heap.size, 0, none⟩) k k] (V.alloc (.cells obs 26)).drew fun e w' => e = .returned (.agg (bcells F)) ∧ V.heap.size < w'.heap.size ∧ Below V.heap.size V w') ∧
    (∀ ho, Calls Tryd.prog 11 #[.slice (some ⟨V.heap.size, 0, none⟩) k k] ((V.alloc (.cells obs 26)).alloc ho).drew fun e w' => e = .returned (.agg (bcells F)) ∧ Below V.heap.size V w' ∧ w'.heap[V.heap.size + 1]? = some ho) ∧
    (∀ ho, Calls Tryd.prog 11 #[.slice (some ⟨V.heap.size + 1, 0, none⟩) k k] ((V.alloc ho).alloc (.cells obs 26)).drew fun e w' => e = .returned (.agg (bcells F)) ∧ Below V.heap.size V w' ∧ w'.heap[V.heap.size]? = some ho) := by
  have hcell : ∀ (U : World) (j : Nat) v, obs[j]? = some v → (U.alloc (.cells obs 26)).cell? ⟨U.heap.size, j, none⟩ = some v := fun U j v h => by
    rw [cell_of_row _ _ _ _ _ _ (heap_alloc_new U _)]
    exact h
  have b1 : Below V.heap.size V (V.alloc (.cells obs 26)) := below_new _ _
  refine ⟨?_, fun ho => ?_, fun ho => ?_⟩
  · refine (hJ _ _ (hB.alloc hB.size _).drew (hcell V)).mono fun e w' h => ⟨h.1, ?_, b1.drew.trans (h.2.mono (by simp))⟩
    have := h.2.size
    simp at this
    omega
  · have hx : ∀ o, ((V.alloc (.cells obs 26)).alloc ho).drew.cell? ⟨V.heap.size, o, none⟩ = (V.alloc (.cells obs 26)).cell? ⟨V.heap.size, o, none⟩ := fun o => (below_new (V.alloc (.cells obs 26)) ho).cell (p := ⟨V.heap.size, o, none⟩) (by simp)
    refine (hJ _ _ ((hB.alloc hB.size _).alloc (by have := hB.size; simp; omega) _).drew fun j v h => (hx j).trans (hcell V j v h)).mono fun e w' h => ⟨h.1, (b1.alloc (by simp) ho).drew.trans (h.2.mono (by simp; omega)), ?_⟩
    have h1 := heap_alloc_new (V.alloc (.cells obs 26)) ho
    rw [World.size_alloc] at h1
    exact (h.2.block (V.heap.size + 1) (by simp)).trans h1
  · have hc := hcell (V.alloc ho)
    rw [World.size_alloc] at hc
    refine (hJ _ _ ((hB.alloc hB.size _).alloc (by have := hB.size; simp; omega) _).drew hc).mono fun e w' h => ⟨h.1, ((below_new V ho).alloc (by simp) _).drew.trans (h.2.mono (by simp; omega)), ?_⟩
    exact (h.2.block V.heap.size (by simp; omega)).trans ((Below.heap_alloc _ _ _ (by simp)).trans (heap_alloc_new V ho))
/-- a list of three, of two, of one -/
theorem at3 {a b c : Value} {U : World} {X : Nat} (h : ∀ (j : Nat) v, #[a, b, c][j]? = some v → U.cell? ⟨X, j, none⟩ = some v) : U.cell? ⟨X, 0, none⟩ = some a ∧ U.cell? ⟨X, 1, none⟩ = some b ∧ U.cell? ⟨X, 2, none⟩ = some c := ⟨h 0 a rfl, h 1 b rfl, h 2 c rfl⟩
theorem at2 {a b : Value} {U : World} {X : Nat} (h : ∀ (j : Nat) v, #[a, b][j]? = some v → U.cell? ⟨X, j, none⟩ = some v) : U.cell? ⟨X, 0, none⟩ = some a ∧ U.cell? ⟨X, 1, none⟩ = some b := ⟨h 0 a rfl, h 1 b rfl⟩
theorem at1 {a : Value} {U : World} {X : Nat} (h : ∀ (j : Nat) v, #[a][j]? = some v → U.cell? ⟨X, j, none⟩ = some v) : U.cell? ⟨X, 0, none⟩ = some a := h 0 a rfl
/-- Join of slices whose bytes are those of a whole -/
theorem join_of (ps : List (List UInt8)) (obs : Array Value) (S : Nat → Option Addr × Nat) (L : List UInt8) (k : Nat) (hk : ps.length = k) (hk2 : k ≤ 1000) (hf : ps.flatten = L) (hL : L.length ≤ 5000) (U : World) (X : Nat) (env : DEnv U)
    (hcell : ∀ (j : Nat) v, obs[j]? = some v → U.cell? ⟨X, j, none⟩ = some v) (hobs : ∀ (j : Nat) x, ps[j]? = some x → obs[j]? = some (.slice (S j).1 x.length (S j).2) ∧ SrcAt (S j).1 x U ∧ x.length ≤ (S j).2 ∧ (S j).2 ≤ maxLen) :
    Calls Tryd.prog 11 #[.slice (some ⟨X, 0, none⟩) k k] U fun e w' => e = .returned (.agg (bcells (sha L))) ∧ Below U.heap.size U w' := by
  have h := join_any ps (some ⟨X, 0, none⟩) k S (by rw [hf]; omega) (by omega) (by omega) U ⟨fun j x hj => ⟨X, 0, rfl, ?_, (hobs j x hj).2.1⟩, fun j x hj => (hobs j x hj).2.2⟩ env
  · rw [hf, hk] at h
    exact h
  · rw [Nat.zero_add]
    exact hcell j _ (hobs j x hj).1
set_option maxRecDepth 100000 in
set_option maxHeartbeats 2000000 in
theorem joins_true (l : List UInt8) (A : Option Addr) (c : Nat) (i j : Int) (hc : l.length ≤ c) (hcm : c ≤ maxLen) (w : World) (hs : SrcAt A l w) (env : DEnv w) :
    Calls Tryd.prog 5 #[.slice A l.length c, .int .i64 i, .int .i64 j] w fun e w' => e = .returned (.bool true) ∧ Below w.heap.size w w' := by
  have hal : ∀ V : World, Below w.heap.size w V → Calls Tryd.prog 15 #[] V fun e w' => e = .returned (.bool true) ∧ Below V.heap.size V w' := fun V hb => alive_any V (env.on hb)
  have hlm : l.length ≤ 9223372036854775807 := by unfold maxLen at hcm; omega
  have AL := Lib.hid hal
  by_cases hyes : l.length ≤ 5000 ∧ 0 ≤ i ∧ i ≤ j ∧ j ≤ (l.length : Int)
  · obtain ⟨h5, hi, hij, hjl⟩ := hyes
    obtain ⟨a, rfl⟩ := Int.eq_ofNat_of_zero_le hi
    obtain ⟨b, rfl⟩ := Int.eq_ofNat_of_zero_le (show 0 ≤ j by omega)
    have ha : a ≤ b := by omega
    have hb : b ≤ l.length := by omega
    have hsum : ∀ V : World, Below w.heap.size w V → Calls Tryd.prog 10 #[.slice A l.length c] V fun e w' => e = .returned (.agg (bcells (sha l))) ∧ Below V.heap.size V w' := fun V hb => sum_any l A c (by omega) hc hcm V (hs.on hb) (env.on hb)
    have p1 : ∀ V : World, Below w.heap.size w V → SrcAt (cutA A c 0) (l.take a) V ∧ (l.take a).length ≤ c ∧ c ≤ maxLen := fun V hbV => ⟨by have := (hs.on hbV).cut c 0 a hc; rwa [List.drop_zero] at this, by rw [List.length_take]; omega, hcm⟩
    have p2 : ∀ V : World, Below w.heap.size w V → SrcAt (cutA A c a) ((l.drop a).take (b - a)) V ∧ ((l.drop a).take (b - a)).length ≤ c - a ∧ c - a ≤ maxLen := fun V hbV => ⟨(hs.on hbV).cut c a (b - a) hc, by rw [List.length_take, List.length_drop]; omega, by omega⟩
    have p3 : ∀ d, ∀ V : World, Below w.heap.size w V → SrcAt (cutA A c d) (l.drop d) V ∧ (l.drop d).length ≤ c - d ∧ c - d ≤ maxLen := fun d V hbV => ⟨by have := (hs.on hbV).cut c d (l.length - d) hc; rwa [List.take_of_length_le (by rw [List.length_drop]; omega)] at this, by rw [List.length_drop]; omega, by omega⟩
    have l1 : (l.take a).length = a := by rw [List.length_take]; omega
    have l2 : ((l.drop a).take (b - a)).length = b - a := by rw [List.length_take, List.length_drop]; omega
    have hj3 : ∀ (U : World) (X : Nat), Below w.heap.size w U → (∀ (j : Nat) v, #[Value.slice (cutA A c 0) a c, Value.slice (cutA A c a) (b - a) (c - a), Value.slice (cutA A c b) (l.length - b) (c - b)][j]? = some v → U.cell? ⟨X, j, none⟩ = some v) → Calls Tryd.prog 11 #[.slice (some ⟨X, 0, none⟩) 3 3] U fun e w' => e = .returned (.agg (bcells (sha l))) ∧ Below U.heap.size U w' := by
      intro U X hbU hcell
      refine join_of [l.take a, (l.drop a).take (b - a), l.drop b] _ (fun j => match j with | 0 => (cutA A c 0, c) | 1 => (cutA A c a, c - a) | _ => (cutA A c b, c - b)) l 3 rfl (by omega) ?_ h5 U X (env.on hbU) hcell ?_
      · simp only [List.flatten_cons, List.flatten_nil, List.append_nil]
        rw [← List.append_assoc, ← List.take_add, show a + (b - a) = b by omega, List.take_append_drop]
      · intro j x hj
        match j, hj with
        | 0, hj => obtain rfl : l.take a = x := by simpa using hj
                   exact ⟨by rw [l1]; rfl, p1 U hbU⟩
        | 1, hj => obtain rfl : (l.drop a).take (b - a) = x := by simpa using hj
                   exact ⟨by rw [l2]; rfl, p2 U hbU⟩
        | 2, hj => obtain rfl : l.drop b = x := by simpa using hj
                   exact ⟨by rw [List.length_drop]; rfl, p3 b U hbU⟩
        | j + 3, hj => simp at hj
    have hj2 : ∀ (U : World) (X : Nat), Below w.heap.size w U → (∀ (j : Nat) v, #[Value.slice (cutA A c 0) a c, Value.slice (cutA A c a) (l.length - a) (c - a)][j]? = some v → U.cell? ⟨X, j, none⟩ = some v) → Calls Tryd.prog 11 #[.slice (some ⟨X, 0, none⟩) 2 2] U fun e w' => e = .returned (.agg (bcells (sha l))) ∧ Below U.heap.size U w' := by
      intro U X hbU hcell
      refine join_of [l.take a, l.drop a] _ (fun j => match j with | 0 => (cutA A c 0, c) | _ => (cutA A c a, c - a)) l 2 rfl (by omega) ?_ h5 U X (env.on hbU) hcell ?_
      · simp only [List.flatten_cons, List.flatten_nil, List.append_nil]
        rw [List.take_append_drop]
      · intro j x hj
        match j, hj with
        | 0, hj => obtain rfl : l.take a = x := by simpa using hj
                   exact ⟨by rw [l1]; rfl, p1 U hbU⟩
        | 1, hj => obtain rfl : l.drop a = x := by simpa using hj
                   exact ⟨by rw [List.length_drop]; rfl, p3 a U hbU⟩
        | j + 2, hj => simp at hj
    have hj1 : ∀ (U : World) (X : Nat), Below w.heap.size w U → (∀ (j : Nat) v, #[Value.slice A l.length c][j]? = some v → U.cell? ⟨X, j, none⟩ = some v) → Calls Tryd.prog 11 #[.slice (some ⟨X, 0, none⟩) 1 1] U fun e w' => e = .returned (.agg (bcells (sha l))) ∧ Below U.heap.size U w' := by
      intro U X hbU hcell
      refine join_of [l] _ (fun j => (A, c)) l 1 rfl (by omega) (by simp) h5 U X (env.on hbU) hcell ?_
      intro j x hj
      match j, hj with
      | 0, hj => obtain rfl : l = x := by simpa using hj
                 exact ⟨rfl, hs.on hbU, hc, hcm⟩
      | j + 1, hj => simp at hj
    have hjn : ∀ (U : World) (X : Nat), Below w.heap.size w U → (∀ (j : Nat) v, #[Value.slice none 0 0, Value.slice A l.length c, Value.slice none 0 0][j]? = some v → U.cell? ⟨X, j, none⟩ = some v) → Calls Tryd.prog 11 #[.slice (some ⟨X, 0, none⟩) 3 3] U fun e w' => e = .returned (.agg (bcells (sha l))) ∧ Below U.heap.size U w' := by
      intro U X hbU hcell
      refine join_of [[], l, []] _ (fun j => match j with | 1 => (A, c) | _ => (none, 0)) l 3 rfl (by omega) (by simp) h5 U X (env.on hbU) hcell ?_
      intro j x hj
      match j, hj with
      | 0, hj => obtain rfl : [] = x := by simpa using hj
                 exact ⟨rfl, fun e => absurd rfl e, Nat.le_refl _, Nat.zero_le _⟩
      | 1, hj => obtain rfl : l = x := by simpa using hj
                 exact ⟨rfl, hs.on hbU, hc, hcm⟩
      | 2, hj => obtain rfl : [] = x := by simpa using hj
                 exact ⟨rfl, fun e => absurd rfl e, Nat.le_refl _, Nat.zero_le _⟩
      | j + 3, hj => simp at hj
    obtain ⟨F, hF⟩ : ∃ F, sha l = F := ⟨_, rfl⟩
    have hF32 : F.length = 32 := by rw [← hF]; exact sha_len _
    rw [hF] at hsum hj3 hj2 hj1 hjn
    have q := eql_hashj F hF32
    have hbs : (bcells F).size = 32 := by rw [bcells_size, hF32]
    have HBS := Lib.hid hbs
    have HSN := Lib.hid (st_new F hF32)
    have HSR := Lib.hid (st_row F hF32)
    have hinfo : (Tryd.prog.info? 24).map (·.size) = some F.length := by rw [hF32]; kernel_rfl
    have HI := Lib.hid hinfo
    have hsz : (Tryd.prog.info? 24).map (·.size) = some (bcells F).size := by rw [bcells_size, hF32]; kernel_rfl
    have hso : (32 : Nat) = (bcells F).size := by rw [bcells_size, hF32]
    have k1 := run_cut A l.length c 0 a none (some (.int .i64 (a : Int))) (Or.inl ⟨rfl, rfl⟩) (Or.inr rfl) (by omega) (by omega)
    have k2 := run_cut A l.length c a b (some (.int .i64 (a : Int))) (some (.int .i64 (b : Int))) (Or.inr rfl) (Or.inr rfl) (by omega) (by omega)
    have k3 := run_cut A l.length c b l.length (some (.int .i64 (b : Int))) none (Or.inr rfl) (Or.inl ⟨rfl, rfl⟩) (by omega) (by omega)
    have k4 := run_cut A l.length c a l.length (some (.int .i64 (a : Int))) none (Or.inr rfl) (Or.inl ⟨rfl, rfl⟩) (by omega) (by omega)
    rw [Nat.sub_zero, Nat.sub_zero] at k1
    obtain ⟨A1, hA1⟩ : ∃ A1, cutA A c 0 = A1 := ⟨_, rfl⟩
    obtain ⟨A2, hA2⟩ : ∃ A2, cutA A c a = A2 := ⟨_, rfl⟩
    obtain ⟨A3, hA3⟩ : ∃ A3, cutA A c b = A3 := ⟨_, rfl⟩
    rw [hA1] at k1 hj3 hj2
    rw [hA2] at k2 k4 hj3 hj2
    rw [hA3] at k3 hj3
    obtain ⟨n, hn⟩ : ∃ n, l.length = n := ⟨_, rfl⟩
    rw [hn] at hsum hj3 hj2 hj1 hjn h5 hlm hb k1 k2 k3 k4 ⊢
    have hx3 : ¬ ((n : Int) < b) := by omega
    have hx4 : ¬ ((b : Int) < a) := by omega
    have hx5 : ¬ ((a : Int) < 0) := by omega
    have SU := Lib.hid hsum
    have J3 := Lib.hid hj3
    have J2 := Lib.hid hj2
    have J1 := Lib.hid hj1
    have JN := Lib.hid hjn
    have HSZ := Lib.hid hsz
    have HSO := Lib.hid hso
    have HQ := Lib.hid q
    have K1 := Lib.hid k1
    have K2 := Lib.hid k2
    have K3 := Lib.hid k3
    have K4 := Lib.hid k4
    clear hal hsum hj3 hj2 hj1 hjn hF hF32 hn hs env hc hcm hi hij hjl q hsz hso k1 k2 k3 k4 hA1 hA2 hA3 hbs p1 p2 p3 l1 l2 hinfo
    go_enter Tryd.func5, Tryd.ntmps5
    go_wp2_with fail
    refine (AL.out _ (Below.refl _ _)).mono ?_
    rintro e w1 ⟨rfl, hb1⟩
    have HB1 := Lib.hid hb1
    clear hb1
    go_wp2_with fail
    refine (SU.out _ HB1.out).mono ?_
    rintro e w2 ⟨rfl, hb2⟩
    have HB2 := Lib.hid (chain HB1.out hb2)
    clear hb2 HB1 hx3 hx4 hx5
    go_upto_region 5 with (refine wpList_store_row rfl 24 (.tmp 8) (.tmp 36) rfl w2.heap.size (bcells F) rfl rfl 24 _ (heap_alloc_new _ _) HSZ.out HSO.out (bcells_one _) ?_)
    rw [World.setRow_alloc_new]
    obtain ⟨X1, hX1⟩ : ∃ X1, w2.heap.size = X1 := ⟨_, rfl⟩
    generalize hV : World.alloc w2 _ = V
    have HR1 : RowKit.Hid (V.heap[X1]? = some (.cells (bcells F) 24 (0, 0))) := Lib.hid (by rw [← hV, ← hX1]; exact heap_alloc_new _ _)
    have HB3 : RowKit.Hid (Below w.heap.size w V) := Lib.hid (by rw [← hV]; exact HB2.out.alloc HB2.out.size _)
    try simp only [hX1]
    simp only [Act.put]
    clear hV hX1 HB2
    have k1 := K1.out
    have k2 := K2.out
    have k3 := K3.out
    go_cut [9] (fun s9 wx => ∃ X : Nat, s9 = .pointer (some ⟨X, 0, none⟩) ∧ V.heap.size ≤ X ∧ wx.heap[X]? = some (.cells (bcells F) 24 (0, 0)) ∧ Below V.heap.size V wx)
    case first =>
      have ha3 := three_ways 3 #[Value.slice A1 a c, Value.slice A2 (b - a) (c - a), Value.slice A3 (n - b) (c - b)] F w V HB3.out J3.out
      have JA := Lib.hid ha3.1
      have JB := Lib.hid ha3.2.1
      have JC := Lib.hid ha3.2.2
      clear ha3
      have hbs := HBS.out
      have hsn := HSN.out
      go_region_with (first | (go_at_call 11; first | (with_reducible refine JA.out.mono ?_; rintro e w4 ⟨rfl, hza, hb4⟩) | (with_reducible refine (JB.out _).mono ?_; rintro e w4 ⟨rfl, hb4, hr4⟩; have hst := HSR.out _ _ _ _ hr4 rfl) | (with_reducible refine (JC.out _).mono ?_; rintro e w4 ⟨rfl, hb4, hr4⟩; have hst := HSR.out _ _ _ _ hr4 rfl)))
      all_goals
        clear hsn hbs
        try clear hst
        have HB4 := Lib.hid hb4
        clear hb4
        go_wp2_with fail
        go_meet
        first
          | exact ⟨_, rfl, Nat.le_of_lt hza, heap_alloc_new _ _, HB4.out.alloc (Nat.le_of_lt hza) _⟩
          | exact ⟨_, rfl, by omega, setRow_heap _ _ _ _ _ _ hr4, below_row HB4.out (by omega) _⟩
    case rest =>
      obtain ⟨X2, rfl, hX2, hr2, hb4⟩ := hcut
      have HR12 : RowKit.Hid (wc.heap[X1]? = some (.cells (bcells F) 24 (0, 0))) := Lib.hid ((hb4.block X1 ((Array.getElem?_eq_some_iff.1 HR1.out).1)).trans HR1.out)
      have HR22 := Lib.hid hr2
      have HB4 := Lib.hid (chain HB3.out hb4)
      have hk4 := K4.out
      clear hX2 hr2 hb4 HR1 HB3 k2 k3
      obtain ⟨V5, rfl⟩ : ∃ V5, V5 = wc := ⟨_, rfl⟩
      go_upto_region 6 with fail
      go_cut [10] (fun s9 wx => ∃ X : Nat, s9 = .pointer (some ⟨X, 0, none⟩) ∧ V5.heap.size ≤ X ∧ wx.heap[X]? = some (.cells (bcells F) 24 (0, 0)) ∧ Below V5.heap.size V5 wx)
      case first =>
        have ha3 := three_ways 2 #[Value.slice A1 a c, Value.slice A2 (n - a) (c - a)] F w V5 HB4.out J2.out
        have JA := Lib.hid ha3.1
        have JB := Lib.hid ha3.2.1
        have JC := Lib.hid ha3.2.2
        clear ha3
        have hbs := HBS.out
        have hsn := HSN.out
        go_region_with (first | (go_at_call 11; first | (with_reducible refine JA.out.mono ?_; rintro e w4 ⟨rfl, hza, hb4⟩) | (with_reducible refine (JB.out _).mono ?_; rintro e w4 ⟨rfl, hb4, hr4⟩; have hst := HSR.out _ _ _ _ hr4 rfl) | (with_reducible refine (JC.out _).mono ?_; rintro e w4 ⟨rfl, hb4, hr4⟩; have hst := HSR.out _ _ _ _ hr4 rfl)))
        all_goals
          clear hsn hbs
          try clear hst
          have HB4 := Lib.hid hb4
          clear hb4
          go_wp2_with fail
          go_meet
          first
            | exact ⟨_, rfl, Nat.le_of_lt hza, heap_alloc_new _ _, HB4.out.alloc (Nat.le_of_lt hza) _⟩
            | exact ⟨_, rfl, by omega, setRow_heap _ _ _ _ _ _ hr4, below_row HB4.out (by omega) _⟩
      case rest =>
        obtain ⟨X3, rfl, hX3, hr3, hb5⟩ := hcut
        have HR13 : RowKit.Hid (wc.heap[X1]? = some (.cells (bcells F) 24 (0, 0))) := Lib.hid ((hb5.block X1 ((Array.getElem?_eq_some_iff.1 HR12.out).1)).trans HR12.out)
        have HR23 : RowKit.Hid (wc.heap[X2]? = some (.cells (bcells F) 24 (0, 0))) := Lib.hid ((hb5.block X2 ((Array.getElem?_eq_some_iff.1 HR22.out).1)).trans HR22.out)
        have HR33 := Lib.hid hr3
        have HB5 := Lib.hid (chain HB4.out hb5)
        clear hX3 hr3 hb5 HR12 HR22 HB4 k1 hk4
        obtain ⟨V6, rfl⟩ : ∃ V6, V6 = wc := ⟨_, rfl⟩
        go_upto_region 7 with fail
        have j1 : ∀ z : World, Below V6.heap.size V6 z → Calls Tryd.prog 11 #[.slice (some ⟨z.heap.size, 0, none⟩) 1 1] (z.alloc (.cells #[Value.slice A n c] 26)) fun e w' => e = .returned (.agg (bvals F).toArray) ∧ Below z.heap.size z w' := fun z hz => by
          have hbz := chain HB5.out hz
          refine (J1.out _ z.heap.size (hbz.alloc hbz.size _) ?_).mono fun e w' h => ⟨h.1, (below_new z _).trans (h.2.mono (by simp))⟩
          intro j v h
          rw [cell_of_row _ _ _ _ _ _ (heap_alloc_new z _)]
          exact h
        have jn : ∀ z : World, Below V6.heap.size V6 z → Calls Tryd.prog 11 #[.slice (some ⟨z.heap.size, 0, none⟩) 3 3] (z.alloc (.cells #[Value.slice none 0 0, Value.slice A n c, Value.slice none 0 0] 26)) fun e w' => e = .returned (.agg (bvals F).toArray) ∧ Below z.heap.size z w' := fun z hz => by
          have hbz := chain HB5.out hz
          refine (JN.out _ z.heap.size (hbz.alloc hbz.size _) ?_).mono fun e w' h => ⟨h.1, (below_new z _).trans (h.2.mono (by simp))⟩
          intro j v h
          rw [cell_of_row _ _ _ _ _ _ (heap_alloc_new z _)]
          exact h
        have JZ1 := Lib.hid j1
        have JZN := Lib.hid jn
        have HS0 : RowKit.Hid (Below V6.heap.size V6 V6.drew ∧ V6.drew.rangeAt X1 0 (bvals F) ∧ V6.drew.rangeAt X2 0 (bvals F) ∧ V6.drew.rangeAt X3 0 (bvals F)) := Lib.hid ⟨(Below.refl _ _).drew, rangeAt_row HR13.out, rangeAt_row HR23.out, rangeAt_row HR33.out⟩
        clear j1 jn
        have hq : ∀ w, (binOp .eql 24 (.agg (bvals F).toArray) (.agg (bvals F).toArray)).run Tryd.prog w = .ok (.bool true) w := HQ.out
        have hu := Tryd.underlying24
        have hi : (Tryd.prog.info? 24).map (·.size) = some (bvals F).length := by rw [bvals_len]; exact HI.out
        refine wp_region_held_drew (S := fun z => Below V6.heap.size V6 z ∧ z.rangeAt X1 0 (bvals F) ∧ z.rangeAt X2 0 (bvals F) ∧ z.rangeAt X3 0 (bvals F)) (by kernel_rfl) HS0.out (fun hHeld => ?_)
        refine wpAnyH_take (i := 0) (oi := { dst := some 57, op := Op.move (Operand.tmp 7), type := 4, pos := "law.go:76", after := #[], guard := none }) (v := ?_) rfl (by kernel_rfl) (by kernel_rfl) (by kernel_rfl) (fun _ _ _ h => h) (Or.inl ⟨by rfl, ?_⟩) hHeld ?_
        rotate_left
        · intro w hSw
          clear hSw
          go_simp
          try with_reducible rfl
        try simp only [Act.put, List.setIfInBounds_toArray, List.set_cons_zero, List.set_cons_succ]
        refine wpAnyH_take (i := 1) (oi := { dst := some 58, op := Op.move (Operand.tmp 57), type := 4, pos := "law.go:76", after := #[{ on := 0, ground := Ground.data }], guard := none }) (v := ?_) rfl (by kernel_rfl) (by kernel_rfl) (by kernel_rfl) (fun _ _ _ h => h) (Or.inl ⟨by rfl, ?_⟩) hHeld ?_
        rotate_left
        · intro w hSw
          clear hSw
          go_simp
          try with_reducible rfl
        try simp only [Act.put, List.setIfInBounds_toArray, List.set_cons_zero, List.set_cons_succ]
        refine wpAnyH_take (i := 2) (oi := { dst := some 59, op := Op.load 24 (Operand.tmp 8), type := 24, pos := "law.go:76", after := #[{ on := 1, ground := Ground.guard }], guard := some (1, true) }) (v := .agg (bvals F).toArray) rfl (by kernel_rfl) (by kernel_rfl) (by kernel_rfl) (fun _ _ _ h => h) (yieldsIf_load_mid (by rfl) _ _ rfl _ _ rfl (bvals F) _ (fun w hSw => hSw.2.1) hu rfl hi) hHeld ?_
        try simp only [Act.put, List.setIfInBounds_toArray, List.set_cons_zero, List.set_cons_succ]
        refine wpAnyH_take (i := 3) (oi := { dst := some 60, op := Op.load 24 (Operand.tmp 9), type := 24, pos := "law.go:76", after := #[{ on := 1, ground := Ground.guard }], guard := some (1, true) }) (v := .agg (bvals F).toArray) rfl (by kernel_rfl) (by kernel_rfl) (by kernel_rfl) (fun _ _ _ h => h) (yieldsIf_load_mid (by rfl) _ _ rfl _ _ rfl (bvals F) _ (fun w hSw => hSw.2.2.1) hu rfl hi) hHeld ?_
        try simp only [Act.put, List.setIfInBounds_toArray, List.set_cons_zero, List.set_cons_succ]
        refine wpAnyH_take (i := 4) (oi := { dst := some 61, op := Op.binOp BinOp.eql 24 (Operand.tmp 59) (Operand.tmp 60) 24, type := 4, pos := "law.go:76", after := #[{ on := 2, ground := Ground.data }, { on := 3, ground := Ground.data }, { on := 1, ground := Ground.guard }], guard := some (1, true) }) (v := ?_) rfl (by kernel_rfl) (by kernel_rfl) (by kernel_rfl) (fun _ _ _ h => h) (Or.inl ⟨by rfl, ?_⟩) hHeld ?_
        rotate_left
        · intro w hSw
          clear hSw
          go_simp
          try with_reducible rfl
        try simp only [Act.put, List.setIfInBounds_toArray, List.set_cons_zero, List.set_cons_succ]
        refine wpAnyH_take (i := 5) (oi := { dst := some 62, op := Op.pick (Operand.tmp 58) (Operand.tmp 61) (Operand.const (Value.bool false)), type := 4, pos := "law.go:76", after := #[{ on := 1, ground := Ground.data }, { on := 4, ground := Ground.data }], guard := none }) (v := ?_) rfl (by kernel_rfl) (by kernel_rfl) (by kernel_rfl) (fun _ _ _ h => h) (Or.inl ⟨by rfl, ?_⟩) hHeld ?_
        rotate_left
        · intro w hSw
          clear hSw
          go_simp
          try with_reducible rfl
        try simp only [Act.put, List.setIfInBounds_toArray, List.set_cons_zero, List.set_cons_succ]
        refine wpAnyH_take (i := 6) (oi := { dst := some 63, op := Op.move (Operand.tmp 62), type := 4, pos := "law.go:76", after := #[{ on := 5, ground := Ground.data }, { on := 1, ground := Ground.chain }], guard := none }) (v := ?_) rfl (by kernel_rfl) (by kernel_rfl) (by kernel_rfl) (fun _ _ _ h => h) (Or.inl ⟨by rfl, ?_⟩) hHeld ?_
        rotate_left
        · intro w hSw
          clear hSw
          go_simp
          try with_reducible rfl
        try simp only [Act.put, List.setIfInBounds_toArray, List.set_cons_zero, List.set_cons_succ]
        refine wpAnyH_take (i := 7) (oi := { dst := some 64, op := Op.load 24 (Operand.tmp 8), type := 24, pos := "law.go:76", after := #[{ on := 6, ground := Ground.guard }], guard := some (6, true) }) (v := .agg (bvals F).toArray) rfl (by kernel_rfl) (by kernel_rfl) (by kernel_rfl) (fun _ _ _ h => h) (yieldsIf_load_mid (by rfl) _ _ rfl _ _ rfl (bvals F) _ (fun w hSw => hSw.2.1) hu rfl hi) hHeld ?_
        try simp only [Act.put, List.setIfInBounds_toArray, List.set_cons_zero, List.set_cons_succ]
        refine wpAnyH_take (i := 8) (oi := { dst := some 65, op := Op.load 24 (Operand.tmp 10), type := 24, pos := "law.go:76", after := #[{ on := 6, ground := Ground.guard }], guard := some (6, true) }) (v := .agg (bvals F).toArray) rfl (by kernel_rfl) (by kernel_rfl) (by kernel_rfl) (fun _ _ _ h => h) (yieldsIf_load_mid (by rfl) _ _ rfl _ _ rfl (bvals F) _ (fun w hSw => hSw.2.2.2) hu rfl hi) hHeld ?_
        try simp only [Act.put, List.setIfInBounds_toArray, List.set_cons_zero, List.set_cons_succ]
        refine wpAnyH_take (i := 9) (oi := { dst := some 66, op := Op.binOp BinOp.eql 24 (Operand.tmp 64) (Operand.tmp 65) 24, type := 4, pos := "law.go:76", after := #[{ on := 7, ground := Ground.data }, { on := 8, ground := Ground.data }, { on := 6, ground := Ground.guard }], guard := some (6, true) }) (v := ?_) rfl (by kernel_rfl) (by kernel_rfl) (by kernel_rfl) (fun _ _ _ h => h) (Or.inl ⟨by rfl, ?_⟩) hHeld ?_
        rotate_left
        · intro w hSw
          clear hSw
          go_simp
          try with_reducible rfl
        try simp only [Act.put, List.setIfInBounds_toArray, List.set_cons_zero, List.set_cons_succ]
        refine wpAnyH_take (i := 10) (oi := { dst := some 67, op := Op.pick (Operand.tmp 63) (Operand.tmp 66) (Operand.const (Value.bool false)), type := 4, pos := "law.go:76", after := #[{ on := 6, ground := Ground.data }, { on := 9, ground := Ground.data }], guard := none }) (v := ?_) rfl (by kernel_rfl) (by kernel_rfl) (by kernel_rfl) (fun _ _ _ h => h) (Or.inl ⟨by rfl, ?_⟩) hHeld ?_
        rotate_left
        · intro w hSw
          clear hSw
          go_simp
          try with_reducible rfl
        try simp only [Act.put, List.setIfInBounds_toArray, List.set_cons_zero, List.set_cons_succ]
        refine wpAnyH_take (i := 11) (oi := { dst := some 68, op := Op.move (Operand.tmp 67), type := 4, pos := "law.go:76", after := #[{ on := 10, ground := Ground.data }, { on := 6, ground := Ground.chain }], guard := none }) (v := ?_) rfl (by kernel_rfl) (by kernel_rfl) (by kernel_rfl) (fun _ _ _ h => h) (Or.inl ⟨by rfl, ?_⟩) hHeld ?_
        rotate_left
        · intro w hSw
          clear hSw
          go_simp
          try with_reducible rfl
        try simp only [Act.put, List.setIfInBounds_toArray, List.set_cons_zero, List.set_cons_succ]
        refine wpAnyH_take (i := 12) (oi := { dst := some 69, op := Op.move (Operand.tmp 0), type := 26, pos := "law.go:76", after := #[{ on := 11, ground := Ground.guard }], guard := some (11, true) }) (v := ?_) rfl (by kernel_rfl) (by kernel_rfl) (by kernel_rfl) (fun _ _ _ h => h) (Or.inl ⟨by rfl, ?_⟩) hHeld ?_
        rotate_left
        · intro w hSw
          clear hSw
          go_simp
          try with_reducible rfl
        try simp only [Act.put, List.setIfInBounds_toArray, List.set_cons_zero, List.set_cons_succ]
        refine wpAnyH_take (i := 15) (oi := { dst := some 72, op := Op.load 24 (Operand.tmp 8), type := 24, pos := "law.go:76", after := #[{ on := 11, ground := Ground.guard }], guard := some (11, true) }) (v := .agg (bvals F).toArray) rfl (by kernel_rfl) (by kernel_rfl) (by kernel_rfl) (fun _ _ _ h => h) (yieldsIf_load_mid (by rfl) _ _ rfl _ _ rfl (bvals F) _ (fun w hSw => hSw.2.1) hu rfl hi) hHeld ?_
        try simp only [Act.put, List.setIfInBounds_toArray, List.set_cons_zero, List.set_cons_succ]
        refine wpAnyH_ready (rs := [13]) (by kernel_rfl) (by simp) (AllReadyH.cons (o := { dst := some 70, op := Op.buildSlice 35 1 #[(0, Operand.tmp 69)], type := 35, pos := "law.go:76", after := #[{ on := 12, ground := Ground.data }, { on := 11, ground := Ground.guard }], guard := some (11, true) }) rfl (fun K hK => ?_) AllReadyH.nil)
        go_simp
        skip
        refine hK.out _ _ (keepJ hHeld (below_new _ _)) (fun hHeld2 => ?_)
        clear hK K hHeld2
        try simp only [Act.put, List.setIfInBounds_toArray, List.set_cons_zero, List.set_cons_succ]
        refine wpAnyH_ready (rs := [14]) (by kernel_rfl) (by simp) (AllReadyH.cons (o := { dst := some 71, op := Op.call { callee := Callee.value (Operand.func 11), args := #[Operand.tmp 70], argTypes := #[35] }, type := 24, pos := "law.go:76", after := #[{ on := 13, ground := Ground.data }, { on := 11, ground := Ground.chain }, { on := 11, ground := Ground.guard }], guard := some (11, true) }) rfl (fun K hK => ?_) AllReadyH.nil)
        go_simp
        refine (JZ1.out _ hHeld.1).mono ?_
        rintro e w8 ⟨rfl, hb8⟩
        go_simp
        refine hK.out _ _ (keepJ hHeld hb8) (fun hHeld2 => ?_)
        clear hK K hHeld hb8
        have hHeld := hHeld2
        clear hHeld2
        try simp only [Act.put, List.setIfInBounds_toArray, List.set_cons_zero, List.set_cons_succ]
        refine wpAnyH_take (i := 16) (oi := { dst := some 73, op := Op.binOp BinOp.eql 24 (Operand.tmp 71) (Operand.tmp 72) 24, type := 4, pos := "law.go:76", after := #[{ on := 14, ground := Ground.data }, { on := 15, ground := Ground.data }, { on := 11, ground := Ground.guard }], guard := some (11, true) }) (v := ?_) rfl (by kernel_rfl) (by kernel_rfl) (by kernel_rfl) (fun _ _ _ h => h) (Or.inl ⟨by rfl, ?_⟩) hHeld ?_
        rotate_left
        · intro w hSw
          clear hSw
          go_simp
          try with_reducible rfl
        try simp only [Act.put, List.setIfInBounds_toArray, List.set_cons_zero, List.set_cons_succ]
        refine wpAnyH_take (i := 17) (oi := { dst := some 74, op := Op.pick (Operand.tmp 68) (Operand.tmp 73) (Operand.const (Value.bool false)), type := 4, pos := "law.go:76", after := #[{ on := 11, ground := Ground.data }, { on := 16, ground := Ground.data }], guard := none }) (v := ?_) rfl (by kernel_rfl) (by kernel_rfl) (by kernel_rfl) (fun _ _ _ h => h) (Or.inl ⟨by rfl, ?_⟩) hHeld ?_
        rotate_left
        · intro w hSw
          clear hSw
          go_simp
          try with_reducible rfl
        try simp only [Act.put, List.setIfInBounds_toArray, List.set_cons_zero, List.set_cons_succ]
        refine wpAnyH_take (i := 18) (oi := { dst := some 75, op := Op.move (Operand.tmp 74), type := 4, pos := "law.go:76", after := #[{ on := 17, ground := Ground.data }, { on := 14, ground := Ground.chain }], guard := none }) (v := ?_) rfl (by kernel_rfl) (by kernel_rfl) (by kernel_rfl) (fun _ _ _ h => h) (Or.inl ⟨by rfl, ?_⟩) hHeld ?_
        rotate_left
        · intro w hSw
          clear hSw
          go_simp
          try with_reducible rfl
        try simp only [Act.put, List.setIfInBounds_toArray, List.set_cons_zero, List.set_cons_succ]
        refine wpAnyH_take (i := 19) (oi := { dst := some 76, op := Op.move (Operand.tmp 0), type := 26, pos := "law.go:76", after := #[{ on := 18, ground := Ground.guard }], guard := some (18, true) }) (v := ?_) rfl (by kernel_rfl) (by kernel_rfl) (by kernel_rfl) (fun _ _ _ h => h) (Or.inl ⟨by rfl, ?_⟩) hHeld ?_
        rotate_left
        · intro w hSw
          clear hSw
          go_simp
          try with_reducible rfl
        try simp only [Act.put, List.setIfInBounds_toArray, List.set_cons_zero, List.set_cons_succ]
        refine wpAnyH_take (i := 22) (oi := { dst := some 79, op := Op.load 24 (Operand.tmp 8), type := 24, pos := "law.go:76", after := #[{ on := 18, ground := Ground.guard }], guard := some (18, true) }) (v := .agg (bvals F).toArray) rfl (by kernel_rfl) (by kernel_rfl) (by kernel_rfl) (fun _ _ _ h => h) (yieldsIf_load_mid (by rfl) _ _ rfl _ _ rfl (bvals F) _ (fun w hSw => hSw.2.1) hu rfl hi) hHeld ?_
        try simp only [Act.put, List.setIfInBounds_toArray, List.set_cons_zero, List.set_cons_succ]
        refine wpAnyH_ready (rs := [20]) (by kernel_rfl) (by simp) (AllReadyH.cons (o := { dst := some 77, op := Op.buildSlice 35 3 #[(0, Operand.const (Value.slice none 0 0)), (1, Operand.tmp 76), (2, Operand.const (Value.slice none 0 0))], type := 35, pos := "law.go:76", after := #[{ on := 19, ground := Ground.data }, { on := 18, ground := Ground.guard }], guard := some (18, true) }) rfl (fun K hK => ?_) AllReadyH.nil)
        go_simp
        skip
        refine hK.out _ _ (keepJ hHeld (below_new _ _)) (fun hHeld2 => ?_)
        clear hK K hHeld2
        try simp only [Act.put, List.setIfInBounds_toArray, List.set_cons_zero, List.set_cons_succ]
        refine wpAnyH_ready (rs := [21]) (by kernel_rfl) (by simp) (AllReadyH.cons (o := { dst := some 78, op := Op.call { callee := Callee.value (Operand.func 11), args := #[Operand.tmp 77], argTypes := #[35] }, type := 24, pos := "law.go:76", after := #[{ on := 20, ground := Ground.data }, { on := 18, ground := Ground.chain }, { on := 18, ground := Ground.guard }], guard := some (18, true) }) rfl (fun K hK => ?_) AllReadyH.nil)
        go_simp
        refine (JZN.out _ hHeld.1).mono ?_
        rintro e w9 ⟨rfl, hb8⟩
        go_simp
        refine hK.out _ _ (keepJ hHeld hb8) (fun hHeld2 => ?_)
        clear hK K hHeld hb8
        have hHeld := hHeld2
        clear hHeld2
        try simp only [Act.put, List.setIfInBounds_toArray, List.set_cons_zero, List.set_cons_succ]
        refine wpAnyH_take (i := 23) (oi := { dst := some 80, op := Op.binOp BinOp.eql 24 (Operand.tmp 78) (Operand.tmp 79) 24, type := 4, pos := "law.go:76", after := #[{ on := 21, ground := Ground.data }, { on := 22, ground := Ground.data }, { on := 18, ground := Ground.guard }], guard := some (18, true) }) (v := ?_) rfl (by kernel_rfl) (by kernel_rfl) (by kernel_rfl) (fun _ _ _ h => h) (Or.inl ⟨by rfl, ?_⟩) hHeld ?_
        rotate_left
        · intro w hSw
          clear hSw
          go_simp
          try with_reducible rfl
        try simp only [Act.put, List.setIfInBounds_toArray, List.set_cons_zero, List.set_cons_succ]
        refine wpAnyH_take (i := 24) (oi := { dst := some 81, op := Op.pick (Operand.tmp 75) (Operand.tmp 80) (Operand.const (Value.bool false)), type := 4, pos := "law.go:76", after := #[{ on := 18, ground := Ground.data }, { on := 23, ground := Ground.data }], guard := none }) (v := ?_) rfl (by kernel_rfl) (by kernel_rfl) (by kernel_rfl) (fun _ _ _ h => h) (Or.inl ⟨by rfl, ?_⟩) hHeld ?_
        rotate_left
        · intro w hSw
          clear hSw
          go_simp
          try with_reducible rfl
        try simp only [Act.put, List.setIfInBounds_toArray, List.set_cons_zero, List.set_cons_succ]
        refine wpAnyH_take (i := 25) (oi := { dst := some 6, op := Op.assign (Operand.tmp 81), type := 4, pos := "law.go:76", after := #[{ on := 24, ground := Ground.data }, { on := 21, ground := Ground.chain }, { on := 0, ground := Ground.phase }, { on := 1, ground := Ground.phase }, { on := 2, ground := Ground.phase }, { on := 3, ground := Ground.phase }, { on := 4, ground := Ground.phase }, { on := 5, ground := Ground.phase }, { on := 6, ground := Ground.phase }, { on := 7, ground := Ground.phase }, { on := 8, ground := Ground.phase }, { on := 9, ground := Ground.phase }, { on := 10, ground := Ground.phase }, { on := 11, ground := Ground.phase }, { on := 12, ground := Ground.phase }, { on := 13, ground := Ground.phase }, { on := 14, ground := Ground.phase }, { on := 15, ground := Ground.phase }, { on := 16, ground := Ground.phase }, { on := 17, ground := Ground.phase }, { on := 18, ground := Ground.phase }, { on := 19, ground := Ground.phase }, { on := 20, ground := Ground.phase }, { on := 21, ground := Ground.phase }, { on := 22, ground := Ground.phase }, { on := 23, ground := Ground.phase }, { on := 24, ground := Ground.phase }], guard := none }) (v := ?_) rfl (by kernel_rfl) (by kernel_rfl) (by kernel_rfl) (fun _ _ _ h => h) (Or.inl ⟨by rfl, ?_⟩) hHeld ?_
        rotate_left
        · intro w hSw
          clear hSw
          go_simp
          try with_reducible rfl
        try simp only [Act.put, List.setIfInBounds_toArray, List.set_cons_zero, List.set_cons_succ]
        refine wpAnyH_done (by kernel_rfl) ?_ _
        go_wp2_with fail
        go_ret
        exact ⟨rfl, chain HB5.out hHeld.1⟩
  · obtain ⟨n, hn⟩ : ∃ n, l.length = n := ⟨_, rfl⟩
    rw [hn] at hyes hlm ⊢
    clear hs env hn hc hcm hal
    by_cases q1 : n ≤ 5000
    · by_cases q2 : 0 ≤ i
      · by_cases q3 : i ≤ j
        · have q4 : ¬ j ≤ (n : Int) := fun e => hyes ⟨q1, q2, q3, e⟩
          have r4 : (n : Int) < j := by omega
          clear hyes q4
          go_enter Tryd.func5, Tryd.ntmps5
          go_wp2_with fail
          refine (AL.out _ (Below.refl _ _)).mono ?_
          rintro e w1 ⟨rfl, hb1⟩
          have HB1 := Lib.hid hb1
          clear hb1
          go_wp2_with fail
          go_ret
          exact ⟨rfl, HB1.out⟩
        · have r3 : j < i := by omega
          clear hyes q3
          go_enter Tryd.func5, Tryd.ntmps5
          go_wp2_with fail
          refine (AL.out _ (Below.refl _ _)).mono ?_
          rintro e w1 ⟨rfl, hb1⟩
          have HB1 := Lib.hid hb1
          clear hb1
          go_wp2_with fail
          go_ret
          exact ⟨rfl, HB1.out⟩
      · have r2 : i < 0 := by omega
        clear hyes q2
        go_enter Tryd.func5, Tryd.ntmps5
        go_wp2_with fail
        refine (AL.out _ (Below.refl _ _)).mono ?_
        rintro e w1 ⟨rfl, hb1⟩
        have HB1 := Lib.hid hb1
        clear hb1
        go_wp2_with fail
        go_ret
        exact ⟨rfl, HB1.out⟩
    · have r1 : (5000 : Int) < (n : Int) := by omega
      clear hyes q1
      go_enter Tryd.func5, Tryd.ntmps5
      go_wp2_with fail
      refine (AL.out _ (Below.refl _ _)).mono ?_
      rintro e w1 ⟨rfl, hb1⟩
      have HB1 := Lib.hid hb1
      clear hb1
      go_wp2_with fail
      go_ret
      exact ⟨rfl, HB1.out⟩
set_option maxRecDepth 100000 in
theorem joins_lifted (os : Os) (started : os.Started) (H : Type) (enc : TypeId × Value → H) :
    ReturnsInHanded {} Tryd.checked os 5 .any (fun w args => (Rows.digestJoinsSpec.pre enc Tryd.prog Tryd.f5 Rows.digestJoinsRow.domain false w args ∧ laidMet Tryd.prog laidDig w) ∧ sizedMet enc Tryd.prog Tryd.f5 (OpenSpec.ofChange Rows.digestJoinsSpec) false w args)
      (Rows.digestJoinsSpec.post enc Tryd.prog Tryd.f5 false true false false) := by
  refine returns_laid (C := Tryd.checked) (X := fun w => laidMet Tryd.prog laidDig w) (fun _ _ hh h => h.of_heap hh) Tryd.own started (by kernel_rfl) Tryd.func5
    (ChangeSpec.witness_at (enc := enc) (C := Tryd.checked) (os := os) (X := fun w _ => laidMet Tryd.prog laidDig w) false (laidWorldD os) #[.slice none 0 0, .int .i64 0, .int .i64 0] 8 rfl (by kernel_rfl) (by kernel_rfl) (by kernel_rfl) (by kernel_rfl) (by kernel_rfl) (laidWorldD_met os _)) ?_
  intro W base args ds gs before hval0 hW hL hsh
  have hval : ∀ (j : Nat) t v, Tryd.f5.params[j]? = some t → args[j]? = some v → Value.okWide Tryd.prog W .any base t v := hval0
  have env := denv_of_laid hL
  have hW' := hW
  obtain ⟨p, q, hA0, hV, rfl, hfz, hnd⟩ := hW
  have hA : DataW.TrodAll enc Tryd.prog W 0 (fun _ => true) true Tryd.f5.params.toList args.toList ds p := hA0
  rw [Tryd.params5] at hA hval
  obtain ⟨v0, vs0, d0, ds0, p0, q0, hargs, rfl, rfl, h0, r0⟩ := trodAll_cons hA
  obtain ⟨v1, vs1, d1, ds1, p1, q1, rfl, rfl, rfl, h1, r1⟩ := trodAll_cons r0
  obtain ⟨v2, vs2, d2, ds2, p2, q2, rfl, rfl, rfl, h2, r2⟩ := trodAll_cons r1
  obtain ⟨rfl, rfl, rfl⟩ := trodAll_nil r2
  obtain rfl : args = #[v0, v1, v2] := by cases args; simp_all
  obtain ⟨rfl, rfl⟩ := trodVars_none hV
  obtain ⟨A0, l0, c0, rfl, hc0, hm0, hs0⟩ := open_bytes (hval 0 26 v0 rfl rfl) h0
  obtain ⟨a1, rfl, e1, f1, w1⟩ := open_int Tryd.underlying3 (hval 1 3 v1 rfl rfl) h1
  obtain ⟨a2, rfl, e2, f2, w2⟩ := open_int Tryd.underlying3 (hval 2 3 v2 rfl rfl) h2
  refine (joins_true l0 A0 c0 a1 a2 hc0 hm0 W hs0 env).mono fun e W' ⟨he, hg⟩ => ?_
  subst he
  exact ⟨_, rfl, law_post Tryd.laidOut (by kernel_rfl) (by kernel_rfl) hW' hg (trodAll_cons_mk (shut_bool Tryd.underlying4 _) trodAll_mk0) rfl rfl⟩
/-- the row -/
theorem joins_row : Rows.DigestJoinsSaid :=
  OpenClaim.holds_of_wide 5 Tryd.f5 rfl rfl rfl rfl rfl rfl rfl ⟨rfl, rfl, rfl, rfl, rfl⟩ rfl rfl rfl rfl rfl (by kernel_rfl) Tryd.func5 (by kernel_rfl)
    (of_decide_eq_true (by kernel_rfl)) (by unfold Func.isWrapper; rw [if_neg (of_decide_eq_false (by kernel_rfl))]; exact ⟨rfl, rfl⟩)
    (fun os started H enc _ => joins_lifted os started H enc)
/-- the statement -/
theorem joins_holds : Rows.DigestJoinsCardSaid :=
  Claim7.holds_tied_plain_at .later [] [.data, .data] true (true, "b86af4fe130f55cd64608773ec711eb422a857e1c5e1d3a0e74c34bd440be449") false
    joins_row (fun _ h => by cases h) (by kernel_rfl) (fun _ h => by cases h) digestJoins_row_tie rfl ⟨rfl, rfl⟩ (by kernel_rfl) rfl
    (fun f fn hf hfn => by
      obtain rfl : f = 5 := Option.some.inj ((show Tryd.prog.funcNamed "gatepath/gatepathlaw05.DigestJoins" = some 5 by kernel_rfl).symm.trans hf) |>.symm
      obtain rfl : fn = Tryd.f5 := (Option.some.inj (Tryd.func5.symm.trans hfn)).symm
      exact ⟨by kernel_rfl, fun j t ht => by
        rw [Tryd.params5] at ht
        have hp : t = 26 ∨ t = 3 := by
          rcases j with _ | _ | _ | j
          · left; simpa using ht.symm
          · right; simpa using ht.symm
          · right; simpa using ht.symm
          · simp at ht
        rcases hp with rfl | rfl
        · exact (show Tryd.prog.wantsStandIn 26 = false by kernel_rfl)
        · exact (show Tryd.prog.wantsStandIn 3 = false by kernel_rfl)⟩)
    (by kernel_rfl)
#print axioms joins_holds
end Go.Proofs.YtjgebpgdiinmbaaDoor
