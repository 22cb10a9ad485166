/- MerkleNames: limits, errors, and the path of an index by its nodes. Condition: what the row lists of the program's tables (tied by the card). -/
import Derived.Test.YtafolokkjpbieaaDoorMkRfg
import Derived.Test.YtafolokkjpbieaaDoorMkNA
import Derived.Test.YtafolokkjpbieaaDoorMkK
import Derived.Test.YtafolokkjpbieaaDoorLawKit
import Derived.Test.YtafolokkjpbieaaDoorCards
namespace Go.Proofs.YtafolokkjpbieaaDoor
open Go.ChangeShapes Go.WideShapes Go.ChangeAt Go.RowKit Sha Ots
open Go.WideMaps Go.WideElems
set_option linter.unusedVariables false
set_option linter.unusedSimpArgs false
theorem wpList_load_wantedS {ops : Array Oper} {rest : List Oper} {o : Oper} {a : Act} {w : World} {Q : Exit → Act → World → Prop} (hw : Region.wanted o (yielded ops a.tmps) = true) (ty : TypeId) (x : Operand) (ho : o.op = .load ty x)
    (g : Nat) (hx : a.eval x = .pointer (some ⟨g, 0, none⟩)) (t : TypeId) (cs : Array Value) (fr : Nat × Nat) {fs} (hg : w.heap[g]? = some (.cells cs t fr)) (hu : Tryd.prog.underlying ty = some (.struct fs)) (hi : (Tryd.prog.info? ty).map (·.size) = some cs.size)
    (h : wpList Tryd.prog ops Q rest (a.put o.dst (.agg cs)) w) : wpList Tryd.prog ops Q (o :: rest) a w :=
  wpList_step fun K hK => by
    simp only [hw, if_true]
    exact wp_load_row ty x ho g hx t cs fr _ hg hu rfl hi (hK _ _ h)
/-- blocks that are held whole, slices of short digests that are held -/
structure NS (w : World) (L : List (Nat × Array Value × TypeId)) (M : List (Option Addr × List (List UInt8))) (V : World) : Prop where
  bl : Below w.heap.size w V
  hd : ∀ (i : Nat) (r : Nat × Array Value × TypeId), L[i]? = some r → V.heap[r.1]? = some (.cells r.2.1 r.2.2 (0, 0))
  hs : ∀ (i : Nat) (r : Option Addr × List (List UInt8)), M[i]? = some r → Shorts r.1 r.2 V
theorem NS.on {w V U : World} {L : List (Nat × Array Value × TypeId)} {M : List (Option Addr × List (List UInt8))} (h : NS w L M V) (hb : Below V.heap.size V U) : NS w L M U :=
  ⟨chain h.bl hb, fun i r hi => row_on (h.hd i r hi) hb, fun i r hi => (h.hs i r hi).on hb⟩
theorem NS.row {w V : World} {L : List (Nat × Array Value × TypeId)} {M : List (Option Addr × List (List UInt8))} (h : NS w L M V) (i : Nat) (b : Nat) (cs : Array Value) (T : TypeId) (hi : L[i]? = some (b, cs, T)) : V.heap[b]? = some (.cells cs T (0, 0)) := h.hd i _ hi
theorem NS.sho {w V : World} {L : List (Nat × Array Value × TypeId)} {M : List (Option Addr × List (List UInt8))} (h : NS w L M V) (i : Nat) (A : Option Addr) (l : List (List UInt8)) (hi : M[i]? = some (A, l)) : Shorts A l V := h.hs i _ hi
theorem NS.add {w V : World} {L : List (Nat × Array Value × TypeId)} {M : List (Option Addr × List (List UInt8))} (h : NS w L M V) {b : Nat} {cs : Array Value} {T : TypeId} (hr : V.heap[b]? = some (.cells cs T (0, 0))) : NS w ((b, cs, T) :: L) M V :=
  ⟨h.bl, fun i r hi => by
    cases i with
    | zero => obtain rfl := Option.some.inj hi; exact hr
    | succ i => exact h.hd i r hi, h.hs⟩
theorem NS.put {w V0 V : World} {L : List (Nat × Array Value × TypeId)} {M : List (Option Addr × List (List UInt8))} (h : NS w L M V0) {cs : Array Value} {T : TypeId} (hV : V = V0.alloc (.cells cs T)) : NS w ((V0.heap.size, cs, T) :: L) M V := by
  subst hV
  exact (h.on (below_new _ _)).add (heap_alloc_new _ _)
theorem NS.hold {w V : World} {L : List (Nat × Array Value × TypeId)} {M : List (Option Addr × List (List UInt8))} (h : NS w L M V) {A : Option Addr} {l : List (List UInt8)} (hr : Shorts A l V) : NS w L ((A, l) :: M) V :=
  ⟨h.bl, h.hd, fun i r hi => by
    cases i with
    | zero => obtain rfl := Option.some.inj hi; exact hr
    | succ i => exact h.hs i r hi⟩
theorem rangeAt_pkc7 {z : World} {X : Nat} {R : List UInt8} {h : Int} {T : TypeId} {fr : Nat × Nat} (hg : z.heap[X]? = some (.cells (pkc R h) T fr)) : z.rangeAt X 0 (bvals R) := rangeAt_pkc hg
set_option maxRecDepth 100000 in
set_option maxHeartbeats 16000000 in
theorem names7_true (w : World) (env : DEnv w) :
    Calls Tryd.prog 3 #[] w fun e w' => e = .returned (.bool true) ∧ Below w.heap.size w w' := by
  have h16 : Fast.mks1.length = 16 := rfl
  have hn10 : ∀ l k, (node Fast.mks1 l k).length = 16 := fun l k => node_len _ _ _
  have hke2 : ∀ V : World, Below w.heap.size w V → Calls Tryd.prog 6 #[.agg (bcells Fast.mks1), .int .i64 2] V fun e w' => e = .returned (.tuple #[.agg (pkc (node Fast.mks1 2 0) 2), .int .i64 0]) ∧ Below V.heap.size V w' := fun V hb => key7_any Fast.mks1 h16 2 (by decide) V (env.on hb)
  have hke5 : ∀ V : World, Below w.heap.size w V → Calls Tryd.prog 6 #[.agg (bcells Fast.mks1), .int .i64 5] V fun e w' => e = .returned (.tuple #[.agg (pkc (List.replicate 16 0) 0), .int .i64 2]) ∧ Below V.heap.size V w' := fun V hb => key_bad Fast.mks1 5 (by decide) V
  have hkem : ∀ V : World, Below w.heap.size w V → Calls Tryd.prog 6 #[.agg (bcells Fast.mks1), .int .i64 (-1)] V fun e w' => e = .returned (.tuple #[.agg (pkc (List.replicate 16 0) 0), .int .i64 2]) ∧ Below V.heap.size V w' := fun V hb => key_bad Fast.mks1 (-1) (by decide) V
  have hsn : ∀ V : World, SrcAt none [] V := fun V h => absurd rfl h
  have hsi : ∀ V : World, Below w.heap.size w V → Calls Tryd.prog 7 #[.agg (bcells Fast.mks1), .int .i64 2, .int .i64 2, .slice none 0 0] V fun e w' => ∃ X PA pc, e = .returned (.tuple #[.agg #[.int .i64 2, .slice (some ⟨X, 0, none⟩) 35 35, .slice PA 2 pc], .int .i64 0]) ∧ (PA = none → pc = 0) ∧ Shorts (some ⟨X, 0, none⟩) (sgn (msd Fast.mks1 2) []) w' ∧ Shorts PA (pth Fast.mks1 0 2 2) w' ∧ Below V.heap.size V w' := fun V hb => sign7_any Fast.mks1 h16 2 2 (by decide) (by decide) [] none 0 (by decide) (Nat.le_refl _) (by decide) V (hsn V) (env.on hb)
  have hsb4 : ∀ V : World, Calls Tryd.prog 7 #[.agg (bcells Fast.mks1), .int .i64 2, .int .i64 4, .slice none 0 0] V fun e w' => e = .returned (.tuple #[.agg #[.int .i64 0, .slice none 0 0, .slice none 0 0], .int .i64 2]) ∧ Below V.heap.size V w' := fun V => sign7_bad Fast.mks1 2 4 _ (by decide) V
  have hsbm : ∀ V : World, Calls Tryd.prog 7 #[.agg (bcells Fast.mks1), .int .i64 2, .int .i64 (-1), .slice none 0 0] V fun e w' => e = .returned (.tuple #[.agg #[.int .i64 0, .slice none 0 0, .slice none 0 0], .int .i64 2]) ∧ Below V.heap.size V w' := fun V => sign7_bad Fast.mks1 2 (-1) _ (by decide) V
  have hsb5 : ∀ V : World, Calls Tryd.prog 7 #[.agg (bcells Fast.mks1), .int .i64 5, .int .i64 0, .slice none 0 0] V fun e w' => e = .returned (.tuple #[.agg #[.int .i64 0, .slice none 0 0, .slice none 0 0], .int .i64 2]) ∧ Below V.heap.size V w' := fun V => sign7_bad Fast.mks1 5 0 _ (by decide) V
  have hpb : ∀ (k : UInt8) (l : List UInt8), leaf Fast.mks1 k.toNat = l → ∀ V : World, Below w.heap.size w V → Calls Tryd.prog 9 #[.agg (bvals Fast.mks1).toArray, .int .u8 (k.toNat : Int)] V fun e w' => e = .returned (.agg (bvals l).toArray) ∧ Below V.heap.size V w' := fun k l hl V hb => by
    rw [← hl]
    exact pub7_any Fast.mks1 h16 k V (env.on hb)
  have hup : ∀ (x y l : List UInt8), x.length = 16 → y.length = 16 → jn x y = l → ∀ V : World, Below w.heap.size w V → Calls Tryd.prog 8 #[.agg (bvals x).toArray, .agg (bvals y).toArray] V fun e w' => e = .returned (.agg (bvals l).toArray) ∧ Below V.heap.size V w' := fun x y l hx hy hl V hb => by
    rw [← hl]
    exact up_any x y hx hy V (env.on hb)
  have hsl : (sgn (msd Fast.mks1 2) []).length = 35 := by unfold sgn sgD; rw [List.length_map, List.length_range]
  have hptl : (pth Fast.mks1 0 2 2).length = 2 := pth_length _ _ _ _
  have hpt0 : (pth Fast.mks1 0 2 2).getD 0 [] = leaf Fast.mks1 3 := rfl
  have hpt1 : (pth Fast.mks1 0 2 2).getD 1 [] = jn (leaf Fast.mks1 0) (leaf Fast.mks1 1) := rfl
  have hptE : pth Fast.mks1 0 2 2 = [leaf Fast.mks1 3, jn (leaf Fast.mks1 0) (leaf Fast.mks1 1)] := rfl
  have hR : node Fast.mks1 2 0 = jn (jn (leaf Fast.mks1 0) (leaf Fast.mks1 1)) (jn (leaf Fast.mks1 2) (leaf Fast.mks1 3)) := rfl
  have hfol : fol (key [] (sgn (msd Fast.mks1 2) [])) 2 (pth Fast.mks1 0 2 2) = node Fast.mks1 2 0 := root_follows Fast.mks1 [] 2 2 (by decide)
  have hfo3 : (fol (key [] (sgn (msd Fast.mks1 2) [])) 3 (pth Fast.mks1 0 2 2) == node Fast.mks1 2 0) = false := by
    rw [key_sgn, hptE, hR]
    exact Fast.root_index
  have htw : ∀ (X : Nat) (PA : Option Addr) (pc : Nat), (PA = none → pc = 0) → ∀ V : World, Below w.heap.size w V → Shorts (some ⟨X, 0, none⟩) (sgn (msd Fast.mks1 2) []) V → Shorts PA (pth Fast.mks1 0 2 2) V → Calls Tryd.prog 10 #[.agg #[.int .i64 2, .slice (some ⟨X, 0, none⟩) 35 35, .slice PA 2 pc]] V (TwinPost 2 (sgn (msd Fast.mks1 2) []) (pth Fast.mks1 0 2 2) V) := fun X PA pc hpn V hb h1 h2 => by
    have h3 := twin_ref 2 (some ⟨X, 0, none⟩) PA (sgn (msd Fast.mks1 2) []) (pth Fast.mks1 0 2 2) 35 pc (fun e => by cases e) hpn ⟨by omega, by omega⟩ V h1 h2
    rw [hsl, hptl] at h3
    exact h3
  have hck : ∀ (h n : Int) (cl pl : Nat) (v : Int), chkV h n cl pl = v → ∀ (CA PA : Option Addr) (cc pc : Nat) (V : World), Calls Tryd.prog 11 #[.int .i64 h, .agg #[.int .i64 n, .slice CA cl cc, .slice PA pl pc]] V fun e w' => e = .returned (.int .i64 v) ∧ Below V.heap.size V w' := fun h n cl pl v hv CA PA cc pc V => by
    rw [← hv]
    exact check_any h n CA PA cl cc pl pc V
  have hro : ∀ (h n : Int) (cl pl : Nat) (v : Int), chkV h n cl pl = v → v ≠ 0 → ∀ (CA PA : Option Addr) (cc pc : Nat) (V : World), Calls Tryd.prog 12 #[.int .i64 h, .slice none 0 0, .agg #[.int .i64 n, .slice CA cl cc, .slice PA pl pc]] V fun e w' => e = .returned (.tuple #[.agg (bcells (List.replicate 16 0)), .int .i64 v]) ∧ Below V.heap.size V w' := fun h n cl pl v hv hv0 CA PA cc pc V => by
    rw [← hv] at hv0 ⊢
    exact root_bad h n _ CA PA cl cc pl pc hv0 V
  have hve : ∀ (x n : Int) (r : Bool), (decide (chkV x n 35 2 = 0) && (rtV [] (sgn (msd Fast.mks1 2) []) (pth Fast.mks1 0 2 2) x n == node Fast.mks1 2 0)) = r → ∀ (CA PA : Option Addr) (cc pc : Nat) (V : World), Below w.heap.size w V → Shorts CA (sgn (msd Fast.mks1 2) []) V → Shorts PA (pth Fast.mks1 0 2 2) V → Calls Tryd.prog 13 #[.agg (pkc (node Fast.mks1 2 0) x), .slice none 0 0, .agg #[.int .i64 n, .slice CA 35 cc, .slice PA 2 pc]] V fun e w' => e = .returned (.bool r) ∧ Below V.heap.size V w' := fun x n r hr CA PA cc pc V hb h1 h2 => by
    have h3 := verify_all (node Fast.mks1 2 0) (node_len _ _ _) x [] none 0 (by decide) (Nat.le_refl _) (by decide) n CA PA (sgn (msd Fast.mks1 2) []) (pth Fast.mks1 0 2 2) cc pc V (hsn V) h1 h2 (env.on hb)
    rw [hsl, hptl, hr] at h3
    exact h3
  have hrt : ∀ n : Nat, (n : Int) = 2 ∨ (n : Int) = 3 → rtV [] (sgn (msd Fast.mks1 2) []) (pth Fast.mks1 0 2 2) 2 (n : Int) = fol (key [] (sgn (msd Fast.mks1 2) [])) n (pth Fast.mks1 0 2 2) := fun n hn => by
    unfold rtV
    rw [hsl, hptl, Int.toNat_natCast, if_pos (by rcases hn with h | h <;> (rw [h]; decide))]
  have hves := hve 2 2 true (by
    have h1 := hrt 2 (.inl rfl)
    rw [show (2 : Int) = ((2 : Nat) : Int) by rfl]
    rw [show (((2 : Nat) : Nat) : Int) = 2 by rfl] at h1 ⊢
    rw [h1, hfol]
    simp
    decide)
  have hveo := hve 2 3 false (by
    have h1 := hrt 3 (.inr rfl)
    rw [show (((3 : Nat) : Nat) : Int) = 3 by rfl] at h1
    rw [h1, hfo3, Bool.and_false])
  have hveb := hve 2 4 false (by rw [show decide (chkV 2 4 35 2 = 0) = false by decide, Bool.false_and])
  have hve3 := hve 3 2 false (by rw [show decide (chkV 3 2 35 2 = 0) = false by decide, Bool.false_and])
  have hve6 := hve 4611686018427387904 2 false (by rw [show decide (chkV 4611686018427387904 2 35 2 = 0) = false by decide, Bool.false_and])
  have hal : ∀ V : World, Below w.heap.size w V → Calls Tryd.prog 14 #[] V fun e w' => e = .returned (.bool true) ∧ Below V.heap.size V w' := fun V hb => alive7_any V (env.on hb)
  have hS1 : Value.agg (bcells Fast.mks1) = .agg #[.int .u8 1, .int .u8 2, .int .u8 3, .int .u8 0, .int .u8 0, .int .u8 0, .int .u8 0, .int .u8 0, .int .u8 0, .int .u8 0, .int .u8 0, .int .u8 0, .int .u8 0, .int .u8 0, .int .u8 0, .int .u8 0] := rfl
  have hp0 := hpb 0 _ rfl
  have hp1 := hpb 1 _ rfl
  have hp2 := hpb 2 _ rfl
  have hp3 := hpb 3 _ rfl
  have hl0 : ∀ k, (leaf Fast.mks1 k).length = 16 := fun k => leaf_len _ _
  have hj : ∀ x y, (jn x y).length = 16 := jn_len
  have hupl := hup (leaf Fast.mks1 0) (leaf Fast.mks1 1) _ (hl0 _) (hl0 _) rfl
  have hu23 := hup (leaf Fast.mks1 2) (leaf Fast.mks1 3) _ (hl0 _) (hl0 _) rfl
  have hupr := hup (jn (leaf Fast.mks1 0) (leaf Fast.mks1 1)) (jn (leaf Fast.mks1 2) (leaf Fast.mks1 3)) (node Fast.mks1 2 0) (hj _ _) (hj _ _) hR.symm
  have hR16 : (node Fast.mks1 2 0).length = 16 := node_len _ _ _
  have hLF16 : (jn (leaf Fast.mks1 0) (leaf Fast.mks1 1)).length = 16 := jn_len _ _
  have hP316 : (leaf Fast.mks1 3).length = 16 := leaf_len _ _
  have e0 : (0 : UInt8).toNat = 0 := rfl
  have e1 : (1 : UInt8).toNat = 1 := rfl
  have e2 : (2 : UInt8).toNat = 2 := rfl
  have e3 : (3 : UInt8).toNat = 3 := rfl
  rw [e0] at hp0
  rw [e1] at hp1
  rw [e2] at hp2
  rw [e3] at hp3
  clear hve hrt hfol hfo3 hptE hR hn10 hj hup hpb
  obtain ⟨LF, hLF⟩ : ∃ LF, jn (leaf Fast.mks1 0) (leaf Fast.mks1 1) = LF := ⟨_, rfl⟩
  obtain ⟨J23, hJ23⟩ : ∃ J23, jn (leaf Fast.mks1 2) (leaf Fast.mks1 3) = J23 := ⟨_, rfl⟩
  obtain ⟨P0, hP0⟩ : ∃ P0, leaf Fast.mks1 0 = P0 := ⟨_, rfl⟩
  obtain ⟨P1, hP1⟩ : ∃ P1, leaf Fast.mks1 1 = P1 := ⟨_, rfl⟩
  obtain ⟨P2, hP2⟩ : ∃ P2, leaf Fast.mks1 2 = P2 := ⟨_, rfl⟩
  obtain ⟨P3, hP3⟩ : ∃ P3, leaf Fast.mks1 3 = P3 := ⟨_, rfl⟩
  obtain ⟨SG, hSG⟩ : ∃ SG, sgn (msd Fast.mks1 2) [] = SG := ⟨_, rfl⟩
  obtain ⟨PT, hPT⟩ : ∃ PT, pth Fast.mks1 0 2 2 = PT := ⟨_, rfl⟩
  obtain ⟨R, hRR⟩ : ∃ R, node Fast.mks1 2 0 = R := ⟨_, rfl⟩
  rw [hLF] at hupl hupr hpt1 hLF16
  rw [hJ23] at hu23 hupr
  rw [hP0] at hp0 hupl
  rw [hP1] at hp1 hupl
  rw [hP2] at hp2 hu23
  rw [hP3] at hp3 hu23 hpt0 hP316
  simp only [hSG] at hsi htw hsl hves hveo hveb hve3 hve6
  simp only [hPT] at hsi htw hptl hpt0 hpt1 hves hveo hveb hve3 hve6
  simp only [hRR] at hke2 hupr hR16 hves hveo hveb hve3 hve6
  obtain ⟨S, hSS⟩ : ∃ S, Fast.mks1 = S := ⟨_, rfl⟩
  rw [hSS] at hke2 hke5 hkem hsi hsb4 hsbm hsb5 hp0 hp1 hp2 hp3 hS1 h16
  have hz16 : (List.replicate 16 (0 : UInt8)).length = 16 := rfl
  have hcz := hro 2 4 35 2 12 (by decide) (by decide)
  have hc9 := hro 9 2 35 2 2 (by decide) (by decide)
  obtain ⟨PK, hPK⟩ : ∃ PK, pkc R 2 = PK := ⟨_, rfl⟩
  obtain ⟨ZK, hZK⟩ : ∃ ZK, pkc (List.replicate 16 (0 : UInt8)) 0 = ZK := ⟨_, rfl⟩
  obtain ⟨Z16, hZ16⟩ : ∃ Z16, List.replicate 16 (0 : UInt8) = Z16 := ⟨_, rfl⟩
  have hszp := sz17 R 2 hR16
  have hszp2 := pkc_size R 2 hR16
  have hszp1 := pkc_one R 2
  have hszz := sz17 (List.replicate 16 (0 : UInt8)) 0 hz16
  have hszz2 := pkc_size (List.replicate 16 (0 : UInt8)) 0 hz16
  have hszz1 := pkc_one (List.replicate 16 (0 : UInt8)) 0
  rw [hPK] at hszp hszp2 hszp1
  rw [hZK] at hszz hszz2 hszz1
  simp only [hPK] at hke2 hves hveo hveb
  simp only [hZK] at hke5 hkem
  simp only [hZ16] at hcz hc9
  rw [hZ16] at hz16
  have KE2 := Lib.hid hke2
  have KE5 := Lib.hid hke5
  have KEM := Lib.hid hkem
  have SI := Lib.hid hsi
  have SB4 := Lib.hid hsb4
  have SBM := Lib.hid hsbm
  have SB5 := Lib.hid hsb5
  have PB0 := Lib.hid hp0
  have PB1 := Lib.hid hp1
  have PB2 := Lib.hid hp2
  have PB3 := Lib.hid hp3
  have UPL := Lib.hid hupl
  have UP23 := Lib.hid hu23
  have UPR := Lib.hid hupr
  have TWA := Lib.hid htw
  have CK0 := Lib.hid (hck 2 2 35 2 0 (by decide))
  have CK5 := Lib.hid (hck 5 2 35 2 2 (by decide))
  have CKM := Lib.hid (hck (-1) 2 35 2 2 (by decide))
  have CKB := Lib.hid (hck 2 4 35 2 12 (by decide))
  have CKS := Lib.hid (hck 2 2 35 1 12 (by decide))
  have CKF := Lib.hid (hck 2 2 34 2 12 (by decide))
  have CK3 := Lib.hid (hck 3 2 35 2 12 (by decide))
  have ROB := Lib.hid hcz
  have RO9 := Lib.hid hc9
  have VES := Lib.hid hves
  have VEO := Lib.hid hveo
  have VEB := Lib.hid hveb
  have VE3 := Lib.hid hve3
  have VE6 := Lib.hid hve6
  have AL := Lib.hid hal
  have HS1 := Lib.hid hS1
  have HSGL := Lib.hid hsl
  have HPTL := Lib.hid hptl
  have HPT0 := Lib.hid hpt0
  have HPT1 := Lib.hid hpt1
  have HPK := Lib.hid hPK
  have HR16 := Lib.hid hR16
  have HLF16 := Lib.hid hLF16
  have HBL : RowKit.Hid ((bvals R).length = 16) := Lib.hid (by rw [bvals_len, hR16])
  have HSZP := Lib.hid hszp
  have HSOP : RowKit.Hid ((17 : Nat) = PK.size) := Lib.hid hszp2.symm
  have HPO := Lib.hid hszp1
  have HSZZ := Lib.hid hszz
  have HSOZ : RowKit.Hid ((17 : Nat) = ZK.size) := Lib.hid hszz2.symm
  have HZO := Lib.hid hszz1
  have HSZ0 := Lib.hid (sz16 Z16 hz16)
  have HSO0 : RowKit.Hid ((16 : Nat) = (bcells Z16).size) := Lib.hid (by rw [bcells_size, hz16])
  have HSZS := Lib.hid (sz16 S h16)
  have HSOS : RowKit.Hid ((16 : Nat) = (bcells S).size) := Lib.hid (by rw [bcells_size, h16])
  have HSZL := Lib.hid (sz16 LF hLF16)
  have HIS : RowKit.Hid ((Tryd.prog.info? 23).map (·.size) = some (bvals S).length) := Lib.hid (by rw [bvals_len, h16]; kernel_rfl)
  have HIR : RowKit.Hid ((Tryd.prog.info? 23).map (·.size) = some (bvals R).length) := Lib.hid (by rw [bvals_len, hR16]; kernel_rfl)
  have HILF : RowKit.Hid ((Tryd.prog.info? 23).map (·.size) = some (bvals LF).length) := Lib.hid (by rw [bvals_len, hLF16]; kernel_rfl)
  have HIP3 : RowKit.Hid ((Tryd.prog.info? 23).map (·.size) = some (bvals P3).length) := Lib.hid (by rw [bvals_len, hP316]; kernel_rfl)
  have hqq : ∀ (x : List UInt8), x.length = 16 → ∀ w : World, (binOp .eql 23 (.agg (bvals x).toArray) (.agg (bvals x).toArray)).run Tryd.prog w = .ok (.bool true) w := fun x hx w => by
    have h := eql_short x x hx hx w
    rw [show (x == x) = true by simp] at h
    exact h
  have HQ1 := Lib.hid (hqq P3 hP316)
  have HQ2 := Lib.hid (hqq LF hLF16)
  have HQ3 := Lib.hid (hqq R hR16)
  have HN0 : RowKit.Hid (NS w [] [] w) := Lib.hid ⟨Below.refl _ _, fun i r hi => by simp at hi, fun i r hi => by simp at hi⟩
  clear hke2 hke5 hkem hsi hsb4 hsbm hsb5 hp0 hp1 hp2 hp3 hupl hu23 hupr htw hck hro hcz hc9 hves hveo hveb hve3 hve6 hal hS1 hsl hptl hpt0 hpt1 hPK hZK hZ16 hR16 hLF16 hP316 hszp hszp2 hszp1 hszz hszz2 hszz1 hz16 h16 hqq hLF hJ23 hP0 hP1 hP2 hP3 hSG hPT hRR hSS hl0 hsn e0 e1 e2 e3 env
  go_enter Tryd.func3, Tryd.ntmps3
  go_upto_region 2 with (refine wpList_store_row rfl 23 (.tmp 1) (.tmp 28) rfl w.heap.size (bcells S) rfl (HS1.out.symm) 23 _ (heap_alloc_new _ _) HSZS.out HSOS.out (bcells_one _) ?_)
  rw [World.setRow_alloc_new]
  generalize hV : World.alloc w _ = V1
  have HN1 : RowKit.Hid (NS w [(w.heap.size, bcells S, 23)] [] V1) := Lib.hid (HN0.out.put hV.symm)
  obtain ⟨BS, hBS⟩ : ∃ BS, w.heap.size = BS := ⟨_, rfl⟩
  rw [hBS] at HN1
  try simp only [hBS]
  clear hV hBS HN0
  go_wp2_with (refine wpList_load_row rfl 23 (.tmp 1) rfl BS rfl 23 (bcells S) (0, 0) _ (HN1.out.row 0 (BS) (bcells S) 23 rfl) Tryd.underlying23 rfl HSZS.out ?_)
  refine (KE2.out _ HN1.out.bl).mono ?_
  rintro e w2 ⟨rfl, hb⟩
  have HN2 := Lib.hid (HN1.out.on hb)
  clear HN1
  clear hb
  go_upto_region 3 with (refine wpList_store_row rfl 25 (.tmp 2) (.tmp 32) rfl w2.heap.size (PK) rfl rfl 25 _ (heap_alloc_new _ _) HSZP.out HSOP.out HPO.out ?_)
  rw [World.setRow_alloc_new]
  generalize hV : World.alloc w2 _ = V3
  have HN3 : RowKit.Hid (NS w [(w2.heap.size, PK, 25), (BS, bcells S, 23)] [] V3) := Lib.hid (HN2.out.put hV.symm)
  obtain ⟨BK, hBK⟩ : ∃ BK, w2.heap.size = BK := ⟨_, rfl⟩
  rw [hBK] at HN3
  try simp only [hBK]
  clear hV hBK HN2
  go_wp2_with (refine wpList_load_row rfl 23 (.tmp 1) rfl BS rfl 23 (bcells S) (0, 0) _ (HN3.out.row 1 (BS) (bcells S) 23 rfl) Tryd.underlying23 rfl HSZS.out ?_)
  refine (KE5.out _ HN3.out.bl).mono ?_
  rintro e w4 ⟨rfl, hb⟩
  have HN4 := Lib.hid (HN3.out.on hb)
  clear HN3
  clear hb
  go_upto_region 4 with (refine wpList_store_row rfl 25 (.tmp 4) (.tmp 37) rfl w4.heap.size (ZK) rfl rfl 25 _ (heap_alloc_new _ _) HSZZ.out HSOZ.out HZO.out ?_)
  rw [World.setRow_alloc_new]
  generalize hV : World.alloc w4 _ = V5
  have HN5 := Lib.hid (HN4.out.on (show Below w4.heap.size w4 V5 by rw [← hV]; exact below_new _ _))
  clear hV HN4
  go_wp2_with (refine wpList_load_row rfl 23 (.tmp 1) rfl BS rfl 23 (bcells S) (0, 0) _ (HN5.out.row 1 (BS) (bcells S) 23 rfl) Tryd.underlying23 rfl HSZS.out ?_)
  refine (KEM.out _ HN5.out.bl).mono ?_
  rintro e w6 ⟨rfl, hb⟩
  have HN6 := Lib.hid (HN5.out.on hb)
  clear HN5
  clear hb
  go_upto_region 5 with (refine wpList_store_row rfl 25 (.tmp 6) (.tmp 42) rfl w6.heap.size (ZK) rfl rfl 25 _ (heap_alloc_new _ _) HSZZ.out HSOZ.out HZO.out ?_)
  rw [World.setRow_alloc_new]
  generalize hV : World.alloc w6 _ = V7
  have HN7 := Lib.hid (HN6.out.on (show Below w6.heap.size w6 V7 by rw [← hV]; exact below_new _ _))
  clear hV HN6
  go_wp2_with (refine wpList_load_row rfl 23 (.tmp 1) rfl BS rfl 23 (bcells S) (0, 0) _ (HN7.out.row 1 (BS) (bcells S) 23 rfl) Tryd.underlying23 rfl HSZS.out ?_)
  refine (SI.out _ HN7.out.bl).mono ?_
  rintro e w8 ⟨X, PA, pc, rfl, hpn, hs1, hs2, hb⟩
  have HN8 := Lib.hid (HN7.out.on hb)
  clear HN7
  have TW := Lib.hid (TWA.out X PA pc hpn)
  clear hb hpn TWA
  have HN9 : RowKit.Hid (NS w [(BK, PK, 25), (BS, bcells S, 23)] [(some ⟨X, 0, none⟩, SG)] w8) := Lib.hid (HN8.out.hold hs1)
  clear HN8 hs1
  have HN10 : RowKit.Hid (NS w [(BK, PK, 25), (BS, bcells S, 23)] [(PA, PT), (some ⟨X, 0, none⟩, SG)] w8) := Lib.hid (HN9.out.hold hs2)
  clear HN9 hs2
  go_upto_region 6 with (fail)
  generalize hV : World.alloc w8 _ = V11
  have HN11 : RowKit.Hid (NS w [(w8.heap.size, #[.int .i64 2, .slice (some ⟨X, 0, none⟩) 35 35, .slice PA 2 pc], 31), (BK, PK, 25), (BS, bcells S, 23)] [(PA, PT), (some ⟨X, 0, none⟩, SG)] V11) := Lib.hid (HN10.out.put hV.symm)
  obtain ⟨BG, hBG⟩ : ∃ BG, w8.heap.size = BG := ⟨_, rfl⟩
  rw [hBG] at HN11
  try simp only [hBG]
  clear hV hBG HN10
  go_wp2_with (refine wpList_load_row rfl 23 (.tmp 1) rfl BS rfl 23 (bcells S) (0, 0) _ (HN11.out.row 2 (BS) (bcells S) 23 rfl) Tryd.underlying23 rfl HSZS.out ?_)
  refine (SB4.out _).mono ?_
  rintro e w12 ⟨rfl, hb⟩
  have HN12 := Lib.hid (HN11.out.on hb)
  clear HN11
  clear hb
  go_upto_region 7 with (fail)
  generalize hV : World.alloc w12 _ = V13
  have HN13 := Lib.hid (HN12.out.on (show Below w12.heap.size w12 V13 by rw [← hV]; exact below_new _ _))
  clear hV HN12
  go_wp2_with (refine wpList_load_row rfl 23 (.tmp 1) rfl BS rfl 23 (bcells S) (0, 0) _ (HN13.out.row 2 (BS) (bcells S) 23 rfl) Tryd.underlying23 rfl HSZS.out ?_)
  refine (SBM.out _).mono ?_
  rintro e w14 ⟨rfl, hb⟩
  have HN14 := Lib.hid (HN13.out.on hb)
  clear HN13
  clear hb
  go_upto_region 8 with (fail)
  generalize hV : World.alloc w14 _ = V15
  have HN15 := Lib.hid (HN14.out.on (show Below w14.heap.size w14 V15 by rw [← hV]; exact below_new _ _))
  clear hV HN14
  go_wp2_with (refine wpList_load_row rfl 23 (.tmp 1) rfl BS rfl 23 (bcells S) (0, 0) _ (HN15.out.row 2 (BS) (bcells S) 23 rfl) Tryd.underlying23 rfl HSZS.out ?_)
  refine (SB5.out _).mono ?_
  rintro e w16 ⟨rfl, hb⟩
  have HN16 := Lib.hid (HN15.out.on hb)
  clear HN15
  clear hb
  go_upto_region 9 with (fail)
  generalize hV : World.alloc w16 _ = V17
  have HN17 := Lib.hid (HN16.out.on (show Below w16.heap.size w16 V17 by rw [← hV]; exact below_new _ _))
  clear hV HN16
  obtain ⟨_, hc0, hc1, hc2⟩ := facts3 (HN17.out.row 0 (BG) (#[.int .i64 2, .slice (some ⟨X, 0, none⟩) 35 35, .slice PA 2 pc]) 31 rfl)
  have hcl := (Array.getElem?_eq_some_iff.1 (HN17.out.row 0 (BG) (#[.int .i64 2, .slice (some ⟨X, 0, none⟩) 35 35, .slice PA 2 pc]) 31 rfl)).1
  go_upto_region 11 with (fail)
  clear hc0 hc1 hc2 hcl
  obtain ⟨W, hW⟩ : ∃ W, V17.drew = W := ⟨_, rfl⟩
  have HW : RowKit.Hid (NS w [(BG, #[.int .i64 2, .slice (some ⟨X, 0, none⟩) 35 35, .slice PA 2 pc], 31), (BK, PK, 25), (BS, bcells S, 23)] [(PA, PT), (some ⟨X, 0, none⟩, SG)] W) := Lib.hid (HN17.out.on (by rw [← hW]; exact (Below.refl _ _).drew))
  have mkS : ∀ z, Below W.heap.size W z → z.rangeAt BS 0 (bvals S) := fun z hz => rangeAt_row0 ((HW.out.on hz).row 2 (BS) (bcells S) 23 rfl)
  have hS0 : V17.drew.rangeAt BS 0 (bvals S) := by rw [hW]; exact mkS _ (Below.refl _ _)
  clear HN17
  go_cut [16] (fun s16 wx => ∃ Y : Nat, s16 = .pointer (some ⟨Y, 0, none⟩) ∧ wx.heap[Y]? = some (.cells (bcells LF) 23 (0, 0)) ∧ Below W.heap.size W wx)
  case first =>
    refine wp_region_held_drew (S := fun z => z.rangeAt BS 0 (bvals S)) (by kernel_rfl) hS0 (fun hHeld => ?_)
    rw [hW] at hHeld ⊢
    clear hS0 hW
    refine wpAnyH_take (i := 0) (oi := { dst := Option.some 76, op := Go.Op.load 23 (Go.Operand.tmp 1), type := 23, pos := "law.go:72", after := #[], guard := Option.none }) (v := .agg (bvals S).toArray) rfl (by kernel_rfl) (by kernel_rfl) (by kernel_rfl) (fun _ _ _ h => h) (yieldsIf_load_mid (by rfl) _ _ rfl _ _ rfl (bvals S) _ (fun w hSw => hSw) Tryd.underlying23 rfl HIS.out) hHeld ?_
    try simp only [Act.put, List.setIfInBounds_toArray, List.set_cons_zero, List.set_cons_succ]
    refine wpAnyH_take (i := 2) (oi := { dst := Option.some 78, op := Go.Op.load 23 (Go.Operand.tmp 1), type := 23, pos := "law.go:72", after := #[], guard := Option.none }) (v := .agg (bvals S).toArray) rfl (by kernel_rfl) (by kernel_rfl) (by kernel_rfl) (fun _ _ _ h => h) (yieldsIf_load_mid (by rfl) _ _ rfl _ _ rfl (bvals S) _ (fun w hSw => hSw) Tryd.underlying23 rfl HIS.out) hHeld ?_
    try simp only [Act.put, List.setIfInBounds_toArray, List.set_cons_zero, List.set_cons_succ]
    refine wpAnyH_ready (rs := [1, 5]) (by kernel_rfl) (by simp) (AllReadyH.cons (o := { dst := Option.some 77, op := Go.Op.call { callee := Go.Callee.value (Go.Operand.func 9), args := #[Go.Operand.tmp 76, Go.Operand.const (Go.Value.int Go.IntKind.u8 0)], argTypes := #[23, 5] }, type := 23, pos := "law.go:72", after := #[{ on := 0, ground := Go.Ground.data }], guard := Option.none }) rfl (fun K hK => ?_) (AllReadyH.cons (o := { dst := Option.some 16, op := Go.Op.alloc 23, type := 0, pos := "law.go:72", after := #[], guard := Option.none }) rfl (fun K hK => ?_) AllReadyH.nil))
    · go_simp
      refine (PB0.out _ (chain HW.out.bl (Below.refl _ _))).mono ?_
      rintro e a1 ⟨rfl, ha1⟩
      have ba1 : Below W.heap.size W a1 := ha1
      clear ha1
      go_simp
      refine hK.out _ _ (mkS _ (ba1)) (fun hHeld2 => ?_)
      clear hK K hHeld
      have hHeld := hHeld2
      clear hHeld2
      try simp only [Act.put, List.setIfInBounds_toArray, List.set_cons_zero, List.set_cons_succ]
      refine wpAnyH_ready (rs := [3, 5]) (by kernel_rfl) (by simp) (AllReadyH.cons (o := { dst := Option.some 79, op := Go.Op.call { callee := Go.Callee.value (Go.Operand.func 9), args := #[Go.Operand.tmp 78, Go.Operand.const (Go.Value.int Go.IntKind.u8 1)], argTypes := #[23, 5] }, type := 23, pos := "law.go:72", after := #[{ on := 2, ground := Go.Ground.data }, { on := 1, ground := Go.Ground.chain }], guard := Option.none }) rfl (fun K hK => ?_) (AllReadyH.cons (o := { dst := Option.some 16, op := Go.Op.alloc 23, type := 0, pos := "law.go:72", after := #[], guard := Option.none }) rfl (fun K hK => ?_) AllReadyH.nil))
      · go_simp
        refine (PB1.out _ (chain HW.out.bl ba1)).mono ?_
        rintro e a2 ⟨rfl, ha2⟩
        have ba2 : Below W.heap.size W a2 := chain ba1 ha2
        clear ha2
        go_simp
        refine hK.out _ _ (mkS _ (ba2)) (fun hHeld2 => ?_)
        clear hK K hHeld
        have hHeld := hHeld2
        clear hHeld2
        try simp only [Act.put, List.setIfInBounds_toArray, List.set_cons_zero, List.set_cons_succ]
        refine wpAnyH_ready (rs := [4, 5]) (by kernel_rfl) (by simp) (AllReadyH.cons (o := { dst := Option.some 80, op := Go.Op.call { callee := Go.Callee.value (Go.Operand.func 8), args := #[Go.Operand.tmp 77, Go.Operand.tmp 79], argTypes := #[23, 23] }, type := 23, pos := "law.go:72", after := #[{ on := 1, ground := Go.Ground.data }, { on := 3, ground := Go.Ground.data }, { on := 3, ground := Go.Ground.chain }], guard := Option.none }) rfl (fun K hK => ?_) (AllReadyH.cons (o := { dst := Option.some 16, op := Go.Op.alloc 23, type := 0, pos := "law.go:72", after := #[], guard := Option.none }) rfl (fun K hK => ?_) AllReadyH.nil))
        · go_simp
          refine (UPL.out _ (chain HW.out.bl ba2)).mono ?_
          rintro e a3 ⟨rfl, ha3⟩
          have ba3 : Below W.heap.size W a3 := chain ba2 ha3
          clear ha3
          go_simp
          refine hK.out _ _ (mkS _ (ba3)) (fun hHeld2 => ?_)
          clear hK K hHeld
          have hHeld := hHeld2
          clear hHeld2
          try simp only [Act.put, List.setIfInBounds_toArray, List.set_cons_zero, List.set_cons_succ]
          refine wpAnyH_ready (rs := [5]) (by kernel_rfl) (by simp) (AllReadyH.cons (o := { dst := Option.some 16, op := Go.Op.alloc 23, type := 0, pos := "law.go:72", after := #[], guard := Option.none }) rfl (fun K hK => ?_) AllReadyH.nil)
          go_simp
          generalize hq : World.alloc a3 _ = y5
          have b5 : Below W.heap.size W y5 := by rw [← hq]; exact (ba3).alloc (ba3).size _
          have r5 : y5.heap[a3.heap.size]? = some (.cells (bcells (List.replicate 16 0)) 23 (0, 0)) := by rw [← hq]; exact (heap_alloc_new _ _).trans rfl
          clear hq
          refine hK.out _ _ (mkS _ (b5)) (fun hHeld2 => ?_)
          clear hK K hHeld
          have hHeld := hHeld2
          clear hHeld2
          try simp only [Act.put, List.setIfInBounds_toArray, List.set_cons_zero, List.set_cons_succ]
          refine wpAnyH_ready (rs := [6]) (by kernel_rfl) (by simp) (AllReadyH.cons (o := { dst := Option.none, op := Go.Op.store 23 (Go.Operand.tmp 16) (Go.Operand.tmp 80), type := 0, pos := "law.go:72", after := #[{ on := 5, ground := Go.Ground.data }, { on := 4, ground := Go.Ground.data }, { on := 4, ground := Go.Ground.chain }, { on := 0, ground := Go.Ground.phase }, { on := 1, ground := Go.Ground.phase }, { on := 2, ground := Go.Ground.phase }, { on := 3, ground := Go.Ground.phase }, { on := 4, ground := Go.Ground.phase }, { on := 5, ground := Go.Ground.phase }], guard := Option.none }) rfl (fun K hK => ?_) AllReadyH.nil)
          try rw [if_pos (by rfl)]
          refine wp_store_mid 23 (.tmp 16) (.tmp 80) rfl (a3.heap.size) 0 (bcells LF) rfl rfl (there_row r5 _ (by rw [bcells_size, HLF16.out]; decide)) HSZL.out (bcells_one _) ?_
          have hz6 := row_setCells r5 (cs := bcells LF) (by rw [bcells_size, bcells_size, HLF16.out]; rfl)
          have bz6 := below_setCells (bcells LF).toList 0 _ b5 (show W.heap.size ≤ a3.heap.size by first | exact Nat.le_refl _ | exact (ba1).size | exact (ba2).size | exact (ba3).size)
          refine hK.out _ _ (mkS _ bz6) (fun hHeld2 => ?_)
          clear hK K hHeld hHeld2
          try simp only [Act.put, List.setIfInBounds_toArray, List.set_cons_zero, List.set_cons_succ]
          refine wpAnyH_done (by kernel_rfl) ?_ _
          go_wp2_with fail
          go_meet
          exact ⟨_, rfl, hz6, bz6⟩
        · go_simp
          generalize hq : World.alloc a2 _ = y5
          have b5 : Below W.heap.size W y5 := by rw [← hq]; exact (ba2).alloc (ba2).size _
          have r5 : y5.heap[a2.heap.size]? = some (.cells (bcells (List.replicate 16 0)) 23 (0, 0)) := by rw [← hq]; exact (heap_alloc_new _ _).trans rfl
          clear hq
          refine hK.out _ _ (mkS _ (b5)) (fun hHeld2 => ?_)
          clear hK K hHeld
          have hHeld := hHeld2
          clear hHeld2
          try simp only [Act.put, List.setIfInBounds_toArray, List.set_cons_zero, List.set_cons_succ]
          refine wpAnyH_ready (rs := [4]) (by kernel_rfl) (by simp) (AllReadyH.cons (o := { dst := Option.some 80, op := Go.Op.call { callee := Go.Callee.value (Go.Operand.func 8), args := #[Go.Operand.tmp 77, Go.Operand.tmp 79], argTypes := #[23, 23] }, type := 23, pos := "law.go:72", after := #[{ on := 1, ground := Go.Ground.data }, { on := 3, ground := Go.Ground.data }, { on := 3, ground := Go.Ground.chain }], guard := Option.none }) rfl (fun K hK => ?_) AllReadyH.nil)
          go_simp
          refine (UPL.out _ (chain HW.out.bl b5)).mono ?_
          rintro e a3 ⟨rfl, ha3⟩
          have ba3 : Below W.heap.size W a3 := chain b5 ha3
          have ra3 := row_on r5 ha3
          clear ha3
          go_simp
          refine hK.out _ _ (mkS _ (ba3)) (fun hHeld2 => ?_)
          clear hK K hHeld
          have hHeld := hHeld2
          clear hHeld2
          try simp only [Act.put, List.setIfInBounds_toArray, List.set_cons_zero, List.set_cons_succ]
          refine wpAnyH_ready (rs := [6]) (by kernel_rfl) (by simp) (AllReadyH.cons (o := { dst := Option.none, op := Go.Op.store 23 (Go.Operand.tmp 16) (Go.Operand.tmp 80), type := 0, pos := "law.go:72", after := #[{ on := 5, ground := Go.Ground.data }, { on := 4, ground := Go.Ground.data }, { on := 4, ground := Go.Ground.chain }, { on := 0, ground := Go.Ground.phase }, { on := 1, ground := Go.Ground.phase }, { on := 2, ground := Go.Ground.phase }, { on := 3, ground := Go.Ground.phase }, { on := 4, ground := Go.Ground.phase }, { on := 5, ground := Go.Ground.phase }], guard := Option.none }) rfl (fun K hK => ?_) AllReadyH.nil)
          try rw [if_pos (by rfl)]
          refine wp_store_mid 23 (.tmp 16) (.tmp 80) rfl (a2.heap.size) 0 (bcells LF) rfl rfl (there_row ra3 _ (by rw [bcells_size, HLF16.out]; decide)) HSZL.out (bcells_one _) ?_
          have hz6 := row_setCells ra3 (cs := bcells LF) (by rw [bcells_size, bcells_size, HLF16.out]; rfl)
          have bz6 := below_setCells (bcells LF).toList 0 _ ba3 (show W.heap.size ≤ a2.heap.size by first | exact Nat.le_refl _ | exact (ba1).size | exact (ba2).size | exact (ba3).size)
          refine hK.out _ _ (mkS _ bz6) (fun hHeld2 => ?_)
          clear hK K hHeld hHeld2
          try simp only [Act.put, List.setIfInBounds_toArray, List.set_cons_zero, List.set_cons_succ]
          refine wpAnyH_done (by kernel_rfl) ?_ _
          go_wp2_with fail
          go_meet
          exact ⟨_, rfl, hz6, bz6⟩
      · go_simp
        generalize hq : World.alloc a1 _ = y5
        have b5 : Below W.heap.size W y5 := by rw [← hq]; exact (ba1).alloc (ba1).size _
        have r5 : y5.heap[a1.heap.size]? = some (.cells (bcells (List.replicate 16 0)) 23 (0, 0)) := by rw [← hq]; exact (heap_alloc_new _ _).trans rfl
        clear hq
        refine hK.out _ _ (mkS _ (b5)) (fun hHeld2 => ?_)
        clear hK K hHeld
        have hHeld := hHeld2
        clear hHeld2
        try simp only [Act.put, List.setIfInBounds_toArray, List.set_cons_zero, List.set_cons_succ]
        refine wpAnyH_ready (rs := [3]) (by kernel_rfl) (by simp) (AllReadyH.cons (o := { dst := Option.some 79, op := Go.Op.call { callee := Go.Callee.value (Go.Operand.func 9), args := #[Go.Operand.tmp 78, Go.Operand.const (Go.Value.int Go.IntKind.u8 1)], argTypes := #[23, 5] }, type := 23, pos := "law.go:72", after := #[{ on := 2, ground := Go.Ground.data }, { on := 1, ground := Go.Ground.chain }], guard := Option.none }) rfl (fun K hK => ?_) AllReadyH.nil)
        go_simp
        refine (PB1.out _ (chain HW.out.bl b5)).mono ?_
        rintro e a2 ⟨rfl, ha2⟩
        have ba2 : Below W.heap.size W a2 := chain b5 ha2
        have ra2 := row_on r5 ha2
        clear ha2
        go_simp
        refine hK.out _ _ (mkS _ (ba2)) (fun hHeld2 => ?_)
        clear hK K hHeld
        have hHeld := hHeld2
        clear hHeld2
        try simp only [Act.put, List.setIfInBounds_toArray, List.set_cons_zero, List.set_cons_succ]
        refine wpAnyH_ready (rs := [4]) (by kernel_rfl) (by simp) (AllReadyH.cons (o := { dst := Option.some 80, op := Go.Op.call { callee := Go.Callee.value (Go.Operand.func 8), args := #[Go.Operand.tmp 77, Go.Operand.tmp 79], argTypes := #[23, 23] }, type := 23, pos := "law.go:72", after := #[{ on := 1, ground := Go.Ground.data }, { on := 3, ground := Go.Ground.data }, { on := 3, ground := Go.Ground.chain }], guard := Option.none }) rfl (fun K hK => ?_) AllReadyH.nil)
        go_simp
        refine (UPL.out _ (chain HW.out.bl ba2)).mono ?_
        rintro e a3 ⟨rfl, ha3⟩
        have ba3 : Below W.heap.size W a3 := chain ba2 ha3
        have ra3 := row_on ra2 ha3
        clear ha3
        go_simp
        refine hK.out _ _ (mkS _ (ba3)) (fun hHeld2 => ?_)
        clear hK K hHeld
        have hHeld := hHeld2
        clear hHeld2
        try simp only [Act.put, List.setIfInBounds_toArray, List.set_cons_zero, List.set_cons_succ]
        refine wpAnyH_ready (rs := [6]) (by kernel_rfl) (by simp) (AllReadyH.cons (o := { dst := Option.none, op := Go.Op.store 23 (Go.Operand.tmp 16) (Go.Operand.tmp 80), type := 0, pos := "law.go:72", after := #[{ on := 5, ground := Go.Ground.data }, { on := 4, ground := Go.Ground.data }, { on := 4, ground := Go.Ground.chain }, { on := 0, ground := Go.Ground.phase }, { on := 1, ground := Go.Ground.phase }, { on := 2, ground := Go.Ground.phase }, { on := 3, ground := Go.Ground.phase }, { on := 4, ground := Go.Ground.phase }, { on := 5, ground := Go.Ground.phase }], guard := Option.none }) rfl (fun K hK => ?_) AllReadyH.nil)
        try rw [if_pos (by rfl)]
        refine wp_store_mid 23 (.tmp 16) (.tmp 80) rfl (a1.heap.size) 0 (bcells LF) rfl rfl (there_row ra3 _ (by rw [bcells_size, HLF16.out]; decide)) HSZL.out (bcells_one _) ?_
        have hz6 := row_setCells ra3 (cs := bcells LF) (by rw [bcells_size, bcells_size, HLF16.out]; rfl)
        have bz6 := below_setCells (bcells LF).toList 0 _ ba3 (show W.heap.size ≤ a1.heap.size by first | exact Nat.le_refl _ | exact (ba1).size | exact (ba2).size | exact (ba3).size)
        refine hK.out _ _ (mkS _ bz6) (fun hHeld2 => ?_)
        clear hK K hHeld hHeld2
        try simp only [Act.put, List.setIfInBounds_toArray, List.set_cons_zero, List.set_cons_succ]
        refine wpAnyH_done (by kernel_rfl) ?_ _
        go_wp2_with fail
        go_meet
        exact ⟨_, rfl, hz6, bz6⟩
    · go_simp
      generalize hq : World.alloc W _ = y5
      have b5 : Below W.heap.size W y5 := by rw [← hq]; exact below_new _ _
      have r5 : y5.heap[W.heap.size]? = some (.cells (bcells (List.replicate 16 0)) 23 (0, 0)) := by rw [← hq]; exact (heap_alloc_new _ _).trans rfl
      clear hq
      refine hK.out _ _ (mkS _ (b5)) (fun hHeld2 => ?_)
      clear hK K hHeld
      have hHeld := hHeld2
      clear hHeld2
      try simp only [Act.put, List.setIfInBounds_toArray, List.set_cons_zero, List.set_cons_succ]
      refine wpAnyH_ready (rs := [1]) (by kernel_rfl) (by simp) (AllReadyH.cons (o := { dst := Option.some 77, op := Go.Op.call { callee := Go.Callee.value (Go.Operand.func 9), args := #[Go.Operand.tmp 76, Go.Operand.const (Go.Value.int Go.IntKind.u8 0)], argTypes := #[23, 5] }, type := 23, pos := "law.go:72", after := #[{ on := 0, ground := Go.Ground.data }], guard := Option.none }) rfl (fun K hK => ?_) AllReadyH.nil)
      go_simp
      refine (PB0.out _ (chain HW.out.bl b5)).mono ?_
      rintro e a1 ⟨rfl, ha1⟩
      have ba1 : Below W.heap.size W a1 := chain b5 ha1
      have ra1 := row_on r5 ha1
      clear ha1
      go_simp
      refine hK.out _ _ (mkS _ (ba1)) (fun hHeld2 => ?_)
      clear hK K hHeld
      have hHeld := hHeld2
      clear hHeld2
      try simp only [Act.put, List.setIfInBounds_toArray, List.set_cons_zero, List.set_cons_succ]
      refine wpAnyH_ready (rs := [3]) (by kernel_rfl) (by simp) (AllReadyH.cons (o := { dst := Option.some 79, op := Go.Op.call { callee := Go.Callee.value (Go.Operand.func 9), args := #[Go.Operand.tmp 78, Go.Operand.const (Go.Value.int Go.IntKind.u8 1)], argTypes := #[23, 5] }, type := 23, pos := "law.go:72", after := #[{ on := 2, ground := Go.Ground.data }, { on := 1, ground := Go.Ground.chain }], guard := Option.none }) rfl (fun K hK => ?_) AllReadyH.nil)
      go_simp
      refine (PB1.out _ (chain HW.out.bl ba1)).mono ?_
      rintro e a2 ⟨rfl, ha2⟩
      have ba2 : Below W.heap.size W a2 := chain ba1 ha2
      have ra2 := row_on ra1 ha2
      clear ha2
      go_simp
      refine hK.out _ _ (mkS _ (ba2)) (fun hHeld2 => ?_)
      clear hK K hHeld
      have hHeld := hHeld2
      clear hHeld2
      try simp only [Act.put, List.setIfInBounds_toArray, List.set_cons_zero, List.set_cons_succ]
      refine wpAnyH_ready (rs := [4]) (by kernel_rfl) (by simp) (AllReadyH.cons (o := { dst := Option.some 80, op := Go.Op.call { callee := Go.Callee.value (Go.Operand.func 8), args := #[Go.Operand.tmp 77, Go.Operand.tmp 79], argTypes := #[23, 23] }, type := 23, pos := "law.go:72", after := #[{ on := 1, ground := Go.Ground.data }, { on := 3, ground := Go.Ground.data }, { on := 3, ground := Go.Ground.chain }], guard := Option.none }) rfl (fun K hK => ?_) AllReadyH.nil)
      go_simp
      refine (UPL.out _ (chain HW.out.bl ba2)).mono ?_
      rintro e a3 ⟨rfl, ha3⟩
      have ba3 : Below W.heap.size W a3 := chain ba2 ha3
      have ra3 := row_on ra2 ha3
      clear ha3
      go_simp
      refine hK.out _ _ (mkS _ (ba3)) (fun hHeld2 => ?_)
      clear hK K hHeld
      have hHeld := hHeld2
      clear hHeld2
      try simp only [Act.put, List.setIfInBounds_toArray, List.set_cons_zero, List.set_cons_succ]
      refine wpAnyH_ready (rs := [6]) (by kernel_rfl) (by simp) (AllReadyH.cons (o := { dst := Option.none, op := Go.Op.store 23 (Go.Operand.tmp 16) (Go.Operand.tmp 80), type := 0, pos := "law.go:72", after := #[{ on := 5, ground := Go.Ground.data }, { on := 4, ground := Go.Ground.data }, { on := 4, ground := Go.Ground.chain }, { on := 0, ground := Go.Ground.phase }, { on := 1, ground := Go.Ground.phase }, { on := 2, ground := Go.Ground.phase }, { on := 3, ground := Go.Ground.phase }, { on := 4, ground := Go.Ground.phase }, { on := 5, ground := Go.Ground.phase }], guard := Option.none }) rfl (fun K hK => ?_) AllReadyH.nil)
      try rw [if_pos (by rfl)]
      refine wp_store_mid 23 (.tmp 16) (.tmp 80) rfl (W.heap.size) 0 (bcells LF) rfl rfl (there_row ra3 _ (by rw [bcells_size, HLF16.out]; decide)) HSZL.out (bcells_one _) ?_
      have hz6 := row_setCells ra3 (cs := bcells LF) (by rw [bcells_size, bcells_size, HLF16.out]; rfl)
      have bz6 := below_setCells (bcells LF).toList 0 _ ba3 (show W.heap.size ≤ W.heap.size by first | exact Nat.le_refl _ | exact (ba1).size | exact (ba2).size | exact (ba3).size)
      refine hK.out _ _ (mkS _ bz6) (fun hHeld2 => ?_)
      clear hK K hHeld hHeld2
      try simp only [Act.put, List.setIfInBounds_toArray, List.set_cons_zero, List.set_cons_succ]
      refine wpAnyH_done (by kernel_rfl) ?_ _
      go_wp2_with fail
      go_meet
      exact ⟨_, rfl, hz6, bz6⟩
  case rest =>
    obtain ⟨BL, rfl, hz, hb⟩ := hcut
    have HN18 : RowKit.Hid (NS w [(BL, bcells LF, 23), (BG, #[.int .i64 2, .slice (some ⟨X, 0, none⟩) 35 35, .slice PA 2 pc], 31), (BK, PK, 25), (BS, bcells S, 23)] [(PA, PT), (some ⟨X, 0, none⟩, SG)] wc) := Lib.hid ((HW.out.on hb).add hz)
    clear hz hb HW mkS hS0 hW
    go_upto_region 12 with (fail)
    obtain ⟨g, oo, rfl, hp3⟩ := (HN18.out.sho 0 (PA) PT rfl).atS 0 (by rw [HPTL.out]; decide)
    obtain ⟨g', oo', hgo, hp1⟩ := (HN18.out.sho 0 (some ⟨g, oo, none⟩) PT rfl).atS 1 (by rw [HPTL.out]; decide)
    obtain ⟨rfl, rfl⟩ : g = g' ∧ oo = oo' := by
      have h3 := Option.some.inj hgo
      exact ⟨congrArg Addr.block h3, congrArg Addr.off h3⟩
    rw [HPT0.out, Nat.zero_mul, Nat.add_zero] at hp3
    rw [HPT1.out, Nat.one_mul] at hp1
    clear hgo
    obtain ⟨W2, hW2⟩ : ∃ W2, wc.drew = W2 := ⟨_, rfl⟩
    have hbW : Below wc.heap.size wc W2 := by rw [← hW2]; exact (Below.refl _ _).drew
    have HW2 : RowKit.Hid (NS w [(BL, bcells LF, 23), (BG, #[.int .i64 2, .slice (some ⟨X, 0, none⟩) 35 35, .slice (some ⟨g, oo, none⟩) 2 pc], 31), (BK, PK, 25), (BS, bcells S, 23)] [(some ⟨g, oo, none⟩, PT), (some ⟨X, 0, none⟩, SG)] W2) := Lib.hid (HN18.out.on hbW)
    have HP3 := Lib.hid (rangeAt_on hp3 hbW)
    have HP1 := Lib.hid (rangeAt_on hp1 hbW)
    have mkS : ∀ z, Below W2.heap.size W2 z → z.rangeAt BS 0 (bvals S) ∧ z.cell? ⟨BG, 2, none⟩ = some (.slice (some ⟨g, oo, none⟩) 2 pc) ∧ z.rangeAt g oo (bvals P3) ∧ z.rangeAt g (oo + 16) (bvals LF) ∧ z.rangeAt BL 0 (bvals LF) ∧ z.rangeAt BK 0 (bvals R) ∧ z.cell? ⟨BK, 16, none⟩ = some (.int .i64 2) := fun z hz => ⟨rangeAt_row0 ((HW2.out.on hz).row 3 (BS) (bcells S) 23 rfl), (facts3 ((HW2.out.on hz).row 1 (BG) (#[.int .i64 2, .slice (some ⟨X, 0, none⟩) 35 35, .slice (some ⟨g, oo, none⟩) 2 pc]) 31 rfl)).2.2.2, rangeAt_on HP3.out hz, rangeAt_on HP1.out hz, rangeAt_row0 ((HW2.out.on hz).row 0 (BL) (bcells LF) 23 rfl), rangeAt_pkc (by rw [HPK.out]; exact ((HW2.out.on hz).row 2 (BK) (PK) 25 rfl)), cell_pkc HR16.out (by rw [HPK.out]; exact ((HW2.out.on hz).row 2 (BK) (PK) 25 rfl))⟩
    have hS0 : wc.drew.rangeAt BS 0 (bvals S) ∧ wc.drew.cell? ⟨BG, 2, none⟩ = some (.slice (some ⟨g, oo, none⟩) 2 pc) ∧ wc.drew.rangeAt g oo (bvals P3) ∧ wc.drew.rangeAt g (oo + 16) (bvals LF) ∧ wc.drew.rangeAt BL 0 (bvals LF) ∧ wc.drew.rangeAt BK 0 (bvals R) ∧ wc.drew.cell? ⟨BK, 16, none⟩ = some (.int .i64 2) := by rw [hW2]; exact mkS _ (Below.refl _ _)
    clear hbW hp3 hp1 HN18
    refine wp_region_held_drew (S := fun z => z.rangeAt BS 0 (bvals S) ∧ z.cell? ⟨BG, 2, none⟩ = some (.slice (some ⟨g, oo, none⟩) 2 pc) ∧ z.rangeAt g oo (bvals P3) ∧ z.rangeAt g (oo + 16) (bvals LF) ∧ z.rangeAt BL 0 (bvals LF) ∧ z.rangeAt BK 0 (bvals R) ∧ z.cell? ⟨BK, 16, none⟩ = some (.int .i64 2)) (by kernel_rfl) hS0 (fun hHeld => ?_)
    rw [hW2] at hHeld ⊢
    clear hS0 hW2
    have q1 := HQ1.out
    have q2 := HQ2.out
    have q3 := HQ3.out
    refine wpAnyH_take (i := 0) (oi := { dst := Option.some 81, op := Go.Op.fieldAddr 31 (Go.Operand.tmp 8) 2, type := 0, pos := "law.go:73", after := #[], guard := Option.none }) (v := ?_) rfl (by kernel_rfl) (by kernel_rfl) (by kernel_rfl) (fun _ _ _ h => h) (Or.inl ⟨by rfl, ?_⟩) hHeld ?_
    rotate_left
    · intro w hSw
      clear hSw
      go_simp
      try with_reducible rfl
    try simp only [Act.put, List.setIfInBounds_toArray, List.set_cons_zero, List.set_cons_succ]
    refine wpAnyH_take (i := 1) (oi := { dst := Option.some 82, op := Go.Op.load 29 (Go.Operand.tmp 81), type := 29, pos := "law.go:73", after := #[{ on := 0, ground := Go.Ground.data }], guard := Option.none }) (v := ?_) rfl (by kernel_rfl) (by kernel_rfl) (by kernel_rfl) (fun _ _ _ h => h) (Or.inl ⟨by rfl, ?_⟩) hHeld ?_
    rotate_left
    · intro w hSw
      have hfc0 := hSw.2.1
      clear hSw
      go_simp
      try with_reducible rfl
    try simp only [Act.put, List.setIfInBounds_toArray, List.set_cons_zero, List.set_cons_succ]
    refine wpAnyH_take (i := 2) (oi := { dst := Option.some 83, op := Go.Op.indexAddr 29 (Go.Operand.tmp 82) (Go.Operand.const (Go.Value.int Go.IntKind.i64 0)), type := 0, pos := "law.go:73", after := #[{ on := 1, ground := Go.Ground.data }], guard := Option.none }) (v := ?_) rfl (by kernel_rfl) (by kernel_rfl) (by kernel_rfl) (fun _ _ _ h => h) (Or.inl ⟨by rfl, ?_⟩) hHeld ?_
    rotate_left
    · intro w hSw
      clear hSw
      go_simp
      try with_reducible rfl
    try simp only [Act.put, List.setIfInBounds_toArray, List.set_cons_zero, List.set_cons_succ]
    refine wpAnyH_take (i := 3) (oi := { dst := Option.some 84, op := Go.Op.load 23 (Go.Operand.tmp 83), type := 23, pos := "law.go:73", after := #[{ on := 2, ground := Go.Ground.data }], guard := Option.none }) (v := .agg (bvals P3).toArray) rfl (by kernel_rfl) (by kernel_rfl) (by kernel_rfl) (fun _ _ _ h => h) (yieldsIf_load_mid (by rfl) _ _ rfl _ _ rfl (bvals P3) _ (fun w hSw => hSw.2.2.1) Tryd.underlying23 rfl HIP3.out) hHeld ?_
    try simp only [Act.put, List.setIfInBounds_toArray, List.set_cons_zero, List.set_cons_succ]
    refine wpAnyH_take (i := 4) (oi := { dst := Option.some 85, op := Go.Op.load 23 (Go.Operand.tmp 1), type := 23, pos := "law.go:73", after := #[], guard := Option.none }) (v := .agg (bvals S).toArray) rfl (by kernel_rfl) (by kernel_rfl) (by kernel_rfl) (fun _ _ _ h => h) (yieldsIf_load_mid (by rfl) _ _ rfl _ _ rfl (bvals S) _ (fun w hSw => hSw.1) Tryd.underlying23 rfl HIS.out) hHeld ?_
    try simp only [Act.put, List.setIfInBounds_toArray, List.set_cons_zero, List.set_cons_succ]
    refine wpAnyH_ready (rs := [5]) (by kernel_rfl) (by simp) (AllReadyH.cons (o := { dst := Option.some 86, op := Go.Op.call { callee := Go.Callee.value (Go.Operand.func 9), args := #[Go.Operand.tmp 85, Go.Operand.const (Go.Value.int Go.IntKind.u8 3)], argTypes := #[23, 5] }, type := 23, pos := "law.go:73", after := #[{ on := 4, ground := Go.Ground.data }], guard := Option.none }) rfl (fun K hK => ?_) AllReadyH.nil)
    go_simp
    refine (PB3.out _ (chain HW2.out.bl (Below.refl _ _))).mono ?_
    rintro e t5 ⟨rfl, h5⟩
    have b5 : Below W2.heap.size W2 t5 := h5
    go_simp
    refine hK.out _ _ (mkS _ b5) (fun hHeld2 => ?_)
    clear hK K hHeld h5
    have hHeld := hHeld2
    clear hHeld2
    try simp only [Act.put, List.setIfInBounds_toArray, List.set_cons_zero, List.set_cons_succ]
    refine wpAnyH_take (i := 6) (oi := { dst := Option.some 87, op := Go.Op.binOp Go.BinOp.eql 23 (Go.Operand.tmp 84) (Go.Operand.tmp 86) 23, type := 4, pos := "law.go:73", after := #[{ on := 3, ground := Go.Ground.data }, { on := 5, ground := Go.Ground.data }], guard := Option.none }) (v := ?_) rfl (by kernel_rfl) (by kernel_rfl) (by kernel_rfl) (fun _ _ _ h => h) (Or.inl ⟨by rfl, ?_⟩) hHeld ?_
    rotate_left
    · intro w hSw
      clear hSw
      go_simp
      try with_reducible rfl
    try simp only [Act.put, List.setIfInBounds_toArray, List.set_cons_zero, List.set_cons_succ]
    refine wpAnyH_take (i := 7) (oi := { dst := Option.some 88, op := Go.Op.move (Go.Operand.tmp 87), type := 4, pos := "law.go:73", after := #[{ on := 6, ground := Go.Ground.data }, { on := 5, ground := Go.Ground.chain }], guard := Option.none }) (v := ?_) rfl (by kernel_rfl) (by kernel_rfl) (by kernel_rfl) (fun _ _ _ h => h) (Or.inl ⟨by rfl, ?_⟩) hHeld ?_
    rotate_left
    · intro w hSw
      clear hSw
      go_simp
      try with_reducible rfl
    try simp only [Act.put, List.setIfInBounds_toArray, List.set_cons_zero, List.set_cons_succ]
    refine wpAnyH_take (i := 8) (oi := { dst := Option.some 89, op := Go.Op.fieldAddr 31 (Go.Operand.tmp 8) 2, type := 0, pos := "law.go:73", after := #[{ on := 7, ground := Go.Ground.guard }], guard := Option.some (7, Bool.true) }) (v := ?_) rfl (by kernel_rfl) (by kernel_rfl) (by kernel_rfl) (fun _ _ _ h => h) (Or.inl ⟨by rfl, ?_⟩) hHeld ?_
    rotate_left
    · intro w hSw
      clear hSw
      go_simp
      try with_reducible rfl
    try simp only [Act.put, List.setIfInBounds_toArray, List.set_cons_zero, List.set_cons_succ]
    refine wpAnyH_take (i := 9) (oi := { dst := Option.some 90, op := Go.Op.load 29 (Go.Operand.tmp 89), type := 29, pos := "law.go:73", after := #[{ on := 8, ground := Go.Ground.data }, { on := 7, ground := Go.Ground.guard }], guard := Option.some (7, Bool.true) }) (v := ?_) rfl (by kernel_rfl) (by kernel_rfl) (by kernel_rfl) (fun _ _ _ h => h) (Or.inl ⟨by rfl, ?_⟩) hHeld ?_
    rotate_left
    · intro w hSw
      have hfc0 := hSw.2.1
      clear hSw
      go_simp
      try with_reducible rfl
    try simp only [Act.put, List.setIfInBounds_toArray, List.set_cons_zero, List.set_cons_succ]
    refine wpAnyH_take (i := 10) (oi := { dst := Option.some 91, op := Go.Op.indexAddr 29 (Go.Operand.tmp 90) (Go.Operand.const (Go.Value.int Go.IntKind.i64 1)), type := 0, pos := "law.go:73", after := #[{ on := 9, ground := Go.Ground.data }, { on := 7, ground := Go.Ground.guard }], guard := Option.some (7, Bool.true) }) (v := ?_) rfl (by kernel_rfl) (by kernel_rfl) (by kernel_rfl) (fun _ _ _ h => h) (Or.inl ⟨by rfl, ?_⟩) hHeld ?_
    rotate_left
    · intro w hSw
      clear hSw
      go_simp
      try with_reducible rfl
    try simp only [Act.put, List.setIfInBounds_toArray, List.set_cons_zero, List.set_cons_succ]
    refine wpAnyH_take (i := 11) (oi := { dst := Option.some 92, op := Go.Op.load 23 (Go.Operand.tmp 91), type := 23, pos := "law.go:73", after := #[{ on := 10, ground := Go.Ground.data }, { on := 7, ground := Go.Ground.guard }], guard := Option.some (7, Bool.true) }) (v := .agg (bvals LF).toArray) rfl (by kernel_rfl) (by kernel_rfl) (by kernel_rfl) (fun _ _ _ h => h) (yieldsIf_load_mid (by rfl) _ _ rfl _ _ rfl (bvals LF) _ (fun w hSw => hSw.2.2.2.1) Tryd.underlying23 rfl HILF.out) hHeld ?_
    try simp only [Act.put, List.setIfInBounds_toArray, List.set_cons_zero, List.set_cons_succ]
    refine wpAnyH_take (i := 12) (oi := { dst := Option.some 93, op := Go.Op.load 23 (Go.Operand.tmp 16), type := 23, pos := "law.go:73", after := #[{ on := 7, ground := Go.Ground.guard }], guard := Option.some (7, Bool.true) }) (v := .agg (bvals LF).toArray) rfl (by kernel_rfl) (by kernel_rfl) (by kernel_rfl) (fun _ _ _ h => h) (yieldsIf_load_mid (by rfl) _ _ rfl _ _ rfl (bvals LF) _ (fun w hSw => hSw.2.2.2.2.1) Tryd.underlying23 rfl HILF.out) hHeld ?_
    try simp only [Act.put, List.setIfInBounds_toArray, List.set_cons_zero, List.set_cons_succ]
    refine wpAnyH_take (i := 13) (oi := { dst := Option.some 94, op := Go.Op.binOp Go.BinOp.eql 23 (Go.Operand.tmp 92) (Go.Operand.tmp 93) 23, type := 4, pos := "law.go:73", after := #[{ on := 11, ground := Go.Ground.data }, { on := 12, ground := Go.Ground.data }, { on := 7, ground := Go.Ground.guard }], guard := Option.some (7, Bool.true) }) (v := ?_) rfl (by kernel_rfl) (by kernel_rfl) (by kernel_rfl) (fun _ _ _ h => h) (Or.inl ⟨by rfl, ?_⟩) hHeld ?_
    rotate_left
    · intro w hSw
      clear hSw
      go_simp
      try with_reducible rfl
    try simp only [Act.put, List.setIfInBounds_toArray, List.set_cons_zero, List.set_cons_succ]
    refine wpAnyH_take (i := 14) (oi := { dst := Option.some 95, op := Go.Op.pick (Go.Operand.tmp 88) (Go.Operand.tmp 94) (Go.Operand.const (Go.Value.bool Bool.false)), type := 4, pos := "law.go:73", after := #[{ on := 7, ground := Go.Ground.data }, { on := 13, ground := Go.Ground.data }], guard := Option.none }) (v := ?_) rfl (by kernel_rfl) (by kernel_rfl) (by kernel_rfl) (fun _ _ _ h => h) (Or.inl ⟨by rfl, ?_⟩) hHeld ?_
    rotate_left
    · intro w hSw
      clear hSw
      go_simp
      try with_reducible rfl
    try simp only [Act.put, List.setIfInBounds_toArray, List.set_cons_zero, List.set_cons_succ]
    refine wpAnyH_take (i := 15) (oi := { dst := Option.some 96, op := Go.Op.move (Go.Operand.tmp 95), type := 4, pos := "law.go:73", after := #[{ on := 14, ground := Go.Ground.data }, { on := 7, ground := Go.Ground.chain }], guard := Option.none }) (v := ?_) rfl (by kernel_rfl) (by kernel_rfl) (by kernel_rfl) (fun _ _ _ h => h) (Or.inl ⟨by rfl, ?_⟩) hHeld ?_
    rotate_left
    · intro w hSw
      clear hSw
      go_simp
      try with_reducible rfl
    try simp only [Act.put, List.setIfInBounds_toArray, List.set_cons_zero, List.set_cons_succ]
    refine wpAnyH_take (i := 16) (oi := { dst := Option.some 97, op := Go.Op.fieldAddr 25 (Go.Operand.tmp 2) 0, type := 0, pos := "law.go:73", after := #[{ on := 15, ground := Go.Ground.guard }], guard := Option.some (15, Bool.true) }) (v := ?_) rfl (by kernel_rfl) (by kernel_rfl) (by kernel_rfl) (fun _ _ _ h => h) (Or.inl ⟨by rfl, ?_⟩) hHeld ?_
    rotate_left
    · intro w hSw
      clear hSw
      go_simp
      try with_reducible rfl
    try simp only [Act.put, List.setIfInBounds_toArray, List.set_cons_zero, List.set_cons_succ]
    refine wpAnyH_take (i := 17) (oi := { dst := Option.some 98, op := Go.Op.load 23 (Go.Operand.tmp 97), type := 23, pos := "law.go:73", after := #[{ on := 16, ground := Go.Ground.data }, { on := 15, ground := Go.Ground.guard }], guard := Option.some (15, Bool.true) }) (v := .agg (bvals R).toArray) rfl (by kernel_rfl) (by kernel_rfl) (by kernel_rfl) (fun _ _ _ h => h) (yieldsIf_load_mid (by rfl) _ _ rfl _ _ rfl (bvals R) _ (fun w hSw => hSw.2.2.2.2.2.1) Tryd.underlying23 rfl HIR.out) hHeld ?_
    try simp only [Act.put, List.setIfInBounds_toArray, List.set_cons_zero, List.set_cons_succ]
    refine wpAnyH_take (i := 18) (oi := { dst := Option.some 99, op := Go.Op.load 23 (Go.Operand.tmp 16), type := 23, pos := "law.go:73", after := #[{ on := 15, ground := Go.Ground.guard }], guard := Option.some (15, Bool.true) }) (v := .agg (bvals LF).toArray) rfl (by kernel_rfl) (by kernel_rfl) (by kernel_rfl) (fun _ _ _ h => h) (yieldsIf_load_mid (by rfl) _ _ rfl _ _ rfl (bvals LF) _ (fun w hSw => hSw.2.2.2.2.1) Tryd.underlying23 rfl HILF.out) hHeld ?_
    try simp only [Act.put, List.setIfInBounds_toArray, List.set_cons_zero, List.set_cons_succ]
    refine wpAnyH_take (i := 19) (oi := { dst := Option.some 100, op := Go.Op.load 23 (Go.Operand.tmp 1), type := 23, pos := "law.go:73", after := #[{ on := 15, ground := Go.Ground.guard }], guard := Option.some (15, Bool.true) }) (v := .agg (bvals S).toArray) rfl (by kernel_rfl) (by kernel_rfl) (by kernel_rfl) (fun _ _ _ h => h) (yieldsIf_load_mid (by rfl) _ _ rfl _ _ rfl (bvals S) _ (fun w hSw => hSw.1) Tryd.underlying23 rfl HIS.out) hHeld ?_
    try simp only [Act.put, List.setIfInBounds_toArray, List.set_cons_zero, List.set_cons_succ]
    refine wpAnyH_take (i := 21) (oi := { dst := Option.some 102, op := Go.Op.load 23 (Go.Operand.tmp 1), type := 23, pos := "law.go:73", after := #[{ on := 15, ground := Go.Ground.guard }], guard := Option.some (15, Bool.true) }) (v := .agg (bvals S).toArray) rfl (by kernel_rfl) (by kernel_rfl) (by kernel_rfl) (fun _ _ _ h => h) (yieldsIf_load_mid (by rfl) _ _ rfl _ _ rfl (bvals S) _ (fun w hSw => hSw.1) Tryd.underlying23 rfl HIS.out) hHeld ?_
    try simp only [Act.put, List.setIfInBounds_toArray, List.set_cons_zero, List.set_cons_succ]
    refine wpAnyH_ready (rs := [20]) (by kernel_rfl) (by simp) (AllReadyH.cons (o := { dst := Option.some 101, op := Go.Op.call { callee := Go.Callee.value (Go.Operand.func 9), args := #[Go.Operand.tmp 100, Go.Operand.const (Go.Value.int Go.IntKind.u8 2)], argTypes := #[23, 5] }, type := 23, pos := "law.go:73", after := #[{ on := 19, ground := Go.Ground.data }, { on := 15, ground := Go.Ground.chain }, { on := 15, ground := Go.Ground.guard }], guard := Option.some (15, Bool.true) }) rfl (fun K hK => ?_) AllReadyH.nil)
    go_simp
    refine (PB2.out _ (chain HW2.out.bl b5)).mono ?_
    rintro e t20 ⟨rfl, h20⟩
    have b20 : Below W2.heap.size W2 t20 := chain b5 h20
    go_simp
    refine hK.out _ _ (mkS _ b20) (fun hHeld2 => ?_)
    clear hK K hHeld h20
    have hHeld := hHeld2
    clear hHeld2
    try simp only [Act.put, List.setIfInBounds_toArray, List.set_cons_zero, List.set_cons_succ]
    refine wpAnyH_ready (rs := [22]) (by kernel_rfl) (by simp) (AllReadyH.cons (o := { dst := Option.some 103, op := Go.Op.call { callee := Go.Callee.value (Go.Operand.func 9), args := #[Go.Operand.tmp 102, Go.Operand.const (Go.Value.int Go.IntKind.u8 3)], argTypes := #[23, 5] }, type := 23, pos := "law.go:73", after := #[{ on := 21, ground := Go.Ground.data }, { on := 20, ground := Go.Ground.chain }, { on := 15, ground := Go.Ground.guard }], guard := Option.some (15, Bool.true) }) rfl (fun K hK => ?_) AllReadyH.nil)
    go_simp
    refine (PB3.out _ (chain HW2.out.bl b20)).mono ?_
    rintro e t22 ⟨rfl, h22⟩
    have b22 : Below W2.heap.size W2 t22 := chain b20 h22
    go_simp
    refine hK.out _ _ (mkS _ b22) (fun hHeld2 => ?_)
    clear hK K hHeld h22
    have hHeld := hHeld2
    clear hHeld2
    try simp only [Act.put, List.setIfInBounds_toArray, List.set_cons_zero, List.set_cons_succ]
    refine wpAnyH_ready (rs := [23]) (by kernel_rfl) (by simp) (AllReadyH.cons (o := { dst := Option.some 104, op := Go.Op.call { callee := Go.Callee.value (Go.Operand.func 8), args := #[Go.Operand.tmp 101, Go.Operand.tmp 103], argTypes := #[23, 23] }, type := 23, pos := "law.go:73", after := #[{ on := 20, ground := Go.Ground.data }, { on := 22, ground := Go.Ground.data }, { on := 22, ground := Go.Ground.chain }, { on := 15, ground := Go.Ground.guard }], guard := Option.some (15, Bool.true) }) rfl (fun K hK => ?_) AllReadyH.nil)
    go_simp
    refine (UP23.out _ (chain HW2.out.bl b22)).mono ?_
    rintro e t23 ⟨rfl, h23⟩
    have b23 : Below W2.heap.size W2 t23 := chain b22 h23
    go_simp
    refine hK.out _ _ (mkS _ b23) (fun hHeld2 => ?_)
    clear hK K hHeld h23
    have hHeld := hHeld2
    clear hHeld2
    try simp only [Act.put, List.setIfInBounds_toArray, List.set_cons_zero, List.set_cons_succ]
    refine wpAnyH_ready (rs := [24]) (by kernel_rfl) (by simp) (AllReadyH.cons (o := { dst := Option.some 105, op := Go.Op.call { callee := Go.Callee.value (Go.Operand.func 8), args := #[Go.Operand.tmp 99, Go.Operand.tmp 104], argTypes := #[23, 23] }, type := 23, pos := "law.go:73", after := #[{ on := 18, ground := Go.Ground.data }, { on := 23, ground := Go.Ground.data }, { on := 23, ground := Go.Ground.chain }, { on := 15, ground := Go.Ground.guard }], guard := Option.some (15, Bool.true) }) rfl (fun K hK => ?_) AllReadyH.nil)
    go_simp
    refine (UPR.out _ (chain HW2.out.bl b23)).mono ?_
    rintro e t24 ⟨rfl, h24⟩
    have b24 : Below W2.heap.size W2 t24 := chain b23 h24
    go_simp
    refine hK.out _ _ (mkS _ b24) (fun hHeld2 => ?_)
    clear hK K hHeld h24
    have hHeld := hHeld2
    clear hHeld2
    try simp only [Act.put, List.setIfInBounds_toArray, List.set_cons_zero, List.set_cons_succ]
    refine wpAnyH_take (i := 25) (oi := { dst := Option.some 106, op := Go.Op.binOp Go.BinOp.eql 23 (Go.Operand.tmp 98) (Go.Operand.tmp 105) 23, type := 4, pos := "law.go:73", after := #[{ on := 17, ground := Go.Ground.data }, { on := 24, ground := Go.Ground.data }, { on := 15, ground := Go.Ground.guard }], guard := Option.some (15, Bool.true) }) (v := ?_) rfl (by kernel_rfl) (by kernel_rfl) (by kernel_rfl) (fun _ _ _ h => h) (Or.inl ⟨by rfl, ?_⟩) hHeld ?_
    rotate_left
    · intro w hSw
      clear hSw
      go_simp
      try with_reducible rfl
    try simp only [Act.put, List.setIfInBounds_toArray, List.set_cons_zero, List.set_cons_succ]
    refine wpAnyH_take (i := 26) (oi := { dst := Option.some 107, op := Go.Op.pick (Go.Operand.tmp 96) (Go.Operand.tmp 106) (Go.Operand.const (Go.Value.bool Bool.false)), type := 4, pos := "law.go:73", after := #[{ on := 15, ground := Go.Ground.data }, { on := 25, ground := Go.Ground.data }], guard := Option.none }) (v := ?_) rfl (by kernel_rfl) (by kernel_rfl) (by kernel_rfl) (fun _ _ _ h => h) (Or.inl ⟨by rfl, ?_⟩) hHeld ?_
    rotate_left
    · intro w hSw
      clear hSw
      go_simp
      try with_reducible rfl
    try simp only [Act.put, List.setIfInBounds_toArray, List.set_cons_zero, List.set_cons_succ]
    refine wpAnyH_take (i := 27) (oi := { dst := Option.some 108, op := Go.Op.move (Go.Operand.tmp 107), type := 4, pos := "law.go:73", after := #[{ on := 26, ground := Go.Ground.data }, { on := 24, ground := Go.Ground.chain }], guard := Option.none }) (v := ?_) rfl (by kernel_rfl) (by kernel_rfl) (by kernel_rfl) (fun _ _ _ h => h) (Or.inl ⟨by rfl, ?_⟩) hHeld ?_
    rotate_left
    · intro w hSw
      clear hSw
      go_simp
      try with_reducible rfl
    try simp only [Act.put, List.setIfInBounds_toArray, List.set_cons_zero, List.set_cons_succ]
    refine wpAnyH_take (i := 28) (oi := { dst := Option.some 109, op := Go.Op.fieldAddr 25 (Go.Operand.tmp 2) 1, type := 0, pos := "law.go:73", after := #[{ on := 27, ground := Go.Ground.guard }], guard := Option.some (27, Bool.true) }) (v := ?_) rfl (by kernel_rfl) (by kernel_rfl) (by kernel_rfl) (fun _ _ _ h => h) (Or.inl ⟨by rfl, ?_⟩) hHeld ?_
    rotate_left
    · intro w hSw
      clear hSw
      go_simp
      try with_reducible rfl
    try simp only [Act.put, List.setIfInBounds_toArray, List.set_cons_zero, List.set_cons_succ]
    refine wpAnyH_take (i := 29) (oi := { dst := Option.some 110, op := Go.Op.load 3 (Go.Operand.tmp 109), type := 3, pos := "law.go:73", after := #[{ on := 28, ground := Go.Ground.data }, { on := 27, ground := Go.Ground.guard }], guard := Option.some (27, Bool.true) }) (v := ?_) rfl (by kernel_rfl) (by kernel_rfl) (by kernel_rfl) (fun _ _ _ h => h) (Or.inl ⟨by rfl, ?_⟩) hHeld ?_
    rotate_left
    · intro w hSw
      have hfc0 := hSw.2.2.2.2.2.2
      clear hSw
      go_simp
      try with_reducible rfl
    try simp only [Act.put, List.setIfInBounds_toArray, List.set_cons_zero, List.set_cons_succ]
    refine wpAnyH_take (i := 30) (oi := { dst := Option.some 111, op := Go.Op.binOp Go.BinOp.eql 3 (Go.Operand.tmp 110) (Go.Operand.const (Go.Value.int Go.IntKind.i64 2)) 3, type := 4, pos := "law.go:73", after := #[{ on := 29, ground := Go.Ground.data }, { on := 27, ground := Go.Ground.guard }], guard := Option.some (27, Bool.true) }) (v := ?_) rfl (by kernel_rfl) (by kernel_rfl) (by kernel_rfl) (fun _ _ _ h => h) (Or.inl ⟨by rfl, ?_⟩) hHeld ?_
    rotate_left
    · intro w hSw
      clear hSw
      go_simp
      try with_reducible rfl
    try simp only [Act.put, List.setIfInBounds_toArray, List.set_cons_zero, List.set_cons_succ]
    refine wpAnyH_take (i := 31) (oi := { dst := Option.some 112, op := Go.Op.pick (Go.Operand.tmp 108) (Go.Operand.tmp 111) (Go.Operand.const (Go.Value.bool Bool.false)), type := 4, pos := "law.go:73", after := #[{ on := 27, ground := Go.Ground.data }, { on := 30, ground := Go.Ground.data }], guard := Option.none }) (v := ?_) rfl (by kernel_rfl) (by kernel_rfl) (by kernel_rfl) (fun _ _ _ h => h) (Or.inl ⟨by rfl, ?_⟩) hHeld ?_
    rotate_left
    · intro w hSw
      clear hSw
      go_simp
      try with_reducible rfl
    try simp only [Act.put, List.setIfInBounds_toArray, List.set_cons_zero, List.set_cons_succ]
    refine wpAnyH_take (i := 32) (oi := { dst := Option.some 17, op := Go.Op.assign (Go.Operand.tmp 112), type := 4, pos := "law.go:73", after := #[{ on := 31, ground := Go.Ground.data }, { on := 27, ground := Go.Ground.chain }, { on := 0, ground := Go.Ground.phase }, { on := 1, ground := Go.Ground.phase }, { on := 2, ground := Go.Ground.phase }, { on := 3, ground := Go.Ground.phase }, { on := 4, ground := Go.Ground.phase }, { on := 5, ground := Go.Ground.phase }, { on := 6, ground := Go.Ground.phase }, { on := 7, ground := Go.Ground.phase }, { on := 8, ground := Go.Ground.phase }, { on := 9, ground := Go.Ground.phase }, { on := 10, ground := Go.Ground.phase }, { on := 11, ground := Go.Ground.phase }, { on := 12, ground := Go.Ground.phase }, { on := 13, ground := Go.Ground.phase }, { on := 14, ground := Go.Ground.phase }, { on := 15, ground := Go.Ground.phase }, { on := 16, ground := Go.Ground.phase }, { on := 17, ground := Go.Ground.phase }, { on := 18, ground := Go.Ground.phase }, { on := 19, ground := Go.Ground.phase }, { on := 20, ground := Go.Ground.phase }, { on := 21, ground := Go.Ground.phase }, { on := 22, ground := Go.Ground.phase }, { on := 23, ground := Go.Ground.phase }, { on := 24, ground := Go.Ground.phase }, { on := 25, ground := Go.Ground.phase }, { on := 26, ground := Go.Ground.phase }, { on := 27, ground := Go.Ground.phase }, { on := 28, ground := Go.Ground.phase }, { on := 29, ground := Go.Ground.phase }, { on := 30, ground := Go.Ground.phase }, { on := 31, ground := Go.Ground.phase }], guard := Option.none }) (v := ?_) rfl (by kernel_rfl) (by kernel_rfl) (by kernel_rfl) (fun _ _ _ h => h) (Or.inl ⟨by rfl, ?_⟩) hHeld ?_
    rotate_left
    · intro w hSw
      clear hSw
      go_simp
      try with_reducible rfl
    try simp only [Act.put, List.setIfInBounds_toArray, List.set_cons_zero, List.set_cons_succ]
    refine wpAnyH_done (by kernel_rfl) ?_ _
    clear mkS q1 q2 q3
    have HN19 := Lib.hid (HW2.out.on b24)
    clear HW2
    clear b5 b20 b22 b23 b24 hHeld
    obtain ⟨_, hc0, hc1, hc2⟩ := facts3 (HN19.out.row 1 (BG) (#[.int .i64 2, .slice (some ⟨X, 0, none⟩) 35 35, .slice (some ⟨g, oo, none⟩) 2 pc]) 31 rfl)
    have hcl := (Array.getElem?_eq_some_iff.1 (HN19.out.row 1 (BG) (#[.int .i64 2, .slice (some ⟨X, 0, none⟩) 35 35, .slice (some ⟨g, oo, none⟩) 2 pc]) 31 rfl)).1
    go_wp2_with fail
    refine (TW.out _ HN19.out.bl (HN19.out.sho 1 (some ⟨X, 0, none⟩) SG rfl) (HN19.out.sho 0 (some ⟨g, oo, none⟩) PT rfl)).mono ?_
    rintro e w20 ⟨a1, a2, a3, a4, rfl, hs1, hs2, hb, hm1, hm2⟩
    clear hc0 hc1 hc2 hcl
    have HN20 := Lib.hid (HN19.out.on hb)
    clear HN19
    have HN21 : RowKit.Hid (NS w [(BL, bcells LF, 23), (BG, #[.int .i64 2, .slice (some ⟨X, 0, none⟩) 35 35, .slice (some ⟨g, oo, none⟩) 2 pc], 31), (BK, PK, 25), (BS, bcells S, 23)] [(a1, SG), (some ⟨g, oo, none⟩, PT), (some ⟨X, 0, none⟩, SG)] w20) := Lib.hid (HN20.out.hold hs1)
    clear HN20 hs1
    have HN22 : RowKit.Hid (NS w [(BL, bcells LF, 23), (BG, #[.int .i64 2, .slice (some ⟨X, 0, none⟩) 35 35, .slice (some ⟨g, oo, none⟩) 2 pc], 31), (BK, PK, 25), (BS, bcells S, 23)] [(a2, PT), (a1, SG), (some ⟨g, oo, none⟩, PT), (some ⟨X, 0, none⟩, SG)] w20) := Lib.hid (HN21.out.hold hs2)
    clear HN21 hs2
    have Ha1 := Lib.hid hm1
    have Ha2 := Lib.hid hm2
    have q1 : 34 ≤ a3 := by rw [HSGL.out] at hm1; omega
    have q2 : 1 ≤ a4 := by rw [HPTL.out] at hm2; omega
    clear hb hm1 hm2
    go_upto_region 15 with (fail)
    generalize hV : World.alloc w20 _ = V23
    simp only [HSGL.out, HPTL.out] at hV
    have HN23 : RowKit.Hid (NS w [(w20.heap.size, #[.int .i64 4, .slice a1 35 a3, .slice a2 2 a4], 31), (BL, bcells LF, 23), (BG, #[.int .i64 2, .slice (some ⟨X, 0, none⟩) 35 35, .slice (some ⟨g, oo, none⟩) 2 pc], 31), (BK, PK, 25), (BS, bcells S, 23)] [(a2, PT), (a1, SG), (some ⟨g, oo, none⟩, PT), (some ⟨X, 0, none⟩, SG)] V23) := Lib.hid (HN22.out.put hV.symm)
    obtain ⟨BB, hBB⟩ : ∃ BB, w20.heap.size = BB := ⟨_, rfl⟩
    rw [hBB] at HN23
    try simp only [hBB]
    clear hV hBB HN22
    clear q1 q2
    obtain ⟨_, hc0, hc1, hc2⟩ := facts3 (HN23.out.row 2 (BG) (#[.int .i64 2, .slice (some ⟨X, 0, none⟩) 35 35, .slice (some ⟨g, oo, none⟩) 2 pc]) 31 rfl)
    have hcl := (Array.getElem?_eq_some_iff.1 (HN23.out.row 2 (BG) (#[.int .i64 2, .slice (some ⟨X, 0, none⟩) 35 35, .slice (some ⟨g, oo, none⟩) 2 pc]) 31 rfl)).1
    go_wp2_with fail
    refine (TW.out _ HN23.out.bl (HN23.out.sho 3 (some ⟨X, 0, none⟩) SG rfl) (HN23.out.sho 2 (some ⟨g, oo, none⟩) PT rfl)).mono ?_
    rintro e w24 ⟨b1, b2, b3, b4, rfl, hs1, hs2, hb, hm1, hm2⟩
    clear hc0 hc1 hc2 hcl
    have HN24 := Lib.hid (HN23.out.on hb)
    clear HN23
    have HN25 : RowKit.Hid (NS w [(BB, #[.int .i64 4, .slice a1 35 a3, .slice a2 2 a4], 31), (BL, bcells LF, 23), (BG, #[.int .i64 2, .slice (some ⟨X, 0, none⟩) 35 35, .slice (some ⟨g, oo, none⟩) 2 pc], 31), (BK, PK, 25), (BS, bcells S, 23)] [(b1, SG), (a2, PT), (a1, SG), (some ⟨g, oo, none⟩, PT), (some ⟨X, 0, none⟩, SG)] w24) := Lib.hid (HN24.out.hold hs1)
    clear HN24 hs1
    have HN26 : RowKit.Hid (NS w [(BB, #[.int .i64 4, .slice a1 35 a3, .slice a2 2 a4], 31), (BL, bcells LF, 23), (BG, #[.int .i64 2, .slice (some ⟨X, 0, none⟩) 35 35, .slice (some ⟨g, oo, none⟩) 2 pc], 31), (BK, PK, 25), (BS, bcells S, 23)] [(b2, PT), (b1, SG), (a2, PT), (a1, SG), (some ⟨g, oo, none⟩, PT), (some ⟨X, 0, none⟩, SG)] w24) := Lib.hid (HN25.out.hold hs2)
    clear HN25 hs2
    have Hb1 := Lib.hid hm1
    have Hb2 := Lib.hid hm2
    have q1 : 34 ≤ b3 := by rw [HSGL.out] at hm1; omega
    have q2 : 1 ≤ b4 := by rw [HPTL.out] at hm2; omega
    clear hb hm1 hm2
    go_upto_region 17 with (fail)
    generalize hV : World.alloc w24 _ = V27
    simp only [HSGL.out, HPTL.out] at hV
    have HN27 : RowKit.Hid (NS w [(w24.heap.size, #[.int .i64 2, .slice b1 35 b3, .slice b2 1 b4], 31), (BB, #[.int .i64 4, .slice a1 35 a3, .slice a2 2 a4], 31), (BL, bcells LF, 23), (BG, #[.int .i64 2, .slice (some ⟨X, 0, none⟩) 35 35, .slice (some ⟨g, oo, none⟩) 2 pc], 31), (BK, PK, 25), (BS, bcells S, 23)] [(b2, PT), (b1, SG), (a2, PT), (a1, SG), (some ⟨g, oo, none⟩, PT), (some ⟨X, 0, none⟩, SG)] V27) := Lib.hid (HN26.out.put hV.symm)
    obtain ⟨BT, hBT⟩ : ∃ BT, w24.heap.size = BT := ⟨_, rfl⟩
    rw [hBT] at HN27
    try simp only [hBT]
    clear hV hBT HN26
    clear q1 q2
    obtain ⟨_, hc0, hc1, hc2⟩ := facts3 (HN27.out.row 3 (BG) (#[.int .i64 2, .slice (some ⟨X, 0, none⟩) 35 35, .slice (some ⟨g, oo, none⟩) 2 pc]) 31 rfl)
    have hcl := (Array.getElem?_eq_some_iff.1 (HN27.out.row 3 (BG) (#[.int .i64 2, .slice (some ⟨X, 0, none⟩) 35 35, .slice (some ⟨g, oo, none⟩) 2 pc]) 31 rfl)).1
    go_wp2_with fail
    refine (TW.out _ HN27.out.bl (HN27.out.sho 5 (some ⟨X, 0, none⟩) SG rfl) (HN27.out.sho 4 (some ⟨g, oo, none⟩) PT rfl)).mono ?_
    rintro e w28 ⟨c1, c2, c3, c4, rfl, hs1, hs2, hb, hm1, hm2⟩
    clear hc0 hc1 hc2 hcl
    have HN28 := Lib.hid (HN27.out.on hb)
    clear HN27
    have HN29 : RowKit.Hid (NS w [(BT, #[.int .i64 2, .slice b1 35 b3, .slice b2 1 b4], 31), (BB, #[.int .i64 4, .slice a1 35 a3, .slice a2 2 a4], 31), (BL, bcells LF, 23), (BG, #[.int .i64 2, .slice (some ⟨X, 0, none⟩) 35 35, .slice (some ⟨g, oo, none⟩) 2 pc], 31), (BK, PK, 25), (BS, bcells S, 23)] [(c1, SG), (b2, PT), (b1, SG), (a2, PT), (a1, SG), (some ⟨g, oo, none⟩, PT), (some ⟨X, 0, none⟩, SG)] w28) := Lib.hid (HN28.out.hold hs1)
    clear HN28 hs1
    have HN30 : RowKit.Hid (NS w [(BT, #[.int .i64 2, .slice b1 35 b3, .slice b2 1 b4], 31), (BB, #[.int .i64 4, .slice a1 35 a3, .slice a2 2 a4], 31), (BL, bcells LF, 23), (BG, #[.int .i64 2, .slice (some ⟨X, 0, none⟩) 35 35, .slice (some ⟨g, oo, none⟩) 2 pc], 31), (BK, PK, 25), (BS, bcells S, 23)] [(c2, PT), (c1, SG), (b2, PT), (b1, SG), (a2, PT), (a1, SG), (some ⟨g, oo, none⟩, PT), (some ⟨X, 0, none⟩, SG)] w28) := Lib.hid (HN29.out.hold hs2)
    clear HN29 hs2
    have Hc1 := Lib.hid hm1
    have Hc2 := Lib.hid hm2
    have q1 : 34 ≤ c3 := by rw [HSGL.out] at hm1; omega
    have q2 : 1 ≤ c4 := by rw [HPTL.out] at hm2; omega
    clear hb hm1 hm2
    go_upto_region 19 with (fail)
    generalize hV : World.alloc w28 _ = V31
    simp only [HSGL.out, HPTL.out] at hV
    have HN31 : RowKit.Hid (NS w [(w28.heap.size, #[.int .i64 2, .slice c1 34 c3, .slice c2 2 c4], 31), (BT, #[.int .i64 2, .slice b1 35 b3, .slice b2 1 b4], 31), (BB, #[.int .i64 4, .slice a1 35 a3, .slice a2 2 a4], 31), (BL, bcells LF, 23), (BG, #[.int .i64 2, .slice (some ⟨X, 0, none⟩) 35 35, .slice (some ⟨g, oo, none⟩) 2 pc], 31), (BK, PK, 25), (BS, bcells S, 23)] [(c2, PT), (c1, SG), (b2, PT), (b1, SG), (a2, PT), (a1, SG), (some ⟨g, oo, none⟩, PT), (some ⟨X, 0, none⟩, SG)] V31) := Lib.hid (HN30.out.put hV.symm)
    obtain ⟨BF, hBF⟩ : ∃ BF, w28.heap.size = BF := ⟨_, rfl⟩
    rw [hBF] at HN31
    try simp only [hBF]
    clear hV hBF HN30
    clear q1 q2
    obtain ⟨_, hc0, hc1, hc2⟩ := facts3 (HN31.out.row 4 (BG) (#[.int .i64 2, .slice (some ⟨X, 0, none⟩) 35 35, .slice (some ⟨g, oo, none⟩) 2 pc]) 31 rfl)
    have hcl := (Array.getElem?_eq_some_iff.1 (HN31.out.row 4 (BG) (#[.int .i64 2, .slice (some ⟨X, 0, none⟩) 35 35, .slice (some ⟨g, oo, none⟩) 2 pc]) 31 rfl)).1
    go_wp2_with fail
    refine (CK0.out _ _ _ _ _).mono ?_
    rintro e w32 ⟨rfl, hb⟩
    have HN32 := Lib.hid (HN31.out.on hb)
    clear HN31
    clear hb
    clear hc0 hc1 hc2 hcl
    obtain ⟨_, hc0, hc1, hc2⟩ := facts3 (HN32.out.row 4 (BG) (#[.int .i64 2, .slice (some ⟨X, 0, none⟩) 35 35, .slice (some ⟨g, oo, none⟩) 2 pc]) 31 rfl)
    have hcl := (Array.getElem?_eq_some_iff.1 (HN32.out.row 4 (BG) (#[.int .i64 2, .slice (some ⟨X, 0, none⟩) 35 35, .slice (some ⟨g, oo, none⟩) 2 pc]) 31 rfl)).1
    go_wp2_with fail
    refine (CK5.out _ _ _ _ _).mono ?_
    rintro e w33 ⟨rfl, hb⟩
    have HN33 := Lib.hid (HN32.out.on hb)
    clear HN32
    clear hb
    clear hc0 hc1 hc2 hcl
    obtain ⟨_, hc0, hc1, hc2⟩ := facts3 (HN33.out.row 4 (BG) (#[.int .i64 2, .slice (some ⟨X, 0, none⟩) 35 35, .slice (some ⟨g, oo, none⟩) 2 pc]) 31 rfl)
    have hcl := (Array.getElem?_eq_some_iff.1 (HN33.out.row 4 (BG) (#[.int .i64 2, .slice (some ⟨X, 0, none⟩) 35 35, .slice (some ⟨g, oo, none⟩) 2 pc]) 31 rfl)).1
    go_wp2_with fail
    refine (CKM.out _ _ _ _ _).mono ?_
    rintro e w34 ⟨rfl, hb⟩
    have HN34 := Lib.hid (HN33.out.on hb)
    clear HN33
    clear hb
    clear hc0 hc1 hc2 hcl
    obtain ⟨_, hc0, hc1, hc2⟩ := facts3 (HN34.out.row 2 (BB) (#[.int .i64 4, .slice a1 35 a3, .slice a2 2 a4]) 31 rfl)
    have hcl := (Array.getElem?_eq_some_iff.1 (HN34.out.row 2 (BB) (#[.int .i64 4, .slice a1 35 a3, .slice a2 2 a4]) 31 rfl)).1
    go_wp2_with fail
    refine (CKB.out _ _ _ _ _).mono ?_
    rintro e w35 ⟨rfl, hb⟩
    have HN35 := Lib.hid (HN34.out.on hb)
    clear HN34
    clear hb
    clear hc0 hc1 hc2 hcl
    obtain ⟨_, hc0, hc1, hc2⟩ := facts3 (HN35.out.row 1 (BT) (#[.int .i64 2, .slice b1 35 b3, .slice b2 1 b4]) 31 rfl)
    have hcl := (Array.getElem?_eq_some_iff.1 (HN35.out.row 1 (BT) (#[.int .i64 2, .slice b1 35 b3, .slice b2 1 b4]) 31 rfl)).1
    go_wp2_with fail
    refine (CKS.out _ _ _ _ _).mono ?_
    rintro e w36 ⟨rfl, hb⟩
    have HN36 := Lib.hid (HN35.out.on hb)
    clear HN35
    clear hb
    clear hc0 hc1 hc2 hcl
    obtain ⟨_, hc0, hc1, hc2⟩ := facts3 (HN36.out.row 0 (BF) (#[.int .i64 2, .slice c1 34 c3, .slice c2 2 c4]) 31 rfl)
    have hcl := (Array.getElem?_eq_some_iff.1 (HN36.out.row 0 (BF) (#[.int .i64 2, .slice c1 34 c3, .slice c2 2 c4]) 31 rfl)).1
    go_wp2_with fail
    refine (CKF.out _ _ _ _ _).mono ?_
    rintro e w37 ⟨rfl, hb⟩
    have HN37 := Lib.hid (HN36.out.on hb)
    clear HN36
    clear hb
    clear hc0 hc1 hc2 hcl
    obtain ⟨_, hc0, hc1, hc2⟩ := facts3 (HN37.out.row 4 (BG) (#[.int .i64 2, .slice (some ⟨X, 0, none⟩) 35 35, .slice (some ⟨g, oo, none⟩) 2 pc]) 31 rfl)
    have hcl := (Array.getElem?_eq_some_iff.1 (HN37.out.row 4 (BG) (#[.int .i64 2, .slice (some ⟨X, 0, none⟩) 35 35, .slice (some ⟨g, oo, none⟩) 2 pc]) 31 rfl)).1
    go_wp2_with fail
    refine (CK3.out _ _ _ _ _).mono ?_
    rintro e w38 ⟨rfl, hb⟩
    have HN38 := Lib.hid (HN37.out.on hb)
    clear HN37
    clear hb
    clear hc0 hc1 hc2 hcl
    obtain ⟨_, hc0, hc1, hc2⟩ := facts3 (HN38.out.row 2 (BB) (#[.int .i64 4, .slice a1 35 a3, .slice a2 2 a4]) 31 rfl)
    have hcl := (Array.getElem?_eq_some_iff.1 (HN38.out.row 2 (BB) (#[.int .i64 4, .slice a1 35 a3, .slice a2 2 a4]) 31 rfl)).1
    go_wp2_with fail
    refine (ROB.out _ _ _ _ _).mono ?_
    rintro e w39 ⟨rfl, hb⟩
    have HN39 := Lib.hid (HN38.out.on hb)
    clear HN38
    clear hb
    clear hc0 hc1 hc2 hcl
    go_upto_region 21 with (refine wpList_store_row rfl 23 (.tmp 22) (.tmp 164) rfl w39.heap.size (bcells Z16) rfl rfl 23 _ (heap_alloc_new _ _) HSZ0.out HSO0.out (bcells_one _) ?_)
    rw [World.setRow_alloc_new]
    generalize hV : World.alloc w39 _ = V40
    have HN40 := Lib.hid (HN39.out.on (show Below w39.heap.size w39 V40 by rw [← hV]; exact below_new _ _))
    clear hV HN39
    obtain ⟨_, hc0, hc1, hc2⟩ := facts3 (HN40.out.row 4 (BG) (#[.int .i64 2, .slice (some ⟨X, 0, none⟩) 35 35, .slice (some ⟨g, oo, none⟩) 2 pc]) 31 rfl)
    have hcl := (Array.getElem?_eq_some_iff.1 (HN40.out.row 4 (BG) (#[.int .i64 2, .slice (some ⟨X, 0, none⟩) 35 35, .slice (some ⟨g, oo, none⟩) 2 pc]) 31 rfl)).1
    go_wp2_with fail
    refine (RO9.out _ _ _ _ _).mono ?_
    rintro e w41 ⟨rfl, hb⟩
    have HN41 := Lib.hid (HN40.out.on hb)
    clear HN40
    clear hb
    clear hc0 hc1 hc2 hcl
    go_upto_region 22 with (refine wpList_store_row rfl 23 (.tmp 24) (.tmp 169) rfl w41.heap.size (bcells Z16) rfl rfl 23 _ (heap_alloc_new _ _) HSZ0.out HSO0.out (bcells_one _) ?_)
    rw [World.setRow_alloc_new]
    generalize hV : World.alloc w41 _ = V42
    have HN42 := Lib.hid (HN41.out.on (show Below w41.heap.size w41 V42 by rw [← hV]; exact below_new _ _))
    clear hV HN41
    obtain ⟨_, hc0, hc1, hc2⟩ := facts3 (HN42.out.row 4 (BG) (#[.int .i64 2, .slice (some ⟨X, 0, none⟩) 35 35, .slice (some ⟨g, oo, none⟩) 2 pc]) 31 rfl)
    have hcl := (Array.getElem?_eq_some_iff.1 (HN42.out.row 4 (BG) (#[.int .i64 2, .slice (some ⟨X, 0, none⟩) 35 35, .slice (some ⟨g, oo, none⟩) 2 pc]) 31 rfl)).1
    go_wp2_with fail
    refine (TW.out _ HN42.out.bl (HN42.out.sho 7 (some ⟨X, 0, none⟩) SG rfl) (HN42.out.sho 6 (some ⟨g, oo, none⟩) PT rfl)).mono ?_
    rintro e w43 ⟨d1, d2, d3, d4, rfl, hs1, hs2, hb, hm1, hm2⟩
    clear hc0 hc1 hc2 hcl
    have HN43 := Lib.hid (HN42.out.on hb)
    clear HN42
    have HN44 : RowKit.Hid (NS w [(BF, #[.int .i64 2, .slice c1 34 c3, .slice c2 2 c4], 31), (BT, #[.int .i64 2, .slice b1 35 b3, .slice b2 1 b4], 31), (BB, #[.int .i64 4, .slice a1 35 a3, .slice a2 2 a4], 31), (BL, bcells LF, 23), (BG, #[.int .i64 2, .slice (some ⟨X, 0, none⟩) 35 35, .slice (some ⟨g, oo, none⟩) 2 pc], 31), (BK, PK, 25), (BS, bcells S, 23)] [(d1, SG), (c2, PT), (c1, SG), (b2, PT), (b1, SG), (a2, PT), (a1, SG), (some ⟨g, oo, none⟩, PT), (some ⟨X, 0, none⟩, SG)] w43) := Lib.hid (HN43.out.hold hs1)
    clear HN43 hs1
    have HN45 : RowKit.Hid (NS w [(BF, #[.int .i64 2, .slice c1 34 c3, .slice c2 2 c4], 31), (BT, #[.int .i64 2, .slice b1 35 b3, .slice b2 1 b4], 31), (BB, #[.int .i64 4, .slice a1 35 a3, .slice a2 2 a4], 31), (BL, bcells LF, 23), (BG, #[.int .i64 2, .slice (some ⟨X, 0, none⟩) 35 35, .slice (some ⟨g, oo, none⟩) 2 pc], 31), (BK, PK, 25), (BS, bcells S, 23)] [(d2, PT), (d1, SG), (c2, PT), (c1, SG), (b2, PT), (b1, SG), (a2, PT), (a1, SG), (some ⟨g, oo, none⟩, PT), (some ⟨X, 0, none⟩, SG)] w43) := Lib.hid (HN44.out.hold hs2)
    clear HN44 hs2
    have Hd1 := Lib.hid hm1
    have Hd2 := Lib.hid hm2
    have q1 : 34 ≤ d3 := by rw [HSGL.out] at hm1; omega
    have q2 : 1 ≤ d4 := by rw [HPTL.out] at hm2; omega
    clear hb hm1 hm2
    go_upto_region 24 with (fail)
    generalize hV : World.alloc w43 _ = V46
    simp only [HSGL.out, HPTL.out] at hV
    have HN46 : RowKit.Hid (NS w [(w43.heap.size, #[.int .i64 3, .slice d1 35 d3, .slice d2 2 d4], 31), (BF, #[.int .i64 2, .slice c1 34 c3, .slice c2 2 c4], 31), (BT, #[.int .i64 2, .slice b1 35 b3, .slice b2 1 b4], 31), (BB, #[.int .i64 4, .slice a1 35 a3, .slice a2 2 a4], 31), (BL, bcells LF, 23), (BG, #[.int .i64 2, .slice (some ⟨X, 0, none⟩) 35 35, .slice (some ⟨g, oo, none⟩) 2 pc], 31), (BK, PK, 25), (BS, bcells S, 23)] [(d2, PT), (d1, SG), (c2, PT), (c1, SG), (b2, PT), (b1, SG), (a2, PT), (a1, SG), (some ⟨g, oo, none⟩, PT), (some ⟨X, 0, none⟩, SG)] V46) := Lib.hid (HN45.out.put hV.symm)
    obtain ⟨BO, hBO⟩ : ∃ BO, w43.heap.size = BO := ⟨_, rfl⟩
    rw [hBO] at HN46
    try simp only [hBO]
    clear hV hBO HN45
    clear q1 q2
    obtain ⟨_, hc0, hc1, hc2⟩ := facts3 (HN46.out.row 3 (BB) (#[.int .i64 4, .slice a1 35 a3, .slice a2 2 a4]) 31 rfl)
    have hcl := (Array.getElem?_eq_some_iff.1 (HN46.out.row 3 (BB) (#[.int .i64 4, .slice a1 35 a3, .slice a2 2 a4]) 31 rfl)).1
    go_wp2_with (refine wpList_load_row rfl 25 (.tmp 2) rfl BK rfl 25 PK (0, 0) _ (HN46.out.row 6 (BK) (PK) 25 rfl) Tryd.underlying25 rfl HSZP.out ?_)
    refine (VEB.out _ _ _ _ _ HN46.out.bl (HN46.out.sho 7 (a1) SG rfl) (HN46.out.sho 6 (a2) PT rfl)).mono ?_
    rintro e w47 ⟨rfl, hb⟩
    have HN47 := Lib.hid (HN46.out.on hb)
    clear HN46
    clear hb
    clear hc0 hc1 hc2 hcl
    obtain ⟨_, hc0, hc1, hc2⟩ := facts3 (HN47.out.row 0 (BO) (#[.int .i64 3, .slice d1 35 d3, .slice d2 2 d4]) 31 rfl)
    have hcl := (Array.getElem?_eq_some_iff.1 (HN47.out.row 0 (BO) (#[.int .i64 3, .slice d1 35 d3, .slice d2 2 d4]) 31 rfl)).1
    go_wp2_with (refine wpList_load_wantedS (by rfl) 25 (.tmp 2) rfl BK rfl 25 PK (0, 0) (HN47.out.row 6 (BK) (PK) 25 rfl) Tryd.underlying25 HSZP.out ?_)
    refine (VEO.out _ _ _ _ _ HN47.out.bl (HN47.out.sho 1 (d1) SG rfl) (HN47.out.sho 0 (d2) PT rfl)).mono ?_
    rintro e w48 ⟨rfl, hb⟩
    have HN48 := Lib.hid (HN47.out.on hb)
    clear HN47
    clear hb
    clear hc0 hc1 hc2 hcl
    obtain ⟨_, hc0, hc1, hc2⟩ := facts3 (HN48.out.row 5 (BG) (#[.int .i64 2, .slice (some ⟨X, 0, none⟩) 35 35, .slice (some ⟨g, oo, none⟩) 2 pc]) 31 rfl)
    have hcl := (Array.getElem?_eq_some_iff.1 (HN48.out.row 5 (BG) (#[.int .i64 2, .slice (some ⟨X, 0, none⟩) 35 35, .slice (some ⟨g, oo, none⟩) 2 pc]) 31 rfl)).1
    have HRG : RowKit.Hid (w48.rangeAt BK 0 (bvals R)) := Lib.hid (rangeAt_pkc (by rw [HPK.out]; exact (HN48.out.row 6 (BK) (PK) 25 rfl)))
    have hfs := foldset_size (bvals R) 0 #[.int .u8 0, .int .u8 0, .int .u8 0, .int .u8 0, .int .u8 0, .int .u8 0, .int .u8 0, .int .u8 0, .int .u8 0, .int .u8 0, .int .u8 0, .int .u8 0, .int .u8 0, .int .u8 0, .int .u8 0, .int .u8 0, .int .i64 0]
    have hbl := HBL.out
    go_wp2_with (refine wpList_load_wantedM (by rfl) 23 (.tmp 185) rfl BK 0 rfl (bvals R) _ _ HRG.out Tryd.underlying23 HIR.out ?_)
    clear hfs hbl HRG
    rw [build17 R HR16.out 3]
    refine (VE3.out _ _ _ _ _ HN48.out.bl (HN48.out.sho 9 (some ⟨X, 0, none⟩) SG rfl) (HN48.out.sho 8 (some ⟨g, oo, none⟩) PT rfl)).mono ?_
    rintro e w49 ⟨rfl, hb⟩
    have HN49 := Lib.hid (HN48.out.on hb)
    clear HN48
    clear hb
    clear hc0 hc1 hc2 hcl
    obtain ⟨_, hc0, hc1, hc2⟩ := facts3 (HN49.out.row 5 (BG) (#[.int .i64 2, .slice (some ⟨X, 0, none⟩) 35 35, .slice (some ⟨g, oo, none⟩) 2 pc]) 31 rfl)
    have hcl := (Array.getElem?_eq_some_iff.1 (HN49.out.row 5 (BG) (#[.int .i64 2, .slice (some ⟨X, 0, none⟩) 35 35, .slice (some ⟨g, oo, none⟩) 2 pc]) 31 rfl)).1
    have HRG : RowKit.Hid (w49.rangeAt BK 0 (bvals R)) := Lib.hid (rangeAt_pkc (by rw [HPK.out]; exact (HN49.out.row 6 (BK) (PK) 25 rfl)))
    have hfs := foldset_size (bvals R) 0 #[.int .u8 0, .int .u8 0, .int .u8 0, .int .u8 0, .int .u8 0, .int .u8 0, .int .u8 0, .int .u8 0, .int .u8 0, .int .u8 0, .int .u8 0, .int .u8 0, .int .u8 0, .int .u8 0, .int .u8 0, .int .u8 0, .int .i64 0]
    have hbl := HBL.out
    go_wp2_with (refine wpList_load_wantedM (by rfl) 23 (.tmp 193) rfl BK 0 rfl (bvals R) _ _ HRG.out Tryd.underlying23 HIR.out ?_)
    clear hfs hbl HRG
    rw [build17 R HR16.out 4611686018427387904]
    refine (VE6.out _ _ _ _ _ HN49.out.bl (HN49.out.sho 9 (some ⟨X, 0, none⟩) SG rfl) (HN49.out.sho 8 (some ⟨g, oo, none⟩) PT rfl)).mono ?_
    rintro e w50 ⟨rfl, hb⟩
    have HN50 := Lib.hid (HN49.out.on hb)
    clear HN49
    clear hb
    clear hc0 hc1 hc2 hcl
    obtain ⟨_, hc0, hc1, hc2⟩ := facts3 (HN50.out.row 5 (BG) (#[.int .i64 2, .slice (some ⟨X, 0, none⟩) 35 35, .slice (some ⟨g, oo, none⟩) 2 pc]) 31 rfl)
    have hcl := (Array.getElem?_eq_some_iff.1 (HN50.out.row 5 (BG) (#[.int .i64 2, .slice (some ⟨X, 0, none⟩) 35 35, .slice (some ⟨g, oo, none⟩) 2 pc]) 31 rfl)).1
    go_wp2_with (refine wpList_load_wantedS (by rfl) 25 (.tmp 2) rfl BK rfl 25 PK (0, 0) (HN50.out.row 6 (BK) (PK) 25 rfl) Tryd.underlying25 HSZP.out ?_)
    refine (VES.out _ _ _ _ _ HN50.out.bl (HN50.out.sho 9 (some ⟨X, 0, none⟩) SG rfl) (HN50.out.sho 8 (some ⟨g, oo, none⟩) PT rfl)).mono ?_
    rintro e w51 ⟨rfl, hb⟩
    have HN51 := Lib.hid (HN50.out.on hb)
    clear HN50
    clear hb
    clear hc0 hc1 hc2 hcl
    go_wp2_with fail
    refine (AL.out _ HN51.out.bl).mono ?_
    rintro e w52 ⟨rfl, hb⟩
    have HN52 := Lib.hid (HN51.out.on hb)
    clear HN51
    clear hb
    go_wp2_with fail
    go_ret
    exact ⟨rfl, HN52.out.bl⟩
set_option maxRecDepth 100000 in
theorem names7_lifted (os : Os) (started : os.Started) (H : Type) (enc : TypeId × Value → H) :
    ReturnsInHanded {} Tryd.checked os 3 .any (fun w args => (Rows.merkleNamesSpec.pre enc Tryd.prog Tryd.f3 Rows.merkleNamesRow.domain false w args ∧ laidMet Tryd.prog laidDig w) ∧ sizedMet enc Tryd.prog Tryd.f3 (OpenSpec.ofChange Rows.merkleNamesSpec) false w args)
      (Rows.merkleNamesSpec.post enc Tryd.prog Tryd.f3 false true false false) := by
  refine returns_laid (C := Tryd.checked) (X := fun w => laidMet Tryd.prog laidDig w) (fun _ _ hh h => h.of_heap hh) Tryd.own started (by kernel_rfl) Tryd.func3
    (ChangeSpec.witness_at (enc := enc) (C := Tryd.checked) (os := os) (X := fun w _ => laidMet Tryd.prog laidDig w) false (laidWorldD os) #[] 8 rfl (by kernel_rfl) (by kernel_rfl) (by kernel_rfl) (by kernel_rfl) (by kernel_rfl) (laidWorldD_met os _)) ?_
  intro W base args ds gs before hval0 hW hL hsh
  have hval : ∀ (j : Nat) t v, Tryd.f3.params[j]? = some t → args[j]? = some v → Value.okWide Tryd.prog W .any base t v := hval0
  have env := denv_of_laid hL
  have hW' := hW
  obtain ⟨p, q, hA0, hV, rfl, hfz, hnd⟩ := hW
  have hA : DataW.TrodAll enc Tryd.prog W 0 (fun _ => true) true Tryd.f3.params.toList args.toList ds p := hA0
  rw [Tryd.params3] at hA hval
  obtain ⟨hargs, rfl, rfl⟩ := trodAll_nil hA
  obtain rfl : args = #[] := by cases args; simp_all
  obtain ⟨rfl, rfl⟩ := trodVars_none hV
  refine (names7_true  W  env).mono fun e W' ⟨he, hg⟩ => ?_
  subst he
  exact ⟨_, rfl, law_post Tryd.laidOut (by kernel_rfl) (by kernel_rfl) hW' hg (trodAll_cons_mk (shut_bool Tryd.underlying4 _) trodAll_mk0) rfl rfl⟩
/-- the row -/
theorem names7_row : Rows.MerkleNamesSaid :=
  OpenClaim.holds_of_wide 3 Tryd.f3 rfl rfl rfl rfl rfl rfl rfl ⟨rfl, rfl, rfl, rfl, rfl⟩ rfl rfl rfl rfl rfl (by kernel_rfl) Tryd.func3 (by kernel_rfl)
    (of_decide_eq_true (by kernel_rfl)) (by unfold Func.isWrapper; rw [if_neg (of_decide_eq_false (by kernel_rfl))]; exact ⟨rfl, rfl⟩)
    (fun os started H enc _ => names7_lifted os started H enc)
/-- the statement -/
theorem names7_holds : Rows.MerkleNamesCardSaid :=
  Claim7.holds_tied_plain_at .later [] [.data, .data] true (true, "fb202a25e270729ce40d41b3d1d76f656f6dbac6218054d8004a01c5a2c829c8") false
    names7_row (fun _ h => by cases h) (by kernel_rfl) (fun _ h => by cases h) merkleNames_row_tie rfl ⟨rfl, rfl⟩ (by kernel_rfl) rfl
    (fun f fn hf hfn => by
      obtain rfl : f = 3 := Option.some.inj ((show Tryd.prog.funcNamed "gatepath/gatepathlaw07.MerkleNames" = some 3 by kernel_rfl).symm.trans hf) |>.symm
      obtain rfl : fn = Tryd.f3 := (Option.some.inj (Tryd.func3.symm.trans hfn)).symm
      exact ⟨by kernel_rfl, fun j t ht => by
        rw [Tryd.params3] at ht
        simp at ht⟩)
    (by kernel_rfl)
#print axioms names7_holds
end Go.Proofs.YtafolokkjpbieaaDoor
