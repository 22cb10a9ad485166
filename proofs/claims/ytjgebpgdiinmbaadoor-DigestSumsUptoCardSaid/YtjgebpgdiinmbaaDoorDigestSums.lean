/- DigestSums, for every input of at most 1048576 values: Sum, Join and Short answer as the reference does. Conditions: the size, and what the row lists of the program's tables (tied by the card). -/
import Derived.Test.YtjgebpgdiinmbaaDoorDigRC
import Derived.Test.YtjgebpgdiinmbaaDoorLawKit
import Derived.Test.YtjgebpgdiinmbaaDoorCards
import Derived.Stop.BytesEq
import Derived.Deep.Matrix
import Derived.Deep.DeepHandedRow
namespace Go.Proofs.YtjgebpgdiinmbaaDoor
open Go.ChangeShapes Go.WideShapes Go.ChangeAt Go.RowKit Sha
open Go.WideMaps Go.WideElems
set_option linter.unusedVariables false
set_option linter.unusedSimpArgs false
theorem eql_hashs (F : List UInt8) (hF : F.length = 32) (w : World) : (binOp .eql 24 (.agg (bcells F)) (.agg (bcells F))).run Tryd.prog w = .ok (.bool true) w := by
  have h := run_eql_bytes (P := Tryd.prog) w 24 5 32 Tryd.underlying24 Tryd.underlying5 (fun _ => by kernel_rfl) F F hF hF
  rw [show (F == F) = true by simp] at h
  exact h
theorem eql_shorts (F : List UInt8) (hF : F.length = 16) (w : World) : (binOp .eql 38 (.agg (bcells F)) (.agg (bcells F))).run Tryd.prog w = .ok (.bool true) w := by
  have h := run_eql_bytes (P := Tryd.prog) w 38 5 16 Tryd.underlying38 Tryd.underlying5 (fun _ => by kernel_rfl) F F hF hF
  rw [show (F == F) = true by simp] at h
  exact h
set_option maxRecDepth 100000 in
set_option maxHeartbeats 4000000 in
theorem sums_core (l : List UInt8) (A : Option Addr) (c : Nat) (ps : List (List UInt8)) (PA : Option Addr) (pc : Nat) (S : Nat → Option Addr × Nat) (h5 : l.length ≤ 5000) (h50 : ps.length ≤ 50) (hfl : ps.flatten.length ≤ 2000000)
    (hc : l.length ≤ c) (hcm : c ≤ maxLen) (hA : A = none → c = 0) (hpc : ps.length ≤ pc) (hN : ∀ j l, ps[j]? = some l → (S j).1 = none → (S j).2 = 0) (w : World) (hs : SrcAt A l w) (hrow : PRow PA S ps w) (env : DEnv w) :
    Calls Tryd.prog 4 #[.slice A l.length c, .slice PA ps.length pc] w fun e w' => e = .returned (.bool true) ∧ Below w.heap.size w w' := by
  have hall : ∀ V, Below w.heap.size w V → Calls Tryd.prog 17 #[.slice PA ps.length pc] V fun e w' => ∃ A' c', e = .returned (.slice A' ps.flatten.length c') ∧ ps.flatten.length ≤ c' ∧ (A' = none → c' = 0) ∧ SrcAt A' ps.flatten w' ∧ Below V.heap.size V w' := fun V hb =>
    (all_ref ps PA pc S hfl (by omega) hpc V (hrow.on hb) hN).mono fun e w' ⟨v, he, ho, hb2⟩ => by
      obtain ⟨A', c', rfl, k1, _, k2, k3⟩ := own_rd2 ho
      exact ⟨A', c', he, k1, k2, k3, hb2⟩
  obtain ⟨FL, hFL⟩ : ∃ FL, ps.flatten = FL := ⟨_, rfl⟩
  rw [hFL] at hall hfl
  obtain ⟨nf, hnf⟩ : ∃ nf, FL.length = nf := ⟨_, rfl⟩
  rw [hnf] at hall hfl
  have HALL := Lib.hid hall
  by_cases h5f : nf ≤ 5000
  · have hjoin : ∀ V, Below w.heap.size w V → Calls Tryd.prog 11 #[.slice PA ps.length pc] V fun e w' => e = .returned (.agg (bcells (sha FL))) ∧ Below V.heap.size V w' := fun V hb => by
      have h := join_any ps PA pc S (by rw [hFL, hnf]; omega) (by omega) hpc V (hrow.on hb) (env.on hb)
      rw [hFL] at h
      exact h
    have hsumr : ∀ V, Below w.heap.size w V → Calls Tryd.prog 18 #[.slice A l.length c] V fun e w' => e = .returned (.agg (bcells (sha l))) ∧ Below V.heap.size V w' := fun V hb => sum_ref l A c (by omega) hc hA V (hs.on hb)
    have hshor : ∀ V, Below w.heap.size w V → Calls Tryd.prog 20 #[.slice A l.length c] V fun e w' => e = .returned (.agg (bcells ((sha l).take 16))) ∧ Below V.heap.size V w' := fun V hb => short_ref l A c (by omega) hc hA V (hs.on hb)
    have hsumo : ∀ (A' : Option Addr) (c' : Nat) (V : World), l.length ≤ c' → c' ≤ maxLen → SrcAt A' l V → DEnv V → Calls Tryd.prog 10 #[.slice A' l.length c'] V fun e w' => e = .returned (.agg (bcells (sha l))) ∧ Below V.heap.size V w' := fun A' c' V k1 k2 k3 k4 => sum_any l A' c' (by omega) k1 k2 V k3 k4
    have hshoo : ∀ (A' : Option Addr) (c' : Nat) (V : World), l.length ≤ c' → c' ≤ maxLen → SrcAt A' l V → DEnv V → Calls Tryd.prog 19 #[.slice A' l.length c'] V fun e w' => e = .returned (.agg (bcells ((sha l).take 16))) ∧ Below V.heap.size V w' := fun A' c' V k1 k2 k3 k4 => short_any l A' c' (by omega) k1 k2 V k3 k4
    have hsame : ∀ (A' : Option Addr) (c' : Nat) (V : World), l.length ≤ c' → SrcAt A' l V → Below w.heap.size w V → Calls Tryd.prog 16 #[.slice A' l.length c', .slice A l.length c] V fun e w' => e = .returned (.bool true) ∧ ∃ m, w' = V.drewN m := fun A' c' V k1 k2 k3 => same_eq l A' A c' c (by omega) k1 hc V k2 (hs.on k3)
    have hsumf : ∀ (A' : Option Addr) (c' : Nat) (V : World), nf ≤ c' → (A' = none → c' = 0) → SrcAt A' FL V → Calls Tryd.prog 18 #[.slice A' nf c'] V fun e w' => e = .returned (.agg (bcells (sha FL))) ∧ Below V.heap.size V w' := fun A' c' V k1 k2 k3 => by
      have h := sum_ref FL A' c' (by omega) (by omega) k2 V k3
      rw [hnf] at h
      exact h
    have q1 := eql_hashs (sha l) (sha_len _)
    have q2 := eql_shorts ((sha l).take 16) (by rw [List.length_take, sha_len]; rfl)
    have q3 := eql_hashs (sha FL) (sha_len _)
    obtain ⟨F1, hF1⟩ : ∃ F1, bcells (sha l) = F1 := ⟨_, rfl⟩
    obtain ⟨F2, hF2⟩ : ∃ F2, bcells ((sha l).take 16) = F2 := ⟨_, rfl⟩
    obtain ⟨F3, hF3⟩ : ∃ F3, bcells (sha FL) = F3 := ⟨_, rfl⟩
    rw [hF1] at hsumr hsumo q1
    rw [hF2] at hshor hshoo q2
    rw [hF3] at hjoin hsumf q3
    have hown0 : (w : World) → (w.alloc (.cells #[] 5)).ownsRow w.heap.size 5 1 (.slice (some ⟨w.heap.size, 0, none⟩) 0 0) 0 (bvals []) := fun w => ⟨rfl, Or.inr ⟨w.heap.size, 0, #[], rfl, Nat.le_refl _, heap_alloc_new _ _, Nat.le_refl _, Nat.zero_le _, rfl, rfl⟩⟩
    have HO0 := Lib.hid hown0
    have HJ := Lib.hid hjoin
    have RS := Lib.hid hsumr
    have RH := Lib.hid hshor
    have OS := Lib.hid hsumo
    have OH := Lib.hid hshoo
    have SM := Lib.hid hsame
    have RF := Lib.hid hsumf
    have HQ1 := Lib.hid q1
    have HQ2 := Lib.hid q2
    have HQ3 := Lib.hid q3
    have ENV := Lib.hid env
    have HS := Lib.hid hs
    have HA := Lib.hid hA
    obtain ⟨n, hn⟩ : ∃ n, l.length = n := ⟨_, rfl⟩
    obtain ⟨np, hnp⟩ : ∃ np, ps.length = np := ⟨_, rfl⟩
    have HN1 := Lib.hid hn
    rw [hn] at RS RH OS OH SM h5 ⊢
    rw [hnp] at HALL HJ h50 ⊢
    clear hall hjoin hsumr hshor hsumo hshoo hsame hsumf q1 q2 q3 hF1 hF2 hF3 hown0 env hs hrow hN hn hnp hFL hnf hA hc hcm hpc
    go_enter Tryd.func4, Tryd.ntmps4
    go_wp2_with fail
    refine (HALL.out _ (Below.refl _ _)).mono ?_
    rintro e w1 ⟨A1, c1, rfl, k1, k2, k3, hb1⟩
    have HB1 := Lib.hid hb1
    clear hb1 k1 k2 k3
    have HSa := Lib.hid ((HS.out.on HB1.out).on (below_new w1 (.cells #[] 5)))
    go_wp2_with (at_builtin; refine append_src rfl (.tmp 21) (.tmp 22) rfl w1.heap.size _ _ _ rfl (HO0.out w1) A l c n HN1.out rfl HA.out HSa.out (Nat.le_trans (Nat.add_le_add_left h5 0) (by decide)) (Nat.le_of_lt (by simp)) ?_; intro v2 w2 hown2 hg2; have HO2 := Lib.hid hown2; have HG2 := Lib.hid hg2; clear hown2 hg2)
    have ho2 : w2.ownsRow w1.heap.size 5 1 v2 l.length (bvals l) := by
      have h := HO2.out
      rw [Nat.zero_add, show bvals [] ++ bvals l = bvals l from rfl, ← HN1.out] at h
      exact h
    obtain ⟨A2, c2, rfl, e1, e2, e3, e4⟩ := own_rd2 ho2
    have hb2 : Below w.heap.size w w2 := (HB1.out.alloc HB1.out.size _).grown HG2.out (by have := HB1.out.size; simp; omega) (fun k hk => by cases hk; exact HB1.out.size)
    rw [HN1.out] at e1 ⊢
    have E1 := Lib.hid e1
    have E2 := Lib.hid e2
    have S2 := Lib.hid e4
    have HB2 := Lib.hid hb2
    clear ho2 e1 e2 e3 e4 hb2 HO2 HG2 HB1 HSa
    have q1 := HQ1.out
    have q2 := HQ2.out
    refine (OS.out A2 c2 _ E1.out E2.out S2.out (ENV.out.on HB2.out)).mono ?_
    rintro e w3 ⟨rfl, hb3⟩
    have S3 := Lib.hid (S2.out.on hb3)
    have HB3 := Lib.hid (chain HB2.out hb3)
    clear hb3 HB2 S2
    go_wp2_with fail
    refine (RS.out _ HB3.out).mono ?_
    rintro e w4 ⟨rfl, hb4⟩
    have S4 := Lib.hid (S3.out.on hb4)
    have HB4 := Lib.hid (chain HB3.out hb4)
    clear hb4 HB3 S3
    go_wp2_with fail
    refine (OH.out A2 c2 _ E1.out E2.out S4.out (ENV.out.on HB4.out)).mono ?_
    rintro e w5 ⟨rfl, hb5⟩
    have S5 := Lib.hid (S4.out.on hb5)
    have HB5 := Lib.hid (chain HB4.out hb5)
    clear hb5 HB4 S4
    go_wp2_with fail
    refine (RH.out _ HB5.out).mono ?_
    rintro e w6 ⟨rfl, hb6⟩
    have S6 := Lib.hid (S5.out.on hb6)
    have HB6 := Lib.hid (chain HB5.out hb6)
    clear hb6 HB5 S5
    go_wp2_with fail
    refine (SM.out A2 c2 _ E1.out S6.out HB6.out).mono ?_
    rintro e w7 ⟨rfl, m7, hw7⟩
    have HB7 : RowKit.Hid (Below w.heap.size w w7) := Lib.hid (by rw [hw7]; exact below_drewN HB6.out m7)
    clear hw7 HB6 S6 q1 q2
    have q3 := HQ3.out
    go_wp2_with fail
    refine (HJ.out _ HB7.out).mono ?_
    rintro e w8 ⟨rfl, hb8⟩
    have HB8 := Lib.hid (chain HB7.out hb8)
    clear hb8 HB7
    go_wp2_with fail
    refine (HALL.out _ HB8.out).mono ?_
    rintro e w9 ⟨A9, c9, rfl, k1, k2, k3, hb9⟩
    have K1 := Lib.hid k1
    have K2 := Lib.hid k2
    have K3 := Lib.hid k3
    have HB9 := Lib.hid (chain HB8.out hb9)
    clear hb9 HB8 k1 k2 k3
    go_wp2_with fail
    refine (RF.out A9 c9 _ K1.out K2.out K3.out).mono ?_
    rintro e w10 ⟨rfl, hb10⟩
    have HB10 := Lib.hid (chain HB9.out hb10)
    clear hb10 HB9
    go_wp2_with fail
    go_ret
    exact ⟨rfl, HB10.out⟩
  · obtain ⟨n, hn⟩ : ∃ n, l.length = n := ⟨_, rfl⟩
    obtain ⟨np, hnp⟩ : ∃ np, ps.length = np := ⟨_, rfl⟩
    rw [hn] at h5 ⊢
    rw [hnp] at HALL h50 ⊢
    clear hall hn hnp hs hrow env hN hA hc hcm hpc hFL hnf
    go_enter Tryd.func4, Tryd.ntmps4
    go_wp2_with fail
    refine (HALL.out _ (Below.refl _ _)).mono ?_
    rintro e w1 ⟨A1, c1, rfl, k1, k2, k3, hb1⟩
    have HB1 := Lib.hid hb1
    clear hb1 k1 k2 k3
    go_wp2_with fail
    go_ret
    exact ⟨rfl, HB1.out⟩
/-- the whole law -/
theorem sums_true (l : List UInt8) (A : Option Addr) (c : Nat) (ps : List (List UInt8)) (PA : Option Addr) (pc : Nat) (S : Nat → Option Addr × Nat) (hfl : ps.flatten.length ≤ 2000000)
    (hc : l.length ≤ c) (hcm : c ≤ maxLen) (hA : A = none → c = 0) (hpc : ps.length ≤ pc) (hpm : pc ≤ maxLen) (hN : ∀ j l, ps[j]? = some l → (S j).1 = none → (S j).2 = 0) (w : World) (hs : SrcAt A l w) (hrow : PRow PA S ps w) (env : DEnv w) :
    Calls Tryd.prog 4 #[.slice A l.length c, .slice PA ps.length pc] w fun e w' => e = .returned (.bool true) ∧ Below w.heap.size w w' := by
  have hlm : l.length ≤ 9223372036854775807 := by unfold maxLen at hcm; omega
  have hpl : ps.length ≤ 9223372036854775807 := by unfold maxLen at hpm; omega
  by_cases h5 : l.length ≤ 5000
  · by_cases h50 : ps.length ≤ 50
    · exact sums_core l A c ps PA pc S h5 h50 hfl hc hcm hA hpc hN w hs hrow env
    · obtain ⟨n, hn⟩ : ∃ n, l.length = n := ⟨_, rfl⟩
      obtain ⟨np, hnp⟩ : ∃ np, ps.length = np := ⟨_, rfl⟩
      rw [hn] at h5 hlm ⊢
      rw [hnp] at h50 hpl ⊢
      clear hn hnp hs hrow env hN hA hc hcm hpc hpm hfl
      have h6 : (50 : Int) < (np : Int) := by omega
      go_enter Tryd.func4, Tryd.ntmps4
      go_wp2_with fail
      go_ret
      exact ⟨rfl, Below.refl _ _⟩
  · obtain ⟨n, hn⟩ : ∃ n, l.length = n := ⟨_, rfl⟩
    obtain ⟨np, hnp⟩ : ∃ np, ps.length = np := ⟨_, rfl⟩
    rw [hn] at h5 hlm ⊢
    rw [hnp] at hpl ⊢
    clear hn hnp hs hrow env hN hA hc hcm hpc hpm hfl
    have h6 : (5000 : Int) < (n : Int) := by omega
    go_enter Tryd.func4, Tryd.ntmps4
    go_wp2_with fail
    go_ret
    exact ⟨rfl, Below.refl _ _⟩
/-! What came in, and how much of it -/
theorem bulk_pos {H : Type} (d : DataW H) : 1 ≤ Rows.uptoBulk d := by
  rcases d with l | _ | _ | _ | _ | _ | _ | _
  · cases l <;> simp [Rows.uptoBulk]
  all_goals simp [Rows.uptoBulk]
theorem bulk_len {H : Type} : ∀ l : List (DataW H), l.length ≤ Rows.uptoBulkAll l
  | [] => Nat.zero_le _
  | x :: r => by
    have h1 := bulk_pos x
    have h2 := bulk_len r
    simp only [Rows.uptoBulkAll, List.length_cons]
    omega
theorem bulk_rows {H : Type} (f : Nat → List UInt8) (D : Nat → DataW H) : ∀ rs : List Nat, (∀ r ∈ rs, (f r).length ≤ Rows.uptoBulk (D r)) → (rs.map f).flatten.length ≤ Rows.uptoBulkAll (rs.map D)
  | [], _ => Nat.zero_le _
  | r :: rs, h => by
    have h1 := h r (List.mem_cons_self ..)
    have h2 := bulk_rows f D rs (fun x hx => h x (List.mem_cons_of_mem _ hx))
    simp only [List.map_cons, List.flatten_cons, List.length_append, Rows.uptoBulkAll]
    omega
theorem Tryd.cellsBytes : Tryd.prog.cellsOf 26 = 1 := by kernel_rfl
section
variable {H : Type} {enc : TypeId × Value → H} {w : World}
/-- bytes that came in, and what nil is -/
theorem open_bytes2 {r : Reach} {b0 : Nat} {v : Value} {d : DataW H} {p : List MemPlace} (hv : Value.okWide Tryd.prog w r b0 26 v) (h : DataW.Trod enc Tryd.prog w 0 (fun _ => true) true 26 v d p) :
    ∃ (A : Option Addr) (l : List UInt8) (c : Nat), v = .slice A l.length c ∧ l.length ≤ c ∧ c ≤ maxLen ∧ (A = none → c = 0) ∧ SrcAt A l w := by
  obtain ⟨A, l, c, rfl, h1, h2, h3⟩ := open_bytes hv h
  refine ⟨A, l, c, rfl, h1, h2, fun e => ?_, h3⟩
  subst e
  obtain ⟨fuel, hf⟩ := h
  rcases open_ints Tryd.underlying26 Tryd.underlying5 Tryd.cellsByte hf with ⟨hcs, hx⟩ | ⟨a, len', cap', zs, hcs, _⟩
  · simp [Value.cells] at hcs
    exact hcs.2
  · simp [Value.cells] at hcs
/-- slices of bytes that came in -/
theorem open_parts {r : Reach} {b0 : Nat} {v : Value} {d : DataW H} {p : List MemPlace} (hv : Value.okWide Tryd.prog w r b0 35 v) (h : DataW.Trod enc Tryd.prog w 0 (fun _ => true) true 35 v d p) :
    ∃ (PA : Option Addr) (ps : List (List UInt8)) (pc : Nat) (S : Nat → Option Addr × Nat), v = .slice PA ps.length pc ∧ ps.length ≤ pc ∧ pc ≤ maxLen ∧ PRow PA S ps w ∧ (∀ j l, ps[j]? = some l → (S j).1 = none → (S j).2 = 0) ∧ ps.flatten.length ≤ Rows.uptoBulk d := by
  obtain ⟨a0, len0, cap0, rfl⟩ := okWide_slice Tryd.underlying35 hv
  obtain ⟨fuel, hf⟩ := h
  rcases Go.Deep.open_int_rows Tryd.underlying35 Tryd.underlying26 Tryd.underlying5 Tryd.cellsBytes Tryd.cellsByte hf with ⟨hcs, hx⟩ | ⟨a, len, cap, A, L, C, Z, hcs, _, hl, hm, hx, hr⟩
  · simp [Value.cells] at hcs
    obtain ⟨rfl, rfl, rfl⟩ := hcs
    exact ⟨none, [], 0, fun _ => (none, 0), rfl, Nat.le_refl _, Nat.zero_le _, ⟨fun j l hj => by simp at hj, fun j l hj => by simp at hj⟩, fun j l hj => by simp at hj, Nat.zero_le _⟩
  · simp [Value.cells] at hcs
    obtain ⟨rfl, rfl, rfl⟩ := hcs
    obtain ⟨f, hf2⟩ : ∃ f : Nat → List UInt8, f = fun r => ((Z r).take (L r)).map fun z => UInt8.ofNat z.toNat := ⟨_, rfl⟩
    have fl : ∀ r, r < cap0 → (f r).length = L r := fun r h => by
      obtain ⟨_, h1, _, h2, _⟩ := hr r h
      rw [hf2]
      simp only [List.length_map, List.length_take, h2]
      omega
    have hat : ∀ j l, ((List.range len0).map f)[j]? = some l → j < len0 ∧ l = f j := fun j l hj => by
      rw [List.getElem?_map] at hj
      obtain ⟨k, hk, rfl⟩ := Option.map_eq_some_iff.1 hj
      obtain ⟨h1, h2⟩ := List.getElem?_eq_some_iff.1 hk
      simp at h1 h2
      exact ⟨h1, by rw [← h2]⟩
    have hsp : 0 < len0 → ∃ pg po, a = ⟨pg, po, none⟩ := fun h0 => by
      obtain ⟨h1, _⟩ := hr 0 (by omega)
      obtain ⟨b, off, spot⟩ := a
      have : spot = none := by simpa [Addr.add] using World.cell?_spot h1
      exact ⟨b, off, by rw [this]⟩
    refine ⟨some a, (List.range len0).map f, cap0, fun j => (A j, C j), by simp, by simpa using hl, hm, ⟨fun j l hj => ?_, fun j l hj => ?_⟩, fun j l hj => ?_, ?_⟩
    · obtain ⟨h1, rfl⟩ := hat j l hj
      obtain ⟨pg, po, rfl⟩ := hsp (by omega)
      obtain ⟨c1, c2, c3, c4, c5, c6, c7⟩ := hr j (by omega)
      refine ⟨pg, po, rfl, ?_, fun hne => ?_⟩
      · rw [fl j (by omega), ← add_eq]
        exact c1
      · have hL : 0 < L j := by
          rw [← fl j (by omega)]
          exact List.length_pos_iff.2 hne
        cases hAj : A j with
        | none => have := c6 hAj; omega
        | some a' =>
          obtain ⟨_, c8⟩ := c7 a' hAj
          obtain ⟨b, off, spot⟩ := a'
          have hspot : spot = none := by simpa [Addr.add] using World.cell?_spot (c8 0 (by omega))
          subst hspot
          refine ⟨b, off, rfl, fun i x hi => ?_⟩
          rw [hf2] at hi
          rw [List.getElem?_map] at hi
          obtain ⟨z, hz1, rfl⟩ := Option.map_eq_some_iff.1 hi
          have hil : i < L j := by
            have := (List.getElem?_eq_some_iff.1 hz1).1
            simp at this
            omega
          rw [List.getElem?_take, if_pos hil] at hz1
          have hc := c8 i (by omega)
          rw [add_eq, List.getD_eq_getElem?_getD, hz1, Option.getD_some] at hc
          have hb := bounds_u8 (c5 z (List.mem_of_getElem? hz1))
          rw [hc]
          congr 2
          rw [UInt8.toNat_ofNat']
          omega
    · obtain ⟨h1, rfl⟩ := hat j l hj
      obtain ⟨c1, c2, c3, c4, c5, c6, c7⟩ := hr j (by omega)
      exact ⟨by rw [fl j (by omega)]; exact c2, c3⟩
    · obtain ⟨h1, rfl⟩ := hat j l hj
      obtain ⟨c1, c2, c3, c4, c5, c6, c7⟩ := hr j (by omega)
      exact c6
    · have hd : d = .slice ((List.range len0).map fun r => Go.Deep.intRow .u8 (A r) (L r) (Z r)) ((List.range (cap0 - len0)).map fun j => Go.Deep.intRow .u8 (A (len0 + j)) (L (len0 + j)) (Z (len0 + j))) := congrArg Prod.fst hx
      rw [hd]
      have h1 := bulk_rows f (fun r => Go.Deep.intRow (H := H) .u8 (A r) (L r) (Z r)) (List.range len0) (fun r hrr => by
        have hr0 := List.mem_range.1 hrr
        obtain ⟨c1, c2, c3, c4, c5, c6, c7⟩ := hr r (by omega)
        rw [fl r (by omega)]
        cases hAj : A r with
        | none => have := c6 hAj; omega
        | some a' =>
          have h3 := bulk_len (H := H) (lits .u8 ((Z r).take (L r)))
          have h4 : (lits (H := H) .u8 ((Z r).take (L r))).length = L r := by
            unfold lits
            rw [List.length_map, List.length_take, c4]
            omega
          simp only [Go.Deep.intRow, Rows.uptoBulk]
          omega)
      simp only [Rows.uptoBulk]
      omega
end
set_option maxRecDepth 100000 in
theorem sums_lifted (os : Os) (started : os.Started) (H : Type) (enc : TypeId × Value → H) (G : Stop.Interp) :
    ReturnsInHanded {} Tryd.checked os 4 .any ((Rows.OpenSpec.upto Rows.digestSumsSpec).preRow enc Tryd.prog Tryd.f4 Rows.digestSumsUptoRow.domain false Rows.digestSumsUptoRow.laid) (((Rows.OpenSpec.upto Rows.digestSumsSpec).at G).post enc Tryd.prog Tryd.f4 false true false false) := by
  obtain ⟨places, hx⟩ : ∃ places, DataW.whole enc Tryd.prog ((laidWorldD os).forCall (fun _ _ => 0) ⟨#[], #[.slice none 0 0, .slice none 0 0], []⟩).memory Tryd.f4.params.toList Rows.digestSumsSpec.vars false #[Value.slice none 0 0, .slice none 0 0].toList 8 = some ([.nil, .nil], [], places) := ⟨[], by kernel_rfl⟩
  refine returnsInHanded_of_row (C := Tryd.checked) (s := Rows.OpenSpec.upto Rows.digestSumsSpec) Tryd.own started (by kernel_rfl) Tryd.func4
    (witness_row_at (enc := enc) (C := Tryd.checked) false (laidWorldD os) #[.slice none 0 0, .slice none 0 0] rfl (by kernel_rfl) (by kernel_rfl) (by kernel_rfl)
      (OpenSpec.preRow_of_cond 8 hx (by kernel_rfl) (fun k hk => by cases hk; kernel_rfl) (by kernel_rfl) (laidWorldD_met os _))) ?_
  intro W base args ds gs before hval0 hW hcnd hcond hwt hL hsh hass
  have hval : ∀ (j : Nat) t v, Tryd.f4.params[j]? = some t → args[j]? = some v → Value.okWide Tryd.prog W .any base t v := hval0
  have env := denv_of_laid (show laidMet Tryd.prog laidDig W from hL)
  have hk := hcond _ rfl
  have hW' := hW
  obtain ⟨p, q, hA0, hV, rfl, hfz, hnd⟩ := hW
  have hA : DataW.TrodAll enc Tryd.prog W 0 (fun _ => true) true Tryd.f4.params.toList args.toList ds p := hA0
  rw [Tryd.params4] at hA hval
  obtain ⟨v0, vs0, d0, ds0, p0, q0, hargs, rfl, rfl, h0, r0⟩ := trodAll_cons hA
  obtain ⟨v1, vs1, d1, ds1, p1, q1, rfl, rfl, rfl, h1, r1⟩ := trodAll_cons r0
  obtain ⟨rfl, rfl, rfl⟩ := trodAll_nil r1
  obtain rfl : args = #[v0, v1] := by cases args; simp_all
  obtain ⟨rfl, rfl⟩ := trodVars_none hV
  obtain ⟨A0, l0, c0, rfl, hc0, hm0, hn0, hs0⟩ := open_bytes2 (hval 0 26 v0 rfl rfl) h0
  obtain ⟨PA, ps, pc, S, rfl, hpc, hpm, hrow, hN, hbk⟩ := open_parts (hval 1 35 v1 rfl rfl) h1
  have hbound : Rows.uptoBulk d1 ≤ 1048576 := by
    have h : Rows.uptoBulkAll ([d0, d1] ++ []) ≤ 1048576 := of_decide_eq_true hk
    simp only [List.append_nil, Rows.uptoBulkAll] at h
    omega
  refine (sums_true l0 A0 c0 ps PA pc S (by omega) hc0 hm0 hn0 hpc hpm hN W hs0 hrow env).mono fun e W' ⟨he, hg⟩ => ?_
  subst he
  exact ⟨_, rfl, law_post Tryd.laidOut (by kernel_rfl) (by kernel_rfl) hW' hg (trodAll_cons_mk (shut_bool Tryd.underlying4 _) trodAll_mk0) rfl rfl⟩
/-- the row -/
theorem sums_row : Rows.DigestSumsUptoSaid :=
  OpenClaim.holds_of_cond 4 Tryd.f4 rfl rfl rfl rfl rfl rfl rfl ⟨rfl, rfl, rfl, rfl, rfl⟩ rfl rfl rfl rfl rfl (by kernel_rfl) Tryd.func4 (by kernel_rfl)
    (of_decide_eq_true (by kernel_rfl)) (by unfold Func.isWrapper; rw [if_neg (of_decide_eq_false (by kernel_rfl))]; exact ⟨rfl, rfl⟩)
    (fun os started H enc _ G => by rw [OpenClaim.pre_eq_preRow]; exact sums_lifted os started H enc G)
theorem sums_plain (f : FuncId) (fn : Func) (hf : Tryd.pinned.checked.prog.funcNamed "gatepath/gatepathlaw05.DigestSums" = some f) (hfn : Tryd.pinned.checked.prog.funcs[f]? = some fn) :
    false = Tryd.pinned.checked.prog.looks [] ∧ ∀ (j : Nat) t, fn.params[j]? = some t → Tryd.pinned.checked.prog.wantsStandIn t = false := by
  obtain rfl : f = 4 := Option.some.inj ((show Tryd.prog.funcNamed "gatepath/gatepathlaw05.DigestSums" = some 4 by kernel_rfl).symm.trans hf) |>.symm
  obtain rfl : fn = Tryd.f4 := (Option.some.inj (Tryd.func4.symm.trans hfn)).symm
  refine ⟨by kernel_rfl, fun j t ht => ?_⟩
  rw [Tryd.params4] at ht
  rcases j with _ | _ | j
  · obtain rfl : t = 26 := by simpa using ht.symm
    exact (show Tryd.prog.wantsStandIn 26 = false by kernel_rfl)
  · obtain rfl : t = 35 := by simpa using ht.symm
    exact (show Tryd.prog.wantsStandIn 35 = false by kernel_rfl)
  · simp at ht
/-- the statement -/
theorem sums_holds : Rows.DigestSumsUptoCardSaid :=
  Claim7.holds_tied_plain_at .later [] _ _ _ _ sums_row (fun _ h => by cases h) (by kernel_rfl) (fun _ h => by cases h) digestSumsUpto_row_tie rfl ⟨rfl, rfl⟩ (by kernel_rfl) rfl sums_plain (by kernel_rfl)
#print axioms sums_holds
end Go.Proofs.YtjgebpgdiinmbaaDoor
