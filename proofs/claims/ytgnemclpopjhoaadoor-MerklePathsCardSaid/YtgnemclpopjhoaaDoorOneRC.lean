/-
  THE WALKS over the reference's digits, and over the comparison of numbers.
-/
import Derived.Test.YtgnemclpopjhoaaDoorOneRB
namespace Go.Proofs.YtgnemclpopjhoaaDoor
open Go.RowKit Sha Ots
set_option linter.unusedVariables false
set_option linter.unusedSimpArgs false
/-- append of numbers to an own row -/
theorem append_ints {w : World} {ops : Array Oper} {rest : List Oper} {o : Oper} {a : Act} {Q : Exit → Act → World → Prop} (hgd : o.guard = none) (s x : Operand)
    (ho : o.op = .call { callee := .builtin .append, args := #[s, x], argTypes := #[74, 74] }) (base : Nat) (v : Value) (n : Nat) (xs : List Value) (hs : a.eval s = v) (hown : w.ownsRow base 3 1 v n xs)
    (ad : Addr) (m c : Nat) (news : List Value) (hx : a.eval x = .slice (some ad) m c) (hm : news.length = m) (hc : ∀ j u, news[j]? = some u → w.cell? (ad.add j) = some u) (h1 : ∀ u ∈ news, u.oneCell' = true) (h63 : n + m ≤ 1000000) (hbase : base ≤ w.heap.size)
    (h : ∀ v' w', w'.ownsRow base 3 1 v' (n + m) (xs ++ news) → w.grownBy w' v.ownBlock → wpList Tryd.prog ops Q rest (a.put o.dst v') w') : wpList Tryd.prog ops Q (o :: rest) a w := by
  obtain ⟨i0, hi, hz0, hz1, hz2⟩ := info_parts Tryd.info_int
  exact wpList_append_own _ hgd s x 74 ho base 3 i0 (.int .i64 0) 1 8 Tryd.underlying74 hi hz0 hz1 hz2 rfl (by decide) v n xs hs hown ad m c news hx (by rw [hm, Nat.mul_one]) hc h1 (by unfold maxLen; omega) (by omega) hbase (fun v' w' h1 h2 _ => h v' w' h1 h2)
theorem own_geI {w : World} {b n k : Nat} {v : Value} {xs : List Value} (h : w.ownsRow b 3 1 v n xs) (hk : v.ownBlock = some k) : b ≤ k ∧ k < w.heap.size := by
  obtain ⟨h1, ⟨rfl, _⟩ | ⟨g, cap, cur, rfl, h3, h4, _⟩⟩ := h
  · cases hk
  · obtain rfl : g = k := by simpa [Value.ownBlock] using hk
    exact ⟨h3, (Array.getElem?_eq_some_iff.1 h4).1⟩
theorem own_sliceI {w : World} {b n : Nat} {v : Value} {xs : List Value} (h : w.ownsRow b 3 1 v n xs) (hn : n ≠ 0) : ∃ X cap, v = .slice (some ⟨X, 0, none⟩) n cap ∧ b ≤ X := by
  obtain ⟨h1, ⟨rfl, h2⟩ | ⟨g, cap, cur, rfl, h3, h4, _⟩⟩ := h
  · exact absurd h2 hn
  · exact ⟨g, cap, rfl, h3⟩
theorem take_snocN (l : List Nat) (k : Nat) (h : k < l.length) : l.take (k + 1) = l.take k ++ [l.getD k 0] := by
  rw [List.take_succ_eq_append_getElem h, List.getD_eq_getElem?_getD, List.getElem?_eq_getElem h]
  rfl
set_option maxRecDepth 100000 in
set_option maxHeartbeats 2000000 in
theorem digits_ref (l : List UInt8) (A : Option Addr) (c : Nat) (hl : l.length ≤ 100000) (hc : l.length ≤ c) (hA : A = none → c = 0) (w : World) (hs : SrcAt A l w) :
    Calls Tryd.prog 56 #[.slice A l.length c] w fun e w' => ∃ X cap, e = .returned (.slice (some ⟨X, 0, none⟩) 35 cap) ∧ w.heap.size ≤ X ∧ Ints (some ⟨X, 0, none⟩) (dig l) w' ∧ Below w.heap.size w w' := by
  have hsho : Calls Tryd.prog 58 #[.slice A l.length c] w fun e w' => e = .returned (.agg (bcells (sh l))) ∧ Below w.heap.size w w' := short_ref l A c hl hc hA w hs
  have hdg : dig l = digs (sh l) := rfl
  rw [hdg]
  have h16 := sh_len l
  obtain ⟨s, hsq⟩ : ∃ s, sh l = s := ⟨_, rfl⟩
  rw [hsq] at hsho h16 ⊢
  have hnl : (nib s).length = 32 := by rw [nib_len, h16]
  have hnle := nib_le s
  have hnat := nib_at s
  rw [h16] at hnat
  have hc480 := csum_480 s h16
  have hdd : digs s = nib s ++ [csum (nib s) / 256, csum (nib s) / 16 % 16, csum (nib s) % 16] := rfl
  rw [hdd]
  obtain ⟨D, hD⟩ : ∃ D, nib s = D := ⟨_, rfl⟩
  rw [hD] at hnl hnle hnat hc480 ⊢
  have SH := Lib.hid hsho
  have HSZ := Lib.hid (sz16 s h16)
  have hso : (16 : Nat) = (bcells s).size := by rw [bcells_size, h16]
  have HSO := Lib.hid hso
  have HS16 := Lib.hid h16
  have HDL := Lib.hid hnl
  have HDLE := Lib.hid hnle
  have HDAT := Lib.hid hnat
  have HC480 := Lib.hid hc480
  obtain ⟨n, hn⟩ : ∃ n, l.length = n := ⟨_, rfl⟩
  rw [hn] at SH ⊢
  clear hsho hdg h16 hsq hnl hnle hnat hc480 hdd hD hso hn hs hl hc hA
  go_enter Tryd.func56, Tryd.ntmps56
  go_wp2_with fail
  refine SH.out.mono ?_
  rintro e w1 ⟨rfl, hb1⟩
  have HB1 := Lib.hid hb1
  clear hb1
  go_wp2_with (refine wpList_store_row rfl 23 (.tmp 3) (.tmp 9) rfl w1.heap.size (bcells s) rfl rfl 23 _ (heap_alloc_new _ _) HSZ.out HSO.out (bcells_one _) ?_)
  rw [World.setRow_alloc_new]
  obtain ⟨X, hX⟩ : ∃ X, w1.heap.size = X := ⟨_, rfl⟩
  generalize hV : World.alloc w1 _ = V
  have hb2 : Below w1.heap.size w1 V := by rw [← hV]; exact below_new _ _
  have hc0 : Below w.heap.size w V ∧ V.heap[X]? = some (.cells (bcells s) 23 (0, 0)) ∧ X + 1 ≤ V.heap.size ∧ w.heap.size ≤ X := ⟨chain HB1.out hb2, by rw [← hV, ← hX]; exact heap_alloc_new _ _, by rw [← hV, ← hX]; simp, by rw [← hX]; exact HB1.out.size⟩
  have HC0 := Lib.hid hc0
  try simp only [hX]
  try simp only [Act.put]
  clear hV hb2 hc0 hX HB1
  go_wp2_with fail
  go_loopw [4, 5, 6, 7] (fun v sm x _ wr => ∃ k : Nat, k ≤ 32 ∧ x = .int .i64 (k : Int) ∧ sm = .int .i64 ((csum (D.take k) : Nat) : Int) ∧ RowKit.Hid (wr.ownsRow (X + 1) 3 1 v k (ivals (D.take k))) ∧ RowKit.Hid (Below w.heap.size w wr ∧ wr.heap[X]? = some (.cells (bcells s) 23 (0, 0)) ∧ X + 1 ≤ wr.heap.size ∧ w.heap.size ≤ X)) (fun _ _ x _ _ => 32 - (intOf x).toNat)
  case atStart => exact ⟨0, by omega, rfl, rfl, Lib.hid ⟨rfl, Or.inl ⟨rfl, rfl⟩⟩, HC0⟩
  case round =>
    clear HC0
    obtain ⟨k, hk, rfl, rfl, HO, HC⟩ := hrel
    by_cases hlt : k < 32
    · have hki : (k : Int) < 32 := by omega
      obtain ⟨m, hm⟩ : ∃ m, k / 2 = m := ⟨_, rfl⟩
      have hm16 : m < 16 := by omega
      have hmi : (k : Int) / 2 = (m : Int) := by omega
      have hmi2 : (m : Int) < 16 := by omega
      have hcell : wr.cell? ⟨X, m, none⟩ = some (.int .u8 ((s.getD m 0).toNat : Int)) := by
        rw [cell_of_row _ _ _ _ _ _ HC.out.2.1, bcells_at _ _ (by rw [HS16.out]; exact hm16)]
      have hdat := HDAT.out k (by omega)
      rw [hm] at hdat
      have hts := take_snocN D k (by rw [HDL.out]; exact hlt)
      have hdle : D.getD k 0 ≤ 15 := getD_le15 D HDLE.out k
      have hcl : csum (D.take k) ≤ 480 := by
        have h := csum_le (D.take k)
        rw [List.length_take, HDL.out] at h
        omega
      obtain ⟨b, hb⟩ : ∃ b, (s.getD m 0).toNat = b := ⟨_, rfl⟩
      have hb8 : b < 256 := by rw [← hb]; exact (s.getD m 0).toNat_lt
      rw [hb] at hcell hdat
      obtain ⟨d, hd⟩ : ∃ d, D.getD k 0 = d := ⟨_, rfl⟩
      rw [hd] at hdat hts hdle
      have hcs : ((csum (D.take (k + 1)) : Nat) : Int) = ((csum (D.take k) : Nat) : Int) + 15 - (d : Int) := by
        rw [hts, csum_app]
        simp only [csum]
        omega
      obtain ⟨C, hC⟩ : ∃ C, csum (D.take k) = C := ⟨_, rfl⟩
      rw [hC] at hcs hcl ⊢
      have HTS := Lib.hid hts
      have HCS := Lib.hid hcs
      have hnew : ivals [d] = [Value.int .i64 (d : Int)] := rfl
      clear hts hcs hb hd hC hm
      have h9 := HC.out.2.2.1
      have H9 := Lib.hid h9
      clear h9
      by_cases hpar : k % 2 = 0
      · have hp1 : (k : Int) % 2 = 0 := by omega
        rw [if_pos hpar] at hdat
        have hdi : (b : Int) / 16 = (d : Int) := by omega
        clear hdat hpar
        go_wp2_with (at_builtin; refine append_ints rfl (.tmp 29) (.tmp 31) rfl (X + 1) _ _ _ rfl (HO.out.alloc _) ⟨wr.heap.size, 0, none⟩ 1 1 [.int .i64 (d : Int)] rfl rfl (new_cells _ _ _) (by intro u hu; simp at hu; subst hu; rfl) (by omega) (by have := H9.out; simp; omega) ?_; intro v' w5 hown5 hgrow5; have HO5 := Lib.hid hown5; have HG5 := Lib.hid hgrow5; clear hown5 hgrow5)
        have hne : ∀ j, Value.ownBlock u4 = some j → X + 1 ≤ j := fun j hj => (own_geI HO.out hj).1
        have h9 := H9.out
        have h10 := HC.out.2.2.2
        have hsz5 := HG5.out.size
        rw [World.size_alloc] at hsz5
        refine ⟨⟨k + 1, by omega, by go_num, by rw [HCS.out], Lib.hid ?_, Lib.hid ⟨(HC.out.1.alloc HC.out.1.size _).grown HG5.out (by simp; omega) (fun j hj => (by have := hne j hj; omega)), ?_, by omega, h10⟩⟩, by simp [intOf]; omega⟩
        · rw [HTS.out, ivals_app]
          exact HO5.out
        · rw [HG5.out.block X (by simp; omega) (fun e => by have := hne _ e.symm; omega), Below.heap_alloc _ _ _ (by omega)]
          exact HC.out.2.1
      · have hp1 : (k : Int) % 2 = 1 := by omega
        rw [if_neg hpar] at hdat
        have hdi : (b : Int) % 16 = (d : Int) := by omega
        clear hdat hpar
        go_wp2_with (at_builtin; refine append_ints rfl (.tmp 29) (.tmp 31) rfl (X + 1) _ _ _ rfl (HO.out.alloc _) ⟨wr.heap.size, 0, none⟩ 1 1 [.int .i64 (d : Int)] rfl rfl (new_cells _ _ _) (by intro u hu; simp at hu; subst hu; rfl) (by omega) (by have := H9.out; simp; omega) ?_; intro v' w5 hown5 hgrow5; have HO5 := Lib.hid hown5; have HG5 := Lib.hid hgrow5; clear hown5 hgrow5)
        have hne : ∀ j, Value.ownBlock u4 = some j → X + 1 ≤ j := fun j hj => (own_geI HO.out hj).1
        have h9 := H9.out
        have h10 := HC.out.2.2.2
        have hsz5 := HG5.out.size
        rw [World.size_alloc] at hsz5
        refine ⟨⟨k + 1, by omega, by go_num, by rw [HCS.out], Lib.hid ?_, Lib.hid ⟨(HC.out.1.alloc HC.out.1.size _).grown HG5.out (by simp; omega) (fun j hj => (by have := hne j hj; omega)), ?_, by omega, h10⟩⟩, by simp [intOf]; omega⟩
        · rw [HTS.out, ivals_app]
          exact HO5.out
        · rw [HG5.out.block X (by simp; omega) (fun e => by have := hne _ e.symm; omega), Below.heap_alloc _ _ _ (by omega)]
          exact HC.out.2.1
    · have hkk : k = 32 := by omega
      subst hkk
      have hge : ¬ ((32 : Nat) : Int) < 32 := by omega
      have hst : D.take 32 = D := List.take_of_length_le (by rw [HDL.out]; exact Nat.le_refl _)
      rw [hst] at HO ⊢
      have hcl := HC480.out
      obtain ⟨C, hC⟩ : ∃ C, csum D = C := ⟨_, rfl⟩
      rw [hC] at hcl ⊢
      have HCC := Lib.hid hC
      have hne : (ivals [C / 256, C / 16 % 16, C % 16]) = [Value.int .i64 ((C : Int) / 256), Value.int .i64 ((C : Int) / 16 % 16), Value.int .i64 ((C : Int) % 16)] := by simp [ivals]
      have HNE := Lib.hid hne
      have H9 := Lib.hid HC.out.2.2.1
      clear hst hC hne
      go_wp2_with (at_builtin; refine append_ints rfl (.tmp 37) (.tmp 45) rfl (X + 1) _ _ _ rfl (HO.out.alloc _) ⟨wr.heap.size, 0, none⟩ 3 3 [.int .i64 ((C : Int) / 256), .int .i64 ((C : Int) / 16 % 16), .int .i64 ((C : Int) % 16)] rfl rfl (new_cells _ _ _) (by intro u hu; simp at hu; rcases hu with rfl | rfl | rfl <;> rfl) (by omega) (by have := H9.out; simp; omega) ?_; intro v' w5 hown5 hgrow5; have HO5 := Lib.hid hown5; have HG5 := Lib.hid hgrow5; clear hown5 hgrow5)
      go_ret
      obtain ⟨Y, cap, rfl, hY⟩ := own_sliceI HO5.out (by decide)
      refine ⟨Y, ⟨cap, rfl⟩, by have := HC.out.2.2.2; omega, ?_, ?_⟩
      · refine ints_own (b := X + 1) (n := 35) (c := cap) ?_
        rw [ivals_app, HCC.out, HNE.out]
        exact HO5.out
      · have h9 := HC.out.2.2.2
        exact (HC.out.1.alloc HC.out.1.size _).grown HG5.out (by have := HC.out.1.size; simp; omega) (fun j hj => (by have := (own_geI HO.out hj).1; omega))
end Go.Proofs.YtgnemclpopjhoaaDoor
