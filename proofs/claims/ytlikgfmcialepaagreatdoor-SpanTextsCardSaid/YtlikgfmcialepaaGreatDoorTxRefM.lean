/-
  THE WALKS over the texts of the reference of layer 1: an address in eight groups, read.
-/
import Derived.Test.YtlikgfmcialepaaGreatDoorTxRefK
namespace Go.Proofs.YtlikgfmcialepaaGreatDoor
open Go.RowKit Adr
set_option linter.unusedVariables false
set_option linter.unusedSimpArgs false
set_option maxRecDepth 100000 in
set_option maxHeartbeats 4000000 in
theorem rap_nc_bad (s : ByteArray) (hs : s.size ≤ 100) (hidx : Lib.index s.data.toList [58, 58] = -1) (ok ok2 : Bool) (w : World)
    (h4 : ∀ w, Calls Tryz.prog 33 #[.string s, .int .u8 46, .int .u64 10, .int .u64 255] w fun e w' => ∃ p n cap, e = .returned (.tuple #[.slice p n cap, .bool ok]) ∧ (ok = true → ((n : Int) == 4) = false) ∧ Below w.heap.size w w')
    (h5 : ∀ w, Calls Tryz.prog 33 #[.string s, .int .u8 58, .int .u64 16, .int .u64 65535] w fun e w' => ∃ p n cap, e = .returned (.tuple #[.slice p n cap, .bool ok2]) ∧ (ok2 = true → ((n : Int) == 8) = false) ∧ Below w.heap.size w w') :
    Calls Tryz.prog 8 #[.string s] w fun e w' => e = .returned (.tuple #[.int .u8 0, .agg #[.int .u64 0, .int .u64 0], .int .i64 12]) ∧ Below w.heap.size w w' := by
  have H4 := Lib.hid h4
  have H5 := Lib.hid h5
  have hz : (s.size : Int) ≤ 100 := by omega
  clear h4 h5
  obtain ⟨l, hl⟩ : ∃ l, s.data.toList = l := ⟨_, rfl⟩
  have hlen : l.length = s.size := by rw [← hl]; simp
  have HAT : RowKit.Hid (∀ k, (h : k < s.size) → ∃ h2 : k < l.length, l[k] = s[k]) := Lib.hid (by
    intro k h
    subst hl
    exact ⟨by rw [hlen]; exact h, rfl⟩)
  rw [hl] at hidx
  have HIDX := Lib.hid hidx
  have HLEN := Lib.hid hlen
  clear hlen hl hs hidx
  go_enter Tryz.func8, Tryz.ntmps8
  go_wp2_with fail
  refine (H4.out _).mono ?_
  rintro e w2 ⟨p, n, cap, rfl, hok, hb2⟩
  have x0 : w2.cell? ⟨w.heap.size, 0, none⟩ = some (.int .u64 0) := by rw [hb2.cell (p := ⟨w.heap.size, 0, none⟩) (by simp)]; simp
  have x1 : w2.cell? ⟨w.heap.size, 1, none⟩ = some (.int .u64 0) := by rw [hb2.cell (p := ⟨w.heap.size, 1, none⟩) (by simp)]; simp
  have y0 : w2.frozen? ⟨w.heap.size, 0, none⟩ = false := by rw [hb2.frozen (p := ⟨w.heap.size, 0, none⟩) (by simp)]; simp
  have y1 : w2.frozen? ⟨w.heap.size, 1, none⟩ = false := by rw [hb2.frozen (p := ⟨w.heap.size, 1, none⟩) (by simp)]; simp
  have HX := Lib.hid (⟨x0, x1, y0, y1⟩ : _ ∧ _ ∧ _ ∧ _)
  have HB2 := Lib.hid (((Below.refl w.heap.size w).alloc (Nat.le_refl _) _).trans (hb2.mono (by simp)))
  clear hb2 x0 x1 y0 y1
  cases ok
  case' false => clear hok
  case' true => replace hok := hok rfl
  all_goals
    go_wp2_with fail
    go_loopw [7, 8] (fun t i wr => ∃ (k : Nat) (A : Int), k ≤ s.size ∧ i = .int .i64 (k : Int) ∧ t = .int .i64 A ∧ Seek l k A ∧ -1 ≤ A ∧ wr = w2) (fun _ i _ => s.size - (intOf i).toNat)
    case atStart => exact ⟨0, -1, Nat.zero_le _, rfl, rfl, Seek.zero l, by omega, rfl⟩
    case round =>
      obtain ⟨k, A, hk, rfl, rfl, hsk, hA1, rfl⟩ := hrel
      have HSK := Lib.hid hsk
      clear hsk
      by_cases hA : A = -1
      · subst hA
        by_cases hlt : k + 1 < s.size
        · have hki : (k : Int) + 1 < (s.size : Int) := by omega
          obtain ⟨hk0, e0⟩ := HAT.out k (by omega)
          obtain ⟨hk1, e1⟩ := HAT.out (k + 1) hlt
          have hno : (l[k] == 58 && l[k + 1] == 58) = false := by
            cases hc : (l[k] == 58 && l[k + 1] == 58)
            · rfl
            · have h := (HSK.out.hit (by rw [HLEN.out]; exact hlt) hc).done (Or.inr (by omega))
              rw [HIDX.out] at h
              omega
          have HN2 := Lib.hid (HSK.out.on (by rw [HLEN.out]; exact hlt) hno)
          have hb1 : ((s[k]'(by omega)) == 58 && s[k + 1] == 58) = false := by rw [← e0, ← e1]; exact hno
          have eb : ∀ x : UInt8, ((x.toNat : Int) == 58) = (x == 58) := fun x => by
            rw [Bool.eq_iff_iff, beq_iff_eq, beq_iff_eq, ← UInt8.toNat_inj]
            have : (58 : UInt8).toNat = 58 := rfl
            omega
          rw [← eb, ← eb] at hb1
          clear hno e0 e1 eb
          cases hq0 : (((s[k]'(by omega)).toNat : Int) == 58)
          · clear hb1
            go_wp2_with fail
            exact ⟨⟨k + 1, -1, by omega, by go_num, rfl, HN2.out, by omega, trivial⟩, by simp [intOf]; omega⟩
          · cases hq1 : (((s[k + 1]'hlt).toNat : Int) == 58)
            · clear hb1
              go_wp2_with fail
              exact ⟨⟨k + 1, -1, by omega, by go_num, rfl, HN2.out, by omega, trivial⟩, by simp [intOf]; omega⟩
            · rw [hq0, hq1] at hb1
              cases hb1
        · have hki : (s.size : Int) ≤ (k : Int) + 1 := by omega
          clear HSK HIDX HAT
          go_wp2_with fail
          refine (H5.out _).mono ?_
          rintro e w3 ⟨p3, n3, cap3, rfl, hok2, hb3⟩
          obtain ⟨x0, x1, y0, y1⟩ := HX.out
          have z0 : w.heap.size < wr.heap.size := by have := World.block_lt_of_cell? _ _ x0; simpa using this
          have p0 := (hb3.cell (p := ⟨w.heap.size, 0, none⟩) z0).trans x0
          have p1 := (hb3.cell (p := ⟨w.heap.size, 1, none⟩) z0).trans x1
          have q0 := (hb3.frozen (p := ⟨w.heap.size, 0, none⟩) z0).trans y0
          have q1 := (hb3.frozen (p := ⟨w.heap.size, 1, none⟩) z0).trans y1
          have HB3 := Lib.hid (HB2.out.trans (hb3.mono (by omega)))
          clear x0 x1 y0 y1 z0 hb3 HX HB2
          cases ok2
          case' false => clear hok2
          case' true => replace hok2 := hok2 rfl
          all_goals
            go_wp2_with fail
            have B := two_set (v0 := .int .u64 0) (v1 := .int .u64 0) p0 p1
            refine bodyPost_ret (v := .tuple #[.int .u8 0, .agg #[.int .u64 0, .int .u64 0], .int .i64 12]) (by simp [results, Tryz.results8, go_sem, B.1, B.2]) rfl ⟨rfl, two_below HB3.out (Nat.le_refl _)⟩
      · exfalso
        have h := HSK.out.done (Or.inr (by omega))
        rw [HIDX.out] at h
        exact hA h
end Go.Proofs.YtlikgfmcialepaaGreatDoor
namespace Go.Proofs.YtlikgfmcialepaaGreatDoor
open Go.RowKit Adr
set_option linter.unusedVariables false
set_option linter.unusedSimpArgs false
set_option maxRecDepth 100000 in
set_option maxHeartbeats 4000000 in
theorem rap_nc_eight (s : ByteArray) (hs : s.size ≤ 100) (hidx : Lib.index s.data.toList [58, 58] = -1) (ok : Bool) (a b c d e f i j : Nat) (hg : grR 16 65535 58 s = some [a, b, c, d, e, f, i, j]) (w : World)
    (h4 : ∀ w, Calls Tryz.prog 33 #[.string s, .int .u8 46, .int .u64 10, .int .u64 255] w fun e w' => ∃ p n cap, e = .returned (.tuple #[.slice p n cap, .bool ok]) ∧ (ok = true → ((n : Int) == 4) = false) ∧ Below w.heap.size w w') (H L : Nat) (hH : ((a * 65536 + b) * 65536 + c) * 65536 + d = H) (hL : ((e * 65536 + f) * 65536 + i) * 65536 + j = L) (X : ByteArray) (hX : str (addrS 6 H L) = X) (t : Bool) (ht : (X.toList == s.toList) = t) :
    Calls Tryz.prog 8 #[.string s] w fun e w' => e = .returned (.tuple #[.int .u8 (if t = true then 6 else 0), .agg #[.int .u64 ((if t = true then H else 0 : Nat) : Int), .int .u64 ((if t = true then L else 0 : Nat) : Int)], .int .i64 (if t = true then 0 else 12)]) ∧ Below w.heap.size w w' := by
  have H4 := Lib.hid h4
  have H5 : RowKit.Hid (∀ w, Calls Tryz.prog 33 #[.string s, .int .u8 58, .int .u64 16, .int .u64 65535] w (GroupsLeft (some [a, b, c, d, e, f, i, j]) w)) := Lib.hid (fun w => by
    have h := groups_any s 58 16 65535 (by omega) (by omega) (by omega) (by omega) w
    rw [hg] at h
    exact h)
  have hle := grR_le (by omega) (by omega) hg
  have HLE := Lib.hid (⟨hle a (by simp), hle b (by simp), hle c (by simp), hle d (by simp), hle e (by simp), hle f (by simp), hle i (by simp), hle j (by simp)⟩ : a ≤ 65535 ∧ b ≤ 65535 ∧ c ≤ 65535 ∧ d ≤ 65535 ∧ e ≤ 65535 ∧ f ≤ 65535 ∧ i ≤ 65535 ∧ j ≤ 65535)
  have HH := Lib.hid hH
  have HLO := Lib.hid hL
  have HT := Lib.hid ht
  have HTX : RowKit.Hid (∀ w, Calls Tryz.prog 6 #[.int .u8 6, .agg #[.int .u64 H, .int .u64 L]] w fun e w' => e = .returned (.tuple #[.string X, .int .i64 0]) ∧ Below w.heap.size w w') := Lib.hid (fun w => by
    have h := rtext_yes 6 H L rfl (by have := hle a (by simp); have := hle b (by simp); have := hle c (by simp); have := hle d (by simp); omega) (by have := hle e (by simp); have := hle f (by simp); have := hle i (by simp); have := hle j (by simp); omega) w
    rw [hX] at h
    exact h)
  have hz : (s.size : Int) ≤ 100 := by omega
  clear h4 hg hle hH hL hX ht
  obtain ⟨l, hl⟩ : ∃ l, s.data.toList = l := ⟨_, rfl⟩
  have hlen : l.length = s.size := by rw [← hl]; simp
  have HAT : RowKit.Hid (∀ k, (h : k < s.size) → ∃ h2 : k < l.length, l[k] = s[k]) := Lib.hid (by
    intro k h
    subst hl
    exact ⟨by rw [hlen]; exact h, rfl⟩)
  rw [hl] at hidx
  have HIDX := Lib.hid hidx
  have HLEN := Lib.hid hlen
  clear hlen hl hs hidx
  go_enter Tryz.func8, Tryz.ntmps8
  go_wp2_with fail
  refine (H4.out _).mono ?_
  rintro e0 w2 ⟨p, n, cap, rfl, hok, hb2⟩
  have x0 : w2.cell? ⟨w.heap.size, 0, none⟩ = some (.int .u64 0) := by rw [hb2.cell (p := ⟨w.heap.size, 0, none⟩) (by simp)]; simp
  have x1 : w2.cell? ⟨w.heap.size, 1, none⟩ = some (.int .u64 0) := by rw [hb2.cell (p := ⟨w.heap.size, 1, none⟩) (by simp)]; simp
  have y0 : w2.frozen? ⟨w.heap.size, 0, none⟩ = false := by rw [hb2.frozen (p := ⟨w.heap.size, 0, none⟩) (by simp)]; simp
  have y1 : w2.frozen? ⟨w.heap.size, 1, none⟩ = false := by rw [hb2.frozen (p := ⟨w.heap.size, 1, none⟩) (by simp)]; simp
  have HX := Lib.hid (⟨x0, x1, y0, y1⟩ : _ ∧ _ ∧ _ ∧ _)
  have HB2 := Lib.hid (((Below.refl w.heap.size w).alloc (Nat.le_refl _) _).trans (hb2.mono (by simp)))
  clear hb2 x0 x1 y0 y1
  cases ok
  case' false => clear hok
  case' true => replace hok := hok rfl
  all_goals
    go_wp2_with fail
    go_loopw [7, 8] (fun t i wr => ∃ (k : Nat) (A : Int), k ≤ s.size ∧ i = .int .i64 (k : Int) ∧ t = .int .i64 A ∧ Seek l k A ∧ -1 ≤ A ∧ wr = w2) (fun _ i _ => s.size - (intOf i).toNat)
    case atStart => exact ⟨0, -1, Nat.zero_le _, rfl, rfl, Seek.zero l, by omega, rfl⟩
    case round =>
      obtain ⟨k, A, hk, rfl, rfl, hsk, hA1, rfl⟩ := hrel
      have HSK := Lib.hid hsk
      clear hsk
      by_cases hA : A = -1
      · subst hA
        by_cases hlt : k + 1 < s.size
        · have hki : (k : Int) + 1 < (s.size : Int) := by omega
          obtain ⟨hk0, e0⟩ := HAT.out k (by omega)
          obtain ⟨hk1, e1⟩ := HAT.out (k + 1) hlt
          have hno : (l[k] == 58 && l[k + 1] == 58) = false := by
            cases hc : (l[k] == 58 && l[k + 1] == 58)
            · rfl
            · have h := (HSK.out.hit (by rw [HLEN.out]; exact hlt) hc).done (Or.inr (by omega))
              rw [HIDX.out] at h
              omega
          have HN2 := Lib.hid (HSK.out.on (by rw [HLEN.out]; exact hlt) hno)
          have hb1 : ((s[k]'(by omega)) == 58 && s[k + 1] == 58) = false := by rw [← e0, ← e1]; exact hno
          have eb : ∀ x : UInt8, ((x.toNat : Int) == 58) = (x == 58) := fun x => by
            rw [Bool.eq_iff_iff, beq_iff_eq, beq_iff_eq, ← UInt8.toNat_inj]
            have : (58 : UInt8).toNat = 58 := rfl
            omega
          rw [← eb, ← eb] at hb1
          clear hno e0 e1 eb
          cases hq0 : (((s[k]'(by omega)).toNat : Int) == 58)
          · clear hb1
            go_wp2_with fail
            exact ⟨⟨k + 1, -1, by omega, by go_num, rfl, HN2.out, by omega, trivial⟩, by simp [intOf]; omega⟩
          · cases hq1 : (((s[k + 1]'hlt).toNat : Int) == 58)
            · clear hb1
              go_wp2_with fail
              exact ⟨⟨k + 1, -1, by omega, by go_num, rfl, HN2.out, by omega, trivial⟩, by simp [intOf]; omega⟩
            · rw [hq0, hq1] at hb1
              cases hb1
        · have hki : (s.size : Int) ≤ (k : Int) + 1 := by omega
          clear HSK HIDX HAT
          go_wp2_with fail
          refine (H5.out _).mono ?_
          rintro e3 w3 ⟨v3, rfl, hown, -, hb3⟩
          obtain ⟨g, cap3, rfl, hgb, -, -, hg3, hg4⟩ := own_u64V hown (by simp)
          have c0 : w3.cell? ⟨g, 0, none⟩ = some (.int .u64 (a : Int)) := hg4 0 _ rfl
          have c1 : w3.cell? ⟨g, 1, none⟩ = some (.int .u64 (b : Int)) := hg4 1 _ rfl
          have c2 : w3.cell? ⟨g, 2, none⟩ = some (.int .u64 (c : Int)) := hg4 2 _ rfl
          have c3 : w3.cell? ⟨g, 3, none⟩ = some (.int .u64 (d : Int)) := hg4 3 _ rfl
          have c4 : w3.cell? ⟨g, 4, none⟩ = some (.int .u64 (e : Int)) := hg4 4 _ rfl
          have c5 : w3.cell? ⟨g, 5, none⟩ = some (.int .u64 (f : Int)) := hg4 5 _ rfl
          have c6 : w3.cell? ⟨g, 6, none⟩ = some (.int .u64 (i : Int)) := hg4 6 _ rfl
          have c7 : w3.cell? ⟨g, 7, none⟩ = some (.int .u64 (j : Int)) := hg4 7 _ rfl
          obtain ⟨x0, x1, y0, y1⟩ := HX.out
          have z0 : w.heap.size < wr.heap.size := by have := World.block_lt_of_cell? _ _ x0; simpa using this
          have p0 := (hb3.cell (p := ⟨w.heap.size, 0, none⟩) z0).trans x0
          have p1 := (hb3.cell (p := ⟨w.heap.size, 1, none⟩) z0).trans x1
          have q0 := (hb3.frozen (p := ⟨w.heap.size, 0, none⟩) z0).trans y0
          have q1 := (hb3.frozen (p := ⟨w.heap.size, 1, none⟩) z0).trans y1
          have HB3 := Lib.hid (HB2.out.trans (hb3.mono (by omega)))
          clear x0 x1 y0 y1 z0 hb3 HX HB2 hown hg4
          go_wp2_with fail
          go_region_held3 (fun z => z.cell? ⟨g, 0, none⟩ = some (.int .u64 (a : Int)) ∧ z.cell? ⟨g, 1, none⟩ = some (.int .u64 (b : Int)) ∧ z.cell? ⟨g, 2, none⟩ = some (.int .u64 (c : Int)) ∧ z.cell? ⟨g, 3, none⟩ = some (.int .u64 (d : Int)) ∧ z.cell? ⟨g, 4, none⟩ = some (.int .u64 (e : Int)) ∧ z.cell? ⟨g, 5, none⟩ = some (.int .u64 (f : Int)) ∧ z.cell? ⟨g, 6, none⟩ = some (.int .u64 (i : Int)) ∧ z.cell? ⟨g, 7, none⟩ = some (.int .u64 (j : Int))) (first | exact ⟨c0, c1, c2, c3, c4, c5, c6, c7⟩ | go_keep) (fail)
          rename_i hheld
          clear hheld c0 c1 c2 c3 c4 c5 c6 c7
          have hW1 : IntKind.u64.wrap (IntKind.u64.wrap (IntKind.u64.wrap (IntKind.u64.wrap (IntKind.u64.wrap (IntKind.u64.wrap ((a : Int) * 65536) + (b : Int)) * 65536) + (c : Int)) * 65536) + (d : Int)) = (H : Int) := by
            obtain ⟨la, lb, lc, ld, -, -, -, -⟩ := HLE.out
            have hT := HH.out
            rw [wrap_s ((a : Int) * 65536) (by omega) (by omega), wrap_s ((a : Int) * 65536 + (b : Int)) (by omega) (by omega), wrap_s (((a : Int) * 65536 + (b : Int)) * 65536) (by omega) (by omega), wrap_s (((a : Int) * 65536 + (b : Int)) * 65536 + (c : Int)) (by omega) (by omega), wrap_s ((((a : Int) * 65536 + (b : Int)) * 65536 + (c : Int)) * 65536) (by omega) (by omega), wrap_s ((((a : Int) * 65536 + (b : Int)) * 65536 + (c : Int)) * 65536 + (d : Int)) (by omega) (by omega)]
            omega
          have hW2 : IntKind.u64.wrap (IntKind.u64.wrap (IntKind.u64.wrap (IntKind.u64.wrap (IntKind.u64.wrap (IntKind.u64.wrap ((e : Int) * 65536) + (f : Int)) * 65536) + (i : Int)) * 65536) + (j : Int)) = (L : Int) := by
            obtain ⟨-, -, -, -, la, lb, lc, ld⟩ := HLE.out
            have hT := HLO.out
            rw [wrap_s ((e : Int) * 65536) (by omega) (by omega), wrap_s ((e : Int) * 65536 + (f : Int)) (by omega) (by omega), wrap_s (((e : Int) * 65536 + (f : Int)) * 65536) (by omega) (by omega), wrap_s (((e : Int) * 65536 + (f : Int)) * 65536 + (i : Int)) (by omega) (by omega), wrap_s ((((e : Int) * 65536 + (f : Int)) * 65536 + (i : Int)) * 65536) (by omega) (by omega), wrap_s ((((e : Int) * 65536 + (f : Int)) * 65536 + (i : Int)) * 65536 + (j : Int)) (by omega) (by omega)]
            omega
          rw [hW1, hW2]
          clear hW1 hW2
          have z3 : w.heap.size < w3.heap.size := by have := World.block_lt_of_cell? _ _ p0; simpa using this
          have hb4 : Below w3.heap.size w3 (w3.alloc (Obj.cells #[Value.int IntKind.u64 (H : Int), Value.int IntKind.u64 (L : Int)] 24)).drew := ((Below.refl _ _).alloc (Nat.le_refl _) _).drew
          have n0 : (w3.alloc (Obj.cells #[Value.int IntKind.u64 (H : Int), Value.int IntKind.u64 (L : Int)] 24)).drew.cell? ⟨w3.heap.size, 0, none⟩ = some (.int .u64 (H : Int)) := by simp
          have n1 : (w3.alloc (Obj.cells #[Value.int IntKind.u64 (H : Int), Value.int IntKind.u64 (L : Int)] 24)).drew.cell? ⟨w3.heap.size, 1, none⟩ = some (.int .u64 (L : Int)) := by simp
          have HNE := Lib.hid (Nat.ne_of_lt z3)
          generalize hv4 : (w3.alloc (Obj.cells #[Value.int IntKind.u64 (H : Int), Value.int IntKind.u64 (L : Int)] 24)).drew = w4 at hb4 n0 n1 ⊢
          have r0 := (hb4.cell (p := ⟨w.heap.size, 0, none⟩) z3).trans p0
          have r1 := (hb4.cell (p := ⟨w.heap.size, 1, none⟩) z3).trans p1
          have s0 := (hb4.frozen (p := ⟨w.heap.size, 0, none⟩) z3).trans q0
          have s1 := (hb4.frozen (p := ⟨w.heap.size, 1, none⟩) z3).trans q1
          have HB4 := Lib.hid (HB3.out.trans (hb4.mono (by omega)))
          clear hv4 hb4 p0 p1 q0 q1 HB3 hgb hg3
          have z4 : w.heap.size < w4.heap.size := by have := World.block_lt_of_cell? _ _ r0; simpa using this
          have z5 : w3.heap.size < w4.heap.size := by have := World.block_lt_of_cell? _ _ n0; simpa using this
          go_wp2_with fail
          refine (HTX.out _).mono ?_
          rintro e5 w5 ⟨rfl, hb5⟩
          have p0 := (hb5.cell (p := ⟨w.heap.size, 0, none⟩) z4).trans r0
          have p1 := (hb5.cell (p := ⟨w.heap.size, 1, none⟩) z4).trans r1
          have q0 := (hb5.frozen (p := ⟨w.heap.size, 0, none⟩) z4).trans s0
          have q1 := (hb5.frozen (p := ⟨w.heap.size, 1, none⟩) z4).trans s1
          have m0 := (hb5.cell (p := ⟨w3.heap.size, 0, none⟩) z5).trans n0
          have m1 := (hb5.cell (p := ⟨w3.heap.size, 1, none⟩) z5).trans n1
          have HB5 := Lib.hid (HB4.out.trans (hb5.mono (by omega)))
          clear hb5 r0 r1 s0 s1 n0 n1 HB4 z4 z5
          have ht := HT.out
          cases t
          · go_wp2_with fail
            have B := two_set (v0 := .int .u64 0) (v1 := .int .u64 0) p0 p1
            refine bodyPost_ret (v := .tuple #[.int .u8 0, .agg #[.int .u64 0, .int .u64 0], .int .i64 12]) (by simp [results, Tryz.results8, go_sem, B.1, B.2]) rfl ⟨rfl, two_below HB5.out (Nat.le_refl _)⟩
          · have hfar : ∀ (q r : Nat), (⟨w.heap.size, q, none⟩ : Addr) ≠ ⟨w3.heap.size, r, none⟩ := fun q r h => HNE.out (congrArg Addr.block h)
            have HF := Lib.hid hfar
            clear hfar
            go_wp2_with fail
            go_region_held3 (fun z => z.cell? ⟨w3.heap.size, 0, none⟩ = some (.int .u64 (H : Int)) ∧ z.cell? ⟨w3.heap.size, 1, none⟩ = some (.int .u64 (L : Int))) (first | exact ⟨m0, m1⟩ | exact ⟨cell_far (cell_far m0 (HF.out _ _)) (HF.out _ _), cell_far (cell_far m1 (HF.out _ _)) (HF.out _ _)⟩ | go_keep) (fail)
            rename_i hheld2
            clear hheld2
            have B := two_set (v0 := .int .u64 (H : Int)) (v1 := .int .u64 (L : Int)) p0 p1
            go_wp2_with fail
            refine bodyPost_ret (v := .tuple #[.int .u8 6, .agg #[.int .u64 (H : Int), .int .u64 (L : Int)], .int .i64 0]) (by simp [results, Tryz.results8, go_sem, B.1, B.2]) rfl ⟨rfl, (two_below HB5.out (Nat.le_refl _)).drew⟩
      · exfalso
        have h := HSK.out.done (Or.inr (by omega))
        rw [HIDX.out] at h
        exact hA h
end Go.Proofs.YtlikgfmcialepaaGreatDoor
