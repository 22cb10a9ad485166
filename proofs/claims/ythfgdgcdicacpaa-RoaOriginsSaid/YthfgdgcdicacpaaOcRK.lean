import Derived.Test.YthfgdgcdicacpaaOcRFJ
namespace Go.Proofs.Ythfgdgcdicacpaa
open Go.RowKit Sha Oc
set_option linter.unusedVariables false
set_option linter.unusedSimpArgs false
theorem bytes_no (l l' : List UInt8) (k : Nat) (x y : UInt8) (h : l[k]? = some x) (h' : l'[k]? = some y) (hne : x ≠ y) : l ≠ l' := fun e => by
 rw [e, h'] at h
 exact hne (Option.some.inj h).symm
set_option maxRecDepth 100000 in
set_option maxHeartbeats 2000000 in
theorem samebytes_any (l l' : List UInt8) (A1 A2 : Option Addr) (c1 c2 : Nat) (hl : l.length ≤ 1000000) (hl' : l'.length ≤ 1000000) (w : World) (s1 : SrcAt A1 l w) (s2 : SrcAt A2 l' w) :
  Calls Try.prog 13 #[.slice A1 l.length c1, .slice A2 l'.length c2] w fun e w' => e = .returned (.bool (decide (l = l'))) ∧ Below w.heap.size w w' := by
 obtain ⟨n, hn⟩ : ∃ n, l.length = n := ⟨_, rfl⟩
 obtain ⟨n', hn'⟩ : ∃ n, l'.length = n := ⟨_, rfl⟩
 have HN := Lib.hid hn
 have HN' := Lib.hid hn'
 rw [hn] at hl ⊢
 rw [hn'] at hl' ⊢
 have S1 := Lib.hid s1
 have S2 := Lib.hid s2
 clear s1 s2
 by_cases hnn : n = n'
 ·
  subst hnn
  have hni : ((n : Int) != (n : Int)) = false := by simp
  clear hn hn' hl'
  go_enter Try.func13, Try.ntmps13
  go_wp2_with fail
  go_loopw [5] (fun i wr => ∃ (k m : Nat), k ≤ n ∧ i = .int .i64 (k : Int) ∧ RowKit.Hid (l.take k = l'.take k) ∧ RowKit.Hid (wr = w.drewN m)) (fun i _ => n - (intOf i).toNat)
  case atStart => exact ⟨0, 0, by omega, rfl, Lib.hid rfl, Lib.hid rfl⟩
  case round =>
   obtain ⟨k, m, hk, rfl, HT, HWR⟩ := hrel
   by_cases hlt : k < n
   ·
    obtain ⟨x, hx⟩ : ∃ x, l[k]? = some x := ⟨_, List.getElem?_eq_getElem (by rw [HN.out]; exact hlt)⟩
    obtain ⟨y, hy⟩ : ∃ y, l'[k]? = some y := ⟨_, List.getElem?_eq_getElem (by rw [HN'.out]; exact hlt)⟩
    obtain ⟨g1, o1, rfl, e1⟩ := S1.out (by intro e; rw [e] at hx; simp at hx)
    obtain ⟨g2, o2, rfl, e2⟩ := S2.out (by intro e; rw [e] at hy; simp at hy)
    have q1 : wr.cell? ⟨g1, o1 + k, none⟩ = some (.int .u8 (x.toNat : Int)) := by rw [HWR.out]; exact e1 k x hx
    have q2 : wr.cell? ⟨g2, o2 + k, none⟩ = some (.int .u8 (y.toNat : Int)) := by rw [HWR.out]; exact e2 k y hy
    have hki : (k : Int) < (n : Int) := by omega
    have HX := Lib.hid hx
    have HY := Lib.hid hy
    clear hx hy e1 e2
    by_cases hxy : x = y
    ·
     subst hxy
     have htk : l.take (k + 1) = l'.take (k + 1) := by rw [List.take_add_one, List.take_add_one, HX.out, HY.out, HT.out]
     have HTK := Lib.hid htk
     clear htk
     go_wp2_with fail
     go_quiet (fail)
     go_wp2_with fail
     go_roundw
     case rel => exact ⟨k + 1, _, by omega, by go_num, HTK, Lib.hid (by rw [HWR.out, World.drewN_drewN])⟩
     case measure => simp [intOf]; omega
    ·
     have hne : (((x.toNat : Nat) : Int) != ((y.toNat : Nat) : Int)) = true := by
      have : x.toNat ≠ y.toNat := fun e => hxy (UInt8.toNat_inj.1 e)
      simp
      omega
     have hd : decide (l = l') = false := decide_eq_false (bytes_no l l' k x y HX.out HY.out hxy)
     have HD := Lib.hid hd
     obtain ⟨zx, hzx⟩ : ∃ z : Int, ((x.toNat : Nat) : Int) = z := ⟨_, rfl⟩
     obtain ⟨zy, hzy⟩ : ∃ z : Int, ((y.toNat : Nat) : Int) = z := ⟨_, rfl⟩
     rw [hzx] at q1 hne
     rw [hzy] at q2 hne
     clear hxy hd hzx hzy
     go_wp2_with fail
     go_quiet (fail)
     go_wp2_with fail
     go_ret
     exact ⟨by rw [HD.out]; try rfl, by rw [HWR.out]; exact below_drewN (below_drewN (Below.refl _ _) _) _⟩
   ·
    have hge : ¬ ((k : Int) < (n : Int)) := by omega
    have hd : decide (l = l') = true := decide_eq_true (by
     have h1 := HT.out
     rw [List.take_of_length_le (by rw [HN.out]; omega), List.take_of_length_le (by rw [HN'.out]; omega)] at h1
     exact h1)
    have HD := Lib.hid hd
    clear hd
    go_wp2_with fail
    go_ret
    exact ⟨by rw [HD.out]; try rfl, by rw [HWR.out]; exact below_drewN (Below.refl _ _) _⟩
 ·
  have hni : ((n : Int) != (n' : Int)) = true := by simp; omega
  have hd : decide (l = l') = false := decide_eq_false (fun e => hnn (by rw [← hn, ← hn', e]))
  have HD := Lib.hid hd
  clear hn hn' hnn hd
  go_enter Try.func13, Try.ntmps13
  go_wp2_with fail
  go_ret
  exact ⟨by rw [HD.out]; try rfl, Below.refl _ _⟩
end Go.Proofs.Ythfgdgcdicacpaa
