/-
  How the reference reads strings, and that it is how the program does: mathematics.
-/
import Derived.Test.YtjgebpgdiinmbaaDigW
namespace Go.Proofs.Ytjgebpgdiinmbaa
open Go.RowKit Sha
set_option linter.unusedVariables false
set_option linter.unusedSimpArgs false
/-- the reference's reading in hexadecimal -/
def rfx : List UInt8 → Option (List UInt8)
  | [] => some []
  | [_] => none
  | a :: b :: r => if dv hexL a < 0 ∨ dv hexL b < 0 then none else (rfx r).map fun l => UInt8.ofNat (16 * (dv hexL a).toNat + (dv hexL b).toNat) :: l
theorem ch_dvxF : ∀ c : Fin 256, dv hexL (UInt8.ofNat c.val) < 0 ∨ (ch hexL (dv hexL (UInt8.ofNat c.val)).toNat = UInt8.ofNat c.val ∧ (dv hexL (UInt8.ofNat c.val)).toNat < 16) := by decide +kernel
theorem ch_dvbF : ∀ c : Fin 256, dv b64L (UInt8.ofNat c.val) < 0 ∨ (ch b64L (dv b64L (UInt8.ofNat c.val)).toNat = UInt8.ofNat c.val ∧ (dv b64L (UInt8.ofNat c.val)).toNat < 64) := by decide +kernel
theorem ch_dvx (c : UInt8) (h : ¬ dv hexL c < 0) : ch hexL (dv hexL c).toNat = c ∧ (dv hexL c).toNat < 16 := by
  have := ch_dvxF ⟨c.toNat, c.toNat_lt⟩
  rw [UInt8.ofNat_toNat] at this
  exact this.resolve_left h
theorem ch_dvb (c : UInt8) (h : ¬ dv b64L c < 0) : ch b64L (dv b64L c).toNat = c ∧ (dv b64L c).toNat < 64 := by
  have := ch_dvbF ⟨c.toNat, c.toNat_lt⟩
  rw [UInt8.ofNat_toNat] at this
  exact this.resolve_left h
theorem hexS_cons (a : UInt8) (r : List UInt8) : hexS (a :: r) = ch hexL (a.toNat / 16) :: ch hexL (a.toNat % 16) :: hexS r := by
  unfold hexS
  rw [dgB4_cons, List.map_append]
  rfl
theorem rfx_hex (b : List UInt8) : rfx (hexS b) = some b := by
  induction b with
  | nil => rfl
  | cons a r ih =>
    have ha := a.toNat_lt
    have h1 := dv_hex (a.toNat / 16) (by omega)
    have h2 := dv_hex (a.toNat % 16) (by omega)
    rw [hexS_cons, rfx, h1, h2, ih, if_neg (by omega), Option.map_some, Int.toNat_natCast, Int.toNat_natCast, ofNat_eq a _ (by omega)]
theorem hex_rfx : ∀ (s l : List UInt8), rfx s = some l → hexS l = s
  | [], l, h => by
    rw [rfx] at h
    obtain rfl := Option.some.inj h
    rfl
  | [_], l, h => by rw [rfx] at h; cases h
  | a :: b :: r, l, h => by
    rw [rfx] at h
    split at h
    · cases h
    · rename_i hn
      rw [not_or] at hn
      obtain ⟨m, hm, rfl⟩ := Option.map_eq_some_iff.1 h
      obtain ⟨e1, l1⟩ := ch_dvx a hn.1
      obtain ⟨e2, l2⟩ := ch_dvx b hn.2
      have ht : (UInt8.ofNat (16 * (dv hexL a).toNat + (dv hexL b).toNat)).toNat = 16 * (dv hexL a).toNat + (dv hexL b).toNat := by
        rw [UInt8.toNat_ofNat', Nat.mod_eq_of_lt (by omega)]
      rw [hexS_cons, ht, show (16 * (dv hexL a).toNat + (dv hexL b).toNat) / 16 = (dv hexL a).toNat by omega, show (16 * (dv hexL a).toNat + (dv hexL b).toNat) % 16 = (dv hexL b).toNat by omega, e1, e2, hex_rfx r m hm]
/-- the program's answer is the reference's -/
theorem rfx_some {s : ByteArray} {l : List UInt8} (h : rfx s.data.toList = some l) : undX s = l ∧ bs (hexS (undX s)) = s := by
  have h1 := hex_rfx _ _ h
  have h2 : undX s = l := by unfold undX; rw [← h1, undX_hex]
  refine ⟨h2, ?_⟩
  rw [h2, h1, bs_list]
theorem rfx_none {s : ByteArray} (h : rfx s.data.toList = none) : bs (hexS (undX s)) ≠ s := fun e => by
  have h1 : s.data.toList = hexS (undX s) := by
    have := congrArg (fun x : ByteArray => x.data.toList) e
    simpa [bs] using this.symm
  rw [h1, rfx_hex] at h
  cases h
/-- the reference's reading in base64 -/
def rfb : List UInt8 → Option (List UInt8)
  | [] => some []
  | a :: b :: c :: d :: r =>
    if dv b64L a < 0 ∨ dv b64L b < 0 then none else
    if c = 61 ∧ r = [] then
      if d = 61 then if (dv b64L b).toNat % 16 = 0 then some [UInt8.ofNat (4 * (dv b64L a).toNat + (dv b64L b).toNat / 16)] else none else none
    else if dv b64L c < 0 then none else
    if d = 61 ∧ r = [] then
      if (dv b64L c).toNat % 4 = 0 then some [UInt8.ofNat (4 * (dv b64L a).toNat + (dv b64L b).toNat / 16), UInt8.ofNat ((dv b64L b).toNat % 16 * 16 + (dv b64L c).toNat / 4)] else none
    else if dv b64L d < 0 then none else
    (rfb r).map fun l => UInt8.ofNat (4 * (dv b64L a).toNat + (dv b64L b).toNat / 16) :: UInt8.ofNat ((dv b64L b).toNat % 16 * 16 + (dv b64L c).toNat / 4) :: UInt8.ofNat ((dv b64L c).toNat % 4 * 64 + (dv b64L d).toNat) :: l
  | _ => none
theorem b64S_nil : b64S [] = [] := rfl
theorem b64S_one (a : UInt8) : b64S [a] = [ch b64L (a.toNat / 4), ch b64L (a.toNat % 4 * 16), 61, 61] := by
  unfold b64S b64D
  rw [dgB6_one]
  rfl
theorem b64S_two (a b : UInt8) : b64S [a, b] = [ch b64L (a.toNat / 4), ch b64L ((a.toNat * 256 + b.toNat) / 16 % 64), ch b64L (b.toNat % 16 * 4), 61] := by
  unfold b64S b64D
  rw [dgB6_two]
  rfl
theorem b64S_three (a b c : UInt8) (r : List UInt8) : b64S (a :: b :: c :: r) = ch b64L ((a.toNat * 65536 + b.toNat * 256 + c.toNat) / 262144) :: ch b64L ((a.toNat * 65536 + b.toNat * 256 + c.toNat) / 4096 % 64) :: ch b64L ((a.toNat * 65536 + b.toNat * 256 + c.toNat) / 64 % 64) :: ch b64L ((a.toNat * 65536 + b.toNat * 256 + c.toNat) % 64) :: b64S r := by
  unfold b64S b64D
  rw [dgB6_three, List.map_append]
  simp only [List.map_cons, List.map_nil, List.cons_append, List.nil_append, List.length_cons]
  rw [show ((List.map (ch b64L) (dgB 6 0 0 r)).length + 1 + 1 + 1 + 1) % 4 = (List.map (ch b64L) (dgB 6 0 0 r)).length % 4 by omega]
theorem ch_ne_pad : ∀ d : Fin 64, ch b64L d.val ≠ 61 := by decide +kernel
theorem ch_no_pad (d : Nat) (h : d < 64) : ch b64L d ≠ 61 := ch_ne_pad ⟨d, h⟩
theorem rfb_b64 (b : List UInt8) : rfb (b64S b) = some b := by
  refine three_rec (P := fun b => rfb (b64S b) = some b) rfl ?_ ?_ ?_ b
  · intro a
    have ha := a.toNat_lt
    have h1 := dv_b64 (a.toNat / 4) (by omega)
    have h2 := dv_b64 (a.toNat % 4 * 16) (by omega)
    rw [b64S_one, rfb, h1, h2, if_neg (by omega), if_pos ⟨rfl, rfl⟩, if_pos rfl, if_pos (by rw [Int.toNat_natCast]; omega), Int.toNat_natCast, Int.toNat_natCast, ofNat_eq a _ (by omega)]
  · intro a b
    have ha := a.toNat_lt
    have hb := b.toNat_lt
    have h1 := dv_b64 (a.toNat / 4) (by omega)
    have h2 := dv_b64 ((a.toNat * 256 + b.toNat) / 16 % 64) (by omega)
    have h3 := dv_b64 (b.toNat % 16 * 4) (by omega)
    rw [b64S_two, rfb, h1, h2, h3, if_neg (by omega), if_neg (fun e => ch_no_pad _ (by omega) e.1), if_neg (by omega), if_pos ⟨rfl, rfl⟩, if_pos (by rw [Int.toNat_natCast]; omega), Int.toNat_natCast, Int.toNat_natCast, Int.toNat_natCast, ofNat_eq a _ (by omega), ofNat_eq b _ (by omega)]
  · intro a b c r ih
    have ha := a.toNat_lt
    have hb := b.toNat_lt
    have hc := c.toNat_lt
    obtain ⟨N, hN⟩ : ∃ N, a.toNat * 65536 + b.toNat * 256 + c.toNat = N := ⟨_, rfl⟩
    have h1 := dv_b64 (N / 262144) (by omega)
    have h2 := dv_b64 (N / 4096 % 64) (by omega)
    have h3 := dv_b64 (N / 64 % 64) (by omega)
    have h4 := dv_b64 (N % 64) (by omega)
    rw [b64S_three, hN, rfb, h1, h2, h3, h4, if_neg (by omega), if_neg (fun e => ch_no_pad _ (by omega) e.1), if_neg (by omega), if_neg (fun e => ch_no_pad _ (by omega) e.1), if_neg (by omega), ih, Option.map_some, Int.toNat_natCast, Int.toNat_natCast, Int.toNat_natCast, Int.toNat_natCast, ofNat_eq a _ (by omega), ofNat_eq b _ (by omega), ofNat_eq c _ (by omega)]
theorem b64_rfb : ∀ (s l : List UInt8), rfb s = some l → b64S l = s
  | [], l, h => by
    rw [rfb] at h
    obtain rfl := Option.some.inj h
    rfl
  | [_], l, h => by rw [rfb] at h; cases h; all_goals simp
  | [_, _], l, h => by rw [rfb] at h; cases h; all_goals simp
  | [_, _, _], l, h => by rw [rfb] at h; cases h; all_goals simp
  | a :: b :: c :: d :: r, l, h => by
    rw [rfb] at h
    split at h
    · cases h
    · rename_i hn
      rw [not_or] at hn
      obtain ⟨e1, l1⟩ := ch_dvb a hn.1
      obtain ⟨e2, l2⟩ := ch_dvb b hn.2
      obtain ⟨x, hx⟩ : ∃ x, (dv b64L a).toNat = x := ⟨_, rfl⟩
      obtain ⟨y, hy⟩ : ∃ y, (dv b64L b).toNat = y := ⟨_, rfl⟩
      rw [hx] at h e1 l1
      rw [hy] at h e2 l2
      have t1 : (UInt8.ofNat (4 * x + y / 16)).toNat = 4 * x + y / 16 := by rw [UInt8.toNat_ofNat', Nat.mod_eq_of_lt (by omega)]
      split at h
      · rename_i hc
        obtain ⟨rfl, rfl⟩ := hc
        split at h
        · rename_i hd
          subst hd
          split at h
          · rename_i hm
            obtain rfl := Option.some.inj h
            rw [b64S_one, t1, show (4 * x + y / 16) / 4 = x by omega, show (4 * x + y / 16) % 4 * 16 = y by omega, e1, e2]
          · cases h
        · cases h
      · split at h
        · cases h
        · rename_i hc
          obtain ⟨e3, l3⟩ := ch_dvb c hc
          obtain ⟨z, hz⟩ : ∃ z, (dv b64L c).toNat = z := ⟨_, rfl⟩
          rw [hz] at h e3 l3
          have t2 : (UInt8.ofNat (y % 16 * 16 + z / 4)).toNat = y % 16 * 16 + z / 4 := by rw [UInt8.toNat_ofNat', Nat.mod_eq_of_lt (by omega)]
          split at h
          · rename_i hd
            obtain ⟨rfl, rfl⟩ := hd
            split at h
            · rename_i hm
              obtain rfl := Option.some.inj h
              rw [b64S_two, t1, t2, show (4 * x + y / 16) / 4 = x by omega, show ((4 * x + y / 16) * 256 + (y % 16 * 16 + z / 4)) / 16 % 64 = y by omega, show (y % 16 * 16 + z / 4) % 16 * 4 = z by omega, e1, e2, e3]
            · cases h
          · split at h
            · cases h
            · rename_i hd
              obtain ⟨e4, l4⟩ := ch_dvb d hd
              obtain ⟨q, hq⟩ : ∃ q, (dv b64L d).toNat = q := ⟨_, rfl⟩
              rw [hq] at h e4 l4
              have t3 : (UInt8.ofNat (z % 4 * 64 + q)).toNat = z % 4 * 64 + q := by rw [UInt8.toNat_ofNat', Nat.mod_eq_of_lt (by omega)]
              obtain ⟨m, hm, rfl⟩ := Option.map_eq_some_iff.1 h
              rw [b64S_three, t1, t2, t3, b64_rfb r m hm]
              rw [show ((4 * x + y / 16) * 65536 + (y % 16 * 16 + z / 4) * 256 + (z % 4 * 64 + q)) / 262144 = x by omega, show ((4 * x + y / 16) * 65536 + (y % 16 * 16 + z / 4) * 256 + (z % 4 * 64 + q)) / 4096 % 64 = y by omega, show ((4 * x + y / 16) * 65536 + (y % 16 * 16 + z / 4) * 256 + (z % 4 * 64 + q)) / 64 % 64 = z by omega, show ((4 * x + y / 16) * 65536 + (y % 16 * 16 + z / 4) * 256 + (z % 4 * 64 + q)) % 64 = q by omega, e1, e2, e3, e4]
theorem rfb_some {s : ByteArray} {l : List UInt8} (h : rfb s.data.toList = some l) : undB s = l ∧ bs (b64S (undB s)) = s := by
  have h1 := b64_rfb _ _ h
  have h2 : undB s = l := by
    unfold undB
    rw [← h1]
    unfold b64S
    exact undB_b64 l _
  refine ⟨h2, ?_⟩
  rw [h2, h1, bs_list]
theorem rfb_none {s : ByteArray} (h : rfb s.data.toList = none) : bs (b64S (undB s)) ≠ s := fun e => by
  have h1 : s.data.toList = b64S (undB s) := by
    have := congrArg (fun x : ByteArray => x.data.toList) e
    simpa [bs] using this.symm
  rw [h1, rfb_b64] at h
  cases h
end Go.Proofs.Ytjgebpgdiinmbaa
