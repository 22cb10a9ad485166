/-
  THE WALKS over the reference of layer 9: Decimal, Write.
-/
import Derived.Test.YthagoafcphaadaaDoorLocRC
namespace Go.Proofs.YthagoafcphaadaaDoor
open Go.RowKit Lo
set_option linter.unusedVariables false
set_option linter.unusedSimpArgs false
theorem decd_len (n : Nat) (h : n ≤ 65535) : (Lib.decDigits n).length ≤ 20 := by
  rw [Lib.decDigits_length]
  exact Lib.nDigits_le20 _ (by omega)
theorem dec_step (n : Nat) : Lib.decDigits n = if n < 10 then [UInt8.ofNat (48 + n % 10)] else Lib.decDigits (n / 10) ++ [UInt8.ofNat (48 + n % 10)] := by
  by_cases h : n < 10
  · rw [if_pos h, Lib.decDigits, dif_pos h, Nat.mod_eq_of_lt h]
  · rw [if_neg h, Lib.decDigits, dif_neg h]
set_option maxRecDepth 100000 in
set_option maxHeartbeats 4000000 in
theorem decimal_any : ∀ (n : Nat), n ≤ 65535 → ∀ w : World,
    Calls Tryd.prog 51 #[.int .i64 (n : Int)] w fun e w' => e = .returned (.string (str (Lib.decDigits n))) ∧ Below w.heap.size w w' := by
  intro n
  induction n using Nat.strongRecOn with
  | _ n ih =>
    intro hn w
    have hst := dec_step n
    have h48 : (UInt8.ofNat (48 + n % 10)).toNat = 48 + n % 10 := u8n _ (by omega)
    have hcv := run_convert_bytes_back (P := Tryd.prog) (w.alloc (.cells #[.int .u8 (48 + (n : Int) % 10)] 5)) 52 9 5 ⟨w.heap.size, 0, none⟩ 1 [UInt8.ofNat (48 + n % 10)] Tryd.underlying52 Tryd.underlying5 Tryd.underlying9 (fun j hj => by
      have hj0 : j = 0 := by simp at hj; omega
      subst hj0
      refine (cell_row (heap_alloc_new w (.cells #[.int .u8 (48 + (n : Int) % 10)] 5))).trans ?_
      show some (Value.int .u8 (48 + (n : Int) % 10)) = some (Value.int .u8 ((UInt8.ofNat (48 + n % 10)).toNat : Int))
      rw [h48]
      simp)
    have hcv2 : (convert 52 9 (.slice (some ⟨w.heap.size, 0, none⟩) 1 1)).run Tryd.prog (w.alloc (.cells #[.int .u8 (48 + (n : Int) % 10)] 5)) = .ok (.string (str [UInt8.ofNat (48 + n % 10)])) (w.alloc (.cells #[.int .u8 (48 + (n : Int) % 10)] 5)) := hcv
    have hb1 := below_new w (.cells #[.int .u8 (48 + (n : Int) % 10)] 5)
    have hz1 : (str [UInt8.ofNat (48 + n % 10)]).size ≤ 1 := by rw [str_size]; exact Nat.le_refl 1
    clear hcv h48
    generalize hD : UInt8.ofNat (48 + n % 10) = D at hst hcv2 hz1
    have HB1 := Lib.hid hb1
    have HCV := Lib.hid hcv2
    by_cases h : n < 10
    · rw [if_pos h] at hst
      have i1 : (n : Int) < 10 := by omega
      have HS := Lib.hid hst
      clear hst hb1 ih hD
      go_enter Tryd.func51, Tryd.ntmps51
      go_wp2_with fail
      go_ret
      exact ⟨by rw [HS.out]; rfl, HB1.out⟩
    · rw [if_neg h] at hst
      have i1 : ¬ (n : Int) < 10 := by omega
      have HS := Lib.hid hst
      have HI := Lib.hid (fun (V : World) => ih (n / 10) (by omega) (by omega) V)
      have hq : (n : Int) / 10 = ((n / 10 : Nat) : Int) := by omega
      have hz2 : (str (Lib.decDigits (n / 10))).size ≤ 20 := by rw [str_size]; exact decd_len _ (by omega)
      generalize hE : Lib.decDigits (n / 10) = E at HS HI hz2
      have HQ := Lib.hid hq
      clear hst hb1 ih hD hE hq
      go_enter Tryd.func51, Tryd.ntmps51
      go_wp2_with fail
      try rw [HQ.out]
      refine (HI.out _).mono ?_
      rintro e w2 ⟨rfl, hb2⟩
      have HB2 := Lib.hid (HB1.out.trans (hb2.mono HB1.out.size))
      clear hb2
      go_wp2_with fail
      go_ret
      exact ⟨by rw [HS.out, ← str_app]; rfl, HB2.out⟩
/-- the parts, each behind a slash -/
def sl (L : List (List UInt8)) : List UInt8 := L.flatMap (fun p => 47 :: p)
theorem tl_sl : ∀ (L : List (List UInt8)) (e : Bool), tl L e = sl L ++ (if e then [47] else [])
  | [], e => by cases e <;> rfl
  | p :: r, e => by
    show 47 :: (p ++ tl r e) = _
    rw [tl_sl r e]
    simp [sl]
theorem sl_snoc (L : List (List UInt8)) (k : Nat) (x : List UInt8) (h : L[k]? = some x) : sl (L.take (k + 1)) = sl (L.take k) ++ (47 :: x) := by
  rw [List.take_add_one, h]
  simp [sl]
theorem sl_len (L : List (List UInt8)) (n : Nat) (h : ∀ q ∈ L, q.length ≤ n) : (sl L).length ≤ L.length * (n + 1) := by
  induction L with
  | nil => simp [sl]
  | cons q r ih =>
    have h1 := h q (List.mem_cons_self ..)
    have h2 := ih (fun x hx => h x (List.mem_cons_of_mem _ hx))
    have e : sl (q :: r) = (47 :: q) ++ sl r := by simp [sl]
    rw [e, List.length_append, List.length_cons, List.length_cons, Nat.add_mul, Nat.one_mul]
    omega
end Go.Proofs.YthagoafcphaadaaDoor
