/-
  THE WALKS over the reference's strings: the place of a character, hexadecimal.
-/
import Derived.Test.YtjgebpgdiinmbaaDigTxM
namespace Go.Proofs.Ytjgebpgdiinmbaa
open Go.RowKit Sha
set_option linter.unusedVariables false
set_option linter.unusedSimpArgs false
def jx (i : Int) (k : Nat) : Int := if i = -1 then -1 else i + k
theorem jx_jx (i : Int) (k : Nat) (h : -1 ≤ i) : jx (jx i 1) k = jx i (k + 1) := by
  unfold jx
  by_cases h1 : i = -1
  · rw [if_pos h1, if_pos rfl, if_pos h1]
  · rw [if_neg h1, if_neg (by omega), if_neg h1]; omega
theorem idx_cons (x c : UInt8) (r : List UInt8) : Lib.indexByte (x :: r) c = if x == c then 0 else jx (Lib.indexByte r c) 1 := by
  rw [Lib.indexByte]
  unfold jx
  by_cases h : x == c
  · rw [if_pos h, if_pos h]
  · rw [if_neg h, if_neg h]
    by_cases h2 : Lib.indexByte r c = -1
    · rw [if_pos (by simpa using h2), if_pos h2]
    · rw [if_neg (by simpa using h2), if_neg h2]; rfl
set_option maxRecDepth 100000 in
set_option maxHeartbeats 1000000 in
theorem place_any (al : ByteArray) (hs : al.size ≤ 1000) (c : UInt8) (w : World) :
    Calls Try.prog 15 #[.string al, .int .u8 (c.toNat : Int)] w fun e w' => e = .returned (.int .i64 (dv al c)) ∧ w = w' := by
  obtain ⟨D, hD⟩ : ∃ D, dv al c = D := ⟨_, rfl⟩
  rw [hD]
  have h0 : D = jx (Lib.indexByte (al.data.toList.drop 0) c) 0 := by
    rw [← hD, List.drop_zero]
    unfold jx dv
    split
    · assumption
    · omega
  have H0 := Lib.hid h0
  clear hD h0
  go_enter Try.func15, Try.ntmps15
  go_wp2_with fail
  go_loop [5] (fun i => ∃ k : Nat, k ≤ al.size ∧ i = .int .i64 (k : Int) ∧ D = jx (Lib.indexByte (al.data.toList.drop k) c) k) (fun i => al.size - (intOf i).toNat)
  case atStart => exact ⟨0, by omega, rfl, H0.out⟩
  case round =>
    obtain ⟨k, hk, rfl, hd⟩ := hrel
    clear H0
    by_cases hlt : k < al.size
    · have hki : (k : Int) < (al.size : Int) := by omega
      have hdk : al.data.toList.drop k = al[k]'hlt :: al.data.toList.drop (k + 1) := by
        rw [List.drop_eq_getElem_cons (by simpa using hlt)]
        rfl
      rw [hdk, idx_cons] at hd
      by_cases he : (al[k]'hlt) = c
      · have hb : (((al[k]'hlt).toNat : Int) == (c.toNat : Int)) = true := by rw [he]; simp
        rw [if_pos (by simpa using he)] at hd
        have HD := Lib.hid hd
        clear hd hdk he
        go_wp2_with fail
        go_ret
        refine ⟨?_, rfl⟩
        rw [HD.out]
        unfold jx
        simp
      · have hb : (((al[k]'hlt).toNat : Int) == (c.toNat : Int)) = false := by
          rw [beq_eq_false_iff_ne]
          intro e
          exact he (UInt8.toNat_inj.1 (by omega))
        rw [if_neg (by simpa using he), jx_jx _ _ (Lib.indexByte_ge _ _)] at hd
        have HD := Lib.hid hd
        clear hd hdk he
        go_wp2_with fail
        go_round
        case rel => exact ⟨k + 1, by omega, by go_num, HD.out⟩
        case measure => simp [intOf]; omega
    · have hge : ¬ ((k : Int) < (al.size : Int)) := by omega
      rw [List.drop_of_length_le (by simp; omega)] at hd
      have HD := Lib.hid hd
      clear hd
      go_wp2_with fail
      go_ret
      refine ⟨?_, rfl⟩
      rw [HD.out]
      rfl
theorem hexS_app (a b : List UInt8) : hexS (a ++ b) = hexS a ++ hexS b := by
  induction a with
  | nil => rfl
  | cons x r ih => rw [List.cons_append, hexS_cons, hexS_cons, ih]; rfl
theorem hexL_at : ∀ d : Fin 16, hexL.extract d.val (d.val + 1) = bs [ch hexL d.val] := by decide +kernel
theorem b64L_at : ∀ d : Fin 64, b64L.extract d.val (d.val + 1) = bs [ch b64L d.val] := by decide +kernel
set_option maxRecDepth 100000 in
set_option maxHeartbeats 4000000 in
theorem rhex_any (b : List UInt8) (A : Option Addr) (c : Nat) (hl : b.length ≤ 100000) (hc : b.length ≤ c) (w : World) (hs : SrcAt A b w) :
    Calls Try.prog 9 #[.slice A b.length c] w fun e w' => e = .returned (.string (bs (hexS b))) ∧ ∃ m, w' = w.drewN m := by
  obtain ⟨F, hF⟩ : ∃ F, hexS b = F := ⟨_, rfl⟩
  have hFl : F.length = 2 * b.length := by rw [← hF]; exact hexS_len b
  obtain ⟨n, hn⟩ : ∃ n, b.length = n := ⟨_, rfl⟩
  rw [hF]
  rw [hn] at hl hc hFl ⊢
  have HN := Lib.hid hn
  have HS := Lib.hid hs
  have HF := Lib.hid hF
  have HFL := Lib.hid hFl
  clear hF hn hs hFl
  go_enter Try.func9, Try.ntmps9
  go_wp2_with fail
  go_loopw [4, 5] (fun o i wr => ∃ (k m : Nat) (done : List UInt8) (X : ByteArray), k ≤ n ∧ i = .int .i64 (k : Int) ∧ o = .string X ∧ X = bs done ∧ F = done ++ hexS (b.drop k) ∧ wr = w.drewN m) (fun _ i _ => n - (intOf i).toNat)
  case atStart => exact ⟨0, 0, [], _, by omega, rfl, rfl, rfl, HF.out.symm, rfl⟩
  case round =>
    obtain ⟨k, m, done, X, hk, rfl, rfl, hX, hd, hwr⟩ := hrel
    have hdl : done.length ≤ 200000 := by
      have h1 := congrArg List.length hd
      rw [List.length_append] at h1
      have h2 := HFL.out
      omega
    have hXs : X.size ≤ 200000 := by rw [hX, bs_size]; exact hdl
    have HWR := Lib.hid hwr
    have HD := Lib.hid hd
    have HX := Lib.hid hX
    clear hwr hd hX hdl
    by_cases hlt : k < n
    · obtain ⟨x, hx⟩ : ∃ x, b[k]? = some x := ⟨_, List.getElem?_eq_getElem (by rw [HN.out]; exact hlt)⟩
      have hne : b ≠ [] := by intro e; rw [e] at hx; simp at hx
      obtain ⟨g1, o1, rfl, c1⟩ := HS.out hne
      have e1 : wr.cell? ⟨g1, o1 + k, none⟩ = some (.int .u8 (x.toNat : Int)) := by rw [HWR.out]; exact c1 k x hx
      have hki : (k : Int) < (n : Int) := by omega
      have hdk : b.drop k = x :: b.drop (k + 1) := by
        obtain ⟨hlt2, e⟩ := List.getElem?_eq_some_iff.1 hx
        rw [List.drop_eq_getElem_cons hlt2, e]
      have hx8 := x.toNat_lt
      have hf : F = (done ++ [ch hexL (x.toNat / 16), ch hexL (x.toNat % 16)]) ++ hexS (b.drop (k + 1)) := by
        rw [HD.out, hdk, hexS_cons]
        simp
      have HF2 := Lib.hid hf
      obtain ⟨X', hX'⟩ : ∃ X', X ++ hexL.extract (x.toNat / 16) (x.toNat / 16 + 1) ++ hexL.extract (x.toNat % 16) (x.toNat % 16 + 1) = X' := ⟨_, rfl⟩
      have hx1 : X' = bs (done ++ [ch hexL (x.toNat / 16), ch hexL (x.toNat % 16)]) := by
        rw [← hX', hexL_at ⟨x.toNat / 16, by omega⟩, hexL_at ⟨x.toNat % 16, by omega⟩, HX.out, ← bs_app, ← bs_app, List.append_assoc]
        rfl
      have HX1 := Lib.hid hx1
      have HX2 := Lib.hid hX'
      clear hx hne c1 hdk hf hx1 hX'
      go_wp2_with fail
      go_quiet (fail)
      obtain ⟨p, hp⟩ : ∃ p, x.toNat / 16 = p := ⟨_, rfl⟩
      obtain ⟨q, hq⟩ : ∃ q, x.toNat % 16 = q := ⟨_, rfl⟩
      have hp2 : p < 16 := by omega
      have hq2 : q < 16 := by omega
      have hpi : (x.toNat : Int) / 16 = (p : Int) := by omega
      have hqi : (x.toNat : Int) % 16 = (q : Int) := by omega
      rw [hp, hq] at HF2 HX1 HX2
      try rw [hpi, hqi]
      clear hp hq hpi hqi hx8 e1
      go_wp2_with fail
      go_quiet (fail)
      go_wp2_with fail
      refine ⟨⟨k + 1, _, _, X', by omega, by go_num, congrArg Value.string HX2.out, HX1.out, HF2.out, by rw [HWR.out, World.drewN_drewN]⟩, by simp [intOf]; omega⟩
    · have hge : ¬ ((k : Int) < (n : Int)) := by omega
      have hfin : F = done := by rw [HD.out, List.drop_of_length_le (by rw [HN.out]; omega)]; exact List.append_nil _
      have HFI := Lib.hid hfin
      clear hfin
      go_wp2_with fail
      go_ret
      refine ⟨?_, m, HWR.out⟩
      rw [HFI.out, ← HX.out]
      rfl
end Go.Proofs.Ytjgebpgdiinmbaa
