import Derived.Test.YthfgdgcdicacpaaOcCI
import Derived.Lib.AppendStr
import Derived.Lib.ConvBytes
import Derived.Maps.AppendAt
namespace Go.Proofs.Ythfgdgcdicacpaa
open Go.RowKit Sha Oc
set_option linter.unusedVariables false
set_option linter.unusedSimpArgs false
end Go.Proofs.Ythfgdgcdicacpaa
namespace Go.Proofs.Ythfgdgcdicacpaa
open Go.RowKit Sha Oc
set_option linter.unusedVariables false
set_option linter.unusedSimpArgs false
theorem cell_one_new8 (w : World) (a : Value) (t : TypeId) : ∀ j u, ([a] : List Value)[j]? = some u → (w.alloc (.cells #[a] t)).cell? ((⟨w.heap.size, 0, none⟩ : Addr).add j) = some u := fun j u hj => by
 rw [add_eq, Nat.zero_add, cell_of_row _ _ _ _ _ _ (heap_alloc_new w _), List.getElem?_toArray]
 exact hj
theorem nb_len : ∀ (k x : Nat), x < 256 ^ k → (nb x).length ≤ k := fun k => by
 induction k with
 | zero =>
  intro x hx
  obtain rfl : x = 0 := by omega
  rw [nb_zero]
  exact Nat.zero_le _
 | succ k ih =>
  intro x hx
  by_cases h0 : x = 0
  ·
   subst h0
   rw [nb_zero]
   exact Nat.zero_le _
  ·
   have h1 := ih (x / 256) (by rw [Nat.div_lt_iff_lt_mul (by decide)]; rw [Nat.pow_succ] at hx; exact hx)
   rw [nb_pos x h0, List.length_append]
   simp
   omega
def NbPost (x : Nat) (w : World) (e : Ending) (w' : World) : Prop := ∃ v, e = .returned v ∧ w'.ownsRow w.heap.size 5 1 v (nb x).length (bvals (nb x)) ∧ Below w.heap.size w w'
set_option maxRecDepth 100000 in
set_option maxHeartbeats 4000000 in
theorem bytesof_any : ∀ (k x : Nat), x < 256 ^ k → k ≤ 8 → ∀ w : World, Calls Try.prog 75 #[.int .u64 (x : Int)] w (NbPost x w) := fun k => by
 induction k with
 | zero =>
  intro x hx _ w
  obtain rfl : x = 0 := by omega
  go_enter Try.func75, Try.ntmps75
  go_wp2_with fail
  go_ret
  exact ⟨_, rfl, ⟨by rw [nb_zero]; rfl, .inl ⟨rfl, by rw [nb_zero]; rfl⟩⟩, Below.refl _ _⟩
 | succ k ih =>
  intro x hx hk w
  by_cases h0 : x = 0
  ·
   subst h0
   clear ih
   go_enter Try.func75, Try.ntmps75
   go_wp2_with fail
   go_ret
   exact ⟨_, rfl, ⟨by rw [nb_zero]; rfl, .inl ⟨rfl, by rw [nb_zero]; rfl⟩⟩, Below.refl _ _⟩
  ·
   obtain ⟨i0, hi, hz0, hz1, hz2⟩ := info_parts Try.info_byte
   have HI := Lib.hid hi
   have hi0 : ¬ (x : Int) = 0 := by omega
   have hie : ((x : Int) == 0) = false := by simp [h0]
   have hx2 : x / 256 < 256 ^ k := by rw [Nat.div_lt_iff_lt_mul (by decide)]; rw [Nat.pow_succ] at hx; exact hx
   have h64 : x < 18446744073709551616 := by
    have h2 : (256 : Nat) ^ (k + 1) ≤ 256 ^ 8 := Nat.pow_le_pow_right (by decide) hk
    have h3 : (256 : Nat) ^ 8 = 18446744073709551616 := by decide
    omega
   have hcall := ih (x / 256) hx2 (by omega) w
   unfold NbPost at hcall
   have HC := Lib.hid hcall
   have HNB := Lib.hid (nb_pos x h0)
   have HL := Lib.hid (nb_len k (x / 256) hx2)
   obtain ⟨y, hy⟩ : ∃ y : UInt8, UInt8.ofNat (x % 256) = y := ⟨_, rfl⟩
   have hyn : ((y.toNat : Nat) : Int) = (x : Int) % 256 := by rw [← hy, u8n _ (by omega)]; omega
   rw [hy] at HNB
   have HYN := Lib.hid hyn
   have HK := Lib.hid hk
   clear hi hcall ih hx hx2 h0 hy hyn hk
   go_enter Try.func75, Try.ntmps75
   go_wp2_with fail
   refine (HC.out).mono ?_
   rintro e w1 ⟨v, rfl, hown, hb1⟩
   have HO := Lib.hid hown
   have HB := Lib.hid hb1
   have HSZ := Lib.hid hb1.size
   clear hown hb1
   go_wp2_with (at_builtin; go_loud (refine wpList_append_own_at _ rfl (.tmp 7) (.tmp 10) 26 rfl w.heap.size 5 i0 (.int .u8 0) 1 1 Try.underlying26 HI.out hz0 hz1 hz2 rfl (by decide) _ _ _ rfl (HO.out.alloc _) ⟨w1.heap.size, 0, none⟩ 1 1 [_] rfl rfl (cell_one_new8 _ _ _) (by simp [Value.oneCell']) (by have := HL.out; have := HK.out; unfold maxLen; omega) (by have := HL.out; have := HK.out; omega) (by have := HSZ.out; simp; omega) ?_); intro v' w5 hown5 hgrow5 _ hloc5; have HO5 := Lib.hid hown5; have HG5 := Lib.hid hgrow5; clear hown5 hgrow5 hloc5)
   go_ret
   refine ⟨_, rfl, ?_, (HB.out.alloc HSZ.out _).grown HG5.out (by have := HSZ.out; simp; omega) (fun j hj => (own_ge HO.out hj).1)⟩
   rw [HNB.out, bvals_app, List.length_append]
   have h9 := HO5.out
   rw [← HYN.out] at h9
   exact h9
end Go.Proofs.Ythfgdgcdicacpaa
namespace Go.Proofs.Ythfgdgcdicacpaa
open Go.RowKit Sha Oc
set_option linter.unusedVariables false
set_option linter.unusedSimpArgs false
set_option maxRecDepth 100000 in
set_option maxHeartbeats 4000000 in
theorem seq_any (tg : UInt8) (l : List Oct) (hll : l.length ≤ 5000) (hT : ∀ o ∈ l, cnt o ≤ 5000 ∧ tot o ≤ 100000) (B : Option Addr) (d g off : Nat) (vb vl : Nat → Value) (w : World) (he : Els w B l g off vb vl) : Calls Try.prog 50 #[.int .u8 (tg.toNat : Int), .slice B l.length d] w (TwPost (.mk tg [] l) w) := by
 have HT := Lib.hid (fun (V : World) (hb : Below w.heap.size w V) => twins_of l hll (fun k o ho V x y hat => twin_all 5000 o (hT o (List.mem_of_getElem? ho)).1 (Nat.le_refl _) (hT o (List.mem_of_getElem? ho)).2 V x y hat) B d g off vb vl V (he.on hb))
 unfold TwsPost at HT
 have HL := Lib.hid hll
 clear hT he hll
 go_enter Try.func50, Try.ntmps50
 go_upto_region 1 with (fail)
 obtain ⟨V, hV, hb0, hr0⟩ : ∃ V, World.alloc w (.cells #[.int .u8 0, .slice none 0 0, .slice none 0 0] 63) = V ∧ Below w.heap.size w V ∧ V.heap[w.heap.size]? = some (.cells #[.int .u8 0, .slice none 0 0, .slice none 0 0] 63 (0, 0)) := ⟨_, rfl, below_new w _, heap_alloc_new w _⟩
 rw [hV]
 clear hV
 have HB0 := Lib.hid hb0
 have HR0 := Lib.hid hr0
 have hle0 : w.heap.size ≤ V.heap.size := hb0.size
 clear hb0 hr0

 go_wp2_with fail
 refine (HT.out V HB0.out).mono ?_
 rintro e W ⟨v, ts, rfl, hts, hown, hels, hb1⟩
 have HB1 := Lib.hid (chain HB0.out hb1)
 have HR1 := Lib.hid (row_on HR0.out hb1)
 have HLV : RowKit.Hid (w.heap.size < V.heap.size) := Lib.hid (Array.getElem?_eq_some_iff.1 HR0.out).1
 have htl : ts.length = l.length := by rw [← hts, List.length_map]
 rw [← htl] at hown
 obtain ⟨B2, d2, rfl, hat⟩ := at_of_rows tg (b := []) (A := none) (c := 0) hown hels (by rw [htl]; have := HL.out; omega) (Nat.le_refl _) (by decide) (fun _ => rfl) (fun h => absurd rfl h) (fun _ _ _ h => absurd rfl h)
 rw [hts] at hat
 rw [htl] at hat ⊢
 have HAT := Lib.hid hat
 clear hts hown hels hb1 htl hat
 have hlt := (Array.getElem?_eq_some_iff.1 HR1.out).1
 obtain ⟨⟨hf0, hf1, hf2⟩, hd0, hd1, hd2⟩ := facts3 HR1.out
 go_wp2_with fail
 have e9 : ∀ a b c : Value, ((W.setCell ⟨w.heap.size, 0, none⟩ a).setCell ⟨w.heap.size, 1, none⟩ b).setCell ⟨w.heap.size, 2, none⟩ c = W.setCells w.heap.size 0 [a, b, c] := fun _ _ _ => rfl
 rw [e9]
 refine bodyPost_ret (v := .agg #[.int .u8 (tg.toNat : Int), .slice none 0 0, .slice B2 l.length d2]) (results_cell_row rfl _ _ w.heap.size 63 _ (0, 0) _ rfl (row_setCells8 HR1.out rfl) Try.underlying63 rfl (sz3o _ _ _)) rfl ⟨_, _, rfl, at_setCells HAT.out HLV.out (by have := HLV.out; omega) _ _, below_setCells8 _ _ _ HB1.out (Nat.le_refl _)⟩
end Go.Proofs.Ythfgdgcdicacpaa
namespace Go.Proofs.Ythfgdgcdicacpaa
open Go.RowKit Sha Oc
set_option linter.unusedVariables false
set_option linter.unusedSimpArgs false
set_option maxRecDepth 100000
end Go.Proofs.Ythfgdgcdicacpaa
namespace Go.Proofs.Ythfgdgcdicacpaa
open Go.RowKit Sha Oc
set_option linter.unusedVariables false
set_option linter.unusedSimpArgs false
end Go.Proofs.Ythfgdgcdicacpaa
namespace Go.Proofs.Ythfgdgcdicacpaa
open Go.RowKit Sha Oc
set_option linter.unusedVariables false
set_option linter.unusedSimpArgs false
end Go.Proofs.Ythfgdgcdicacpaa
