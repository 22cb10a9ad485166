/-
  THE WALKS over layer 8: Seq, of the program and of the reference. Written by wip/gen-oc8.py.
-/
import Derived.Test.YthagoafcphaadaaOcL
namespace Go.Proofs.Ythagoafcphaadaa
open Go.RowKit Sha Oc
set_option linter.unusedVariables false
set_option linter.unusedSimpArgs false
set_option maxRecDepth 100000 in
set_option maxHeartbeats 4000000 in
theorem seq_any (tg : UInt8) (l : List Oct) (hll : l.length ≤ 5000) (hT : ∀ o ∈ l, cnt o ≤ 5000 ∧ tot o ≤ 100000) (B : Option Addr) (d g off : Nat) (vb vl : Nat → Value) (w : World) (he : Els w B l g off vb vl) : Calls Try.prog 13 #[.int .u8 (tg.toNat : Int), .slice B l.length d] w (TwPost (.mk tg [] l) w) := by
  have HT := Lib.hid (fun (V : World) (hb : Below w.heap.size w V) => twins_of l hll (fun k o ho V x y hat => twin_all 5000 o (hT o (List.mem_of_getElem? ho)).1 (Nat.le_refl _) (hT o (List.mem_of_getElem? ho)).2 V x y hat) B d g off vb vl V (he.on hb))
  unfold TwsPost at HT
  have HL := Lib.hid hll
  clear hT he hll
  go_enter Try.func13, Try.ntmps13
  go_upto_region 1 with (fail)
  obtain ⟨V, hV, hb0, hr0⟩ : ∃ V, World.alloc w (.cells #[.int .u8 0, .slice none 0 0, .slice none 0 0] 28) = V ∧ Below w.heap.size w V ∧ V.heap[w.heap.size]? = some (.cells #[.int .u8 0, .slice none 0 0, .slice none 0 0] 28 (0, 0)) := ⟨_, rfl, below_new w _, heap_alloc_new w _⟩
  rw [hV]
  clear hV
  have HB0 := Lib.hid hb0
  have HR0 := Lib.hid hr0
  have hle0 : w.heap.size ≤ V.heap.size := hb0.size
  clear hb0 hr0

  go_wp2_with fail
  refine (HT.out V HB0.out).mono ?_
  rintro e W ⟨v, ts, rfl, hts, hown, hels, hb1⟩
  have HB1 := Lib.hid (chain HB0.out hb1)
  have HR1 := Lib.hid (row_on HR0.out hb1)
  have HLV : RowKit.Hid (w.heap.size < V.heap.size) := Lib.hid (Array.getElem?_eq_some_iff.1 HR0.out).1
  have htl : ts.length = l.length := by rw [← hts, List.length_map]
  rw [← htl] at hown
  obtain ⟨B2, d2, rfl, hat⟩ := at_of_rows tg (b := []) (A := none) (c := 0) hown hels (by rw [htl]; have := HL.out; omega) (Nat.le_refl _) (by decide) (fun _ => rfl) (fun h => absurd rfl h) (fun _ _ _ h => absurd rfl h)
  rw [hts] at hat
  rw [htl] at hat ⊢
  have HAT := Lib.hid hat
  clear hts hown hels hb1 htl hat
  have hlt := (Array.getElem?_eq_some_iff.1 HR1.out).1
  obtain ⟨⟨hf0, hf1, hf2⟩, hd0, hd1, hd2⟩ := facts3 HR1.out
  go_wp2_with fail
  have e9 : ∀ a b c : Value, ((W.setCell ⟨w.heap.size, 0, none⟩ a).setCell ⟨w.heap.size, 1, none⟩ b).setCell ⟨w.heap.size, 2, none⟩ c = W.setCells w.heap.size 0 [a, b, c] := fun _ _ _ => rfl
  rw [e9]
  refine bodyPost_ret (v := .agg #[.int .u8 (tg.toNat : Int), .slice none 0 0, .slice B2 l.length d2]) (results_cell_row rfl _ _ w.heap.size 28 _ (0, 0) _ rfl (row_setCells8 HR1.out rfl) Try.underlying28 rfl (sz3o _ _ _)) rfl ⟨_, _, rfl, at_setCells HAT.out HLV.out (by have := HLV.out; omega) _ _, below_setCells8 _ _ _ HB1.out (Nat.le_refl _)⟩
end Go.Proofs.Ythagoafcphaadaa
