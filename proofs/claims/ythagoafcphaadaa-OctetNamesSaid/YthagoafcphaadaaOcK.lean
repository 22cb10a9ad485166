/-
  THE WALKS over layer 8: Str, of the program and of the reference. Written by wip/gen-oc6.py.
-/
import Derived.Test.YthagoafcphaadaaOcJ
import Derived.Lib.AppendStr
import Derived.Lib.ConvBytes
namespace Go.Proofs.Ythagoafcphaadaa
open Go.RowKit Sha Oc
set_option linter.unusedVariables false
set_option linter.unusedSimpArgs false
def SnPost (o : Oct) (w : World) (e : Ending) (w' : World) : Prop := ∃ x y, e = .returned (.agg (cell3 o x y)) ∧ At (fun _ => True) w' o x y ∧ Below w.heap.size w w'
theorem strCells_bvals (s : ByteArray) : Lib.strCells s = bvals s.data.toList := rfl
theorem at_bytes {w : World} (t : UInt8) {b : List UInt8} {A : Option Addr} {c : Nat} (hc : b.length ≤ c) (hbm : b.length ≤ 140737488355328) (hcn : A = none → c = 0) (hs : SrcAt A b w) : At (fun _ => True) w (.mk t b []) (.slice A b.length c) (.slice none 0 0) :=
  .mk t b [] A c none 0 0 0 (fun _ => undef) (fun _ => undef) hc hbm hcn hs (fun _ _ _ _ => trivial) (Nat.le_refl _) (by decide) (fun _ => rfl) (fun h => absurd rfl h) (fun k o h => by simp at h) (fun k o h => by simp at h) (fun k o h => by simp at h) (fun k o h => by simp at h)
theorem below_bytesWorld (V : World) (s : ByteArray) : Below V.heap.size V (Lib.bytesWorld V 5 s) :=
  ⟨rfl, rfl, rfl, by rw [Lib.bytesWorld_size]; omega, fun k hk => Lib.bytesWorld_at_old V 5 s k hk⟩
theorem own_str {W : World} {base : Nat} {v : Value} {s : ByteArray} (h : W.ownsRow base 5 1 v (0 + s.size) ([] ++ Lib.strCells s)) :
    ∃ A c, v = .slice A s.data.toList.length c ∧ s.data.toList.length ≤ c ∧ (A = none → c = 0) ∧ SrcAt A s.data.toList W ∧ ∀ ga oa, A = some ⟨ga, oa, none⟩ → Rw base W ga := by
  rw [List.nil_append, Nat.zero_add, strCells_bvals s, Lib.size_eq] at h
  exact own_rd3 h
theorem str_facts {w V W : World} {A : Option Addr} {s : ByteArray} {cs : Array Value} (h0 : Below w.heap.size w V) (hr : V.heap[w.heap.size]? = some (.cells cs 28 (0, 0))) (hg : V.grownBy W (Value.ownBlock (.slice none 0 0))) (hs : SrcAt A s.data.toList W) (hw : ∀ ga oa, A = some ⟨ga, oa, none⟩ → Rw V.heap.size W ga) :
    RowKit.Hid (Below w.heap.size w W) ∧ RowKit.Hid (W.heap[w.heap.size]? = some (.cells cs 28 (0, 0))) ∧ RowKit.Hid (SrcAt A s.data.toList W ∧ ∀ ga oa, A = some ⟨ga, oa, none⟩ → ga ≠ w.heap.size) := by
  have hb1 : Below V.heap.size V W := (Below.refl _ _).grown hg (Nat.le_refl _) (fun j hj => by cases hj)
  exact ⟨Lib.hid (chain h0 hb1), Lib.hid (row_on hr hb1), Lib.hid ⟨hs, fun ga oa e => by have h1 := (hw ga oa e).1; have h2 := (Array.getElem?_eq_some_iff.1 hr).1; omega⟩⟩
set_option maxRecDepth 100000 in
set_option maxHeartbeats 4000000 in
theorem str_any (tg : UInt8) (s : ByteArray) (hsz : s.size ≤ 70000) (w : World) : Calls Try.prog 11 #[.int .u8 (tg.toNat : Int), .string s] w (SnPost (.mk tg s.data.toList []) w) := by
  have HL := Lib.hid (show s.data.toList.length ≤ 140737488355328 by rw [← Lib.size_eq]; omega)
  go_enter Try.func11, Try.ntmps11
  go_upto_region 1 with (fail)
  obtain ⟨V, hV, hb0, hr0⟩ : ∃ V, World.alloc w (.cells #[.int .u8 0, .slice none 0 0, .slice none 0 0] 28) = V ∧ Below w.heap.size w V ∧ V.heap[w.heap.size]? = some (.cells #[.int .u8 0, .slice none 0 0, .slice none 0 0] 28 (0, 0)) := ⟨_, rfl, below_new w _, heap_alloc_new w _⟩
  rw [hV]
  clear hV
  have HB0 := Lib.hid hb0
  have HR0 := Lib.hid hr0
  have hle0 : w.heap.size ≤ V.heap.size := hb0.size
  clear hb0 hr0
  obtain ⟨i0, hi, hz0, hz1, hz2⟩ := info_parts Try.info_byte
  go_wp2_with (at_builtin; refine Lib.wpList_append_own_string _ rfl (.const (.slice none 0 0)) (.tmp 6) 22 9 rfl V.heap.size 5 i0 Try.underlying22 Try.underlying9 hi hz0 hz1 hz2 (.slice none 0 0) 0 [] rfl ⟨rfl, .inl ⟨rfl, rfl⟩⟩ s rfl (by unfold maxLen; omega) (by omega) (Nat.le_refl _) ?_; intro v' W hown hg _; obtain ⟨A, c, rfl, hc, hcn, hs, hw⟩ := own_str hown; obtain ⟨HB1, HR1, HS⟩ := str_facts HB0.out HR0.out hg hs hw; obtain ⟨HC, HCN⟩ := And.intro (Lib.hid hc) (Lib.hid hcn); clear hi hz0 hz1 hz2 hown hg hs hw hc hcn; have hlt := (Array.getElem?_eq_some_iff.1 HR1.out).1; obtain ⟨⟨hf0, hf1, hf2⟩, hd0, hd1, hd2⟩ := facts3 HR1.out)
  have e9 : ∀ a b c : Value, ((W.setCell ⟨w.heap.size, 0, none⟩ a).setCell ⟨w.heap.size, 1, none⟩ b).setCell ⟨w.heap.size, 2, none⟩ c = W.setCells w.heap.size 0 [a, b, c] := fun _ _ _ => rfl
  rw [e9]
  refine bodyPost_ret (v := .agg #[.int .u8 (tg.toNat : Int), .slice A s.data.toList.length c, .slice none 0 0]) (results_cell_row rfl _ _ w.heap.size 28 _ (0, 0) _ rfl (row_setCells8 HR1.out rfl) Try.underlying28 rfl (sz3o _ _ _)) rfl ⟨_, _, rfl, ?_, below_setCells8 _ _ _ HB1.out (Nat.le_refl _)⟩
  exact at_bytes tg HC.out HL.out HCN.out (srcAt_set HS.out.1 HS.out.2 0 _)
end Go.Proofs.Ythagoafcphaadaa
