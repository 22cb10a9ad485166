/- WHAT LocatorNames LEANS ON: rows of locators; what the functions answer at its closed values. -/
import Derived.Test.YthagoafcphaadaaDoorLocNA
namespace Go.Proofs.YthagoafcphaadaaDoor
open Go.RowKit Lo
set_option linter.unusedVariables false
set_option linter.unusedSimpArgs false
structure LT where
  l : Lc
  A : Option Addr
  c : Nat
def rowL : List LT → List Value
  | [] => []
  | t :: r => .int .u8 t.l.sch :: .string (str t.l.host) :: .int .i64 t.l.port :: .slice t.A t.l.parts.length t.c :: .bool t.l.dir :: rowL r
theorem rowL_at : ∀ (ts : List LT) (k : Nat) (t : LT), ts[k]? = some t → (rowL ts)[k * 5]? = some (.int .u8 t.l.sch) ∧ (rowL ts)[k * 5 + 1]? = some (.string (str t.l.host)) ∧ (rowL ts)[k * 5 + 2]? = some (.int .i64 t.l.port) ∧ (rowL ts)[k * 5 + 3]? = some (.slice t.A t.l.parts.length t.c) ∧ (rowL ts)[k * 5 + 4]? = some (.bool t.l.dir)
  | [], k, t, h => by simp at h
  | u :: r, 0, t, h => by
    obtain rfl := Option.some.inj h
    exact ⟨rfl, rfl, rfl, rfl, rfl⟩
  | u :: r, k + 1, t, h => by
    obtain ⟨h0, h1, h2, h3, h4⟩ := rowL_at r k t h
    rw [show (k + 1) * 5 = k * 5 + 5 by omega]
    exact ⟨h0, h1, h2, h3, h4⟩
def badLc : List Lc := [⟨0, [], 0, [], false⟩, ⟨3, [104], 0, [], true⟩, ⟨1, [], 0, [], true⟩, ⟨1, (aa 61), 0, [], true⟩, ⟨1, [104], 0, [], false⟩, ⟨1, [104], 873, [], true⟩, ⟨2, [104], 443, [], true⟩, ⟨1, [104], 65536, [], true⟩, ⟨1, [104], (-1), [], true⟩, ⟨1, [45, 104], 0, [], true⟩, ⟨1, [104, 45], 0, [], true⟩, ⟨1, [46, 104], 0, [], true⟩, ⟨1, [104, 46], 0, [], true⟩, ⟨1, [97, 46, 45, 98], 0, [], true⟩, ⟨1, [104, 95], 0, [], true⟩, ⟨1, [104], 0, [[]], false⟩, ⟨1, [104], 0, [[46]], false⟩, ⟨1, [104], 0, [[97], [46, 46]], false⟩, ⟨1, [104], 0, [aa 41], false⟩, ⟨1, [104], 0, [[97, 32, 98]], false⟩]
def badT (b1 b2 b3 b4 b5 : Nat) : List LT := [⟨⟨0, [], 0, [], false⟩, none, 0⟩, ⟨⟨3, [104], 0, [], true⟩, none, 0⟩, ⟨⟨1, [], 0, [], true⟩, none, 0⟩, ⟨⟨1, (aa 61), 0, [], true⟩, none, 0⟩, ⟨⟨1, [104], 0, [], false⟩, none, 0⟩, ⟨⟨1, [104], 873, [], true⟩, none, 0⟩, ⟨⟨2, [104], 443, [], true⟩, none, 0⟩, ⟨⟨1, [104], 65536, [], true⟩, none, 0⟩, ⟨⟨1, [104], (-1), [], true⟩, none, 0⟩, ⟨⟨1, [45, 104], 0, [], true⟩, none, 0⟩, ⟨⟨1, [104, 45], 0, [], true⟩, none, 0⟩, ⟨⟨1, [46, 104], 0, [], true⟩, none, 0⟩, ⟨⟨1, [104, 46], 0, [], true⟩, none, 0⟩, ⟨⟨1, [97, 46, 45, 98], 0, [], true⟩, none, 0⟩, ⟨⟨1, [104, 95], 0, [], true⟩, none, 0⟩, ⟨⟨1, [104], 0, [[]], false⟩, some ⟨b1, 0, none⟩, 1⟩, ⟨⟨1, [104], 0, [[46]], false⟩, some ⟨b2, 0, none⟩, 1⟩, ⟨⟨1, [104], 0, [[97], [46, 46]], false⟩, some ⟨b3, 0, none⟩, 2⟩, ⟨⟨1, [104], 0, [aa 41], false⟩, some ⟨b4, 0, none⟩, 1⟩, ⟨⟨1, [104], 0, [[97, 32, 98]], false⟩, some ⟨b5, 0, none⟩, 1⟩]
theorem bad_map (b1 b2 b3 b4 b5 : Nat) : (badT b1 b2 b3 b4 b5).map (·.l) = badLc := rfl
theorem bad_len (b1 b2 b3 b4 b5 : Nat) : (badT b1 b2 b3 b4 b5).length = 20 := rfl
theorem bad_chk : ∀ l ∈ badLc, chk l = 8 := by
  intro l hl
  rw [← chkC_eq]
  revert l
  decide +kernel
theorem strs_row {V : World} {g : Nat} {T : TypeId} (L : List (List UInt8)) {cs : Array Value} (h : V.heap[g]? = some (.cells cs T (0, 0))) (hcs : cs = (L.map fun x => Value.string (str x)).toArray) : StrsAt (some ⟨g, 0, none⟩) L V := fun hne => ⟨g, 0, rfl, row_lt h, fun j x hj => by
  rw [Nat.zero_add, cell_row h, hcs, List.getElem?_toArray, List.getElem?_map, hj]
  rfl⟩
theorem at_of {V : World} {l : Lc} {A : Option Addr} {c : Nat} (h : StrsAt A l.parts V) (h1 : l.sch < 256) (h2 : l.host.length < 4294967281) (h3 : l.parts.length ≤ c) (h4 : ∀ p ∈ l.parts, p.length < 4294967281) : LocAt l A c V := ⟨h1, h2, h, h3, h4⟩
theorem at_none (V : World) (l : Lc) (h0 : l.parts = []) (h1 : l.sch < 256) (h2 : l.host.length < 4294967281) : LocAt l none 0 V := ⟨h1, h2, fun e => absurd h0 e, by rw [h0]; exact Nat.le_refl _, fun p hp => by rw [h0] at hp; cases hp⟩
theorem bad_at {V : World} {b1 b2 b3 b4 b5 : Nat} {T : TypeId} (h1 : V.heap[b1]? = some (.cells #[.string ⟨#[]⟩] T (0, 0))) (h2 : V.heap[b2]? = some (.cells #[.string ⟨#[46]⟩] T (0, 0))) (h3 : V.heap[b3]? = some (.cells #[.string ⟨#[97]⟩, .string ⟨#[46, 46]⟩] T (0, 0))) (h4 : V.heap[b4]? = some (.cells #[.string (str (aa 41))] T (0, 0))) (h5 : V.heap[b5]? = some (.cells #[.string ⟨#[97, 32, 98]⟩] T (0, 0))) :
    ∀ t ∈ badT b1 b2 b3 b4 b5, LocAt t.l t.A t.c V := by
  have e1 : LocAt ⟨1, [104], 0, [[]], false⟩ (some ⟨b1, 0, none⟩) 1 V := at_of (strs_row [[]] h1 rfl) (by decide) (by decide) (by decide) (by decide)
  have e2 : LocAt ⟨1, [104], 0, [[46]], false⟩ (some ⟨b2, 0, none⟩) 1 V := at_of (strs_row [[46]] h2 rfl) (by decide) (by decide) (by decide) (by decide)
  have e3 : LocAt ⟨1, [104], 0, [[97], [46, 46]], false⟩ (some ⟨b3, 0, none⟩) 2 V := at_of (strs_row [[97], [46, 46]] h3 rfl) (by decide) (by decide) (by decide) (by decide)
  have e4 : LocAt ⟨1, [104], 0, [aa 41], false⟩ (some ⟨b4, 0, none⟩) 1 V := at_of (strs_row [aa 41] h4 rfl) (by decide) (by decide) (by decide) (fun p hp => by rw [List.mem_singleton.1 hp, aa_len]; decide)
  have e5 : LocAt ⟨1, [104], 0, [[97, 32, 98]], false⟩ (some ⟨b5, 0, none⟩) 1 V := at_of (strs_row [[97, 32, 98]] h5 rfl) (by decide) (by decide) (by decide) (by decide)
  intro t ht
  unfold badT at ht
  simp only [List.mem_cons, List.mem_nil_iff, or_false] at ht
  rcases ht with rfl | rfl | rfl | rfl | rfl | rfl | rfl | rfl | rfl | rfl | rfl | rfl | rfl | rfl | rfl | rfl | rfl | rfl | rfl | rfl
  · exact at_none V _ rfl (by decide) (by decide)
  · exact at_none V _ rfl (by decide) (by decide)
  · exact at_none V _ rfl (by decide) (by decide)
  · exact at_none V _ rfl (by decide) (by show (aa 61).length < _; rw [aa_len]; decide)
  · exact at_none V _ rfl (by decide) (by decide)
  · exact at_none V _ rfl (by decide) (by decide)
  · exact at_none V _ rfl (by decide) (by decide)
  · exact at_none V _ rfl (by decide) (by decide)
  · exact at_none V _ rfl (by decide) (by decide)
  · exact at_none V _ rfl (by decide) (by decide)
  · exact at_none V _ rfl (by decide) (by decide)
  · exact at_none V _ rfl (by decide) (by decide)
  · exact at_none V _ rfl (by decide) (by decide)
  · exact at_none V _ rfl (by decide) (by decide)
  · exact at_none V _ rfl (by decide) (by decide)
  · exact e1
  · exact e2
  · exact e3
  · exact e4
  · exact e5
theorem at_far {V : World} {l : Lc} {A : Option Addr} {c G k : Nat} (h : LocAt l A c V) (hf : ∀ g o, A = some ⟨g, o, none⟩ → g ≠ G) (v : Value) : LocAt l A c (V.setCell ⟨G, k, none⟩ v) :=
  ⟨h.sch, h.host, fun hne => by
    obtain ⟨g, o, e, hg, hc⟩ := h.parts hne
    have hk : ∀ j, (V.setCell ⟨G, k, none⟩ v).cell? ⟨g, j, none⟩ = V.cell? ⟨g, j, none⟩ := fun j => by
      unfold World.cell?
      rw [Below.heap_setCell _ _ _ _ (hf g o e)]
    exact ⟨g, o, e, by simpa [World.setCell] using hg, fun j x hj => (hk _).trans (hc j x hj)⟩, h.cap, h.big⟩
theorem three_rows (w : World) (o1 o2 o3 : Obj) : (((w.alloc o1).alloc o2).alloc o3).heap[w.heap.size]? = some o1 ∧ (((w.alloc o1).alloc o2).alloc o3).heap[w.heap.size + 1]? = some o2 ∧ (((w.alloc o1).alloc o2).alloc o3).heap[w.heap.size + 2]? = some o3 ∧ Below w.heap.size w (((w.alloc o1).alloc o2).alloc o3) ∧ (((w.alloc o1).alloc o2).alloc o3).heap.size = w.heap.size + 3 := by
  have b1 := below_new w o1
  have b2 := below_new (w.alloc o1) o2
  have b3 := below_new ((w.alloc o1).alloc o2) o3
  have h1 := heap_alloc_new w o1
  have h2 := heap_alloc_new (w.alloc o1) o2
  have h3 := heap_alloc_new ((w.alloc o1).alloc o2) o3
  have s1 : (w.alloc o1).heap.size = w.heap.size + 1 := World.size_alloc ..
  have s2 : ((w.alloc o1).alloc o2).heap.size = w.heap.size + 2 := by rw [World.size_alloc, s1]
  have s3 : (((w.alloc o1).alloc o2).alloc o3).heap.size = w.heap.size + 3 := by rw [World.size_alloc, s2]
  rw [s1] at h2
  rw [s2] at h3
  refine ⟨?_, ?_, h3, chain b1 (chain b2 b3), s3⟩
  · rw [b3.block _ (by rw [s2]; omega), b2.block _ (by rw [s1]; omega)]; exact h1
  · rw [b3.block _ (by rw [s2]; omega)]; exact h2
/-- the row of ten parts in the making -/
def ps (k : Nat) : Array Value := (List.replicate k (Value.string ⟨#[112]⟩) ++ List.replicate (10 - k) (Value.string ⟨#[]⟩)).toArray
theorem ps_size (k : Nat) (h : k ≤ 10) : (ps k).size = 10 := by unfold ps; simp; omega
theorem ps_set (k : Nat) (h : k < 10) : (ps k).setIfInBounds k (.string ⟨#[112]⟩) = ps (k + 1) := by
  obtain ⟨m, hm⟩ : ∃ m, 10 = k + (m + 1) := ⟨10 - k - 1, by omega⟩
  unfold ps
  rw [hm, List.setIfInBounds_toArray, show k + (m + 1) - k = m + 1 by omega, show k + (m + 1) - (k + 1) = m by omega, List.replicate_succ, List.set_append_right _ _ (by simp), List.length_replicate, Nat.sub_self, List.set_cons_zero, List.replicate_succ']
  simp
theorem mk_parts (w : World) : (Instr.makeSlice 22 (.int .i64 10) (.int .i64 10)).run Tryd.prog w = .ok (.slice (some ⟨w.heap.size, 0, none⟩) 10 10) (w.alloc (.cells (ps 0) 9)) := by
  obtain ⟨i0, hi, hz0, hz1, hz2⟩ := info_parts Tryd.info_string2
  have h := run_make (P := Tryd.prog) w 22 9 i0 _ Tryd.underlying22 hi hz0 .i64 .i64 10 10 (by omega) (by omega) (by rw [hz2]; decide) (by decide)
  have hm : madeCells (Value.string ⟨#[]⟩).cells (Int.toNat 10 * 1) = ps 0 := by
    apply Array.ext'
    exact (toList_madeCells_one (.string ⟨#[]⟩) _).trans rfl
  rw [hz1, hm] at h
  exact h
def pp : List (List UInt8) := List.replicate 10 [112]
theorem pp_at {V : World} {g : Nat} {T : TypeId} (h : V.heap[g]? = some (.cells (ps 10) T (0, 0))) : StrsAt (some ⟨g, 0, none⟩) pp V := strs_row pp h rfl
theorem pp_len : pp.length = 10 := rfl
theorem pp_big : ∀ p ∈ pp, p.length < 4294967281 := by decide
def lFull : Lc := ⟨2, [104], 0, pp, false⟩
def lDirF : Lc := ⟨2, [104], 0, pp, true⟩
def lOver : Lc := ⟨9, [104], 0, pp ++ [[112]], false⟩
def lLong (n : Nat) : Lc := ⟨1, aa 60, 0, [aa 40, aa 40, aa 40, aa n], false⟩
def tFull : List UInt8 := [104, 116, 116, 112, 115, 58, 47, 47, 104, 47, 112, 47, 112, 47, 112, 47, 112, 47, 112, 47, 112, 47, 112, 47, 112, 47, 112, 47, 112]
def tDir : List UInt8 := tFull ++ [47]
theorem t_full : textL lFull = (tFull, 0) := by rw [textC_eq]; decide +kernel
theorem t_dir : textL lDirF = (tDir, 0) := by rw [textC_eq]; decide +kernel
theorem j_dir : joinL tDir [120] = ([], 4) := by rw [joinC_eq]; decide +kernel
theorem c_over : chk lOver = 4 := by rw [← chkC_eq]; decide +kernel
theorem t_long : (textL (lLong 8)).2 = 0 ∧ (textL (lLong 8)).1.length = 200 := by rw [textC_eq]; decide +kernel
theorem t_over : textL (lLong 9) = ([], 4) := by rw [textC_eq]; decide +kernel
def badS : List (List UInt8) := [[], [114, 115, 121, 110, 99, 58, 47, 47], [114, 115, 121, 110, 99, 58, 47, 47, 47], [104, 116, 116, 112, 58, 47, 47, 104, 47], [72, 84, 84, 80, 83, 58, 47, 47, 104, 47], [114, 115, 121, 110, 99, 58, 47, 47, 104, 58, 47], [114, 115, 121, 110, 99, 58, 47, 47, 104, 58, 48, 47], [114, 115, 121, 110, 99, 58, 47, 47, 104, 58, 48, 49, 47], [114, 115, 121, 110, 99, 58, 47, 47, 104, 58, 54, 53, 53, 51, 54, 47], [114, 115, 121, 110, 99, 58, 47, 47, 104, 58, 43, 53, 47], [114, 115, 121, 110, 99, 58, 47, 47, 104, 47, 97, 63, 98], [114, 115, 121, 110, 99, 58, 47, 47, 104, 47, 97, 47, 46], [114, 115, 121, 110, 99, 58, 47, 47, 104, 47, 47]]
theorem bad_s : ∀ s ∈ badS, parseL s = none := by
  intro s hs
  rw [parseC_eq]
  revert s
  decide +kernel
theorem s_one : splitS [104, 116, 116, 112, 115, 58, 47, 47, 104, 58, 49, 47, 120] = ([104, 116, 116, 112, 115, 58, 47, 47, 104, 58, 49, 47], [120], 0) := by rw [splitC_eq]; decide +kernel
theorem s_two : splitS [104, 116, 116, 112, 115, 58, 47, 47, 104, 47, 120, 47] = ([], [], 2) := by rw [splitC_eq]; decide +kernel
theorem j_one : joinL [104, 116, 116, 112, 115, 58, 47, 47, 104, 47, 120] [121] = ([], 2) := by rw [joinC_eq]; decide +kernel
theorem j_two : joinL [104, 116, 116, 112, 115, 58, 47, 47, 104, 47, 120, 47] [46, 46] = ([], 2) := by rw [joinC_eq]; decide +kernel
theorem w_one : withinL [104, 116, 116, 112, 115, 58, 47, 47, 104, 47, 120] [104, 116, 116, 112, 115, 58, 47, 47, 104, 47, 120] = (false, 2) := by rw [withinC_eq]; decide +kernel
theorem w_two : withinL [104, 116, 116, 112, 115, 58, 47, 47, 104, 47, 120, 47] [104, 116, 116, 112, 115, 58, 47, 47, 104, 47, 120] = (false, 0) := by rw [withinC_eq]; decide +kernel
theorem w_three : withinL [104, 116, 116, 112, 115, 58, 47, 47, 104, 47, 120, 47] [104, 116, 116, 112, 115, 58, 47, 47, 104, 47, 120, 47] = (true, 0) := by rw [withinC_eq]; decide +kernel
theorem w_four : withinL [104, 116, 116, 112, 115, 58, 47, 47, 104, 47, 120, 47] [104, 116, 116, 112, 115, 58, 47, 47, 104, 47, 120, 121, 47, 122] = (false, 0) := by rw [withinC_eq]; decide +kernel
end Go.Proofs.YthagoafcphaadaaDoor
