import Derived.Test.YtcgffkkfeimifaaGreatRxA
namespace Go.Proofs.YtcgffkkfeimifaaGreat
namespace Sg
open Go.RowKit Sha Oc
set_option linter.unusedVariables false
set_option linter.unusedSimpArgs false
def BsPost (ls : List (List UInt8)) (w : World) (e : Ending) (w' : World) : Prop := ∃ v, e = .returned v ∧ w'.ownsRow w.heap.size 5 1 v ls.flatten.length (bvals ls.flatten) ∧ Below w.heap.size w w'
theorem take_flat {ls : List (List UInt8)} {i : Nat} {l : List UInt8} (h : ls[i]? = some l) : (ls.take (i + 1)).flatten = (ls.take i).flatten ++ l := by
 rw [List.take_add_one, h]
 simp
theorem take_one {l : List UInt8} {k : Nat} {x : UInt8} (h : l[k]? = some x) : l.take (k + 1) = l.take k ++ [x] := by
 rw [List.take_add_one, h]
 rfl
theorem src_one (w : World) (x : UInt8) : SrcAt (some ⟨w.heap.size, 0, none⟩) [x] (w.alloc (.cells #[.int .u8 (x.toNat : Int)] 5)) := fun _ => ⟨_, _, rfl, fun j y hy => by
 rw [cell_of_row _ _ _ _ _ _ (heap_alloc_new w _)]
 match j, hy with
 | 0, hy => obtain rfl := Option.some.inj hy; rfl
 | j + 1, hy => simp at hy⟩
set_option maxRecDepth 100000 in
set_option maxHeartbeats 4000000 in
theorem bytes10_ref (ls : List (List UInt8)) (hn : ls.length ≤ 1000) (A : Option Addr) (c : Nat) (w : World) (hs : Shs A ls w) :
  Calls Tryz.prog 78 #[.slice A ls.length c] w (BsPost ls w) := by
 obtain ⟨n, hnn⟩ : ∃ n, ls.length = n := ⟨_, rfl⟩
 have HN := Lib.hid hnn
 have HNN := Lib.hid hn
 have HS := Lib.hid hs
 have H16 := Lib.hid (fun (i : Nat) (l : List UInt8) (h : ls[i]? = some l) => hs.len l (List.mem_of_getElem? h))
 have HZ := Lib.hid (Below.refl w.heap.size w)
 rw [hnn]
 clear hn hs hnn
 unfold BsPost
 obtain ⟨N, hN⟩ : ∃ N, ls.flatten.length = N := ⟨_, rfl⟩
 have HNF := Lib.hid hN
 rw [hN]
 clear hN
 go_enter Tryz.func78, Tryz.ntmps78
 go_wp2_with fail
 go_loopw [3, 4] (fun vv ix wr => ∃ i : Nat, i ≤ n ∧ ix = .int .i64 (i : Int) ∧ RowKit.Hid (Below w.heap.size w wr) ∧ RowKit.Hid (wr.ownsRow w.heap.size 5 1 vv (16 * i) (bvals (ls.take i).flatten))) (fun _ ix _ => n - (intOf ix).toNat)
 case atStart => exact ⟨0, by omega, rfl, HZ, Lib.hid ⟨rfl, .inl ⟨rfl, rfl⟩⟩⟩
 case round =>
  clear HZ
  obtain ⟨i, hi, rfl, HB, HO⟩ := hrel
  by_cases hlt : i < n
  ·
   have hii : (i : Int) < (n : Int) := by omega
   obtain ⟨l, hl⟩ : ∃ l, ls[i]? = some l := ⟨_, List.getElem?_eq_getElem (by rw [HN.out]; exact hlt)⟩
   have HL := Lib.hid hl
   have HLL := Lib.hid (H16.out i l hl)
   obtain ⟨g, o, rfl, hr⟩ := HS.out.row i l hl
   have HR := Lib.hid hr
   clear hl hr
   go_wp2_with fail
   have HA0 := Lib.hid (show wr.ownsRow w.heap.size 5 1 u3 (16 * i + 0) (bvals ((ls.take i).flatten ++ l.take 0)) by rw [List.take_zero, List.append_nil]; exact HO.out)
   clear HO
   go_loopw [3, 5] (fun vv ix wr => ∃ k : Nat, k ≤ 16 ∧ ix = .int .i64 (k : Int) ∧ RowKit.Hid (Below w.heap.size w wr) ∧ RowKit.Hid (wr.ownsRow w.heap.size 5 1 vv (16 * i + k) (bvals ((ls.take i).flatten ++ l.take k)))) (fun _ ix _ => 16 - (intOf ix).toNat)
   case atStart => exact ⟨0, by omega, rfl, HB, HA0⟩
   case round =>
    clear HA0 HB
    obtain ⟨k, hk, rfl, HB, HO⟩ := hrel
    by_cases hk2 : k < 16
    ·
     have hki : (k : Int) < 16 := by omega
     obtain ⟨x, hx⟩ : ∃ x, l[k]? = some x := ⟨_, List.getElem?_eq_getElem (by rw [HLL.out]; exact hk2)⟩
     have HX := Lib.hid hx
     have hc0 : w.cell? ⟨g, o + 16 * i + k, none⟩ = some (.int .u8 (x.toNat : Int)) := HR.out k _ (by unfold bvals; rw [List.getElem?_map, hx]; rfl)
     have hc : wr.cell? ⟨g, o + i * 16 + k, none⟩ = some (.int .u8 (x.toNat : Int)) := by
      rw [HB.out.cell (p := ⟨g, o + i * 16 + k, none⟩) (World.block_lt_of_cell? _ _ (by rw [Nat.mul_comm i 16]; exact hc0)), Nat.mul_comm i 16]
      exact hc0
     clear hx hc0
     go_upto_region 8 with (fail)
     go_wp2_with (at_builtin; go_loud (refine append_src_at rfl (.tmp 16) (.tmp 23) rfl w.heap.size u3 (16 * i + k) (bvals ((ls.take i).flatten ++ l.take k)) rfl (HO.out.alloc _) (some ⟨wr.heap.size, 0, none⟩) [x] 1 1 rfl rfl (fun e => by cases e) (src_one wr x) (by have := HN.out; have := HNN.out; omega) (by have := HB.out.size; simp; omega) ?_); intro v4 w4 hg4)
     have hg := HB.out.trans (((Below.refl w.heap.size wr).alloc HB.out.size _).trans (hg4.below (HO.out.alloc _) (by have := HB.out.size; simp; omega)))
     have HO5 := Lib.hid (show w4.ownsRow w.heap.size 5 1 v4 (16 * i + (k + 1)) (bvals ((ls.take i).flatten ++ l.take (k + 1))) by
      have h := hg4.own
      rw [← bvals_app, List.append_assoc, ← take_one HX.out] at h
      exact h)
     exact ⟨⟨k + 1, by omega, by go_num, Lib.hid hg, HO5⟩, by simp [intOf]; omega⟩
    ·
     have hkk : k = 16 := by omega
     subst hkk
     have HO16 := Lib.hid (show wr.ownsRow w.heap.size 5 1 u3 (16 * (i + 1)) (bvals (ls.take (i + 1)).flatten) by
      have h := HO.out
      have e16 : l.take 16 = l := List.take_of_length_le (by rw [HLL.out]; exact Nat.le_refl _)
      rw [e16, ← take_flat HL.out] at h
      rw [Nat.mul_succ]
      exact h)
     clear HO
     have hn5 : n ≤ 1000 := by have := HN.out; have := HNN.out; omega
     go_wp2_with fail
     exact ⟨⟨i + 1, by omega, by go_num, HB, HO16⟩, by simp [intOf]; omega⟩
  ·
   have hii : i = n := by omega
   have hge : ¬ (i : Int) < (n : Int) := by omega
   have HOF := Lib.hid (show wr.ownsRow w.heap.size 5 1 u3 N (bvals ls.flatten) by
    have h := HO.out
    have e : ls.take i = ls := List.take_of_length_le (by rw [HN.out]; omega)
    have h2 : ls.flatten.length = 16 * i := by
     rw [hii, ← HN.out]
     exact flat_16 ls (fun l hl => by obtain ⟨j, hj⟩ := List.getElem?_of_mem hl; exact H16.out j l hj)
    rw [e] at h
    rw [← HNF.out, h2]
    exact h)
   clear hii HO
   go_wp2_with fail
   refine bodyPost_ret (v := u3) (by simp [results, Tryz.results78, go_sem]) rfl ⟨_, rfl, HOF.out, HB.out⟩
end Sg
end Go.Proofs.YtcgffkkfeimifaaGreat
