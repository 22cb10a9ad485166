/-
  THE WALK over the blocks of all parts: the iterator.
-/
import Derived.Test.YtafolokkjpbieaaDoorDigF
namespace Go.Proofs.YtafolokkjpbieaaDoor
open Go.RowKit Sha
set_option linter.unusedVariables false
set_option linter.unusedSimpArgs false
/-- a list of slices of bytes behind a box -/
structure PIn (Pb : Nat) (PA : Option Addr) (pc : Nat) (S : Nat → Option Addr × Nat) (ps : List (List UInt8)) (V : World) : Prop where
  box : V.cell? ⟨Pb, 0, none⟩ = some (.slice PA ps.length pc)
  row : ∀ j l, ps[j]? = some l → ∃ pg po, PA = some ⟨pg, po, none⟩ ∧ V.cell? ⟨pg, po + j, none⟩ = some (.slice (S j).1 l.length (S j).2) ∧ SrcAt (S j).1 l V
theorem FS.on {T : List UInt8} {N l : Nat} {J : Nat → World → Prop} {p : Nat} {V V' : World} (h : FS T N l J p V) (hJ : ∀ k V V', J k V → Below N V V' → J k V') (hb : Below V.heap.size V V') (hz : N + 3 ≤ V.heap.size) : FS T N l J p V' := by
  obtain ⟨h1, h2, ⟨buf, h3, h4, h5⟩, h6⟩ := h
  exact ⟨hJ _ _ _ h1 (hb.mono (by omega)), (hb.block _ (by omega)).trans h2, ⟨buf, (hb.block _ (by omega)).trans h3, h4, h5⟩, (hb.block _ (by omega)).trans h6⟩
theorem flat_take (ps : List (List UInt8)) (k : Nat) (l : List UInt8) (h : ps[k]? = some l) : (ps.take (k + 1)).flatten = (ps.take k).flatten ++ l := by
  rw [List.take_add_one, h]
  simp
theorem flat_part (ps : List (List UInt8)) (e : List UInt8) (k : Nat) (l : List UInt8) (h : ps[k]? = some l) :
    l = ((ps.flatten ++ e).drop (ps.take k).flatten.length).take l.length ∧ (ps.take k).flatten.length + l.length ≤ ps.flatten.length := by
  have h1 : ps = ps.take (k + 1) ++ ps.drop (k + 1) := (List.take_append_drop _ _).symm
  have h2 : ps.flatten = (ps.take k).flatten ++ (l ++ (ps.drop (k + 1)).flatten) := by
    conv => lhs; rw [h1]
    rw [List.flatten_append, flat_take ps k l h, List.append_assoc]
  constructor
  · rw [h2, List.append_assoc, List.drop_left, List.append_assoc, List.take_left]
  · rw [h2]; simp
theorem own_slice {w : World} {base : Nat} {v : Value} {F : List UInt8} (h : w.ownsRow base 5 1 v F.length (bvals F)) (hn : 0 < F.length) :
    ∃ g cap, v = .slice (some ⟨g, 0, none⟩) F.length cap ∧ base ≤ g ∧ g < w.heap.size ∧ F.length ≤ cap ∧ cap ≤ maxLen ∧ ∀ (j : Nat) x, F[j]? = some x → w.cell? ⟨g, j, none⟩ = some (.int .u8 (x.toNat : Int)) := by
  obtain ⟨g, cap, h1, h2, h3, h4, h5, h6⟩ := own_cells1 h hn
  refine ⟨g, cap, h1, h2, h3, h4, h5, fun j x hj => h6 j _ ?_⟩
  unfold bvals
  rw [List.getElem?_map, hj]
  rfl
theorem cell_of_heap2 {V V' : World} {b o : Nat} (h : V'.heap[b]? = V.heap[b]?) : V'.cell? ⟨b, o, none⟩ = V.cell? ⟨b, o, none⟩ := by
  simp only [World.cell?, h]
theorem ending_len (n : Nat) : 0 < (ending n).length ∧ (ending n).length ≤ 72 ∧ (n + (ending n).length) % 64 = 0 := by
  rw [← endK_all, endK_len n 8 (by omega)]
  omega
set_option maxRecDepth 100000 in
set_option maxHeartbeats 4000000 in
theorem blocks_in (ps : List (List UInt8)) (Pb : Nat) (PA : Option Addr) (pc : Nat) (S : Nat → Option Addr × Nat) (hlen : ps.flatten.length ≤ 100000) (hnum : ps.length ≤ 100000) (hpc : ps.length ≤ pc)
    (hS : ∀ j l, ps[j]? = some l → l.length ≤ (S j).2 ∧ (S j).2 ≤ maxLen)
    (l : Nat) (J : Nat → World → Prop) (W : World) (hPb : Pb < W.heap.size)
    (hJ : ∀ k V V', J k V → Below W.heap.size V V' → J k V')
    (hJP : ∀ k V, J k V → PIn Pb PA pc S ps V)
    (hY : ∀ k V, 64 * (k + 1) ≤ (ps.flatten ++ ending ps.flatten.length).length → J k V → W.heap.size + 3 ≤ V.heap.size → YieldAt Fence.wide 1 Tryd.prog l #[.agg (bcells (((ps.flatten ++ ending ps.flatten.length).drop (64 * k)).take 64))] V fun e V' => e = .returned (.bool true) ∧ J (k + 1) V' ∧ Keep W.heap.size V V')
    (hJ0 : J 0 W) :
    Calls Tryd.prog 68 #[.func (.yield l) #[] #[], .pointer (some ⟨Pb, 0, none⟩)] W fun e V => (∃ v, e = .returned v) ∧ J ((ps.flatten ++ ending ps.flatten.length).length / 64) V := by
  obtain ⟨T, hT⟩ : ∃ T, ps.flatten ++ ending ps.flatten.length = T := ⟨_, rfl⟩
  obtain ⟨N, hN⟩ : ∃ N, W.heap.size = N := ⟨_, rfl⟩
  have hel := ending_len ps.flatten.length
  have hTl : T.length = ps.flatten.length + (ending ps.flatten.length).length := by rw [← hT, List.length_append]
  have hTb : T.length ≤ 1000000 := by omega
  rw [hT] at hY ⊢
  have hPbW := hPb
  rw [hN] at hY hPb hJ
  have HT := Lib.hid hT
  have HN := Lib.hid hN
  have HTL := Lib.hid hTl
  have HEL := Lib.hid hel
  have HS := Lib.hid hS
  have HJ := Lib.hid hJ
  have HJP := Lib.hid hJP
  have HY := Lib.hid hY
  have HJ0 := Lib.hid hJ0
  have HPB := Lib.hid hPb
  have HFILL := Lib.hid (fun p lst h1 h2 A C h3 h4 V h5 h6 h7 => callsIn_wide.1 (fill_in T N l J hTb hJ hY p lst h1 h2 A C h3 h4 V h5 h6 h7))
  have pbox := (hJP 0 W hJ0).box
  have HLEN := Lib.hid hlen
  have HTB := Lib.hid hTb
  clear hT hN hTl hel hS hJ hJP hY hJ0 hTb hlen hPb
  go_enter Tryd.func68, Tryd.ntmps68
  go_upto_region 5 with (fail)
  generalize hV : World.alloc (World.alloc (World.alloc W _) _) _ = V
  have hb3 : Below N W V := by rw [← hV, ← HN.out]; exact below3 _ _ _ _
  have h31 : V.heap[N]? = some (.cells #[.func (.yield l) #[] #[]] 98 (0, 0)) := by rw [← hV, ← HN.out]; exact heap3_first _ _ _ _
  have h32 : V.heap[N + 1]? = some (.cells (bcells (List.replicate 64 0)) 90 (0, 0)) := by rw [← hV, ← HN.out]; exact (heap3_mid _ _ _ _).trans rfl
  have h33 : V.heap[N + 2]? = some (.cells #[.int .i64 0] 3 (0, 0)) := by rw [← hV, ← HN.out]; exact heap3_last _ _ _ _
  have hzV : V.heap.size = N + 3 := by rw [← hV, ← HN.out]; simp
  have hfs : FS T N l J 0 V := ⟨HJ.out _ _ _ HJ0.out hb3, h31, ⟨_, h32, by simp, rfl⟩, h33⟩
  have pboxV := (HJP.out 0 V hfs.j).box
  have HFS := Lib.hid hfs
  have HZV := Lib.hid hzV
  clear hb3 h31 h32 h33 hfs hzV hV pbox hPbW
  have hWN := HN.out
  simp only [hWN, show N + 1 + 1 = N + 2 from rfl]
  clear hWN
  go_wp2_with fail
  clear pboxV
  go_loopw [6, 12] (fun s i wr => ∃ k : Nat, k ≤ ps.length ∧ i = .int .i64 (k : Int) ∧ s = .int .u64 (((ps.take k).flatten.length : Nat) : Int) ∧ FS T N l J (ps.take k).flatten.length wr ∧ N + 3 ≤ wr.heap.size) (fun _ i _ => ps.length - (intOf i).toNat)
  case atStart => exact ⟨0, by omega, rfl, rfl, HFS.out, by have := HZV.out; omega⟩
  case round =>
    obtain ⟨k, hk, rfl, rfl, hfs, hwz⟩ := hrel
    clear HFS
    have HFS := Lib.hid hfs
    clear hfs
    by_cases hlt : k < ps.length
    · obtain ⟨x, hx⟩ : ∃ x, ps[k]? = some x := ⟨_, List.getElem?_eq_getElem hlt⟩
      obtain ⟨pg, po, rfl, hc, hsr⟩ := (HJP.out _ _ HFS.out.j).row k x hx
      have hfp := flat_part ps (ending ps.flatten.length) k x hx
      rw [HT.out] at hfp
      have hft := flat_take ps k x hx
      obtain ⟨q, hq⟩ : ∃ q, (ps.take k).flatten.length = q := ⟨_, rfl⟩
      rw [hq] at HFS hfp
      have hq2 : (ps.take (k + 1)).flatten.length = q + x.length := by rw [hft, List.length_append, hq]
      obtain ⟨s1, s2⟩ := HS.out k x hx
      obtain ⟨A, hA⟩ : ∃ A, (S k).1 = A := ⟨_, rfl⟩
      obtain ⟨C, hC⟩ : ∃ C, (S k).2 = C := ⟨_, rfl⟩
      rw [hA, hC] at hc
      rw [hA] at hsr
      rw [hC] at s1 s2
      have hpx := HFILL.out q x hfp.1 (by have := hfp.2; have := HTL.out; omega) A C s1 s2 wr HFS.out hwz (fun k' V' hj _ => by
        obtain ⟨_, _, _, _, h⟩ := (HJP.out _ _ hj).row k x hx
        rw [hA] at h
        exact h)
      have HPX := Lib.hid hpx
      have hqb : q ≤ 100000 := by have := hfp.2; have := HLEN.out; omega
      have hxb : x.length ≤ 100000 := by have := hfp.2; have := HLEN.out; omega
      have HQ2 := Lib.hid hq2
      have hki : (k : Int) < (ps.length : Int) := by omega
      obtain ⟨xl, hxl⟩ : ∃ xl, x.length = xl := ⟨_, rfl⟩
      rw [hxl] at hc hxb HPX HQ2
      rw [hq]
      clear hx hfp hft hq hq2 s1 s2 hA hC hsr hpx hxl
      go_wp2_with fail
      refine (HPX.out).mono ?_
      rintro e V2 ⟨rfl, hfs2, hkp⟩
      have HFS2 := Lib.hid hfs2
      have HKP := Lib.hid hkp
      clear hfs2 hkp
      go_wp2_with fail
      go_roundw
      case rel =>
        refine ⟨k + 1, by omega, by go_num, ?_, ?_, ?_⟩
        · rw [HQ2.out]; simp
        · rw [HQ2.out]; exact HFS2.out
        · have := HKP.out.size; omega
      case measure => simp [intOf]; omega
    · have hkl : k = ps.length := by omega
      subst hkl
      rw [List.take_length] at HFS
      have htl : (ps.take ps.length).flatten.length = ps.flatten.length := by rw [List.take_length]
      rw [htl]
      obtain ⟨q, hq⟩ : ∃ q, ps.flatten.length = q := ⟨_, rfl⟩
      rw [hq] at HFS HLEN HT HTL HEL ⊢
      have HQL := Lib.hid hq
      have hge : ¬ ((ps.length : Int) < (ps.length : Int)) := by omega
      have HE := Lib.hid (ending_any q (by have := HLEN.out; omega) wr)
      clear htl hq hpc
      go_wp2_with fail
      refine HE.out.mono ?_
      rintro e V2 ⟨v, rfl, hown, hbel⟩
      obtain ⟨g, cap, rfl, hg1, hg2, hcap, hcm, hcells⟩ := own_slice hown HEL.out.1
      have hfs2 := HFS.out.on HJ.out hbel hwz
      have hz2 := hbel.size
      have hT2 : ending q = (T.drop q).take (ending q).length := by
        rw [← HT.out, ← HQL.out, List.drop_left, List.take_length]
      have hpx := HFILL.out q (ending q) hT2 (by have := HTL.out; omega) (some ⟨g, 0, none⟩) cap hcap hcm V2 hfs2 (by omega) (fun k' V' hj hk2 hne => ⟨g, 0, rfl, fun j y hy => by
        rw [Nat.zero_add, cell_of_heap2 (hk2.same g (by omega) hg2)]
        exact hcells j y hy⟩)
      have HPX := Lib.hid hpx
      clear hown hbel hcells hfs2 hT2 hpx
      go_wp2_with fail
      refine (HPX.out).mono ?_
      rintro e V3 ⟨rfl, hfs3, hkp⟩
      have HFS3 := Lib.hid hfs3
      clear hfs3 hkp
      go_wp2_with fail
      go_end0
      refine ⟨⟨_, rfl⟩, ?_⟩
      have h := HFS3.out.j
      rw [← HTL.out] at h
      exact h
end Go.Proofs.YtafolokkjpbieaaDoor
