/-
  THE WALKS over the strings of package number: rows of groups.
-/
import Derived.Test.YtlikgfmcialepaaGreatDoorSixM
namespace Go.Proofs.YtlikgfmcialepaaGreatDoor
open Go.RowKit Adr
set_option linter.unusedVariables false
theorem Tryz.info_u16 : (Tryz.prog.info? 61).map (fun i => (i.zero, i.size, i.bytes)) = some (some (.int .u16 0), 1, 2) := by kernel_rfl
/-- a row of numbers of 16 bits that a call has laid -/
def RowIs (n : Nat) (w' : World) (v : Value) (l : List Nat) : Prop :=
  (l = [] ∧ v = .slice none 0 0) ∨ (∃ g cap, v = .slice (some ⟨g, 0, none⟩) l.length cap ∧ l ≠ [] ∧ n ≤ g ∧ g < w'.heap.size ∧ l.length ≤ cap ∧ cap ≤ maxLen ∧ ∀ (j x : Nat), l[j]? = some x → w'.cell? ⟨g, j, none⟩ = some (.int .u16 x))
theorem RowIs.on {n : Nat} {w w' : World} {v : Value} {l : List Nat} (h : RowIs n w v l) (hb : Below w.heap.size w w') : RowIs n w' v l := by
  rcases h with h | ⟨g, cap, h1, h2, h3, h4, h5, h6, h7⟩
  · exact Or.inl h
  · exact Or.inr ⟨g, cap, h1, h2, h3, by have := hb.size; omega, h5, h6, fun j x hx => (hb.cell (p := ⟨g, j, none⟩) h4).trans (h7 j x hx)⟩
/-- a row of numbers of the call's own, opened -/
theorem own_u16s {w : World} {base : Nat} {e : TypeId} {v : Value} {n : Nat} {xs : List Nat} (h : w.ownsRow base e 1 v n (xs.map fun x : Nat => Value.int .u16 (x : Int))) (hn : 0 < n) :
    ∃ g cap, v = .slice (some ⟨g, 0, none⟩) n cap ∧ base ≤ g ∧ g < w.heap.size ∧ n ≤ cap ∧ cap ≤ maxLen ∧ (∀ (j x : Nat), xs[j]? = some x → w.cell? ⟨g, j, none⟩ = some (.int .u16 x)) ∧ xs.length = n := by
  obtain ⟨hl, h | ⟨g, cap, cur, rfl, hb, hg, hnc, hcm, hcs, ht⟩⟩ := h
  · omega
  · have hlt : g < w.heap.size := by
      have := hg
      rw [Array.getElem?_eq_some_iff] at this
      exact this.1
    have hxl : xs.length = n := by simpa using hl
    refine ⟨g, cap, rfl, hb, hlt, hnc, hcm, fun j x hj => ?_, hxl⟩
    have hjn : j < n := by have := (List.getElem?_eq_some_iff.1 hj).1; omega
    have h1 : cur.toList[j]? = some (.int .u16 (x : Int)) := by
      have h2 : (cur.toList.take (n * 1))[j]? = cur.toList[j]? := by rw [List.getElem?_take]; rw [if_pos (by omega)]
      rw [← h2, ht, List.getElem?_map, hj]
      rfl
    simp only [World.cell?, hg]
    simpa using h1
theorem hexAll_cons {p : ByteArray} {ps : List ByteArray} {n : Nat} (h : hexS p = some n) : hexAll (p :: ps) = (hexAll ps).map (n :: ·) := by
  conv => lhs; unfold hexAll
  rw [h]
  cases hexAll ps <;> rfl
theorem hexAll_none {p : ByteArray} {ps : List ByteArray} (h : hexS p = none) : hexAll (p :: ps) = none := by
  conv => lhs; unfold hexAll
  rw [h]
theorem hexM_le : ∀ (l : List UInt8) (a n : Nat), a ≤ 65535 → hexM a l = some (some n) → n ≤ 65535
  | [], a, n, ha, h => by
    have : a = n := by simpa [hexM] using h
    omega
  | c :: r, a, n, ha, h => by
    unfold hexM at h
    split at h
    · cases h
    · split at h
      · cases h
      · exact hexM_le r _ n (by omega) h
theorem hexS_le {s : ByteArray} {n : Nat} (h : hexS s = some n) : n ≤ 65535 := by
  unfold hexS at h
  split at h
  · cases h
  · split at h
    · rename_i m hm
      have : m = n := by simpa using h
      subst this
      exact hexM_le _ 0 m (by omega) hm
    · cases h
theorem hexAll_le : ∀ (ps : List ByteArray) (l : List Nat), hexAll ps = some l → (∀ z ∈ l, z < 65536) ∧ l.length = ps.length
  | [], l, h => by
    have : l = [] := by simpa [hexAll] using h.symm
    subst this
    simp
  | p :: ps, l, h => by
    cases hp : hexS p with
    | none => rw [hexAll_none hp] at h; cases h
    | some n =>
      rw [hexAll_cons hp] at h
      cases hr : hexAll ps with
      | none => rw [hr] at h; cases h
      | some r =>
        rw [hr] at h
        have : l = n :: r := by simpa using h.symm
        subst this
        have ih := hexAll_le ps r hr
        refine ⟨fun z hz => ?_, by simp [ih.2]⟩
        rcases List.mem_cons.1 hz with rfl | hz
        · have := hexS_le hp; omega
        · exact ih.1 z hz
theorem grpR_le {s : ByteArray} {l : List Nat} (h : grpR s = some l) : ∀ z ∈ l, z < 65536 := by
  unfold grpR at h
  split at h
  · have : l = [] := by simpa using h.symm
    subst this
    simp
  · exact (hexAll_le _ _ h).1
theorem countB_small (c : UInt8) (s : ByteArray) : (parts c s).length ≤ s.size + 1 := by
  rw [parts_len]
  have := Lib.countB_le ⟨#[c]⟩ (by exact Nat.le_refl 1) s.size s (Nat.le_refl _)
  omega
/-- what readGroups leaves -/
def GrpLeft (r : Option (List Nat)) (w : World) (e : Ending) (w' : World) : Prop :=
  ∃ v, e = .returned (.tuple #[v, .bool r.isSome]) ∧ RowIs w.heap.size w' v (r.getD []) ∧ Below w.heap.size w w'
def GrpRel (ps : List ByteArray) (tot : Option (List Nat)) (w w0 : World) (k : Nat) (v : Value) (wr : World) : Prop :=
  ∃ acc : List Nat, acc.length = k ∧ Below w.heap.size w wr ∧ Below (w.heap.size + 1) w0 wr ∧ w.heap.size + 1 ≤ wr.heap.size ∧ wr.ownsRow (w.heap.size + 1) 61 1 v k (acc.map fun x : Nat => Value.int .u16 (x : Int)) ∧ tot = (hexAll (ps.drop k)).map (acc ++ ·)
set_option maxHeartbeats 2000000 in
theorem grp_core (ps : List ByteArray) (s : ByteArray) (w : World) (env : Env true w) (h0 : s.toList.isEmpty = false) (hs : s.size ≤ 1000) (hps : parts 58 s = ps) :
    Calls Tryz.prog 57 #[.string s] w (GrpLeft (hexAll ps) w) := by
  obtain ⟨m, hm⟩ := env.mx
  have hG := env.big
  have HE := Lib.hid env
  have hsp := Tryz.strings_Split s ⟨#[58]⟩ m w (by omega) hm (Nat.le_refl 1)
  rw [← parts_len] at hsp
  rw [show Lib.splitB ⟨#[58]⟩ 0 (Lib.countB s ⟨#[58]⟩) s = parts 58 s from rfl] at hsp
  have hsmall := parts_small 58 s
  have hcnt := countB_small 58 s
  rw [hps] at hsp hsmall hcnt
  obtain ⟨tot, ht⟩ : ∃ tot, hexAll ps = tot := ⟨_, rfl⟩
  rw [ht]
  obtain ⟨N, hN⟩ : ∃ N, ps.length = N := ⟨_, rfl⟩
  have hpos : 0 < N := by rw [← hN, ← hps, parts_len]; omega
  rw [hN] at hsp hcnt
  have HT := Lib.hid ht
  have HS := Lib.hid hsp
  have HL := Lib.hid hN
  have HSm := Lib.hid hsmall
  have hN1 : N ≤ 1001 := by omega
  have HP := Lib.hid hpos
  clear hpos
  clear hsp hps hN ht hsmall env hcnt hm
  obtain ⟨i0, hi, hz0, hz1, hz2⟩ := info_parts Tryz.info_u16
  go_enter Tryz.func57, Tryz.ntmps57
  go_wp2_with fail
  refine HS.out.mono ?_
  rintro e w1 ⟨rfl, rfl⟩
  go_wp2_with fail
  obtain ⟨w0, hw0⟩ : ∃ w0 : World, w0 = w.alloc (.cells (ps.map Value.string).toArray 9) := ⟨_, rfl⟩
  have hcell : ∀ (j : Nat) x, ps[j]? = some x → w0.cell? ⟨w.heap.size, j, none⟩ = some (.string x) := fun j x hx => by
    rw [hw0]
    refine (World.cell?_alloc_at _ _ _ _ rfl).trans ?_
    simp [hx]
  have HC := Lib.hid hcell
  have hsz0 : w0.heap.size = w.heap.size + 1 := by rw [hw0]; simp
  have HZ := Lib.hid hsz0
  have hb0 : Below w.heap.size w w0 := by rw [hw0]; exact (Below.refl _ _).alloc (Nat.le_refl _) _
  have HB0 := Lib.hid hb0
  clear hcell hsz0 hb0
  go_loopw [4, 14] (fun v i wr => ∃ k : Nat, k ≤ N ∧ i = .int .i64 k ∧ GrpRel ps tot w w0 k v wr) (fun _ i _ => N - (intOf i).toNat)
  case atStart =>
    refine ⟨0, Nat.zero_le _, rfl, [], rfl, ?_, ?_, ?_, ?_, ?_⟩
    · rw [← hw0]; exact HB0.out
    · rw [← hw0]; exact Below.refl _ _
    · rw [← hw0, HZ.out]; exact Nat.le_refl _
    · simpa using World.ownsRow_nil _ _ _ _
    · rw [HT.out.symm]
      simp
  case round =>
    obtain ⟨k, hk, rfl, acc, hacc, hbel, hbel1, hsz, hown, htot⟩ := hrel
    have HB := Lib.hid hbel
    have HB1 := Lib.hid hbel1
    have HO := Lib.hid hown
    have HTT := Lib.hid htot
    have HA := Lib.hid hacc
    clear hbel hbel1 hown htot hacc
    by_cases hlt : k < N
    · have hkl : k < ps.length := by have := HL.out; omega
      obtain ⟨x, hx⟩ : ∃ x, ps[k]? = some x := ⟨_, List.getElem?_eq_getElem hkl⟩
      have hck : wr.cell? ⟨w.heap.size, k, none⟩ = some (.string x) := (HB1.out.cell (p := ⟨w.heap.size, k, none⟩) (Nat.lt_succ_self _)).trans (HC.out k x hx)
      have hdrop : ps.drop k = x :: ps.drop (k + 1) := by
        rw [List.drop_eq_getElem_cons hkl]
        rw [List.getElem?_eq_getElem hkl] at hx
        rw [Option.some.inj hx]
      have hxs : x.size ≤ 1000000 := by
        have := HSm.out x (List.mem_of_getElem? hx)
        omega
      have hpu := Lib.hid (pu16 x wr (HE.out.below HB.out hG) hxs)
      have HD := Lib.hid hdrop
      clear hkl hdrop hxs hx
      cases hr : hexS x with
      | none =>
        have htn : tot = none := by rw [HTT.out, HD.out, hexAll_none hr]; rfl
        have HR := Lib.hid hr
        subst htn
        clear hr
        go_wp2_with fail
        refine hpu.out.mono ?_
        rintro e w3 ⟨⟨n, xv, rfl, hx⟩, hb3⟩
        rcases hx with ⟨hx, _⟩ | ⟨_, t, p, rfl⟩
        · rw [HR.out] at hx; cases hx
        · have HB3 := Lib.hid (HB.out.trans (hb3.mono (by omega)))
          clear hb3
          go_wp2_with fail
          go_ret2
          exact ⟨_, rfl, Or.inl ⟨rfl, rfl⟩, HB3.out⟩
      | some n =>
        have hn := hexS_le hr
        have htn : tot = (hexAll (ps.drop (k + 1))).map ((acc ++ [n]) ++ ·) := by
          rw [HTT.out, HD.out, hexAll_cons hr]
          cases hexAll (ps.drop (k + 1)) <;> simp
        have HR := Lib.hid hr
        have HTN := Lib.hid htn
        have HN := Lib.hid hn
        clear hr htn hn
        go_wp2_with fail
        refine hpu.out.mono ?_
        rintro e w3 ⟨⟨n', xv, rfl, hx⟩, hb3⟩
        rcases hx with ⟨hx, rfl⟩ | ⟨hx, _⟩
        · obtain rfl : n = n' := by rw [HR.out] at hx; exact Option.some.inj hx
          clear hx
          have hwn : IntKind.u16.wrap (n : Int) = (n : Int) := by
            rw [u16w, Nat.mod_eq_of_lt (by have := HN.out; omega)]
          have hown3 : w3.ownsRow (w.heap.size + 1) 61 1 u4 k (acc.map fun x : Nat => Value.int .u16 (x : Int)) := HO.out.kept (row := none) ⟨hb3.os, hb3.tape, hb3.output, hb3.size, fun j hj _ => hb3.block j hj⟩ (by cases u4.ownBlock <;> simp)
          have HO3 := Lib.hid hown3
          have hsz3 : w.heap.size + 1 ≤ w3.heap.size := by have := hb3.size; omega
          have HB3 := Lib.hid (HB.out.trans (hb3.mono (by omega)))
          have HB13 := Lib.hid (HB1.out.trans (hb3.mono hsz))
          clear hown3 hb3
          obtain ⟨ys, hys⟩ : ∃ ys, (acc.map fun x : Nat => Value.int .u16 (x : Int)) = ys := ⟨_, rfl⟩
          rw [hys] at HO3
          have HY := Lib.hid hys
          clear hys
          go_wp2_with (at_builtin; refine wpList_append_own _ rfl _ _ 110 rfl (w.heap.size + 1) 61 i0 (.int .u16 0) 1 2 Tryz.underlying110 hi hz0 hz1 hz2 rfl (by decide) _ _ _ rfl (HO3.out.alloc _) ⟨w3.heap.size, 0, none⟩ 1 1 [.int .u16 n] rfl rfl ?c1 ?c2 ?c3 ?c4 ?c5 ?_; rotate_left 5; intro v' w4 hown4 hgrow4 _)
          case c1 => exact cell_one_new _ _ _
          case c2 => simp [Value.oneCell']
          case c3 => unfold maxLen; omega
          case c4 => omega
          case c5 => simp; omega
          obtain ⟨g1, g2⟩ := own_step' HO3.out hgrow4 HB13.out hsz3
          have hlt4 := HO3.out.lt
          have g3 : Below w.heap.size w w4 := (HB3.out.alloc (by omega) _).grown hgrow4 (by simp; omega) (fun j hj => by have := (hlt4 j hj).1; omega)
          refine ⟨⟨k + 1, by omega, by go_num, acc ++ [n], by simp [HA.out], g3, g1, g2, ?_, HTN.out⟩, by simp [intOf]; omega⟩
          rw [List.map_append, HY.out]
          exact hown4
        · rw [HR.out] at hx; cases hx
    · have ek : k = N := by omega
      subst ek
      have htn : tot = some acc := by
        rw [HTT.out, List.drop_of_length_le (by have := HL.out; omega)]
        simp [hexAll]
      subst htn
      clear hlt hk
      have hk0 : 0 < k := HP.out
      obtain ⟨g, cap, rfl, hg1, hg2, hg3, hg4, hg5, hg6⟩ := own_u16s HO.out hk0
      have HG := Lib.hid hg5
      have HX := Lib.hid hg6
      clear hg5 hg6
      go_wp2_with fail
      go_ret2
      have hne : acc ≠ [] := fun e => by
        have := HX.out
        rw [e] at this
        simp at this
        omega
      have hlen : (acc.length : Nat) = k := HX.out
      refine ⟨.slice (some ⟨g, 0, none⟩) k cap, rfl, Or.inr ⟨g, cap, ?_, hne, by omega, hg2, ?_, hg4, HG.out⟩, HB.out⟩
      · show _ = Value.slice _ acc.length cap
        rw [hlen]
      · show acc.length ≤ cap
        omega
theorem grp_any (s : ByteArray) (w : World) (env : Env true w) (hs : s.size ≤ 1000) :
    Calls Tryz.prog 57 #[.string s] w (GrpLeft (grpR s) w) := by
  unfold grpR
  by_cases h0 : s.size = 0
  · rw [if_pos h0]
    obtain rfl : s = ⟨#[]⟩ := by
      apply ByteArray.ext
      exact Array.eq_empty_of_size_eq_zero h0
    go_enter Tryz.func57, Tryz.ntmps57
    go_wp2_with fail
    go_ret2
    exact ⟨_, rfl, Or.inl ⟨rfl, rfl⟩, Below.refl _ _⟩
  · rw [if_neg h0]
    refine grp_core _ s w env ?_ hs rfl
    rw [← decide_eq_emptyBytes]
    exact decide_eq_false (fun h => h0 (by rw [h]; rfl))
end Go.Proofs.YtlikgfmcialepaaGreatDoor
