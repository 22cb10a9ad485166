/-
  THE WALKS over package locator: Parse.
-/
import Derived.Test.YthagoafcphaadaaDoorLocWF
namespace Go.Proofs.YthagoafcphaadaaDoor
open Go.RowKit Lo
set_option linter.unusedVariables false
set_option linter.unusedSimpArgs false
/-- what Parse leaves of a locator -/
def plc (s : List UInt8) : Lc := (parseL s).getD Lc.no
def per (s : List UInt8) : Int := if (parseL s).isSome then 0 else 12
/-- what Parse leaves -/
def PPost (s : List UInt8) (w : World) (e : Ending) (w' : World) : Prop :=
  ∃ A c, e = .returned (.tuple #[locV (plc s) A c, .int .i64 (per s)]) ∧ LocAt (plc s) A c w' ∧ w'.ownsRow w.heap.size 9 1 (.slice A (plc s).parts.length c) (plc s).parts.length (strsV (plc s).parts) ∧ Below w.heap.size w w'
theorem plc_none {s : List UInt8} (h : parseL s = none) : plc s = Lc.no ∧ per s = 12 := by
  unfold plc per
  rw [h]
  exact ⟨rfl, rfl⟩
theorem plc_some {s : List UInt8} {l : Lc} (h : parseL s = some l) : plc s = l ∧ per s = 0 := by
  unfold plc per
  rw [h]
  exact ⟨rfl, rfl⟩
theorem no_at (w : World) : LocAt Lc.no none 0 w := ⟨by decide, by decide, fun e => absurd rfl e, by decide, fun p hp => by cases hp⟩
/-- the five cells that are written, in a block of the call's own -/
theorem below_five {w V : World} (hb : Below w.heap.size w V) (v0 v1 v2 v3 v4 : Value) :
    Below w.heap.size w (((((V.setCell ⟨w.heap.size, 0, none⟩ v0).setCell ⟨w.heap.size, 1, none⟩ v1).setCell ⟨w.heap.size, 2, none⟩ v2).setCell ⟨w.heap.size, 3, none⟩ v3).setCell ⟨w.heap.size, 4, none⟩ v4) :=
  ((((hb.setCell (Nat.le_refl _) _).setCell (Nat.le_refl _) _).setCell (Nat.le_refl _) _).setCell (Nat.le_refl _) _).setCell (Nat.le_refl _) _
theorem own_set5 {V : World} {g b n : Nat} {v : Value} {xs : List Value} (hg : g < b) (h : V.ownsRow b 9 1 v n xs) (v0 v1 v2 v3 v4 : Value) :
    (((((V.setCell ⟨g, 0, none⟩ v0).setCell ⟨g, 1, none⟩ v1).setCell ⟨g, 2, none⟩ v2).setCell ⟨g, 3, none⟩ v3).setCell ⟨g, 4, none⟩ v4).ownsRow b 9 1 v n xs :=
  own_set hg (own_set hg (own_set hg (own_set hg (own_set hg h 0 v0) 1 v1) 2 v2) 3 v3) 4 v4
theorem bad_post {s : List UInt8} {w V : World} (hp : parseL s = none) (hb : Below w.heap.size w V) : PPost s w (.returned (.tuple #[.agg #[.int .u8 0, .string ⟨#[]⟩, .int .i64 0, .slice none 0 0, .bool false], .int .i64 12])) V := by
  obtain ⟨e1, e2⟩ := plc_none hp
  refine ⟨none, 0, ?_, ?_, ?_, hb⟩
  · rw [e1, e2]; rfl
  · rw [e1]; exact no_at _
  · rw [e1]; exact World.ownsRow_nil _ _ _ _
theorem good_post {s : List UInt8} {w V W : World} {S : Nat} {H : List UInt8} {p : Int} {L : List (List UInt8)} {d : Bool} {A : Option Addr} {c : Nat} (hp : parseL s = some ⟨S, H, p, L, d⟩) (hat : LocAt ⟨S, H, p, L, d⟩ A c W) (ho : V.ownsRow (w.heap.size + 1) 9 1 (.slice A L.length c) L.length (strsV L)) (hb : Below w.heap.size w V) :
    PPost s w (.returned (.tuple #[.agg #[.int .u8 S, .string (str H), .int .i64 p, .slice A L.length c, .bool d], .int .i64 0])) V := by
  obtain ⟨e1, e2⟩ := plc_some hp
  refine ⟨A, c, ?_, ?_, ?_, hb⟩
  · rw [e1, e2]; rfl
  · rw [e1]; exact ⟨hat.sch, hat.host, (own_strs ho).1, hat.cap, hat.big⟩
  · rw [e1]; exact own_mono ho (Nat.le_succ _)
set_option maxRecDepth 100000 in
set_option maxHeartbeats 8000000 in
theorem parse_any (s : List UInt8) (hs : s.length < 4294967281) (w : World) (env : LEnv true w) :
    Calls Tryd.prog 16 #[.string (str s)] w (PPost s w) := by
  have hG := env.big
  have HE := Lib.hid env
  have hpl : parseL s = if s.length ≤ 200 ∧ chk (rdL s) = 0 ∧ wrL (rdL s) = s then some (rdL s) else none := rfl
  have hrow := heap_alloc_new w (.cells zeroL 24)
  have hbel := below_new w (.cells zeroL 24)
  by_cases h200 : s.length ≤ 200
  · have i1 : ¬ ((str s).size : Int) > 200 := by rw [str_size]; omega
    have HR := Lib.hid (read_any s h200)
    clear env
    go_enter Tryd.func16, Tryd.ntmps16
    go_wp2_with fail
    generalize hv1 : World.alloc w _ = v1
    have HN1 : RowKit.Hid (v1.heap[w.heap.size]? = some (.cells zeroL 24 (0, 0))) := Lib.hid (by rw [← hv1]; exact hrow)
    have HB1 : RowKit.Hid (Below w.heap.size w v1) := Lib.hid (by rw [← hv1]; exact hbel)
    have HZ1 : RowKit.Hid (w.heap.size + 1 ≤ v1.heap.size) := Lib.hid (by rw [← hv1]; simp)
    clear hv1 hrow hbel
    refine (HR.out v1 (HE.out.below HB1.out hG)).mono ?_
    rintro e w2 ⟨A, c, rfl, hat, hown, hb2⟩
    have HAT := Lib.hid hat
    have HOWN := Lib.hid (own_mono hown HZ1.out)
    have HN2 := Lib.hid (row_on HN1.out hb2)
    have HB2 := Lib.hid (HB1.out.trans (hb2.mono (Nat.le_of_succ_le HZ1.out)))
    have HT := Lib.hid (fun (V : World) (ev : LEnv true V) (hb : Below w2.heap.size w2 V) => Text_any (rdL s) A c V ev (HAT.out.on hb))
    have hTL : (chk (rdL s) = 0 → textL (rdL s) = (wrL (rdL s), 0)) ∧ (chk (rdL s) ≠ 0 → textL (rdL s) = ([], chk (rdL s))) := by
      unfold textL
      exact ⟨fun e => if_pos e, fun e => if_neg e⟩
    have hC : (¬ (chk (rdL s) = 0 ∧ wrL (rdL s) = s) → parseL s = none) ∧ (chk (rdL s) = 0 → wrL (rdL s) = s → parseL s = some (rdL s)) := by
      rw [hpl]
      exact ⟨fun h => if_neg (fun h2 => h h2.2), fun h h2 => if_pos ⟨h200, h, h2⟩⟩
    clear hat hown hb2 hpl
    generalize textL (rdL s) = TL at hTL HT
    generalize rdL s = l at HAT HOWN HT hTL hC
    obtain ⟨S, H, p, L, d⟩ := l
    unfold locV at HT ⊢
    simp only at HT hTL HOWN ⊢
    generalize wrL ⟨S, H, p, L, d⟩ = WR at hTL hC
    generalize chk ⟨S, H, p, L, d⟩ = CK at hTL hC
    go_wp2_with fail
    generalize hv3 : World.alloc w2 _ = v3
    have hb3 : Below w2.heap.size w2 v3 := by rw [← hv3]; exact below_new _ _
    have HX3 : RowKit.Hid (v3.heap[w2.heap.size]? = some (.cells #[.int .u8 S, .string (str H), .int .i64 p, .slice A L.length c, .bool d] 24 (0, 0))) := Lib.hid (by rw [← hv3]; exact heap_alloc_new _ _)
    have HNE : RowKit.Hid (w.heap.size < w2.heap.size) := Lib.hid (row_lt HN2.out)
    clear hv3
    obtain ⟨M, hM⟩ : ∃ M, w2.heap.size = M := ⟨_, rfl⟩
    have HB3 := Lib.hid (HB2.out.trans (hb3.mono HB2.out.size))
    have HN3 := Lib.hid (row_on HN2.out hb3)
    have HO3 := Lib.hid (own_on HOWN.out hb3)
    refine (HT.out v3 (HE.out.below HB3.out hG) hb3).mono ?_
    rintro e v4 ⟨rfl, hb4⟩
    have HX4 := Lib.hid (row_on HX3.out hb4)
    have HB4 := Lib.hid (HB3.out.trans (hb4.mono HB3.out.size))
    have HN4 := Lib.hid (row_on HN3.out hb4)
    have HOWN4 := Lib.hid (own_on HO3.out hb4)
    have HZ4 := Lib.hid (Nat.lt_succ_self w.heap.size)
    rw [hM] at HX4 HNE ⊢
    clear hb3 hb4 HX3 HT hM
    obtain ⟨hz, m0, m1, m2, m3, m4, -, -, -, -, -⟩ := locfacts HX4.out
    obtain ⟨gz, g0, g1, g2, g3, g4, k0, k1, k2, k3, k4⟩ := locfacts (a := .int .u8 0) (b := .string ⟨#[]⟩) (c := .int .i64 0) (d := .slice none 0 0) (e := .bool false) HN4.out
    by_cases h0 : CK = 0
    · obtain rfl := hTL.1 h0
      by_cases hw : WR = s
      · have HPS := Lib.hid (hC.2 h0 hw)
        have iw : ((str WR).toList == (str s).toList) = true := by rw [hw]; exact beq_self_eq_true _
        clear hTL hC h0 hw
        go_wp2_with fail
        have B := five_row (v0 := .int .u8 S) (v1 := .string (str H)) (v2 := .int .i64 p) (v3 := .slice A L.length c) (v4 := .bool d) (a := .int .u8 0) (b := .string ⟨#[]⟩) (c := .int .i64 0) (d := .slice none 0 0) (e := .bool false) HN4.out
        have HB5 := Lib.hid (below_five HB4.out (.int .u8 S) (.string (str H)) (.int .i64 p) (.slice A L.length c) (.bool d))
        have HO5 := Lib.hid (own_set5 HZ4.out HOWN4.out (.int .u8 S) (.string (str H)) (.int .i64 p) (.slice A L.length c) (.bool d))
        generalize hfin : World.setCell (World.setCell (World.setCell (World.setCell (World.setCell v4 _ _) _ _) _ _) _ _) _ _ = fin at B HB5 HO5 ⊢
        clear hfin
        obtain ⟨-, b0, b1, b2, b3, b4, -, -, -, -, -⟩ := locfacts B
        refine bodyPost_ret (v := .tuple #[.agg #[.int .u8 S, .string (str H), .int .i64 p, .slice A L.length c, .bool d], .int .i64 0]) (by simp [results, Tryd.results16, go_sem, b0, b1, b2, b3, b4]) rfl (good_post HPS.out HAT.out HO5.out HB5.out)
      · have HPN := Lib.hid (hC.1 (fun h => hw h.2))
        have iw : ((str WR).toList == (str s).toList) = false := by
          rw [eqS, str_dat, ByteArray.toList_eq, str_dat]
          exact decide_eq_false hw
        clear hTL hC h0 hw
        go_wp2_with fail
        have B := five_row (v0 := .int .u8 0) (v1 := .string ⟨#[]⟩) (v2 := .int .i64 0) (v3 := .slice none 0 0) (v4 := .bool false) (a := .int .u8 0) (b := .string ⟨#[]⟩) (c := .int .i64 0) (d := .slice none 0 0) (e := .bool false) HN4.out
        have HB5 := Lib.hid (below_five HB4.out (.int .u8 0) (.string ⟨#[]⟩) (.int .i64 0) (.slice none 0 0) (.bool false))
        generalize hfin : World.setCell (World.setCell (World.setCell (World.setCell (World.setCell v4 _ _) _ _) _ _) _ _) _ _ = fin at B HB5 ⊢
        clear hfin
        obtain ⟨-, b0, b1, b2, b3, b4, -, -, -, -, -⟩ := locfacts B
        refine bodyPost_ret (v := .tuple #[.agg #[.int .u8 0, .string ⟨#[]⟩, .int .i64 0, .slice none 0 0, .bool false], .int .i64 12]) (by simp [results, Tryd.results16, go_sem, b0, b1, b2, b3, b4]) rfl (bad_post HPN.out HB5.out)
    · obtain rfl := hTL.2 h0
      have HPN := Lib.hid (hC.1 (fun h => h0 h.1))
      have ic : (CK != 0) = true := by rw [bne_iff_ne]; exact h0
      clear hTL hC h0
      go_wp2_with fail
      have B := five_row (v0 := .int .u8 0) (v1 := .string ⟨#[]⟩) (v2 := .int .i64 0) (v3 := .slice none 0 0) (v4 := .bool false) (a := .int .u8 0) (b := .string ⟨#[]⟩) (c := .int .i64 0) (d := .slice none 0 0) (e := .bool false) HN4.out
      have HB5 := Lib.hid (below_five HB4.out (.int .u8 0) (.string ⟨#[]⟩) (.int .i64 0) (.slice none 0 0) (.bool false))
      generalize hfin : World.setCell (World.setCell (World.setCell (World.setCell (World.setCell v4 _ _) _ _) _ _) _ _) _ _ = fin at B HB5 ⊢
      clear hfin
      obtain ⟨-, b0, b1, b2, b3, b4, -, -, -, -, -⟩ := locfacts B
      refine bodyPost_ret (v := .tuple #[.agg #[.int .u8 0, .string ⟨#[]⟩, .int .i64 0, .slice none 0 0, .bool false], .int .i64 12]) (by simp [results, Tryd.results16, go_sem, b0, b1, b2, b3, b4]) rfl (bad_post HPN.out HB5.out)
  · have i1 : ((str s).size : Int) > 200 := by rw [str_size]; omega
    have HPN : RowKit.Hid (parseL s = none) := Lib.hid (by rw [hpl, if_neg (fun h => h200 h.1)])
    obtain ⟨gz, g0, g1, g2, g3, g4, k0, k1, k2, k3, k4⟩ := locfacts (a := .int .u8 0) (b := .string ⟨#[]⟩) (c := .int .i64 0) (d := .slice none 0 0) (e := .bool false) hrow
    have HROW := Lib.hid hrow
    have HBEL := Lib.hid hbel
    clear env hpl hrow hbel
    go_enter Tryd.func16, Tryd.ntmps16
    go_wp2_with fail
    refine bodyPost_ret (v := .tuple #[.agg #[.int .u8 0, .string ⟨#[]⟩, .int .i64 0, .slice none 0 0, .bool false], .int .i64 12]) (by simp [results, Tryd.results16, go_sem]) rfl (bad_post HPN.out HBEL.out)
end Go.Proofs.YthagoafcphaadaaDoor
