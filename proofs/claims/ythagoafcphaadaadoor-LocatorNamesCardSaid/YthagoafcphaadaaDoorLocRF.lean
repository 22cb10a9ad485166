/-
  THE WALKS over the reference of layer 9: Check, Text.
-/
import Derived.Test.YthagoafcphaadaaDoorLocRFB
import Derived.Test.YthagoafcphaadaaDoorLocRFC
import Derived.Deep.RegionHeld3
namespace Go.Proofs.YthagoafcphaadaaDoor
open Go.RowKit Lo
set_option linter.unusedVariables false
set_option linter.unusedSimpArgs false
theorem rcheck_any (l : Lc) (A : Option Addr) (c : Nat) (w : World) (h : LocAt l A c w) :
    Calls Tryd.prog 33 #[locV l A c] w fun e w' => e = .returned (.int .i64 (chk l)) ∧ Below w.heap.size w w' := by
  by_cases h10 : 10 < l.parts.length
  · exact rcheck_many l A c w h h10
  · by_cases h1 : l.sch = 1
    · exact rcheck_s1 l A c w h h10 h1
    · by_cases h2 : l.sch = 2
      · exact rcheck_s2 l A c w h h10 h2
      · exact rcheck_else l A c w h h10 ⟨h1, h2⟩
set_option maxRecDepth 100000 in
set_option maxHeartbeats 8000000 in
theorem rText_any (l : Lc) (A : Option Addr) (c : Nat) (w : World) (h : LocAt l A c w) :
    Calls Tryd.prog 36 #[locV l A c] w fun e w' => e = .returned (.tuple #[.string (str (textL l).1), .int .i64 (textL l).2]) ∧ Below w.heap.size w w' := by
  have HC := Lib.hid (fun (V : World) (hb : Below w.heap.size w V) => rcheck_any l A c V (h.on hb))
  have HT := Lib.hid (fun (V : World) (hb : Below w.heap.size w V) (h0 : chk l = 0) => show Calls Tryd.prog 34 #[locV l A c] V (fun e w' => e = .returned (.string (str (wrL l))) ∧ Below V.heap.size V w') from by
    have g := (chk_zero h0).1
    exact write_any l.sch l.host l.port A l.parts c l.dir V g.sch (host_len g.host) g.p0 g.p1 (h.parts.on hb) (chk_zero h0).2.1 (fun q hq => name_len (g.names q hq)) h.cap)
  have hT : (chk l = 0 → textL l = (wrL l, 0)) ∧ (chk l ≠ 0 → textL l = ([], chk l)) := by
    unfold textL
    exact ⟨fun e => if_pos e, fun e => if_neg e⟩
  generalize textL l = TL at hT ⊢
  have hrow := heap_alloc_new w (.cells #[.int .u8 l.sch, .string (str l.host), .int .i64 l.port, .slice A l.parts.length c, .bool l.dir] 24)
  have hbel := below_new w (.cells #[.int .u8 l.sch, .string (str l.host), .int .i64 l.port, .slice A l.parts.length c, .bool l.dir] 24)
  obtain ⟨S, H, p, L, d⟩ := l
  clear h
  unfold locV at HT HC ⊢
  simp only at HT HC hT hrow hbel ⊢
  generalize wrL ⟨S, H, p, L, d⟩ = WR at HT hT
  generalize chk ⟨S, H, p, L, d⟩ = CK at HC HT hT
  go_enter Tryd.func36, Tryd.ntmps36
  go_upto_region 1 with (fail)
  generalize hv1 : World.alloc w _ = v1
  have HR1 := Lib.hid (show v1.heap[w.heap.size]? = some (.cells #[.int .u8 S, .string (str H), .int .i64 p, .slice A L.length c, .bool d] 24 (0, 0)) by rw [← hv1]; exact hrow)
  have HB1 := Lib.hid (show Below w.heap.size w v1 by rw [← hv1]; exact hbel)
  clear hv1 hrow hbel
  obtain ⟨hz, m0, m1, m2, m3, m4, -, -, -, -, -⟩ := locfacts HR1.out
  by_cases h0 : CK = 0
  · obtain rfl := hT.1 h0
    subst h0
    clear hT
    go_wp2_with fail
    refine (HC.out v1 HB1.out).mono ?_
    rintro e v2 ⟨rfl, hb⟩
    have HB2 := Lib.hid (HB1.out.trans (hb.mono HB1.out.size))
    have HR2 := Lib.hid (row_on HR1.out hb)
    clear hb hz m0 m1 m2 m3 m4
    obtain ⟨hz, m0, m1, m2, m3, m4, -, -, -, -, -⟩ := locfacts HR2.out
    go_wp2_with fail
    refine (HT.out v2 HB2.out (by first | rfl | trivial)).mono ?_
    rintro e v3 ⟨rfl, hb⟩
    have HB3 := Lib.hid (HB2.out.trans (hb.mono HB2.out.size))
    clear hb
    go_wp2_with fail
    go_ret2
    exact ⟨rfl, HB3.out⟩
  · obtain rfl := hT.2 h0
    have ic : (CK != 0) = true := by rw [bne_iff_ne]; exact h0
    clear hT h0
    go_wp2_with fail
    refine (HC.out v1 HB1.out).mono ?_
    rintro e v2 ⟨rfl, hb⟩
    have HB2 := Lib.hid (HB1.out.trans (hb.mono HB1.out.size))
    clear hb
    go_wp2_with fail
    go_ret2
    exact ⟨rfl, HB2.out⟩
end Go.Proofs.YthagoafcphaadaaDoor
