/-
  THE WALKS over the laws' helpers of layer 9: refused, alive.
-/
import Derived.Test.YthagoafcphaadaaDoorLocRA
import Derived.Test.YthagoafcphaadaaDoorLocEx
namespace Go.Proofs.YthagoafcphaadaaDoor
open Go.RowKit Lo
set_option linter.unusedVariables false
set_option linter.unusedSimpArgs false
/-- a box that holds a locator -/
structure BX (M : Nat) (l : Lc) (A : Option Addr) (c : Nat) (V : World) : Prop where
  at_ : LocAt l A c V
  box : V.heap[M]? = some (.cells #[.int .u8 l.sch, .string (str l.host), .int .i64 l.port, .slice A l.parts.length c, .bool l.dir] 24 (0, 0))
theorem BX.on {V V' : World} {M c : Nat} {l : Lc} {A : Option Addr} (h : BX M l A c V) (hb : Below V.heap.size V V') : BX M l A c V' := ⟨h.at_.on hb, row_on h.box hb⟩
theorem PX.bx {w V : World} {M c : Nat} {l : Lc} {A : Option Addr} (h : PX w M l A c V) : BX M l A c V := ⟨h.at_, h.box⟩
theorem same_no (l : Lc) (A : Option Addr) (c : Nat) (w : World) (h : LocAt l A c w) (hl : l.parts.length ≤ 1000000) :
    Calls Tryd.prog 19 #[.agg #[.int .u8 l.sch, .string (str l.host), .int .i64 l.port, .slice A l.parts.length c, .bool l.dir], .agg #[.int .u8 0, .string ⟨#[]⟩, .int .i64 0, .slice none 0 0, .bool false]] w fun e w' => e = .returned (.bool (sameB l Lc.no)) ∧ Below w.heap.size w w' :=
  same_any l Lc.no A c none 0 w h.parts (fun e => absurd rfl e) hl h.cap (Nat.le_refl _)
set_option maxRecDepth 100000 in
set_option maxHeartbeats 8000000 in
theorem refused_any (s : List UInt8) (hs : s.length < 4294967281) (hp : parseL s = none) (w : World) (env : LEnv true w) :
    Calls Tryd.prog 10 #[.string (str s)] w fun e w' => e = .returned (.bool true) ∧ Below w.heap.size w w' := by
  have hG := env.big
  have HE := Lib.hid env
  have HP := Lib.hid (parse_g s hs)
  obtain ⟨e1, e2⟩ := plc_none hp
  rw [e1, e2] at HP
  have HS := Lib.hid (fun (A : Option Addr) (c : Nat) (V : World) (h : LocAt Lc.no A c V) => same_no Lc.no A c V h (by decide))
  rw [show sameB Lc.no Lc.no = true by decide] at HS
  unfold PPostG locV at HP
  clear env hp e1 e2
  go_enter Tryd.func10, Tryd.ntmps10
  go_wp2_with fail
  refine (HP.out w HE.out).mono ?_
  rintro e w2 ⟨A, c, rfl, hpx⟩
  go_upto_region 2 with (fail)
  generalize World.alloc w2 _ = w3 at hpx ⊢
  generalize w2.heap.size = M at hpx ⊢
  have HX := Lib.hid hpx
  clear hpx
  obtain ⟨hz, m0, m1, m2, m3, m4, -, -, -, -, -⟩ := locfacts HX.out.box
  go_wp2_with fail
  refine (HS.out A c w3 HX.out.at_).mono ?_
  rintro e w4 ⟨rfl, hb⟩
  have HB := Lib.hid (HX.out.bl.trans (hb.mono HX.out.bl.size))
  clear hb
  go_wp2_with fail
  go_ret
  exact ⟨rfl, HB.out⟩
set_option maxRecDepth 100000 in
set_option maxHeartbeats 8000000 in
theorem alive_any (w : World) (env : LEnv true w) :
    Calls Tryd.prog 15 #[] w fun e w' => e = .returned (.bool true) ∧ Below w.heap.size w w' := by
  have hG := env.big
  have HE := Lib.hid env
  have HP1 := Lib.hid (parse_g xOne (by decide))
  have HP2 := Lib.hid (parse_g xPort (by decide))
  rw [(plc_some x_one).1, (plc_some x_one).2] at HP1
  rw [(plc_some x_port).1, (plc_some x_port).2] at HP2
  have HW := Lib.hid (Within_any xDir xOne (by decide) (by decide))
  rw [x_in] at HW
  have HK := Lib.hid (fun (V : World) (e : LEnv true V) => Kind_any [111, 110, 101, 46, 99, 101, 114] (by decide) V e)
  rw [show kindL [111, 110, 101, 46, 99, 101, 114] = 1 by decide +kernel] at HK
  have HR := Lib.hid (fun (s : List UInt8) (hs : s ∈ xB) (V : World) (e : LEnv true V) => refused_any s (by revert s; decide) (x_bad s hs) V e)
  have HS1 := Lib.hid (fun (A : Option Addr) (c : Nat) (B : Option Addr) (V : World) (h : LocAt lOne A c V) (hB : StrsAt B lOne.parts V) => same_any lOne lOne A c B 2 V h.parts hB (by decide) h.cap (by decide))
  have HS2 := Lib.hid (fun (A : Option Addr) (c : Nat) (V : World) (h : LocAt lPort A c V) => same_any lPort lPort A c none 0 V h.parts (fun e => absurd rfl e) (by decide) h.cap (by decide))
  rw [show sameB lOne lOne = true by decide] at HS1
  rw [show sameB lPort lPort = true by decide] at HS2
  unfold PPostG locV at HP1 HP2
  unfold locV at HS1 HS2
  clear env
  go_enter Tryd.func15, Tryd.ntmps15
  go_wp2_with fail
  refine (HP1.out w HE.out).mono ?_
  rintro e w2 ⟨A, c, rfl, hpx⟩
  go_upto_region 2 with (fail)
  generalize World.alloc w2 _ = w3 at hpx ⊢
  generalize w2.heap.size = M at hpx ⊢
  have HX3 := Lib.hid hpx.bx
  have HB3 := Lib.hid hpx.bl
  clear hpx
  go_wp2_with fail
  refine (HP2.out w3 (HE.out.below HB3.out hG)).mono ?_
  rintro e w4 ⟨A2, c2, rfl, hpx⟩
  have hb4 : Below w3.heap.size w3 (w4.alloc _) := hpx.bl
  go_upto_region 3 with (fail)
  generalize World.alloc w4 _ = w5 at hpx hb4 ⊢
  generalize w4.heap.size = M2 at hpx ⊢
  have HY5 := Lib.hid hpx.bx
  have HX5 := Lib.hid (HX3.out.on hb4)
  have HB5 := Lib.hid (HB3.out.trans (hb4.mono HB3.out.size))
  clear hpx hb4
  go_wp2_with fail
  refine (HW.out w5 (HE.out.below HB5.out hG)).mono ?_
  rintro e w6 ⟨rfl, hb⟩
  have HX6 := Lib.hid (HX5.out.on hb)
  have HY6 := Lib.hid (HY5.out.on hb)
  have HB6 := Lib.hid (HB5.out.trans (hb.mono HB5.out.size))
  clear hb
  go_wp2_with fail
  refine (HK.out w6 (HE.out.below HB6.out hG)).mono ?_
  rintro e w7 ⟨rfl, hb⟩
  have HX7 := Lib.hid (HX6.out.on hb)
  have HY7 := Lib.hid (HY6.out.on hb)
  have HB7 := Lib.hid (HB6.out.trans (hb.mono HB6.out.size))
  clear hb
  obtain ⟨hz, m0, m1, m2, m3, m4, -, -, -, -, -⟩ := locfacts HX7.out.box
  go_wp2_with fail
  generalize hw8 : World.alloc w7 _ = w8
  have hb8 : Below w7.heap.size w7 w8 := by rw [← hw8]; exact below_new _ _
  have hst : StrsAt (some ⟨w7.heap.size, 0, none⟩) lOne.parts w8 := fun _ => ⟨w7.heap.size, 0, rfl, by rw [← hw8]; simp, fun j x hj => by
    rw [Nat.zero_add, ← hw8, cell_row (heap_alloc_new _ _)]
    have h2 : j = 0 ∨ j = 1 := by
      have := (List.getElem?_eq_some_iff.1 hj).1
      have e : lOne.parts.length = 2 := rfl
      omega
    rcases h2 with rfl | rfl
    · have h3 : some [99, 97] = some x := hj
      obtain rfl := Option.some.inj h3
      rfl
    · have h3 : some [111, 110, 101, 46, 99, 101, 114] = some x := hj
      obtain rfl := Option.some.inj h3
      rfl⟩
  have HX8 := Lib.hid (HX7.out.on hb8)
  have HY8 := Lib.hid (HY7.out.on hb8)
  have HB8 := Lib.hid (HB7.out.trans (hb8.mono HB7.out.size))
  have HST := Lib.hid hst
  clear hw8 hb8 hst hz m0 m1 m2 m3 m4
  refine (HS1.out A c (some ⟨w7.heap.size, 0, none⟩) w8 HX8.out.at_ HST.out).mono ?_
  rintro e w9 ⟨rfl, hb⟩
  have HY9 := Lib.hid (HY8.out.on hb)
  have HB9 := Lib.hid (HB8.out.trans (hb.mono HB8.out.size))
  clear hb
  obtain ⟨hz, m0, m1, m2, m3, m4, -, -, -, -, -⟩ := locfacts HY9.out.box
  go_wp2_with fail
  refine (HS2.out A2 c2 w9 HY9.out.at_).mono ?_
  rintro e v0 ⟨rfl, hb⟩
  have HV0 := Lib.hid (HB9.out.trans (hb.mono HB9.out.size))
  clear hb hz m0 m1 m2 m3 m4
  go_wp2_with fail
  refine (HR.out [104, 116, 116, 112, 115, 58, 47, 47, 114, 101, 112, 111, 46, 101, 120, 97, 109, 112, 108, 101] (by decide) v0 (HE.out.below HV0.out hG)).mono ?_
  rintro e v1 ⟨rfl, hb⟩
  have HV1 := Lib.hid (HV0.out.trans (hb.mono HV0.out.size))
  clear hb
  go_wp2_with fail
  refine (HR.out [104, 116, 116, 112, 115, 58, 47, 47, 114, 101, 112, 111, 46, 101, 120, 97, 109, 112, 108, 101, 58, 52, 52, 51, 47] (by decide) v1 (HE.out.below HV1.out hG)).mono ?_
  rintro e v2 ⟨rfl, hb⟩
  have HV2 := Lib.hid (HV1.out.trans (hb.mono HV1.out.size))
  clear hb
  go_wp2_with fail
  refine (HR.out [114, 115, 121, 110, 99, 58, 47, 47, 82, 101, 112, 111, 46, 101, 120, 97, 109, 112, 108, 101, 47] (by decide) v2 (HE.out.below HV2.out hG)).mono ?_
  rintro e v3 ⟨rfl, hb⟩
  have HV3 := Lib.hid (HV2.out.trans (hb.mono HV2.out.size))
  clear hb
  go_wp2_with fail
  refine (HR.out [114, 115, 121, 110, 99, 58, 47, 47, 114, 101, 112, 111, 46, 101, 120, 97, 109, 112, 108, 101, 47, 97, 47, 47, 98] (by decide) v3 (HE.out.below HV3.out hG)).mono ?_
  rintro e v4 ⟨rfl, hb⟩
  have HV4 := Lib.hid (HV3.out.trans (hb.mono HV3.out.size))
  clear hb
  go_wp2_with fail
  refine (HR.out [114, 115, 121, 110, 99, 58, 47, 47, 114, 101, 112, 111, 46, 101, 120, 97, 109, 112, 108, 101, 47, 97, 47, 46, 46, 47, 98] (by decide) v4 (HE.out.below HV4.out hG)).mono ?_
  rintro e v5 ⟨rfl, hb⟩
  have HV5 := Lib.hid (HV4.out.trans (hb.mono HV4.out.size))
  clear hb
  go_wp2_with fail
  refine (HR.out [114, 115, 121, 110, 99, 58, 47, 47, 114, 101, 112, 111, 46, 46, 101, 120, 97, 109, 112, 108, 101, 47, 97] (by decide) v5 (HE.out.below HV5.out hG)).mono ?_
  rintro e v6 ⟨rfl, hb⟩
  have HV6 := Lib.hid (HV5.out.trans (hb.mono HV5.out.size))
  clear hb
  go_wp2_with fail
  go_ret
  exact ⟨rfl, HV6.out⟩
end Go.Proofs.YthagoafcphaadaaDoor
