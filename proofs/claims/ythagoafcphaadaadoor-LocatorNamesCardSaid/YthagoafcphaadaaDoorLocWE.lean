/-
  THE WALKS over package locator: Check, Text.
-/
import Derived.Test.YthagoafcphaadaaDoorLocWD
namespace Go.Proofs.YthagoafcphaadaaDoor
open Go.RowKit Lo
set_option linter.unusedVariables false
set_option linter.unusedSimpArgs false
variable {fl : Bool}
theorem chk_many (l : Lc) (h : 10 < l.parts.length) : chk l = 4 := by unfold chk; rw [if_pos h]
theorem chk_bad (l : Lc) (h : ¬ 10 < l.parts.length) (hg : goodB l = false) : chk l = 8 := by unfold chk; rw [if_neg h, if_pos hg]
theorem chk_long (l : Lc) (h : ¬ 10 < l.parts.length) (hg : goodB l = true) (h2 : 200 < (wrL l).length) : chk l = 4 := by unfold chk; rw [if_neg h, if_neg (by rw [hg]; simp), if_pos h2]
theorem chk_ok (l : Lc) (h : ¬ 10 < l.parts.length) (hg : goodB l = true) (h2 : ¬ 200 < (wrL l).length) : chk l = 0 := by unfold chk; rw [if_neg h, if_neg (by rw [hg]; simp), if_neg h2]
theorem host_len {H : List UInt8} (h : hostB H = true) : H.length ≤ 60 := by
  unfold hostB at h
  simp only [Bool.and_eq_true, decide_eq_true_eq] at h
  exact h.1
theorem name_len {p : List UInt8} (h : nameB p = true) : p.length ≤ 40 := by
  unfold nameB at h
  simp only [Bool.and_eq_true, decide_eq_true_eq] at h
  exact h.1.1.1.2
/-- what a locator's value wants of memory -/
structure LocAt (l : Lc) (A : Option Addr) (c : Nat) (w : World) : Prop where
  sch : l.sch < 256
  host : l.host.length < 4294967281
  parts : StrsAt A l.parts w
  cap : l.parts.length ≤ c
  big : ∀ p ∈ l.parts, p.length < 4294967281
theorem LocAt.on {l : Lc} {A : Option Addr} {c : Nat} {w w' : World} (h : LocAt l A c w) (hb : Below w.heap.size w w') : LocAt l A c w' := ⟨h.sch, h.host, h.parts.on hb, h.cap, h.big⟩
theorem text_of {l : Lc} {A : Option Addr} {c : Nat} {w : World} (env : LEnv fl w) (h : LocAt l A c w) (h1 : ¬ 10 < l.parts.length) (hg : goodB l = true) :
    Calls Tryd.prog 24 #[locV l A c] w fun e w' => e = .returned (.string (str (wrL l))) ∧ Below w.heap.size w w' := by
  have g := (good_iff l).1 hg
  exact text_any l.sch l.host l.port A l.parts c l.dir w env g.sch (host_len g.host) g.p0 g.p1 h.parts (by omega) (fun q hq => name_len (g.names q hq)) h.cap
theorem wrL_len2 (l : Lc) (h1 : ¬ 10 < l.parts.length) (hg : goodB l = true) : (wrL l).length ≤ 600 := by
  have g := (good_iff l).1 hg
  exact wrL_len l.sch l.host l.port l.parts l.dir g.sch (host_len g.host) g.p0 g.p1 (by omega) (fun q hq => name_len (g.names q hq))
set_option maxRecDepth 100000 in
set_option maxHeartbeats 8000000 in
theorem check_any (l : Lc) (A : Option Addr) (c : Nat) (w : World) (env : LEnv fl w) (h : LocAt l A c w) :
    Calls Tryd.prog 9 #[locV l A c] w fun e w' => e = .returned (.int .i64 (chk l)) ∧ Below w.heap.size w w' := by
  have hG := env.big
  have HE := Lib.hid env
  have HL := Lib.hid h
  have HT := Lib.hid (fun (V : World) (hb : Below w.heap.size w V) (h1 : ¬ 10 < l.parts.length) (hg : goodB l = true) => text_of (HE.out.below hb hG) (h.on hb) h1 hg)
  have HC1 := Lib.hid (fun (V : World) (hb : Below w.heap.size w V) => scheme_any l.sch h.sch V (HE.out.below hb hG))
  have HC2 := Lib.hid (fun (V : World) (hb : Below w.heap.size w V) => host_any (str l.host) V (HE.out.below hb hG) (by rw [str_size]; exact h.host))
  have HC3 := Lib.hid (fun (V : World) (hb : Below w.heap.size w V) (hs : l.sch = 1 ∨ l.sch = 2) => port_any l.sch hs l.port V (HE.out.below hb hG))
  have HC4 := Lib.hid (fun (V : World) (hb : Below w.heap.size w V) (h1 : ¬ 10 < l.parts.length) => path_any A l.parts c l.dir V (HE.out.below hb hG) (h.parts.on hb) (by omega) h.big)
  have HR1 := Lib.hid (chk_many l)
  have HR2 := Lib.hid (chk_bad l)
  have HR3 := Lib.hid (chk_long l)
  have HR4 := Lib.hid (chk_ok l)
  have HW := Lib.hid (wrL_len2 l)
  have hgd : goodB l = ((decide (l.sch = 1) || decide (l.sch = 2)) && hostB l.host && portB l.sch l.port && pathB l.parts l.dir) := rfl
  obtain ⟨S, H, p, L, d⟩ := l
  clear env h
  unfold locV at HT ⊢
  simp only [str_dat] at HC1 HC2 HC3 HC4 HT HR1 HR2 HR3 HR4 HW hgd ⊢
  generalize hWR : wrL ⟨S, H, p, L, d⟩ = WR at HT HR3 HR4 HW
  generalize hCK : chk ⟨S, H, p, L, d⟩ = CK at HR1 HR2 HR3 HR4 ⊢
  clear hWR hCK
  generalize hGB : goodB ⟨S, H, p, L, d⟩ = GB at HT HR2 HR3 HR4 HW hgd
  generalize hQ1 : (decide (S = 1) || decide (S = 2)) = Q1 at HC1 hgd
  generalize hostB H = Q2 at HC2 hgd
  generalize portB S p = Q3 at HC3 hgd
  generalize pathB L d = Q4 at HC4 hgd
  have HS : RowKit.Hid (Q1 = true → S = 1 ∨ S = 2) := Lib.hid (by rw [← hQ1]; simp)
  have HZ : RowKit.Hid (∀ o : Obj, Below w.heap.size w (w.alloc o)) := Lib.hid (fun o => below_new w o)
  clear hGB hQ1
  go_enter Tryd.func9, Tryd.ntmps9
  have start : ∃ v1, v1 = w.alloc (.cells #[.int .u8 S, .string (str H), .int .i64 p, .slice A L.length c, .bool d] 24) := ⟨_, rfl⟩
  by_cases h10 : 10 < L.length
  · have i1 : ((L.length : Int) > 10) := by omega
    have HCK := Lib.hid (HR1.out h10)
    clear HC1 HC2 HC3 HC4 HT
    go_wp2_with fail
    go_ret
    exact ⟨by rw [HCK.out]; rfl, HZ.out _⟩
  · have i1 : ¬ ((L.length : Int) > 10) := by omega
    obtain ⟨v1, hv1⟩ := start
    have hZ1 := HZ.out (.cells #[.int .u8 S, .string (str H), .int .i64 p, .slice A L.length c, .bool d] 24)
    have B1 : Box w.heap.size S (str H) p (.slice A L.length c) d v1 := by rw [hv1]; exact Box.start
    rw [← hv1] at hZ1
    have HB1 := Lib.hid hZ1
    have BX1 := Lib.hid B1
    clear B1 hZ1
    cases Q1
    · have HCK := Lib.hid (HR2.out h10 (by rw [hgd]; rfl))
      clear hgd
      go_wp2_with fail
      rw [← hv1]
      clear hv1
      obtain ⟨hz1, e0, e1, e2, e3, e4⟩ := BX1.out
      refine (HC1.out v1 HB1.out).mono ?_
      rintro e v2 ⟨rfl, hb⟩
      have HB2 := Lib.hid (HB1.out.trans (hb.mono HB1.out.size))
      have BX2 := Lib.hid (BX1.out.on hb)
      clear hb e0 e1 e2 e3 e4 hz1
      obtain ⟨hz2, e0, e1, e2, e3, e4⟩ := BX2.out
      go_wp2_with fail
      go_ret
      exact ⟨by rw [HCK.out]; rfl, HB2.out⟩
    · skip
      cases Q2
      · have HCK := Lib.hid (HR2.out h10 (by rw [hgd]; rfl))
        clear hgd
        go_wp2_with fail
        rw [← hv1]
        clear hv1
        obtain ⟨hz1, e0, e1, e2, e3, e4⟩ := BX1.out
        refine (HC1.out v1 HB1.out).mono ?_
        rintro e v2 ⟨rfl, hb⟩
        have HB2 := Lib.hid (HB1.out.trans (hb.mono HB1.out.size))
        have BX2 := Lib.hid (BX1.out.on hb)
        clear hb e0 e1 e2 e3 e4 hz1
        obtain ⟨hz2, e0, e1, e2, e3, e4⟩ := BX2.out
        go_wp2_with fail
        refine (HC2.out v2 HB2.out).mono ?_
        rintro e v3 ⟨rfl, hb⟩
        have HB3 := Lib.hid (HB2.out.trans (hb.mono HB2.out.size))
        have BX3 := Lib.hid (BX2.out.on hb)
        clear hb e0 e1 e2 e3 e4 hz2
        obtain ⟨hz3, e0, e1, e2, e3, e4⟩ := BX3.out
        go_wp2_with fail
        go_ret
        exact ⟨by rw [HCK.out]; rfl, HB3.out⟩
      · skip
        cases Q3
        · have HCK := Lib.hid (HR2.out h10 (by rw [hgd]; rfl))
          clear hgd
          go_wp2_with fail
          rw [← hv1]
          clear hv1
          obtain ⟨hz1, e0, e1, e2, e3, e4⟩ := BX1.out
          refine (HC1.out v1 HB1.out).mono ?_
          rintro e v2 ⟨rfl, hb⟩
          have HB2 := Lib.hid (HB1.out.trans (hb.mono HB1.out.size))
          have BX2 := Lib.hid (BX1.out.on hb)
          clear hb e0 e1 e2 e3 e4 hz1
          obtain ⟨hz2, e0, e1, e2, e3, e4⟩ := BX2.out
          go_wp2_with fail
          refine (HC2.out v2 HB2.out).mono ?_
          rintro e v3 ⟨rfl, hb⟩
          have HB3 := Lib.hid (HB2.out.trans (hb.mono HB2.out.size))
          have BX3 := Lib.hid (BX2.out.on hb)
          clear hb e0 e1 e2 e3 e4 hz2
          obtain ⟨hz3, e0, e1, e2, e3, e4⟩ := BX3.out
          go_wp2_with fail
          refine (HC3.out v3 HB3.out (HS.out (by first | rfl | trivial))).mono ?_
          rintro e v4 ⟨rfl, hb⟩
          have HB4 := Lib.hid (HB3.out.trans (hb.mono HB3.out.size))
          have BX4 := Lib.hid (BX3.out.on hb)
          clear hb e0 e1 e2 e3 e4 hz3
          obtain ⟨hz4, e0, e1, e2, e3, e4⟩ := BX4.out
          go_wp2_with fail
          go_ret
          exact ⟨by rw [HCK.out]; rfl, HB4.out⟩
        · skip
          cases Q4
          · have HCK := Lib.hid (HR2.out h10 (by rw [hgd]; rfl))
            clear hgd
            go_wp2_with fail
            rw [← hv1]
            clear hv1
            obtain ⟨hz1, e0, e1, e2, e3, e4⟩ := BX1.out
            refine (HC1.out v1 HB1.out).mono ?_
            rintro e v2 ⟨rfl, hb⟩
            have HB2 := Lib.hid (HB1.out.trans (hb.mono HB1.out.size))
            have BX2 := Lib.hid (BX1.out.on hb)
            clear hb e0 e1 e2 e3 e4 hz1
            obtain ⟨hz2, e0, e1, e2, e3, e4⟩ := BX2.out
            go_wp2_with fail
            refine (HC2.out v2 HB2.out).mono ?_
            rintro e v3 ⟨rfl, hb⟩
            have HB3 := Lib.hid (HB2.out.trans (hb.mono HB2.out.size))
            have BX3 := Lib.hid (BX2.out.on hb)
            clear hb e0 e1 e2 e3 e4 hz2
            obtain ⟨hz3, e0, e1, e2, e3, e4⟩ := BX3.out
            go_wp2_with fail
            refine (HC3.out v3 HB3.out (HS.out (by first | rfl | trivial))).mono ?_
            rintro e v4 ⟨rfl, hb⟩
            have HB4 := Lib.hid (HB3.out.trans (hb.mono HB3.out.size))
            have BX4 := Lib.hid (BX3.out.on hb)
            clear hb e0 e1 e2 e3 e4 hz3
            obtain ⟨hz4, e0, e1, e2, e3, e4⟩ := BX4.out
            go_wp2_with fail
            refine (HC4.out v4 HB4.out h10).mono ?_
            rintro e v5 ⟨rfl, hb⟩
            have HB5 := Lib.hid (HB4.out.trans (hb.mono HB4.out.size))
            have BX5 := Lib.hid (BX4.out.on hb)
            clear hb e0 e1 e2 e3 e4 hz4
            obtain ⟨hz5, e0, e1, e2, e3, e4⟩ := BX5.out
            go_wp2_with fail
            go_ret
            exact ⟨by rw [HCK.out]; rfl, HB5.out⟩
          · skip
            obtain rfl : GB = true := hgd
            have hwz : (str WR).size ≤ 600 := by rw [str_size]; exact HW.out h10 rfl
            by_cases h200 : 200 < WR.length
            · have i2 : ((str WR).size : Int) > 200 := by rw [str_size]; omega
              have HCK := Lib.hid (HR3.out h10 rfl h200)
              go_wp2_with fail
              rw [← hv1]
              clear hv1
              obtain ⟨hz1, e0, e1, e2, e3, e4⟩ := BX1.out
              refine (HC1.out v1 HB1.out).mono ?_
              rintro e v2 ⟨rfl, hb⟩
              have HB2 := Lib.hid (HB1.out.trans (hb.mono HB1.out.size))
              have BX2 := Lib.hid (BX1.out.on hb)
              clear hb e0 e1 e2 e3 e4 hz1
              obtain ⟨hz2, e0, e1, e2, e3, e4⟩ := BX2.out
              go_wp2_with fail
              refine (HC2.out v2 HB2.out).mono ?_
              rintro e v3 ⟨rfl, hb⟩
              have HB3 := Lib.hid (HB2.out.trans (hb.mono HB2.out.size))
              have BX3 := Lib.hid (BX2.out.on hb)
              clear hb e0 e1 e2 e3 e4 hz2
              obtain ⟨hz3, e0, e1, e2, e3, e4⟩ := BX3.out
              go_wp2_with fail
              refine (HC3.out v3 HB3.out (HS.out (by first | rfl | trivial))).mono ?_
              rintro e v4 ⟨rfl, hb⟩
              have HB4 := Lib.hid (HB3.out.trans (hb.mono HB3.out.size))
              have BX4 := Lib.hid (BX3.out.on hb)
              clear hb e0 e1 e2 e3 e4 hz3
              obtain ⟨hz4, e0, e1, e2, e3, e4⟩ := BX4.out
              go_wp2_with fail
              refine (HC4.out v4 HB4.out h10).mono ?_
              rintro e v5 ⟨rfl, hb⟩
              have HB5 := Lib.hid (HB4.out.trans (hb.mono HB4.out.size))
              have BX5 := Lib.hid (BX4.out.on hb)
              clear hb e0 e1 e2 e3 e4 hz4
              obtain ⟨hz5, e0, e1, e2, e3, e4⟩ := BX5.out
              go_wp2_with fail
              refine (HT.out v5 HB5.out h10 (by first | rfl | trivial)).mono ?_
              rintro e v6 ⟨rfl, hb⟩
              have HB6 := Lib.hid (HB5.out.trans (hb.mono HB5.out.size))
              have BX6 := Lib.hid (BX5.out.on hb)
              clear hb e0 e1 e2 e3 e4 hz5
              obtain ⟨hz6, e0, e1, e2, e3, e4⟩ := BX6.out
              go_wp2_with fail
              go_ret
              exact ⟨by rw [HCK.out]; rfl, HB6.out⟩
            · have i2 : ¬ ((str WR).size : Int) > 200 := by rw [str_size]; omega
              have HCK := Lib.hid (HR4.out h10 rfl h200)
              go_wp2_with fail
              rw [← hv1]
              clear hv1
              obtain ⟨hz1, e0, e1, e2, e3, e4⟩ := BX1.out
              refine (HC1.out v1 HB1.out).mono ?_
              rintro e v2 ⟨rfl, hb⟩
              have HB2 := Lib.hid (HB1.out.trans (hb.mono HB1.out.size))
              have BX2 := Lib.hid (BX1.out.on hb)
              clear hb e0 e1 e2 e3 e4 hz1
              obtain ⟨hz2, e0, e1, e2, e3, e4⟩ := BX2.out
              go_wp2_with fail
              refine (HC2.out v2 HB2.out).mono ?_
              rintro e v3 ⟨rfl, hb⟩
              have HB3 := Lib.hid (HB2.out.trans (hb.mono HB2.out.size))
              have BX3 := Lib.hid (BX2.out.on hb)
              clear hb e0 e1 e2 e3 e4 hz2
              obtain ⟨hz3, e0, e1, e2, e3, e4⟩ := BX3.out
              go_wp2_with fail
              refine (HC3.out v3 HB3.out (HS.out (by first | rfl | trivial))).mono ?_
              rintro e v4 ⟨rfl, hb⟩
              have HB4 := Lib.hid (HB3.out.trans (hb.mono HB3.out.size))
              have BX4 := Lib.hid (BX3.out.on hb)
              clear hb e0 e1 e2 e3 e4 hz3
              obtain ⟨hz4, e0, e1, e2, e3, e4⟩ := BX4.out
              go_wp2_with fail
              refine (HC4.out v4 HB4.out h10).mono ?_
              rintro e v5 ⟨rfl, hb⟩
              have HB5 := Lib.hid (HB4.out.trans (hb.mono HB4.out.size))
              have BX5 := Lib.hid (BX4.out.on hb)
              clear hb e0 e1 e2 e3 e4 hz4
              obtain ⟨hz5, e0, e1, e2, e3, e4⟩ := BX5.out
              go_wp2_with fail
              refine (HT.out v5 HB5.out h10 (by first | rfl | trivial)).mono ?_
              rintro e v6 ⟨rfl, hb⟩
              have HB6 := Lib.hid (HB5.out.trans (hb.mono HB5.out.size))
              have BX6 := Lib.hid (BX5.out.on hb)
              clear hb e0 e1 e2 e3 e4 hz5
              obtain ⟨hz6, e0, e1, e2, e3, e4⟩ := BX6.out
              go_wp2_with fail
              go_ret
              exact ⟨by rw [HCK.out]; rfl, HB6.out⟩
set_option maxRecDepth 100000 in
set_option maxHeartbeats 8000000 in
theorem Text_any (l : Lc) (A : Option Addr) (c : Nat) (w : World) (env : LEnv fl w) (h : LocAt l A c w) :
    Calls Tryd.prog 6 #[locV l A c] w fun e w' => e = .returned (.tuple #[.string (str (textL l).1), .int .i64 (textL l).2]) ∧ Below w.heap.size w w' := by
  have hG := env.big
  have HE := Lib.hid env
  have HC := Lib.hid (fun (V : World) (hb : Below w.heap.size w V) => check_any l A c V (HE.out.below hb hG) (h.on hb))
  have HT := Lib.hid (fun (V : World) (hb : Below w.heap.size w V) (h0 : chk l = 0) => text_of (HE.out.below hb hG) (h.on hb) (by have := (chk_zero h0).2.1; omega) ((good_iff l).2 (chk_zero h0).1))
  have hT : (chk l = 0 → textL l = (wrL l, 0)) ∧ (chk l ≠ 0 → textL l = ([], chk l)) := by
    unfold textL
    exact ⟨fun e => if_pos e, fun e => if_neg e⟩
  generalize textL l = TL at hT ⊢
  obtain ⟨S, H, p, L, d⟩ := l
  clear env h
  unfold locV at HT HC ⊢
  simp only at HT HC hT ⊢
  generalize wrL ⟨S, H, p, L, d⟩ = WR at HT hT
  generalize chk ⟨S, H, p, L, d⟩ = CK at HC HT hT
  have HZ : RowKit.Hid (∀ o : Obj, Below w.heap.size w (w.alloc o)) := Lib.hid (fun o => below_new w o)
  go_enter Tryd.func6, Tryd.ntmps6
  have start : ∃ v1, v1 = w.alloc (.cells #[.int .u8 S, .string (str H), .int .i64 p, .slice A L.length c, .bool d] 24) := ⟨_, rfl⟩
  obtain ⟨v1, hv1⟩ := start
  have hZ1 := HZ.out (.cells #[.int .u8 S, .string (str H), .int .i64 p, .slice A L.length c, .bool d] 24)
  have B1 : Box w.heap.size S (str H) p (.slice A L.length c) d v1 := by rw [hv1]; exact Box.start
  rw [← hv1] at hZ1
  have HB1 := Lib.hid hZ1
  have BX1 := Lib.hid B1
  clear B1 hZ1
  by_cases h0 : CK = 0
  · obtain rfl := hT.1 h0
    subst h0
    clear hT
    go_wp2_with fail
    rw [← hv1]
    clear hv1
    obtain ⟨hz1, e0, e1, e2, e3, e4⟩ := BX1.out
    refine (HC.out v1 HB1.out).mono ?_
    rintro e v2 ⟨rfl, hb⟩
    have HB2 := Lib.hid (HB1.out.trans (hb.mono HB1.out.size))
    have BX2 := Lib.hid (BX1.out.on hb)
    clear hb e0 e1 e2 e3 e4 hz1
    obtain ⟨hz2, e0, e1, e2, e3, e4⟩ := BX2.out
    go_wp2_with fail
    refine (HT.out v2 HB2.out (by first | rfl | trivial)).mono ?_
    rintro e v3 ⟨rfl, hb⟩
    have HB3 := Lib.hid (HB2.out.trans (hb.mono HB2.out.size))
    clear hb
    go_wp2_with fail
    go_ret2
    exact ⟨rfl, HB3.out⟩
  · obtain rfl := hT.2 h0
    have ic : (CK != 0) = true := by rw [bne_iff_ne]; exact h0
    clear hT h0
    go_wp2_with fail
    rw [← hv1]
    clear hv1
    obtain ⟨hz1, e0, e1, e2, e3, e4⟩ := BX1.out
    refine (HC.out v1 HB1.out).mono ?_
    rintro e v2 ⟨rfl, hb⟩
    have HB2 := Lib.hid (HB1.out.trans (hb.mono HB1.out.size))
    clear hb
    go_wp2_with fail
    go_ret2
    exact ⟨rfl, HB2.out⟩
end Go.Proofs.YthagoafcphaadaaDoor
