/-
  THE WALKS over package locator: Join, Split, Within.
-/
import Derived.Test.YthagoafcphaadaaDoorLocWG
namespace Go.Proofs.YthagoafcphaadaaDoor
open Go.RowKit Lo
set_option linter.unusedVariables false
set_option linter.unusedSimpArgs false
theorem join_none {d n : List UInt8} (h : parseL d = none) : joinL d n = ([], 12) := by unfold joinL; rw [h]
theorem join_bad {d n : List UInt8} {l : Lc} (h : parseL d = some l) (hb : ¬ (l.dir = true ∧ nameB n = true)) : joinL d n = ([], 2) := by unfold joinL; rw [h]; exact if_neg hb
theorem join_good {d n : List UInt8} {l : Lc} (h : parseL d = some l) (hb : l.dir = true ∧ nameB n = true) : joinL d n = textL (l.file n) := by unfold joinL; rw [h]; exact if_pos hb
/-- what Parse leaves, in the box that holds it -/
structure PX (w : World) (M : Nat) (l : Lc) (A : Option Addr) (c : Nat) (V : World) : Prop where
  at_ : LocAt l A c V
  own : V.ownsRow w.heap.size 9 1 (.slice A l.parts.length c) l.parts.length (strsV l.parts)
  bl : Below w.heap.size w V
  box : V.heap[M]? = some (.cells #[.int .u8 l.sch, .string (str l.host), .int .i64 l.port, .slice A l.parts.length c, .bool l.dir] 24 (0, 0))
  far : ∀ k, (Value.slice A l.parts.length c).ownBlock = some k → k < M
  lM : w.heap.size ≤ M
theorem PX.on {w V V' : World} {M c : Nat} {l : Lc} {A : Option Addr} (h : PX w M l A c V) (hb : Below V.heap.size V V') : PX w M l A c V' :=
  ⟨h.at_.on hb, own_on h.own hb, h.bl.trans (hb.mono h.bl.size), row_on h.box hb, h.far, h.lM⟩
theorem PX.start {s : List UInt8} {w V : World} {A : Option Addr} {c : Nat} (hat : LocAt (plc s) A c V) (hown : V.ownsRow w.heap.size 9 1 (.slice A (plc s).parts.length c) (plc s).parts.length (strsV (plc s).parts)) (hb : Below w.heap.size w V) :
    PX w V.heap.size (plc s) A c (V.alloc (.cells #[.int .u8 (plc s).sch, .string (str (plc s).host), .int .i64 (plc s).port, .slice A (plc s).parts.length c, .bool (plc s).dir] 24)) :=
  ⟨hat.on (below_new _ _), own_on hown (below_new _ _), hb.trans ((below_new _ _).mono hb.size), heap_alloc_new _ _, fun k hk => (own_blk hown hk).2, hb.size⟩
set_option maxRecDepth 100000 in
set_option maxHeartbeats 8000000 in
theorem Within_any (d s : List UInt8) (hd : d.length < 4294967281) (hs : s.length < 4294967281) (w : World) (env : LEnv true w) :
    Calls Tryd.prog 14 #[.string (str d), .string (str s)] w fun e w' => e = .returned (.tuple #[.bool (withinL d s).1, .int .i64 (withinL d s).2]) ∧ Below w.heap.size w w' := by
  have hG := env.big
  have HE := Lib.hid env
  have HP1 := Lib.hid (parse_any d hd)
  have HP2 := Lib.hid (parse_any s hs)
  have HH := Lib.hid (fun V => Tryd.strings_HasPrefix (str s) (str d) V)
  rw [str_dat, str_dat] at HH
  have hw : withinL d s = (match parseL d, parseL s with
    | some a, some _ => if a.dir = true then (Go.Lib.hasPrefix s d, 0) else (false, 2)
    | _, _ => (false, 12)) := rfl
  generalize hB : Go.Lib.hasPrefix s d = B at HH hw
  have hcase : (per d ≠ 0 ∧ withinL d s = (false, 12)) ∨ (per d = 0 ∧ per s ≠ 0 ∧ withinL d s = (false, 12)) ∨ (per d = 0 ∧ per s = 0 ∧ (plc d).dir = false ∧ withinL d s = (false, 2)) ∨ (per d = 0 ∧ per s = 0 ∧ (plc d).dir = true ∧ withinL d s = (B, 0)) := by
    rw [hw]
    cases h1 : parseL d with
    | none => exact .inl ⟨by rw [(plc_none h1).2]; decide, rfl⟩
    | some a =>
      rw [(plc_some h1).2, (plc_some h1).1]
      cases h2 : parseL s with
      | none => exact .inr (.inl ⟨rfl, by rw [(plc_none h2).2]; decide, rfl⟩)
      | some b =>
        rw [(plc_some h2).2]
        cases h3 : a.dir with
        | false => exact .inr (.inr (.inl ⟨rfl, rfl, rfl, by simp [h3]⟩))
        | true => exact .inr (.inr (.inr ⟨rfl, rfl, rfl, by simp [h3]⟩))
  have HCS := Lib.hid hcase
  generalize withinL d s = WL at HCS ⊢
  clear hw hB hcase env
  go_enter Tryd.func14, Tryd.ntmps14
  go_wp2_with fail
  refine (HP1.out w HE.out).mono ?_
  rintro e w2 ⟨A, c, rfl, hat, hown, hb⟩
  have hpx := PX.start hat hown hb
  generalize per d = pd at HCS ⊢
  generalize plc d = ld at HCS hpx ⊢
  clear hat hown hb
  obtain ⟨S, H, p, L, dd⟩ := ld
  unfold locV
  simp only at HCS hpx ⊢
  go_wp2_with fail
  generalize World.alloc w2 _ = w3 at hpx ⊢
  generalize w2.heap.size = M at hpx ⊢
  have HX3 := Lib.hid hpx
  clear hpx
  refine (HP2.out w3 (HE.out.below HX3.out.bl hG)).mono ?_
  rintro e w4 ⟨A2, c2, rfl, -, -, hb4⟩
  have HX4 := Lib.hid (HX3.out.on hb4)
  clear hb4
  generalize per s = ps at HCS ⊢
  generalize plc s = ls at HCS ⊢
  obtain ⟨S2, H2, p2, L2, d2⟩ := ls
  unfold locV
  simp only at ⊢
  rcases HCS.out with ⟨h1, rfl⟩ | ⟨rfl, h2, rfl⟩ | ⟨rfl, rfl, rfl, rfl⟩ | ⟨rfl, rfl, rfl, rfl⟩
  · have i1 : (pd != 0) = true := by rw [bne_iff_ne]; exact h1
    clear HCS h1
    go_wp2_with fail
    generalize hv : World.alloc w4 _ = v
    have hb5 : Below w4.heap.size w4 v := by rw [← hv]; exact below_new _ _
    have HX5 := Lib.hid (HX4.out.on hb5)
    clear hv hb5
    go_wp2_with fail
    go_ret2
    exact ⟨rfl, HX5.out.bl⟩
  · have i1 : (ps != 0) = true := by rw [bne_iff_ne]; exact h2
    clear HCS h2
    go_wp2_with fail
    generalize hv : World.alloc w4 _ = v
    have hb5 : Below w4.heap.size w4 v := by rw [← hv]; exact below_new _ _
    have HX5 := Lib.hid (HX4.out.on hb5)
    clear hv hb5
    go_wp2_with fail
    go_ret2
    exact ⟨rfl, HX5.out.bl⟩
  · clear HCS
    obtain ⟨hz, m0, m1, m2, m3, m4, -, -, -, -, -⟩ := locfacts HX4.out.box
    go_wp2_with fail
    generalize hv : World.alloc w4 _ = v
    have hb5 : Below w4.heap.size w4 v := by rw [← hv]; exact below_new _ _
    have HX5 := Lib.hid (HX4.out.on hb5)
    clear hv hb5
    go_wp2_with fail
    go_ret2
    exact ⟨rfl, HX5.out.bl⟩
  · clear HCS
    obtain ⟨hz, m0, m1, m2, m3, m4, -, -, -, -, -⟩ := locfacts HX4.out.box
    go_wp2_with fail
    generalize hv : World.alloc w4 _ = v
    have hb5 : Below w4.heap.size w4 v := by rw [← hv]; exact below_new _ _
    have HX5 := Lib.hid (HX4.out.on hb5)
    clear hv hb5
    refine (HH.out v).mono ?_
    rintro e w6 ⟨rfl, rfl⟩
    go_wp2_with fail
    go_ret2
    exact ⟨rfl, HX5.out.bl⟩
/-- the first parts of those that lie in memory -/
theorem strs_less {A : Option Addr} {P Q : List (List UInt8)} {w : World} (h : StrsAt A (P ++ Q) w) : StrsAt A P w := fun hne => by
  obtain ⟨g, o, e, hg, hc⟩ := h (by intro e; exact hne (List.append_eq_nil_iff.1 e).1)
  exact ⟨g, o, e, hg, fun j x hj => hc j x (by rw [List.getElem?_append_left (List.getElem?_eq_some_iff.1 hj).1]; exact hj)⟩
/-- what Parse leaves, by what it finds -/
def PPostG (l : Lc) (q : Int) (w : World) (e : Ending) (w' : World) : Prop :=
  ∃ A c, e = .returned (.tuple #[locV l A c, .int .i64 q]) ∧ PX w w'.heap.size l A c (w'.alloc (.cells #[.int .u8 l.sch, .string (str l.host), .int .i64 l.port, .slice A l.parts.length c, .bool l.dir] 24))
theorem parse_g (s : List UInt8) (hs : s.length < 4294967281) (w : World) (env : LEnv true w) :
    Calls Tryd.prog 16 #[.string (str s)] w (PPostG (plc s) (per s) w) := by
  refine (parse_any s hs w env).mono ?_
  rintro e w2 ⟨A, c, rfl, hat, hown, hb⟩
  exact ⟨A, c, rfl, PX.start hat hown hb⟩
theorem split_cases (s : List UInt8) : (per s = 12 ∧ splitS s = ([], [], 12)) ∨ (per s = 0 ∧ (plc s).dir = true ∧ splitS s = ([], [], 2)) ∨ (per s = 0 ∧ ∃ S H p P n, plc s = ⟨S, H, p, P ++ [n], false⟩ ∧ chk ⟨S, H, p, P ++ [n], false⟩ = 0 ∧ chk ⟨S, H, p, P, true⟩ = 0 ∧ splitS s = (wrL ⟨S, H, p, P, true⟩, n, 0)) := by
  unfold splitS
  cases h1 : parseL s with
  | none => exact .inl ⟨(plc_none h1).2, rfl⟩
  | some l =>
    rw [(plc_some h1).2, (plc_some h1).1]
    have hk := ((parse_iff s l).1 h1).1
    cases h3 : l.dir with
    | true => exact .inr (.inl ⟨rfl, rfl, by simp [h3]⟩)
    | false =>
      have hu := up_chk hk h3
      obtain ⟨n, e, _, e2, _⟩ := up_file l (chk_zero hk).1 h3
      refine .inr (.inr ⟨rfl, l.sch, l.host, l.port, l.parts.dropLast, n, ?_, ?_, hu, by simp [h3, e2]; rfl⟩)
      · rw [← e, ← h3]
      · rw [← e, ← h3]; exact hk
set_option maxRecDepth 100000 in
set_option maxHeartbeats 8000000 in
theorem Split_any (s : List UInt8) (hs : s.length < 4294967281) (w : World) (env : LEnv true w) :
    Calls Tryd.prog 13 #[.string (str s)] w fun e w' => e = .returned (.tuple #[.string (str (splitS s).1), .string (str (splitS s).2.1), .int .i64 (splitS s).2.2]) ∧ Below w.heap.size w w' := by
  have hG := env.big
  have HE := Lib.hid env
  have HP1 := Lib.hid (parse_g s hs)
  have hcase := split_cases s
  generalize splitS s = SP at hcase ⊢
  generalize per s = pd at hcase HP1
  generalize plc s = ld at hcase HP1
  clear env
  rcases hcase with ⟨rfl, rfl⟩ | ⟨rfl, h2, rfl⟩ | ⟨rfl, S, H, p, P, n, rfl, hck, hup, rfl⟩
  · go_enter Tryd.func13, Tryd.ntmps13
    go_wp2_with fail
    refine (HP1.out w HE.out).mono ?_
    rintro e w2 ⟨A, c, rfl, hpx⟩
    have HB := Lib.hid hpx.bl
    unfold locV
    clear hpx
    go_wp2_with fail
    refine bodyPost_ret (v := .tuple #[.string ⟨#[]⟩, .string ⟨#[]⟩, .int .i64 12]) (by simp [results, Tryd.results13, go_sem]) rfl ⟨rfl, HB.out⟩
  · obtain ⟨S, H, p, L, dd⟩ := ld
    simp only at h2
    subst h2
    unfold PPostG locV at HP1
    simp only at HP1
    go_enter Tryd.func13, Tryd.ntmps13
    go_wp2_with fail
    refine (HP1.out w HE.out).mono ?_
    rintro e w2 ⟨A, c, rfl, hpx⟩
    have HB := Lib.hid hpx.bl
    clear hpx
    go_wp2_with fail
    refine bodyPost_ret (v := .tuple #[.string ⟨#[]⟩, .string ⟨#[]⟩, .int .i64 2]) (by simp [results, Tryd.results13, go_sem]) rfl ⟨rfl, HB.out⟩
  · have hlen : (P ++ [n]).length = P.length + 1 := by simp
    have hP10 : P.length ≤ 10 := (chk_zero hup).2.1
    have hT0 := fun (A : Option Addr) (c : Nat) (V : World) (ev : LEnv true V) (h : LocAt ⟨S, H, p, P, true⟩ A c V) => text_of ev h (by show ¬ 10 < P.length; omega) ((good_iff _).2 (chk_zero hup).1)
    unfold locV at hT0
    simp only at hT0
    unfold PPostG locV at HP1
    simp only [hlen] at HP1 ⊢
    generalize wrL ⟨S, H, p, P, true⟩ = WR at hT0 ⊢
    have HT := Lib.hid hT0
    clear hT0 hck hup
    go_enter Tryd.func13, Tryd.ntmps13
    go_wp2_with fail
    refine (HP1.out w HE.out).mono ?_
    rintro e w2 ⟨A, c, rfl, hpx⟩
    go_upto_region 2 with (fail)
    generalize World.alloc w2 _ = w3 at hpx ⊢
    generalize w2.heap.size = M at hpx ⊢
    have HX := Lib.hid hpx
    clear hpx
    obtain ⟨g, o, rfl, hg, hcs⟩ := HX.out.at_.parts (by simp)
    have hcell := hcs P.length n (by simp)
    have hbox := HX.out.box
    simp only [hlen] at hbox
    obtain ⟨hz, m0, m1, m2, m3, m4, k0, k1, k2, k3, k4⟩ := locfacts hbox
    have hcap : P.length + 1 ≤ c := by have := HX.out.at_.cap; simp only [hlen] at this; exact this
    have hgM : g < M := HX.out.far g rfl
    have HLT : RowKit.Hid (∀ V, V.heap.size = w3.heap.size → (∀ b, b ≠ M → V.heap[b]? = w3.heap[b]?) → Below w.heap.size w V → LocAt ⟨S, H, p, P, true⟩ (some ⟨g, o, none⟩) c V) := Lib.hid (fun V hs ho hb => ⟨HX.out.at_.sch, HX.out.at_.host, fun hne => ⟨g, o, rfl, by rw [hs]; exact hg, fun j x hj => by
      have h1 := hcs j x (by rw [List.getElem?_append_left (List.getElem?_eq_some_iff.1 hj).1]; exact hj)
      unfold World.cell? at h1 ⊢
      rw [ho g (by omega)]
      exact h1⟩, by show P.length ≤ c; omega, fun q hq => HX.out.at_.big q (List.mem_append_left _ hq)⟩)
    clear hcs hbox hg
    go_wp2_with fail
    have hw4 : ∀ (a b : Value), ((w3.setCell ⟨M, 3, none⟩ a).setCell ⟨M, 4, none⟩ b).heap.size = w3.heap.size ∧ (∀ k, k ≠ M → ((w3.setCell ⟨M, 3, none⟩ a).setCell ⟨M, 4, none⟩ b).heap[k]? = w3.heap[k]?) ∧ Below w.heap.size w ((w3.setCell ⟨M, 3, none⟩ a).setCell ⟨M, 4, none⟩ b) := fun a b => ⟨by simp [World.setCell], fun k hk => (Below.heap_setCell _ _ _ _ hk).trans (Below.heap_setCell _ _ _ _ hk), (HX.out.bl.setCell HX.out.lM _).setCell HX.out.lM _⟩
    obtain ⟨q1, q2, q3⟩ := hw4 (.slice (some ⟨g, o, none⟩) P.length c) (.bool true)
    generalize World.setCell (World.setCell w3 _ _) _ _ = w4 at q1 q2 q3 ⊢
    have HB4 := Lib.hid q3
    refine (HT.out _ _ w4 (HE.out.below q3 hG) (HLT.out w4 q1 q2 q3)).mono ?_
    clear hw4 q1 q2 q3
    rintro e w5 ⟨rfl, hb5⟩
    have HB5 := Lib.hid (HB4.out.trans (hb5.mono HB4.out.size))
    clear hb5
    go_wp2_with fail
    refine bodyPost_ret (v := .tuple #[.string (str WR), .string (str n), .int .i64 0]) (by simp [results, Tryd.results13, go_sem]) rfl ⟨rfl, HB5.out⟩
theorem join_cases (d n : List UInt8) : (per d = 12 ∧ joinL d n = ([], 12)) ∨ (per d = 0 ∧ (plc d).dir = false ∧ joinL d n = ([], 2)) ∨ (per d = 0 ∧ (plc d).dir = true ∧ nameB n = false ∧ joinL d n = ([], 2)) ∨ (per d = 0 ∧ nameB n = true ∧ ∃ S H p P, plc d = ⟨S, H, p, P, true⟩ ∧ P.length ≤ 10 ∧ joinL d n = textL ⟨S, H, p, P ++ [n], false⟩) := by
  cases h1 : parseL d with
  | none => exact .inl ⟨(plc_none h1).2, join_none h1⟩
  | some l =>
    rw [(plc_some h1).2, (plc_some h1).1]
    cases h3 : l.dir with
    | false => exact .inr (.inl ⟨rfl, rfl, join_bad h1 (fun h => by rw [h3] at h; cases h.1)⟩)
    | true =>
      cases h4 : nameB n with
      | false => exact .inr (.inr (.inl ⟨rfl, rfl, rfl, join_bad h1 (fun h => by rw [h4] at h; cases h.2)⟩))
      | true =>
        refine .inr (.inr (.inr ⟨rfl, rfl, l.sch, l.host, l.port, l.parts, ?_, (chk_zero ((parse_iff d l).1 h1).1).2.1, join_good h1 ⟨h3, h4⟩⟩))
        rw [← h3]
/-- a part appended to what Parse left: the box as it was -/
theorem PX.grown {w V V' : World} {M c : Nat} {S : Nat} {H : List UInt8} {p : Int} {P : List (List UInt8)} {d : Bool} {A : Option Addr} {v7 : Value} {k : Nat} {ys : List Value} (h : PX w M ⟨S, H, p, P, d⟩ A c V) (o : V'.ownsRow w.heap.size 9 1 v7 k ys) (g : V.grownBy V' (Value.slice A P.length c).ownBlock) (loc : v7.ownBlock = (Value.slice A P.length c).ownBlock ∨ v7.ownBlock = some V.heap.size) :
    V'.heap[M]? = some (.cells #[.int .u8 S, .string (str H), .int .i64 p, .slice A P.length c, .bool d] 24 (0, 0)) ∧ Below w.heap.size w V' ∧ v7.ownBlock ≠ some M := by
  have far : ∀ k, (Value.slice A P.length c).ownBlock = some k → k < M := h.far
  have lo : ∀ k, (Value.slice A P.length c).ownBlock = some k → w.heap.size ≤ k := fun k hk => (own_blk h.own hk).1
  refine ⟨(g.block M (row_lt h.box) (fun e => by have := far M e.symm; omega)).trans h.box, h.bl.grown g h.bl.size (fun k hk => lo k hk), fun e => ?_⟩
  rcases loc with e2 | e2
  · have := far M (e2.symm.trans e)
    omega
  · have h1 := row_lt h.box
    have : V.heap.size = M := Option.some.inj (e2.symm.trans e)
    omega
theorem cell_one_s (w : World) (x : Value) (T : TypeId) : ∀ (j : Nat) u, [x][j]? = some u → (w.alloc (.cells #[x] T)).cell? ((⟨w.heap.size, 0, none⟩ : Addr).add j) = some u := fun j u hj => by
  rw [addr_add, Nat.zero_add, cell_row (heap_alloc_new w (.cells #[x] T))]
  simpa using hj
set_option maxRecDepth 100000 in
set_option maxHeartbeats 8000000 in
theorem Join_any (d n : List UInt8) (hd : d.length < 4294967281) (hn : n.length < 4294967281) (w : World) (env : LEnv true w) :
    Calls Tryd.prog 7 #[.string (str d), .string (str n)] w fun e w' => e = .returned (.tuple #[.string (str (joinL d n).1), .int .i64 (joinL d n).2]) ∧ Below w.heap.size w w' := by
  have hG := env.big
  have HE := Lib.hid env
  have HP1 := Lib.hid (parse_g d hd)
  have HN := Lib.hid (fun (V : World) (ev : LEnv true V) => name_any (str n) V ev (by rw [str_size]; exact hn))
  rw [str_dat] at HN
  have hcase := join_cases d n
  generalize joinL d n = JL at hcase ⊢
  generalize per d = pd at hcase HP1
  generalize plc d = ld at hcase HP1
  generalize nameB n = NB at hcase HN
  clear env
  rcases hcase with ⟨rfl, rfl⟩ | ⟨rfl, h2, rfl⟩ | ⟨rfl, h2, rfl, rfl⟩ | ⟨rfl, rfl, S, H, p, P, rfl, hP10, rfl⟩
  · go_enter Tryd.func7, Tryd.ntmps7
    go_wp2_with fail
    refine (HP1.out w HE.out).mono ?_
    rintro e w2 ⟨A, c, rfl, hpx⟩
    have HB := Lib.hid hpx.bl
    unfold locV
    clear hpx
    go_wp2_with fail
    go_ret2
    exact ⟨rfl, HB.out⟩
  · obtain ⟨S, H, p, L, dd⟩ := ld
    simp only at h2
    subst h2
    unfold PPostG locV at HP1
    simp only at HP1
    go_enter Tryd.func7, Tryd.ntmps7
    go_wp2_with fail
    refine (HP1.out w HE.out).mono ?_
    rintro e w2 ⟨A, c, rfl, hpx⟩
    have HB := Lib.hid hpx.bl
    clear hpx
    go_wp2_with fail
    go_ret2
    exact ⟨rfl, HB.out⟩
  · obtain ⟨S, H, p, L, dd⟩ := ld
    simp only at h2
    subst h2
    unfold PPostG locV at HP1
    simp only at HP1
    go_enter Tryd.func7, Tryd.ntmps7
    go_wp2_with fail
    refine (HP1.out w HE.out).mono ?_
    rintro e w2 ⟨A, c, rfl, hpx⟩
    go_upto_region 2 with (fail)
    generalize World.alloc w2 _ = w3 at hpx ⊢
    generalize w2.heap.size = M at hpx ⊢
    have HX := Lib.hid hpx
    clear hpx
    obtain ⟨hz, m0, m1, m2, m3, m4, k0, k1, k2, k3, k4⟩ := locfacts HX.out.box
    go_wp2_with fail
    refine (HN.out w3 (HE.out.below HX.out.bl hG)).mono ?_
    rintro e w4 ⟨rfl, hb4⟩
    have HX4 := Lib.hid (HX.out.on hb4)
    clear hb4
    go_wp2_with fail
    go_ret2
    exact ⟨rfl, HX4.out.bl⟩
  · have HT0 := fun (A : Option Addr) (c : Nat) (V : World) (ev : LEnv true V) (h : LocAt ⟨S, H, p, P ++ [n], false⟩ A c V) => Text_any ⟨S, H, p, P ++ [n], false⟩ A c V ev h
    have hlen : (P ++ [n]).length = P.length + 1 := by simp
    unfold locV at HT0
    simp only [hlen] at HT0
    generalize textL ⟨S, H, p, P ++ [n], false⟩ = TL at HT0 ⊢
    have HT := Lib.hid HT0
    obtain ⟨i0, hi, hz0, hz1, hz2⟩ := info_parts Tryd.info_string2
    have HI := Lib.hid hi
    unfold PPostG locV at HP1
    simp only at HP1
    clear HT0 hi
    go_enter Tryd.func7, Tryd.ntmps7
    go_wp2_with fail
    refine (HP1.out w HE.out).mono ?_
    rintro e w2 ⟨A, c, rfl, hpx⟩
    go_upto_region 2 with (fail)
    generalize World.alloc w2 _ = w3 at hpx ⊢
    generalize w2.heap.size = M at hpx ⊢
    have HX := Lib.hid hpx
    clear hpx
    obtain ⟨hz, m0, m1, m2, m3, m4, k0, k1, k2, k3, k4⟩ := locfacts HX.out.box
    go_wp2_with fail
    refine (HN.out w3 (HE.out.below HX.out.bl hG)).mono ?_
    rintro e w4 ⟨rfl, hb4⟩
    have HX4 := Lib.hid (HX.out.on hb4)
    clear hb4 hz m0 m1 m2 m3 m4 k0 k1 k2 k3 k4
    obtain ⟨hz, m0, m1, m2, m3, m4, k0, k1, k2, k3, k4⟩ := locfacts HX4.out.box
    go_wp2_with (at_builtin; go_loud (refine wpList_append_own_at _ rfl (.tmp 25) (.tmp 27) 22 rfl w.heap.size 9 i0 (.string ⟨#[]⟩) 1 16 Tryd.underlying22 HI.out hz0 hz1 hz2 rfl (by decide) _ _ _ rfl (HX4.out.own.alloc _) ⟨w4.heap.size, 0, none⟩ 1 1 [.string (str n)] rfl rfl (cell_one_s _ _ _) (by simp [Value.oneCell']) (by unfold maxLen; show P.length + 1 ≤ _; omega) (by show (P.length + 1) * 16 ≤ _; omega) (by have := HX4.out.bl.size; simp; omega) ?_); intro v' w5 hown5 hgrow5 _ hloc5; obtain ⟨q1, q2, q3⟩ := (HX4.out.on (below_new _ _)).grown hown5 hgrow5 hloc5; obtain ⟨A7, c7, rfl⟩ := own_sl hown5; have HO5 := Lib.hid hown5; have HB5 := Lib.hid q2; have HR5 := Lib.hid q1; have HN5 := Lib.hid q3; clear hown5 hgrow5 hloc5 q2 q3 hz m0 m1 m2 m3 m4 k0 k1 k2 k3 k4; obtain ⟨hz, m0, m1, m2, m3, m4, k0, k1, k2, k3, k4⟩ := locfacts q1; clear q1)
    have hO : w5.ownsRow w.heap.size 9 1 (.slice A7 (P ++ [n]).length c7) (P ++ [n]).length (strsV (P ++ [n])) := by rw [strsV_snoc, hlen]; exact HO5.out
    have hN5 : (Value.slice A7 (P ++ [n]).length c7).ownBlock ≠ some M := by rw [hlen]; exact HN5.out
    have hO6 := ownsRow_setCell_other (a := ⟨M, 4, none⟩) (ownsRow_setCell_other (a := ⟨M, 3, none⟩) hO hN5 (.slice A7 (P.length + 1) c7)) hN5 (.bool false)
    have hB6 : Below w.heap.size w ((w5.setCell ⟨M, 3, none⟩ (.slice A7 (P.length + 1) c7)).setCell ⟨M, 4, none⟩ (.bool false)) := (HB5.out.setCell HX4.out.lM _).setCell HX4.out.lM _
    generalize World.setCell (World.setCell w5 _ _) _ _ = w6 at hO6 hB6 ⊢
    have hat : LocAt ⟨S, H, p, P ++ [n], false⟩ A7 c7 w6 := ⟨HX4.out.at_.sch, HX4.out.at_.host, (own_strs hO6).1, (own_strs hO6).2, fun q hq => by
      rcases List.mem_append.1 hq with hq | hq
      · exact HX4.out.at_.big q hq
      · rw [List.mem_singleton.1 hq]; exact hn⟩
    have HB6 := Lib.hid hB6
    refine (HT.out A7 c7 w6 (HE.out.below hB6 hG) hat).mono ?_
    clear hO hN5 hO6 hB6 hat
    rintro e w7 ⟨rfl, hb7⟩
    have HB7 := Lib.hid (HB6.out.trans (hb7.mono HB6.out.size))
    clear hb7
    go_wp2_with fail
    go_ret2
    exact ⟨rfl, HB7.out⟩
end Go.Proofs.YthagoafcphaadaaDoor
