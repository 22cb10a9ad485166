/-
  THE WALKS over package locator: text, Check, Text.
-/
import Derived.Test.YthagoafcphaadaaDoorLocWC
namespace Go.Proofs.YthagoafcphaadaaDoor
open Go.RowKit Lo
set_option linter.unusedVariables false
set_option linter.unusedSimpArgs false
variable {fl : Bool}
/-- a locator as a value -/
def locV (l : Lc) (A : Option Addr) (c : Nat) : Value := .agg #[.int .u8 l.sch, .string (str l.host), .int .i64 l.port, .slice A l.parts.length c, .bool l.dir]
theorem str_app (a b : List UInt8) : str a ++ str b = str (a ++ b) := by
  apply ByteArray.ext
  simp [str]
/-- Join at strings in memory, one or none -/
theorem join_any (A : Option Addr) (L : List (List UInt8)) (c : Nat) (sep : List UInt8) (w : World) (hA : StrsAt A L w) (hc : L.length ≤ c) (hN : L.length ≤ 140737488355328) (hlen : (Lib.join L sep).length ≤ 140737488355328) :
    Calls Tryd.prog 39 #[.slice A L.length c, .string (str sep)] w fun e w' => e = .returned (.string (str (Lib.join L sep))) ∧ Below w.heap.size w w' := by
  by_cases hL : L = []
  · subst hL
    refine (Tryd.strings_Join_none A c (str sep) w).mono ?_
    rintro e w1 ⟨rfl, rfl⟩
    exact ⟨rfl, Below.refl _ _⟩
  · obtain ⟨g, o, rfl, hg, hcs⟩ := hA hL
    have e1 : (L.map str).map (·.data.toList) = L := by
      rw [List.map_map]
      have : ((fun x : ByteArray => x.data.toList) ∘ str) = id := by funext x; exact str_dat x
      rw [this, List.map_id]
    have h := Tryd.strings_Join g o c (L.map str) (str sep) w (fun j x hj => by
      rw [List.getElem?_map] at hj
      obtain ⟨y, hy, rfl⟩ := Option.map_eq_some_iff.1 hj
      exact hcs j y hy) hg (by rw [List.length_map]; exact hN) (by rw [List.length_map]; exact hc) (by rw [e1, str_dat]; exact hlen)
    rw [e1, str_dat, List.length_map] at h
    exact h
theorem tx11 (W H I J : List UInt8) : str W ++ str [58, 47, 47] ++ str H ++ (str [58] ++ str I) ++ (str [47] ++ str J) ++ str [47] = str (W ++ ([58, 47, 47] ++ (H ++ ((58 :: I) ++ (47 :: (J ++ [47])))))) := by simp [str_app]
theorem tx10 (W H I J : List UInt8) : str W ++ str [58, 47, 47] ++ str H ++ (str [58] ++ str I) ++ (str [47] ++ str J) = str (W ++ ([58, 47, 47] ++ (H ++ ((58 :: I) ++ (47 :: (J ++ [])))))) := by simp [str_app]
theorem tx01 (W H J : List UInt8) : str W ++ str [58, 47, 47] ++ str H ++ (str [47] ++ str J) ++ str [47] = str (W ++ ([58, 47, 47] ++ (H ++ ([] ++ (47 :: (J ++ [47])))))) := by simp [str_app]
theorem tx00 (W H J : List UInt8) : str W ++ str [58, 47, 47] ++ str H ++ (str [47] ++ str J) = str (W ++ ([58, 47, 47] ++ (H ++ ([] ++ (47 :: (J ++ [])))))) := by simp [str_app]
theorem join_len (L : List (List UInt8)) (sep : List UInt8) (n : Nat) (h : ∀ q ∈ L, q.length ≤ n) : (Lib.join L sep).length ≤ L.length * (n + sep.length) := by
  induction L with
  | nil => simp [Lib.join]
  | cons q r ih =>
    have h1 := h q (List.mem_cons_self ..)
    have h2 := ih (fun x hx => h x (List.mem_cons_of_mem _ hx))
    cases r with
    | nil => rw [Lib.join_one]; simp; omega
    | cons a b =>
      rw [show Lib.join (q :: a :: b) sep = q ++ sep ++ Lib.join (a :: b) sep by simp [Lib.join, List.intercalate_cons_cons]]
      rw [List.length_append, List.length_append, List.length_cons, Nat.add_mul, Nat.one_mul]
      omega
theorem itoa_len (p : Int) (h0 : 0 ≤ p) (h1 : p ≤ 65535) : (Lib.itoa p).length ≤ 20 := by
  unfold Lib.itoa
  rw [if_neg (by omega), Lib.decDigits_length]
  exact Lib.nDigits_le20 _ (by omega)
theorem wrL_len (S : Nat) (H : List UInt8) (p : Int) (L : List (List UInt8)) (d : Bool) (hS : S = 1 ∨ S = 2) (hH : H.length ≤ 60) (hp0 : 0 ≤ p) (hp1 : p ≤ 65535) (hL : L.length ≤ 10) (hLs : ∀ q ∈ L, q.length ≤ 40) : (wrL ⟨S, H, p, L, d⟩).length ≤ 600 := by
  have h1 := join_len L [47] 40 hLs
  have h2 := itoa_len p hp0 hp1
  have h3 : (word S).length ≤ 5 := by rcases hS with rfl | rfl <;> decide
  have h4 : (ptI p).length ≤ 21 := by
    unfold ptI
    split
    · simp
    · simp; omega
  have h5 : (endD L d).length ≤ 1 := by unfold endD; split <;> simp
  have h6 : L.length * (40 + ([47] : List UInt8).length) ≤ 410 := by
    show L.length * 41 ≤ 410
    omega
  unfold wrL
  simp only [List.length_append, List.length_cons, List.length_nil]
  omega
/-- a block that holds a locator -/
structure Box (N : Nat) (S : Nat) (h : ByteArray) (p : Int) (v : Value) (d : Bool) (w : World) : Prop where
  lt : N < w.heap.size
  b0 : w.cell? ⟨N, 0, none⟩ = some (.int .u8 S)
  b1 : w.cell? ⟨N, 1, none⟩ = some (.string h)
  b2 : w.cell? ⟨N, 2, none⟩ = some (.int .i64 p)
  b3 : w.cell? ⟨N, 3, none⟩ = some v
  b4 : w.cell? ⟨N, 4, none⟩ = some (.bool d)
theorem Box.on {N S : Nat} {h : ByteArray} {p : Int} {v : Value} {d : Bool} {w w' : World} (B : Box N S h p v d w) (hb : Below w.heap.size w w') : Box N S h p v d w' :=
  ⟨Nat.lt_of_lt_of_le B.lt hb.size, (hb.cell (p := ⟨N, 0, none⟩) B.lt).trans B.b0, (hb.cell (p := ⟨N, 1, none⟩) B.lt).trans B.b1, (hb.cell (p := ⟨N, 2, none⟩) B.lt).trans B.b2, (hb.cell (p := ⟨N, 3, none⟩) B.lt).trans B.b3, (hb.cell (p := ⟨N, 4, none⟩) B.lt).trans B.b4⟩
theorem Box.start {w : World} {S : Nat} {h : ByteArray} {p : Int} {v : Value} {d : Bool} {t : TypeId} : Box w.heap.size S h p v d (w.alloc (.cells #[.int .u8 S, .string h, .int .i64 p, v, .bool d] t)) :=
  ⟨by simp, by simp, by simp, by simp, by simp, by simp⟩
theorem Box.drew {N S : Nat} {h : ByteArray} {p : Int} {v : Value} {d : Bool} {w : World} (B : Box N S h p v d w) : Box N S h p v d w.drew := ⟨B.lt, B.b0, B.b1, B.b2, B.b3, B.b4⟩
theorem below_drew1 {n : Nat} {u w : World} (h : Below n u w) : Below n u w.drew := ⟨h.os, h.tape, h.output, h.size, h.block⟩
theorem below_grow (w : World) (k : Nat) (os : Array Obj) : Below w.heap.size w (Go.Sort.grow (w.drewN k) os) :=
  ⟨rfl, rfl, rfl, by show w.heap.size ≤ (w.heap ++ os).size; rw [Array.size_append]; omega, fun j hj => by show (w.heap ++ os)[j]? = w.heap[j]?; rw [Array.getElem?_append_left hj]⟩
set_option maxRecDepth 100000 in
set_option maxHeartbeats 8000000 in
theorem text_any (S : Nat) (H : List UInt8) (p : Int) (A : Option Addr) (L : List (List UInt8)) (c : Nat) (d : Bool) (w : World) (env : LEnv fl w) (hS : S = 1 ∨ S = 2) (hH : H.length ≤ 60) (hp0 : 0 ≤ p) (hp1 : p ≤ 65535) (hA : StrsAt A L w) (hL : L.length ≤ 10) (hLs : ∀ q ∈ L, q.length ≤ 40) (hc : L.length ≤ c) :
    Calls Tryd.prog 24 #[locV ⟨S, H, p, L, d⟩ A c] w fun e w' => e = .returned (.string (str (wrL ⟨S, H, p, L, d⟩))) ∧ Below w.heap.size w w' := by
  have hG := env.big
  have HE := Lib.hid env
  obtain ⟨c0, c1, c2, c3, c4, c5⟩ := schemes_at env
  have hHz : (str H).size ≤ 60 := by rw [str_size]; exact hH
  have hjl : (Lib.join L [47]).length ≤ 410 := by
    have := join_len L [47] 40 hLs
    have h6 : L.length * (40 + ([47] : List UInt8).length) ≤ 410 := by
      show L.length * 41 ≤ 410
      omega
    omega
  have HJ := Lib.hid (fun (V : World) (hb : Below w.heap.size w V) => join_any A L c [47] V (hA.on hb) hc (by omega) (by omega))
  have HI : RowKit.Hid (∀ V, Below w.heap.size w V → Calls Tryd.prog 38 #[.int .i64 p] V fun e w' => e = .returned (.string (str (Lib.itoa p))) ∧ ∃ k os, w' = Go.Sort.grow (V.drewN k) os) := Lib.hid (fun (V : World) (hb : Below w.heap.size w V) => Tryd.strconv_Itoa p (by omega) (by omega) V (HE.out.below hb hG).tab)
  have hjz : (str (Lib.join L [47])).size ≤ 410 := by rw [str_size]; exact hjl
  have hiz : (str (Lib.itoa p)).size ≤ 20 := by rw [str_size]; exact itoa_len p hp0 hp1
  have z0 : 0 < w.heap.size := Nat.lt_of_lt_of_le (by decide) hG
  have HW : RowKit.Hid (wrL ⟨S, H, p, L, d⟩ = word S ++ ([58, 47, 47] ++ (H ++ (ptI p ++ (47 :: (Lib.join L [47] ++ endD L d)))))) := Lib.hid rfl
  generalize hWR : wrL ⟨S, H, p, L, d⟩ = WR at HW
  generalize hJ : Lib.join L [47] = J at HW HJ hjz
  generalize hI : Lib.itoa p = I at HI hiz
  have HPT : RowKit.Hid ((p = 0 ∧ ptI p = []) ∨ (p ≠ 0 ∧ ptI p = 58 :: I)) := Lib.hid (by
    unfold ptI
    rw [← hI]
    by_cases h : p = 0
    · exact .inl ⟨h, if_pos h⟩
    · exact .inr ⟨h, if_neg h⟩)
  have HED : RowKit.Hid ((d = false ∧ endD L d = []) ∨ (d = true ∧ ¬ (0 < L.length) ∧ endD L d = []) ∨ (d = true ∧ 0 < L.length ∧ endD L d = [47])) := Lib.hid (by
    unfold endD
    cases d
    · exact .inl ⟨rfl, if_neg (by simp)⟩
    · by_cases h : 0 < L.length
      · exact .inr (.inr ⟨rfl, h, if_pos ⟨rfl, h⟩⟩)
      · exact .inr (.inl ⟨rfl, h, if_neg (by simp [h])⟩))
  have HJ2 : RowKit.Hid (∀ V, Below w.heap.size w V → Calls Tryd.prog 39 #[.slice A L.length c, .string ⟨#[47]⟩] V fun e w' => e = .returned (.string (str J)) ∧ Below V.heap.size V w') := HJ
  clear env hjl hWR hJ hI hLs hA HJ
  generalize hpt : ptI p = PT at HW HPT
  generalize hed : endD L d = ED at HW HED
  clear hpt hed
  unfold locV
  show Calls Tryd.prog 24 #[.agg #[.int .u8 S, .string (str H), .int .i64 p, .slice A L.length c, .bool d]] w _
  have HZ : RowKit.Hid (∀ o : Obj, Below w.heap.size w (w.alloc o).drew) := Lib.hid (fun o => ⟨rfl, rfl, rfl, by simp, fun k hk => Below.heap_alloc _ _ _ hk⟩)
  go_enter Tryd.func24, Tryd.ntmps24
  rcases hS with rfl | rfl <;> rcases HPT.out with ⟨rfl, rfl⟩ | ⟨hp, rfl⟩ <;> rcases HED.out with ⟨rfl, rfl⟩ | ⟨rfl, hl, rfl⟩ | ⟨rfl, hl, rfl⟩
  all_goals clear HPT HED
  -- WAYS
  · go_wp2_with fail
    go_region
    obtain ⟨v1, hv1⟩ : ∃ v1, v1 = (w.alloc (.cells #[.int .u8 1, .string (str H), .int .i64 0, .slice A L.length c, .bool false] 24)).drew := ⟨_, rfl⟩
    rw [← hv1]
    have B1 : Box w.heap.size 1 (str H) 0 (.slice A L.length c) false v1 := by rw [hv1]; exact Box.start.drew
    have hb1 : Below w.heap.size w v1 := by rw [hv1]; exact HZ.out _
    have HB1 := Lib.hid hb1
    have BX1 := Lib.hid B1
    obtain ⟨hz1, e0, e1, e2, e3, e4⟩ := B1
    clear hv1 hb1 c0 c1 c2 c3 c4 c5 z0 HZ
    go_wp2_with fail
    refine (HJ2.out v1 HB1.out).mono ?_
    rintro e w3 ⟨rfl, hb3⟩
    have HB3 := Lib.hid (HB1.out.trans (hb3.mono HB1.out.size))
    have BX3 := Lib.hid (BX1.out.on hb3)
    clear hb3 e0 e1 e2 e3 e4
    obtain ⟨hz3, e0, e1, e2, e3, e4⟩ := BX3.out
    go_wp2_with fail
    go_ret
    exact ⟨ret_eq (congrArg Value.string ((tx00 [114, 115, 121, 110, 99] H J).trans (congrArg str HW.out.symm))), HB3.out⟩
  · have i1 : ¬ ((L.length : Int) > 0) := by omega
    go_wp2_with fail
    go_region
    obtain ⟨v1, hv1⟩ : ∃ v1, v1 = (w.alloc (.cells #[.int .u8 1, .string (str H), .int .i64 0, .slice A L.length c, .bool true] 24)).drew := ⟨_, rfl⟩
    rw [← hv1]
    have B1 : Box w.heap.size 1 (str H) 0 (.slice A L.length c) true v1 := by rw [hv1]; exact Box.start.drew
    have hb1 : Below w.heap.size w v1 := by rw [hv1]; exact HZ.out _
    have HB1 := Lib.hid hb1
    have BX1 := Lib.hid B1
    obtain ⟨hz1, e0, e1, e2, e3, e4⟩ := B1
    clear hv1 hb1 c0 c1 c2 c3 c4 c5 z0 HZ
    go_wp2_with fail
    refine (HJ2.out v1 HB1.out).mono ?_
    rintro e w3 ⟨rfl, hb3⟩
    have HB3 := Lib.hid (HB1.out.trans (hb3.mono HB1.out.size))
    have BX3 := Lib.hid (BX1.out.on hb3)
    clear hb3 e0 e1 e2 e3 e4
    obtain ⟨hz3, e0, e1, e2, e3, e4⟩ := BX3.out
    go_wp2_with fail
    go_ret
    exact ⟨ret_eq (congrArg Value.string ((tx00 [114, 115, 121, 110, 99] H J).trans (congrArg str HW.out.symm))), HB3.out⟩
  · have i1 : ((L.length : Int) > 0) := by omega
    go_wp2_with fail
    go_region
    obtain ⟨v1, hv1⟩ : ∃ v1, v1 = (w.alloc (.cells #[.int .u8 1, .string (str H), .int .i64 0, .slice A L.length c, .bool true] 24)).drew := ⟨_, rfl⟩
    rw [← hv1]
    have B1 : Box w.heap.size 1 (str H) 0 (.slice A L.length c) true v1 := by rw [hv1]; exact Box.start.drew
    have hb1 : Below w.heap.size w v1 := by rw [hv1]; exact HZ.out _
    have HB1 := Lib.hid hb1
    have BX1 := Lib.hid B1
    obtain ⟨hz1, e0, e1, e2, e3, e4⟩ := B1
    clear hv1 hb1 c0 c1 c2 c3 c4 c5 z0 HZ
    go_wp2_with fail
    refine (HJ2.out v1 HB1.out).mono ?_
    rintro e w3 ⟨rfl, hb3⟩
    have HB3 := Lib.hid (HB1.out.trans (hb3.mono HB1.out.size))
    have BX3 := Lib.hid (BX1.out.on hb3)
    clear hb3 e0 e1 e2 e3 e4
    obtain ⟨hz3, e0, e1, e2, e3, e4⟩ := BX3.out
    go_wp2_with fail
    go_ret
    exact ⟨ret_eq (congrArg Value.string ((tx01 [114, 115, 121, 110, 99] H J).trans (congrArg str HW.out.symm))), HB3.out⟩
  · have ip : (p != 0) = true := by rw [bne_iff_ne]; exact hp
    go_wp2_with fail
    go_region
    obtain ⟨v1, hv1⟩ : ∃ v1, v1 = (w.alloc (.cells #[.int .u8 1, .string (str H), .int .i64 p, .slice A L.length c, .bool false] 24)).drew := ⟨_, rfl⟩
    rw [← hv1]
    have B1 : Box w.heap.size 1 (str H) p (.slice A L.length c) false v1 := by rw [hv1]; exact Box.start.drew
    have hb1 : Below w.heap.size w v1 := by rw [hv1]; exact HZ.out _
    have HB1 := Lib.hid hb1
    have BX1 := Lib.hid B1
    obtain ⟨hz1, e0, e1, e2, e3, e4⟩ := B1
    clear hv1 hb1 c0 c1 c2 c3 c4 c5 z0 HZ
    go_wp2_with fail
    refine (HI.out v1 HB1.out).mono ?_
    rintro e w2 ⟨rfl, kk, os, rfl⟩
    obtain ⟨v2, hv2⟩ : ∃ v2, v2 = Go.Sort.grow (v1.drewN kk) os := ⟨_, rfl⟩
    rw [← hv2]
    have hb2 : Below v1.heap.size v1 v2 := by rw [hv2]; exact below_grow v1 kk os
    have BX2 := Lib.hid (BX1.out.on hb2)
    have HB2 := Lib.hid (HB1.out.trans (hb2.mono HB1.out.size))
    clear hv2 hb2 e0 e1 e2 e3 e4 hz1
    obtain ⟨hz2, e0, e1, e2, e3, e4⟩ := BX2.out
    go_wp2_with fail
    refine (HJ2.out v2 HB2.out).mono ?_
    rintro e w3 ⟨rfl, hb3⟩
    have HB3 := Lib.hid (HB2.out.trans (hb3.mono HB2.out.size))
    have BX3 := Lib.hid (BX2.out.on hb3)
    clear hb3 e0 e1 e2 e3 e4
    obtain ⟨hz3, e0, e1, e2, e3, e4⟩ := BX3.out
    go_wp2_with fail
    go_ret
    exact ⟨ret_eq (congrArg Value.string ((tx10 [114, 115, 121, 110, 99] H I J).trans (congrArg str HW.out.symm))), HB3.out⟩
  · have i1 : ¬ ((L.length : Int) > 0) := by omega
    have ip : (p != 0) = true := by rw [bne_iff_ne]; exact hp
    go_wp2_with fail
    go_region
    obtain ⟨v1, hv1⟩ : ∃ v1, v1 = (w.alloc (.cells #[.int .u8 1, .string (str H), .int .i64 p, .slice A L.length c, .bool true] 24)).drew := ⟨_, rfl⟩
    rw [← hv1]
    have B1 : Box w.heap.size 1 (str H) p (.slice A L.length c) true v1 := by rw [hv1]; exact Box.start.drew
    have hb1 : Below w.heap.size w v1 := by rw [hv1]; exact HZ.out _
    have HB1 := Lib.hid hb1
    have BX1 := Lib.hid B1
    obtain ⟨hz1, e0, e1, e2, e3, e4⟩ := B1
    clear hv1 hb1 c0 c1 c2 c3 c4 c5 z0 HZ
    go_wp2_with fail
    refine (HI.out v1 HB1.out).mono ?_
    rintro e w2 ⟨rfl, kk, os, rfl⟩
    obtain ⟨v2, hv2⟩ : ∃ v2, v2 = Go.Sort.grow (v1.drewN kk) os := ⟨_, rfl⟩
    rw [← hv2]
    have hb2 : Below v1.heap.size v1 v2 := by rw [hv2]; exact below_grow v1 kk os
    have BX2 := Lib.hid (BX1.out.on hb2)
    have HB2 := Lib.hid (HB1.out.trans (hb2.mono HB1.out.size))
    clear hv2 hb2 e0 e1 e2 e3 e4 hz1
    obtain ⟨hz2, e0, e1, e2, e3, e4⟩ := BX2.out
    go_wp2_with fail
    refine (HJ2.out v2 HB2.out).mono ?_
    rintro e w3 ⟨rfl, hb3⟩
    have HB3 := Lib.hid (HB2.out.trans (hb3.mono HB2.out.size))
    have BX3 := Lib.hid (BX2.out.on hb3)
    clear hb3 e0 e1 e2 e3 e4
    obtain ⟨hz3, e0, e1, e2, e3, e4⟩ := BX3.out
    go_wp2_with fail
    go_ret
    exact ⟨ret_eq (congrArg Value.string ((tx10 [114, 115, 121, 110, 99] H I J).trans (congrArg str HW.out.symm))), HB3.out⟩
  · have i1 : ((L.length : Int) > 0) := by omega
    have ip : (p != 0) = true := by rw [bne_iff_ne]; exact hp
    go_wp2_with fail
    go_region
    obtain ⟨v1, hv1⟩ : ∃ v1, v1 = (w.alloc (.cells #[.int .u8 1, .string (str H), .int .i64 p, .slice A L.length c, .bool true] 24)).drew := ⟨_, rfl⟩
    rw [← hv1]
    have B1 : Box w.heap.size 1 (str H) p (.slice A L.length c) true v1 := by rw [hv1]; exact Box.start.drew
    have hb1 : Below w.heap.size w v1 := by rw [hv1]; exact HZ.out _
    have HB1 := Lib.hid hb1
    have BX1 := Lib.hid B1
    obtain ⟨hz1, e0, e1, e2, e3, e4⟩ := B1
    clear hv1 hb1 c0 c1 c2 c3 c4 c5 z0 HZ
    go_wp2_with fail
    refine (HI.out v1 HB1.out).mono ?_
    rintro e w2 ⟨rfl, kk, os, rfl⟩
    obtain ⟨v2, hv2⟩ : ∃ v2, v2 = Go.Sort.grow (v1.drewN kk) os := ⟨_, rfl⟩
    rw [← hv2]
    have hb2 : Below v1.heap.size v1 v2 := by rw [hv2]; exact below_grow v1 kk os
    have BX2 := Lib.hid (BX1.out.on hb2)
    have HB2 := Lib.hid (HB1.out.trans (hb2.mono HB1.out.size))
    clear hv2 hb2 e0 e1 e2 e3 e4 hz1
    obtain ⟨hz2, e0, e1, e2, e3, e4⟩ := BX2.out
    go_wp2_with fail
    refine (HJ2.out v2 HB2.out).mono ?_
    rintro e w3 ⟨rfl, hb3⟩
    have HB3 := Lib.hid (HB2.out.trans (hb3.mono HB2.out.size))
    have BX3 := Lib.hid (BX2.out.on hb3)
    clear hb3 e0 e1 e2 e3 e4
    obtain ⟨hz3, e0, e1, e2, e3, e4⟩ := BX3.out
    go_wp2_with fail
    go_ret
    exact ⟨ret_eq (congrArg Value.string ((tx11 [114, 115, 121, 110, 99] H I J).trans (congrArg str HW.out.symm))), HB3.out⟩
  · go_wp2_with fail
    go_region
    obtain ⟨v1, hv1⟩ : ∃ v1, v1 = (w.alloc (.cells #[.int .u8 2, .string (str H), .int .i64 0, .slice A L.length c, .bool false] 24)).drew := ⟨_, rfl⟩
    rw [← hv1]
    have B1 : Box w.heap.size 2 (str H) 0 (.slice A L.length c) false v1 := by rw [hv1]; exact Box.start.drew
    have hb1 : Below w.heap.size w v1 := by rw [hv1]; exact HZ.out _
    have HB1 := Lib.hid hb1
    have BX1 := Lib.hid B1
    obtain ⟨hz1, e0, e1, e2, e3, e4⟩ := B1
    clear hv1 hb1 c0 c1 c2 c3 c4 c5 z0 HZ
    go_wp2_with fail
    refine (HJ2.out v1 HB1.out).mono ?_
    rintro e w3 ⟨rfl, hb3⟩
    have HB3 := Lib.hid (HB1.out.trans (hb3.mono HB1.out.size))
    have BX3 := Lib.hid (BX1.out.on hb3)
    clear hb3 e0 e1 e2 e3 e4
    obtain ⟨hz3, e0, e1, e2, e3, e4⟩ := BX3.out
    go_wp2_with fail
    go_ret
    exact ⟨ret_eq (congrArg Value.string ((tx00 [104, 116, 116, 112, 115] H J).trans (congrArg str HW.out.symm))), HB3.out⟩
  · have i1 : ¬ ((L.length : Int) > 0) := by omega
    go_wp2_with fail
    go_region
    obtain ⟨v1, hv1⟩ : ∃ v1, v1 = (w.alloc (.cells #[.int .u8 2, .string (str H), .int .i64 0, .slice A L.length c, .bool true] 24)).drew := ⟨_, rfl⟩
    rw [← hv1]
    have B1 : Box w.heap.size 2 (str H) 0 (.slice A L.length c) true v1 := by rw [hv1]; exact Box.start.drew
    have hb1 : Below w.heap.size w v1 := by rw [hv1]; exact HZ.out _
    have HB1 := Lib.hid hb1
    have BX1 := Lib.hid B1
    obtain ⟨hz1, e0, e1, e2, e3, e4⟩ := B1
    clear hv1 hb1 c0 c1 c2 c3 c4 c5 z0 HZ
    go_wp2_with fail
    refine (HJ2.out v1 HB1.out).mono ?_
    rintro e w3 ⟨rfl, hb3⟩
    have HB3 := Lib.hid (HB1.out.trans (hb3.mono HB1.out.size))
    have BX3 := Lib.hid (BX1.out.on hb3)
    clear hb3 e0 e1 e2 e3 e4
    obtain ⟨hz3, e0, e1, e2, e3, e4⟩ := BX3.out
    go_wp2_with fail
    go_ret
    exact ⟨ret_eq (congrArg Value.string ((tx00 [104, 116, 116, 112, 115] H J).trans (congrArg str HW.out.symm))), HB3.out⟩
  · have i1 : ((L.length : Int) > 0) := by omega
    go_wp2_with fail
    go_region
    obtain ⟨v1, hv1⟩ : ∃ v1, v1 = (w.alloc (.cells #[.int .u8 2, .string (str H), .int .i64 0, .slice A L.length c, .bool true] 24)).drew := ⟨_, rfl⟩
    rw [← hv1]
    have B1 : Box w.heap.size 2 (str H) 0 (.slice A L.length c) true v1 := by rw [hv1]; exact Box.start.drew
    have hb1 : Below w.heap.size w v1 := by rw [hv1]; exact HZ.out _
    have HB1 := Lib.hid hb1
    have BX1 := Lib.hid B1
    obtain ⟨hz1, e0, e1, e2, e3, e4⟩ := B1
    clear hv1 hb1 c0 c1 c2 c3 c4 c5 z0 HZ
    go_wp2_with fail
    refine (HJ2.out v1 HB1.out).mono ?_
    rintro e w3 ⟨rfl, hb3⟩
    have HB3 := Lib.hid (HB1.out.trans (hb3.mono HB1.out.size))
    have BX3 := Lib.hid (BX1.out.on hb3)
    clear hb3 e0 e1 e2 e3 e4
    obtain ⟨hz3, e0, e1, e2, e3, e4⟩ := BX3.out
    go_wp2_with fail
    go_ret
    exact ⟨ret_eq (congrArg Value.string ((tx01 [104, 116, 116, 112, 115] H J).trans (congrArg str HW.out.symm))), HB3.out⟩
  · have ip : (p != 0) = true := by rw [bne_iff_ne]; exact hp
    go_wp2_with fail
    go_region
    obtain ⟨v1, hv1⟩ : ∃ v1, v1 = (w.alloc (.cells #[.int .u8 2, .string (str H), .int .i64 p, .slice A L.length c, .bool false] 24)).drew := ⟨_, rfl⟩
    rw [← hv1]
    have B1 : Box w.heap.size 2 (str H) p (.slice A L.length c) false v1 := by rw [hv1]; exact Box.start.drew
    have hb1 : Below w.heap.size w v1 := by rw [hv1]; exact HZ.out _
    have HB1 := Lib.hid hb1
    have BX1 := Lib.hid B1
    obtain ⟨hz1, e0, e1, e2, e3, e4⟩ := B1
    clear hv1 hb1 c0 c1 c2 c3 c4 c5 z0 HZ
    go_wp2_with fail
    refine (HI.out v1 HB1.out).mono ?_
    rintro e w2 ⟨rfl, kk, os, rfl⟩
    obtain ⟨v2, hv2⟩ : ∃ v2, v2 = Go.Sort.grow (v1.drewN kk) os := ⟨_, rfl⟩
    rw [← hv2]
    have hb2 : Below v1.heap.size v1 v2 := by rw [hv2]; exact below_grow v1 kk os
    have BX2 := Lib.hid (BX1.out.on hb2)
    have HB2 := Lib.hid (HB1.out.trans (hb2.mono HB1.out.size))
    clear hv2 hb2 e0 e1 e2 e3 e4 hz1
    obtain ⟨hz2, e0, e1, e2, e3, e4⟩ := BX2.out
    go_wp2_with fail
    refine (HJ2.out v2 HB2.out).mono ?_
    rintro e w3 ⟨rfl, hb3⟩
    have HB3 := Lib.hid (HB2.out.trans (hb3.mono HB2.out.size))
    have BX3 := Lib.hid (BX2.out.on hb3)
    clear hb3 e0 e1 e2 e3 e4
    obtain ⟨hz3, e0, e1, e2, e3, e4⟩ := BX3.out
    go_wp2_with fail
    go_ret
    exact ⟨ret_eq (congrArg Value.string ((tx10 [104, 116, 116, 112, 115] H I J).trans (congrArg str HW.out.symm))), HB3.out⟩
  · have i1 : ¬ ((L.length : Int) > 0) := by omega
    have ip : (p != 0) = true := by rw [bne_iff_ne]; exact hp
    go_wp2_with fail
    go_region
    obtain ⟨v1, hv1⟩ : ∃ v1, v1 = (w.alloc (.cells #[.int .u8 2, .string (str H), .int .i64 p, .slice A L.length c, .bool true] 24)).drew := ⟨_, rfl⟩
    rw [← hv1]
    have B1 : Box w.heap.size 2 (str H) p (.slice A L.length c) true v1 := by rw [hv1]; exact Box.start.drew
    have hb1 : Below w.heap.size w v1 := by rw [hv1]; exact HZ.out _
    have HB1 := Lib.hid hb1
    have BX1 := Lib.hid B1
    obtain ⟨hz1, e0, e1, e2, e3, e4⟩ := B1
    clear hv1 hb1 c0 c1 c2 c3 c4 c5 z0 HZ
    go_wp2_with fail
    refine (HI.out v1 HB1.out).mono ?_
    rintro e w2 ⟨rfl, kk, os, rfl⟩
    obtain ⟨v2, hv2⟩ : ∃ v2, v2 = Go.Sort.grow (v1.drewN kk) os := ⟨_, rfl⟩
    rw [← hv2]
    have hb2 : Below v1.heap.size v1 v2 := by rw [hv2]; exact below_grow v1 kk os
    have BX2 := Lib.hid (BX1.out.on hb2)
    have HB2 := Lib.hid (HB1.out.trans (hb2.mono HB1.out.size))
    clear hv2 hb2 e0 e1 e2 e3 e4 hz1
    obtain ⟨hz2, e0, e1, e2, e3, e4⟩ := BX2.out
    go_wp2_with fail
    refine (HJ2.out v2 HB2.out).mono ?_
    rintro e w3 ⟨rfl, hb3⟩
    have HB3 := Lib.hid (HB2.out.trans (hb3.mono HB2.out.size))
    have BX3 := Lib.hid (BX2.out.on hb3)
    clear hb3 e0 e1 e2 e3 e4
    obtain ⟨hz3, e0, e1, e2, e3, e4⟩ := BX3.out
    go_wp2_with fail
    go_ret
    exact ⟨ret_eq (congrArg Value.string ((tx10 [104, 116, 116, 112, 115] H I J).trans (congrArg str HW.out.symm))), HB3.out⟩
  · have i1 : ((L.length : Int) > 0) := by omega
    have ip : (p != 0) = true := by rw [bne_iff_ne]; exact hp
    go_wp2_with fail
    go_region
    obtain ⟨v1, hv1⟩ : ∃ v1, v1 = (w.alloc (.cells #[.int .u8 2, .string (str H), .int .i64 p, .slice A L.length c, .bool true] 24)).drew := ⟨_, rfl⟩
    rw [← hv1]
    have B1 : Box w.heap.size 2 (str H) p (.slice A L.length c) true v1 := by rw [hv1]; exact Box.start.drew
    have hb1 : Below w.heap.size w v1 := by rw [hv1]; exact HZ.out _
    have HB1 := Lib.hid hb1
    have BX1 := Lib.hid B1
    obtain ⟨hz1, e0, e1, e2, e3, e4⟩ := B1
    clear hv1 hb1 c0 c1 c2 c3 c4 c5 z0 HZ
    go_wp2_with fail
    refine (HI.out v1 HB1.out).mono ?_
    rintro e w2 ⟨rfl, kk, os, rfl⟩
    obtain ⟨v2, hv2⟩ : ∃ v2, v2 = Go.Sort.grow (v1.drewN kk) os := ⟨_, rfl⟩
    rw [← hv2]
    have hb2 : Below v1.heap.size v1 v2 := by rw [hv2]; exact below_grow v1 kk os
    have BX2 := Lib.hid (BX1.out.on hb2)
    have HB2 := Lib.hid (HB1.out.trans (hb2.mono HB1.out.size))
    clear hv2 hb2 e0 e1 e2 e3 e4 hz1
    obtain ⟨hz2, e0, e1, e2, e3, e4⟩ := BX2.out
    go_wp2_with fail
    refine (HJ2.out v2 HB2.out).mono ?_
    rintro e w3 ⟨rfl, hb3⟩
    have HB3 := Lib.hid (HB2.out.trans (hb3.mono HB2.out.size))
    have BX3 := Lib.hid (BX2.out.on hb3)
    clear hb3 e0 e1 e2 e3 e4
    obtain ⟨hz3, e0, e1, e2, e3, e4⟩ := BX3.out
    go_wp2_with fail
    go_ret
    exact ⟨ret_eq (congrArg Value.string ((tx11 [104, 116, 116, 112, 115] H I J).trans (congrArg str HW.out.symm))), HB3.out⟩
  -- END WAYS
end Go.Proofs.YthagoafcphaadaaDoor
