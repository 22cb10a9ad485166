/-
  THE WALKS over package locator: Atoi at every string, the closure that cuts, read.
-/
import Derived.Test.YthagoafcphaadaaDoorLocWE
namespace Go.Proofs.YthagoafcphaadaaDoor
open Go.RowKit Lo
set_option linter.unusedVariables false
set_option linter.unusedSimpArgs false
theorem atoi_any (s : ByteArray) (hs : s.size ≤ 281474976710656) (w : World) (env : LEnv true w) :
    Calls Tryd.prog 48 #[.string s] w fun e w' => ∃ v, e = .returned (.tuple #[.int .i64 (atN s.data.toList), v]) ∧ Below w.heap.size w w' := by
  obtain ⟨tp, p, h1⟩ := env.syn rfl
  obtain ⟨tq, q, h2⟩ := env.rng rfl
  have hN : ∀ z, Lib.atoiAll s.data.toList = z → atN s.data.toList = (match z with | .ok v => v | .range => Lib.atoiSat s.data.toList | _ => 0) := fun z e => by
    unfold atN
    rw [e]
    cases z <;> rfl
  cases h : Lib.atoiAll s.data.toList
  · rw [hN _ h]
    refine (Tryd.strconv_Atoi_ok s (by omega) _ h w).mono ?_
    rintro e w1 ⟨rfl, hw⟩
    refine ⟨_, rfl, ?_⟩
    rcases hw with rfl | ⟨t, rfl⟩
    · exact Below.refl _ _
    · exact Lib.bytesWorld_below _ _ _
  · rw [hN _ h]
    refine (Tryd.strconv_Atoi_syntax s hs h _ w h1 (.inr ⟨_, _, rfl⟩)).mono ?_
    rintro e w1 ⟨n, rfl, _, _, hb⟩
    exact ⟨_, rfl, hb⟩
  · rw [hN _ h]
    refine (Tryd.strconv_Atoi_range s hs h _ w h2 (.inr ⟨_, _, rfl⟩)).mono ?_
    rintro e w1 ⟨n, rfl, _, _, hb⟩
    exact ⟨_, rfl, hb⟩
theorem cut_lens (r sep : List UInt8) : (Go.Lib.cut r sep).1.length ≤ r.length ∧ (Go.Lib.cut r sep).2.1.length ≤ r.length := by
  unfold Go.Lib.cut
  split
  · exact ⟨by rw [List.length_take]; omega, by rw [List.length_drop]; omega⟩
  · exact ⟨Nat.le_refl _, Nat.zero_le _⟩
theorem cut_call (s sep : List UInt8) (hs : s.length < 4294967281) (w : World) (env : LEnv true w) :
    Calls Tryd.prog 45 #[.string (str s), .string (str sep)] w fun e w' => e = .returned (.tuple #[.string (str (Go.Lib.cut s sep).1), .string (str (Go.Lib.cut s sep).2.1), .bool (Go.Lib.cut s sep).2.2]) ∧ ∃ n, w' = w.drewN n := by
  obtain ⟨m, hm⟩ := env.mx
  have h := Tryd.strings_Cut (str s) (str sep) m w (by rw [str_size]; exact hs) hm
  rw [str_dat, str_dat] at h
  exact h
theorem cell_row {w : World} {g j : Nat} {cs : Array Value} {t : TypeId} {fr : Nat × Nat} (h : w.heap[g]? = some (.cells cs t fr)) : w.cell? ⟨g, j, none⟩ = cs[j]? := by
  unfold World.cell?
  simp [h]
set_option maxRecDepth 100000 in
set_option maxHeartbeats 4000000 in
theorem cl_any (r sep : List UInt8) (hr : r.length < 4294967281) (R : Nat) (t : TypeId) (w : World) (env : LEnv true w) (hR : w.heap[R]? = some (.cells #[.string (str r)] t (0, 0))) :
    Calls Tryd.prog 44 #[.string (str sep), .pointer (some ⟨R, 0, none⟩)] w fun e w' => e = .returned (.string (str (Go.Lib.cut r sep).1)) ∧ ∃ n, w' = (w.drewN n).setCell ⟨R, 0, none⟩ (.string (str (Go.Lib.cut r sep).2.1)) := by
  have HC := Lib.hid (cut_call r sep hr w env)
  have hc : w.cell? ⟨R, 0, none⟩ = some (.string (str r)) := cell_row hR
  have hf : w.frozen? ⟨R, 0, none⟩ = false := frozen_of_row _ _ _ _ _ hR
  have hl : R < w.heap.size := (Array.getElem?_eq_some_iff.1 hR).1
  generalize Go.Lib.cut r sep = C at HC ⊢
  obtain ⟨c1, c2, c3⟩ := C
  clear hR env
  go_enter Tryd.func44, Tryd.ntmps44
  go_wp2_with fail
  refine HC.out.mono ?_
  rintro e w1 ⟨rfl, n, rfl⟩
  go_wp2_with fail
  go_ret
  exact ⟨rfl, n, rfl⟩
def zeroL : Array Value := #[.int .u8 0, .string ⟨#[]⟩, .int .i64 0, .slice none 0 0, .bool false]
/-- the blocks of read: its result, what is still to be read, and (with M) the locator in the making -/
structure RX (w : World) (R : Nat) (rr : List UInt8) (V : World) : Prop where
  bl : Below w.heap.size w V
  hN : V.heap[w.heap.size]? = some (.cells zeroL 24 (0, 0))
  hR : V.heap[R]? = some (.cells #[.string (str rr)] 9 (0, 0))
  lR : w.heap.size < R
theorem row_lt {V : World} {g : Nat} {cs : Array Value} {T : TypeId} {fr : Nat × Nat} (h : V.heap[g]? = some (.cells cs T fr)) : g < V.heap.size := (Array.getElem?_eq_some_iff.1 h).1
theorem row_on {V U : World} {g : Nat} {cs : Array Value} {T : TypeId} {fr : Nat × Nat} (h : V.heap[g]? = some (.cells cs T fr)) (hb : Below V.heap.size V U) : U.heap[g]? = some (.cells cs T fr) :=
  (hb.block _ (row_lt h)).trans h
theorem row_far {V : World} {g b i : Nat} {v : Value} {cs : Array Value} {T : TypeId} {fr : Nat × Nat} (h : V.heap[g]? = some (.cells cs T fr)) (hne : g ≠ b) : (V.setCell ⟨b, i, none⟩ v).heap[g]? = some (.cells cs T fr) :=
  (Below.heap_setCell _ _ _ _ hne).trans h
theorem RX.on {w V V' : World} {R : Nat} {rr : List UInt8} (h : RX w R rr V) (hb : Below V.heap.size V V') : RX w R rr V' :=
  ⟨h.bl.trans (hb.mono h.bl.size), row_on h.hN hb, row_on h.hR hb, h.lR⟩
theorem RX.drewN {w V : World} {R : Nat} {rr : List UInt8} (h : RX w R rr V) (n : Nat) : RX w R rr (V.drewN n) := ⟨below_drew h.bl n, h.hN, h.hR, h.lR⟩
theorem RX.setR {w V : World} {R : Nat} {rr : List UInt8} (h : RX w R rr V) (x : List UInt8) : RX w R x (V.setCell ⟨R, 0, none⟩ (.string (str x))) :=
  ⟨h.bl.setCell (Nat.le_of_lt h.lR) _, row_far h.hN (Nat.ne_of_lt h.lR), heap_setCell_same _ _ _ _ _ _ h.hR, h.lR⟩
theorem RX.setM {w V : World} {R M i : Nat} {rr : List UInt8} {v : Value} (h : RX w R rr V) (hM : R < M) : RX w R rr (V.setCell ⟨M, i, none⟩ v) :=
  ⟨h.bl.setCell (Nat.le_of_lt (Nat.lt_trans h.lR hM)) _, row_far h.hN (Nat.ne_of_lt (Nat.lt_trans h.lR hM)), row_far h.hR (Nat.ne_of_lt hM), h.lR⟩
theorem RX.env {w V : World} {R : Nat} {rr : List UInt8} (h : RX w R rr V) (e : LEnv true w) : LEnv true V := e.below h.bl e.big
theorem locfacts {V : World} {M : Nat} {a b c d e : Value} {T : TypeId} (h : V.heap[M]? = some (.cells #[a, b, c, d, e] T (0, 0))) : M < V.heap.size ∧ V.cell? ⟨M, 0, none⟩ = some a ∧ V.cell? ⟨M, 1, none⟩ = some b ∧ V.cell? ⟨M, 2, none⟩ = some c ∧ V.cell? ⟨M, 3, none⟩ = some d ∧ V.cell? ⟨M, 4, none⟩ = some e ∧ V.frozen? ⟨M, 0, none⟩ = false ∧ V.frozen? ⟨M, 1, none⟩ = false ∧ V.frozen? ⟨M, 2, none⟩ = false ∧ V.frozen? ⟨M, 3, none⟩ = false ∧ V.frozen? ⟨M, 4, none⟩ = false :=
  ⟨row_lt h, cell_row h, cell_row h, cell_row h, cell_row h, cell_row h, frozen_of_row _ _ _ _ _ h, frozen_of_row _ _ _ _ _ h, frozen_of_row _ _ _ _ _ h, frozen_of_row _ _ _ _ _ h, frozen_of_row _ _ _ _ _ h⟩
def strsV (xs : List (List UInt8)) : List Value := xs.map fun p => Value.string (str p)
theorem strsV_snoc (xs : List (List UInt8)) (p : List UInt8) : strsV (xs ++ [p]) = strsV xs ++ [.string (str p)] := by
  unfold strsV
  rw [List.map_append]
  rfl
theorem Tryd.info_string2 : (Tryd.prog.info? 9).map (fun i => (i.zero, i.size, i.bytes)) = some (some (.string ⟨#[]⟩), 1, 16) := by kernel_rfl
theorem wp_append_strs {w : World} {o : Oper} {a : Act} {K : Act → World → Prop} {Q : Exit → Act → World → Prop} (s x : Operand)
    (ho : o.op = .call { callee := .builtin .append, args := #[s, x], argTypes := #[22, 22] }) (base : Nat) (v : Value) (n : Nat) (xs : List Value) (hs : a.eval s = v) (hown : w.ownsRow base 9 1 v n xs)
    (ad : Addr) (m c : Nat) (news : List Value) (hx : a.eval x = .slice (some ad) m c) (hl : news.length = m * 1) (hnews : ∀ j u, news[j]? = some u → w.cell? (ad.add j) = some u) (h1 : ∀ u ∈ news, u.oneCell' = true) (h63 : n + m ≤ 1000000) (hbase : base ≤ w.heap.size)
    (h : ∀ v' w', w'.ownsRow base 9 1 v' (n + m) (xs ++ news) → w.grownBy w' v.ownBlock → K (a.put o.dst v') w') : o.wp Tryd.prog a w K Q := by
  obtain ⟨i0, hi, hz0, hz1, hz2⟩ := info_parts Tryd.info_string2
  obtain ⟨v', w', hr, h2, h3, _, h4⟩ := run_append_own_at (P := Tryd.prog) w base 22 o.type 9 i0 (.string ⟨#[]⟩) 1 16 Tryd.underlying22 hi hz0 hz1 hz2 rfl (by decide) v n xs hown ad m c news hl hnews h1 (by unfold maxLen; omega) (by omega) hbase
  unfold Oper.wp execOp
  simp only [ho, resolve, invoke, builtin, Sem.run_bind, Sem.run_pure, Result.andThen_ok, List.map_toArray, List.map_cons, List.map_nil, hs, hx, hr]
  exact h v' w' h2 h3
theorem own_blk {w : World} {b n k : Nat} {v : Value} {xs : List Value} (h : w.ownsRow b 9 1 v n xs) (hk : v.ownBlock = some k) : b ≤ k ∧ k < w.heap.size := by
  obtain ⟨h1, ⟨rfl, _⟩ | ⟨g, cap, cur, rfl, h3, h4, _⟩⟩ := h
  · cases hk
  · obtain rfl : g = k := by simpa [Value.ownBlock] using hk
    exact ⟨h3, (Array.getElem?_eq_some_iff.1 h4).1⟩
theorem addr_add (g o j : Nat) : (⟨g, o, none⟩ : Addr).add j = ⟨g, o + j, none⟩ := by
  unfold Addr.add
  simp
theorem own_sl {w : World} {b n : Nat} {v : Value} {xs : List Value} (h : w.ownsRow b 9 1 v n xs) : ∃ A cap, v = .slice A n cap := by
  obtain ⟨h1, ⟨rfl, rfl⟩ | ⟨g, cap, cur, rfl, h3, h4, _⟩⟩ := h
  · exact ⟨none, 0, rfl⟩
  · exact ⟨_, cap, rfl⟩
theorem own_on {w w' : World} {base n : Nat} {e : TypeId} {size : Nat} {v : Value} {xs : List Value} (h : w.ownsRow base e size v n xs) (hb : Below w.heap.size w w') : w'.ownsRow base e size v n xs := by
  obtain ⟨hl, h | ⟨g, cap, cur, hv, hg, hbl, h1, h2, h3, h4⟩⟩ := h
  · exact ⟨hl, .inl h⟩
  · exact ⟨hl, .inr ⟨g, cap, cur, hv, hg, (hb.block g (row_lt hbl)).trans hbl, h1, h2, h3, h4⟩⟩
theorem own_mono {w : World} {base base' n : Nat} {e : TypeId} {size : Nat} {v : Value} {xs : List Value} (h : w.ownsRow base e size v n xs) (hb : base' ≤ base) : w.ownsRow base' e size v n xs := by
  obtain ⟨hl, h | ⟨g, cap, cur, hv, hg, h1⟩⟩ := h
  · exact ⟨hl, .inl h⟩
  · exact ⟨hl, .inr ⟨g, cap, cur, hv, Nat.le_trans hb hg, h1⟩⟩
/-- the state of read's loop -/
structure LX (w : World) (R M SS : Nat) (h3 : List UInt8) (AA : Int) (DD : Bool) (rr : List UInt8) (xs : List (List UInt8)) (v : Value) (V : World) : Prop where
  rx : RX w R rr V
  mm : V.heap[M]? = some (.cells #[.int .u8 SS, .string (str h3), .int .i64 AA, v, .bool DD] 24 (0, 0))
  own : V.ownsRow (M + 1) 9 1 v xs.length (strsV xs)
  sz : M + 1 ≤ V.heap.size
  ne : R < M
section
variable {w V V' : World} {R M SS : Nat} {h3 rr : List UInt8} {AA : Int} {DD : Bool} {xs : List (List UInt8)} {v : Value}
theorem LX.on (h : LX w R M SS h3 AA DD rr xs v V) (hb : Below V.heap.size V V') : LX w R M SS h3 AA DD rr xs v V' := ⟨h.rx.on hb, row_on h.mm hb, own_on h.own hb, Nat.le_trans h.sz hb.size, h.ne⟩
theorem LX.drewN (h : LX w R M SS h3 AA DD rr xs v V) (n : Nat) : LX w R M SS h3 AA DD rr xs v (V.drewN n) := h.on ⟨rfl, rfl, rfl, Nat.le_refl _, fun _ _ => rfl⟩
theorem LX.drew (h : LX w R M SS h3 AA DD rr xs v V) : LX w R M SS h3 AA DD rr xs v V.drew := h.on ⟨rfl, rfl, rfl, Nat.le_refl _, fun _ _ => rfl⟩
theorem LX.setR (h : LX w R M SS h3 AA DD rr xs v V) (x : List UInt8) : LX w R M SS h3 AA DD x xs v (V.setCell ⟨R, 0, none⟩ (.string (str x))) :=
  ⟨h.rx.setR x, row_far h.mm (Nat.ne_of_gt h.ne), ownsRow_setCell_other (a := ⟨R, 0, none⟩) h.own (fun e => by have h1 := (own_blk h.own e).1; have h2 := h.ne; simp only at h1; omega) _, by have := h.sz; simpa [World.setCell] using this, h.ne⟩
/-- an element appended; the list put back -/
theorem LX.grown {v7 : Value} {cc : List UInt8} (h : LX w R M SS h3 AA DD rr xs v V) (o : V'.ownsRow (M + 1) 9 1 v7 (xs.length + 1) (strsV xs ++ [.string (str cc)])) (g : V.grownBy V' v.ownBlock) :
    V'.heap[M]? = some (.cells #[.int .u8 SS, .string (str h3), .int .i64 AA, v, .bool DD] 24 (0, 0)) ∧ LX w R M SS h3 AA DD rr (xs ++ [cc]) v7 (V'.setCell ⟨M, 3, none⟩ v7) := by
  have lo : ∀ k, v.ownBlock = some k → M + 1 ≤ k := fun k hk => (own_blk h.own hk).1
  have hM : V'.heap[M]? = some (.cells #[.int .u8 SS, .string (str h3), .int .i64 AA, v, .bool DD] 24 (0, 0)) := (g.block M (row_lt h.mm) (fun e => by have := lo M e.symm; omega)).trans h.mm
  have hne := h.ne
  have hR2 : V'.heap[R]? = _ := (g.block R (row_lt h.rx.hR) (fun e => by have := lo R e.symm; omega)).trans h.rx.hR
  have hlR := h.rx.lR
  have hN2 : V'.heap[w.heap.size]? = _ := (g.block w.heap.size (row_lt h.rx.hN) (fun e => by have := lo _ e.symm; omega)).trans h.rx.hN
  have hx : RX w R rr V' := ⟨h.rx.bl.grown g h.rx.bl.size (fun k hk => by have := lo k hk; omega), hN2, hR2, hlR⟩
  refine ⟨hM, hx.setM hne, heap_setCell_same _ _ _ _ _ _ hM, ?_, ?_, hne⟩
  · have o2 : V'.ownsRow (M + 1) 9 1 v7 (xs ++ [cc]).length (strsV (xs ++ [cc])) := by rw [strsV_snoc, List.length_append]; exact o
    exact ownsRow_setCell_other (a := ⟨M, 3, none⟩) o2 (fun e => by have h1 := (own_blk o2 e).1; simp only at h1; omega) _
  · have := h.sz
    have h2 := g.size
    have h3 : (V'.setCell ⟨M, 3, none⟩ v7).heap.size = V'.heap.size := by simp [World.setCell]
    omega
end
theorem five_row {V : World} {g : Nat} {a b c d e v0 v1 v2 v3 v4 : Value} {T : TypeId} (h : V.heap[g]? = some (.cells #[a, b, c, d, e] T (0, 0))) :
    (((((V.setCell ⟨g, 0, none⟩ v0).setCell ⟨g, 1, none⟩ v1).setCell ⟨g, 2, none⟩ v2).setCell ⟨g, 3, none⟩ v3).setCell ⟨g, 4, none⟩ v4).heap[g]? = some (.cells #[v0, v1, v2, v3, v4] T (0, 0)) :=
  heap_setCell_same _ _ _ _ _ _ (heap_setCell_same _ _ _ _ _ _ (heap_setCell_same _ _ _ _ _ _ (heap_setCell_same _ _ _ _ _ _ (heap_setCell_same _ _ _ _ _ _ h))))
theorem own_set {V : World} {b n g : Nat} {v : Value} {xs : List Value} (hg : g < b) (h : V.ownsRow b 9 1 v n xs) (i : Nat) (u : Value) : (V.setCell ⟨g, i, none⟩ u).ownsRow b 9 1 v n xs :=
  ownsRow_setCell_other (a := ⟨g, i, none⟩) h (fun e => by have h1 := (own_blk h e).1; simp only at h1; omega) _
theorem own_strs {V : World} {b c : Nat} {A : Option Addr} {xs : List (List UInt8)} (h : V.ownsRow b 9 1 (.slice A xs.length c) xs.length (strsV xs)) : StrsAt A xs V ∧ xs.length ≤ c := by
  obtain ⟨hl', h | ⟨g, cap, cur, hv, hb, hg, hnc, hcm, hcs, ht⟩⟩ := h
  · obtain ⟨h1, h2⟩ := h
    have hx : xs = [] := List.length_eq_zero_iff.1 h2
    subst hx
    exact ⟨fun e => absurd rfl e, Nat.zero_le _⟩
  · injection hv with e1 e2 e3
    subst e1 e3
    refine ⟨fun _ => ⟨g, 0, rfl, row_lt hg, fun j x hj => ?_⟩, hnc⟩
    rw [Nat.zero_add, cell_row hg, ← Array.getElem?_toList]
    have h2 : (cur.toList.take (xs.length * 1))[j]? = some (.string (str x)) := by
      rw [ht]
      unfold strsV
      rw [List.getElem?_map, hj]
      rfl
    rw [List.getElem?_take] at h2
    split at h2
    · exact h2
    · cases h2
/-- how long what is still to be read is -/
def strAt (R : Nat) (V : World) : Nat := match V.cell? ⟨R, 0, none⟩ with
  | some (.string b) => b.size
  | _ => 0
theorem strAt_eq {R : Nat} {rr : List UInt8} {V : World} {T : TypeId} (h : V.heap[R]? = some (.cells #[.string (str rr)] T (0, 0))) : strAt R V = rr.length := by
  unfold strAt
  rw [cell_row h]
  exact str_size rr
set_option maxRecDepth 100000 in
set_option maxHeartbeats 4000000 in
theorem read_any (s : List UInt8) (hs : s.length ≤ 200) (w : World) (env : LEnv true w) :
    Calls Tryd.prog 31 #[.string (str s)] w fun e w' => ∃ A c, e = .returned (locV (rdL s) A c) ∧ LocAt (rdL s) A c w' ∧ w'.ownsRow w.heap.size 9 1 (.slice A (rdL s).parts.length c) (rdL s).parts.length (strsV (rdL s).parts) ∧ Below w.heap.size w w' := by
  have hG := env.big
  have HE := Lib.hid env
  have hrd : rdL s = ⟨schOf (Go.Lib.cut s [58, 47, 47]).1, (Go.Lib.cut (Go.Lib.cut (Go.Lib.cut s [58, 47, 47]).2.1 [47]).1 [58]).1, atN (Go.Lib.cut (Go.Lib.cut (Go.Lib.cut s [58, 47, 47]).2.1 [47]).1 [58]).2.1, pcs (Go.Lib.cut (Go.Lib.cut s [58, 47, 47]).2.1 [47]).2.1, Go.Lib.hasSuffix s [47]⟩ := rfl
  have q1 := cut_lens s [58, 47, 47]
  have q2 := cut_lens (Go.Lib.cut s [58, 47, 47]).2.1 [47]
  have q3 := cut_lens (Go.Lib.cut (Go.Lib.cut s [58, 47, 47]).2.1 [47]).1 [58]
  have HC1 := Lib.hid (cl_any s [58, 47, 47] (by omega))
  have HC2 := Lib.hid (cl_any (Go.Lib.cut s [58, 47, 47]).2.1 [47] (by omega))
  have HC3 := Lib.hid (cut_call (Go.Lib.cut (Go.Lib.cut s [58, 47, 47]).2.1 [47]).1 [58] (by omega))
  have hsz : (str s).size ≤ 9223372036854775807 := by rw [str_size]; omega
  have HP := Lib.hid (fun (V : World) => Tryd.strings_HasSuffix (str s) ⟨#[47]⟩ V hsz)
  generalize Go.Lib.cut s [58, 47, 47] = C1 at hrd q1 q2 q3 HC1 HC2 HC3
  obtain ⟨c1, r1, x1⟩ := C1
  simp only at hrd q1 q2 q3 HC1 HC2 HC3
  generalize Go.Lib.cut r1 [47] = C2 at hrd q2 q3 HC2 HC3
  obtain ⟨c2, r2, x2⟩ := C2
  simp only at hrd q2 q3 HC2 HC3
  generalize Go.Lib.cut c2 [58] = C3 at hrd q3 HC3
  obtain ⟨h3, p3, x3⟩ := C3
  simp only at hrd q3 HC3
  have HS := Lib.hid (fun (V : World) (hv : LEnv true V) => schemeof_any (str c1) V hv)
  have HA := Lib.hid (fun (V : World) (hv : LEnv true V) => atoi_any (str p3) (by rw [str_size]; omega) V hv)
  rw [str_dat] at HS HA HP
  have hSS : schOf c1 < 256 := by unfold schOf; repeat (split <;> try omega)
  obtain ⟨SS, hSS2⟩ : ∃ SS, schOf c1 = SS := ⟨_, rfl⟩
  obtain ⟨AA, hAA⟩ : ∃ AA, atN p3 = AA := ⟨_, rfl⟩
  obtain ⟨DD, hDD⟩ : ∃ DD, Go.Lib.hasSuffix s [47] = DD := ⟨_, rfl⟩
  rw [show Go.Lib.hasSuffix s (⟨#[47]⟩ : ByteArray).data.toList = DD from hDD] at HP
  rw [hSS2] at HS hrd hSS
  rw [hAA] at HA hrd
  rw [hDD] at hrd
  have HQ := Lib.hid (show r2.length ≤ 200 ∧ h3.length ≤ 200 by omega)
  have HRD := Lib.hid hrd
  clear env hSS2 hAA hDD hrd q1 q2 q3 hsz
  go_enter Tryd.func31, Tryd.ntmps31
  go_wp2_with fail
  generalize hW1 : World.alloc (World.alloc w _) _ = W1
  have X1 : RX w (w.heap.size + 1) s W1 := by
    rw [← hW1]
    refine ⟨((Below.refl _ _).alloc (Nat.le_refl _) _).alloc (by simp) _, ?_, ?_, by omega⟩
    · rw [Below.heap_alloc _ _ _ (by simp)]
      exact heap_alloc_new _ _
    · have := heap_alloc_new (w.alloc (.cells zeroL 24)) (.cells #[.string (str s)] 9)
      rw [show (w.alloc (.cells zeroL 24)).heap.size = w.heap.size + 1 by simp] at this
      exact this
  have HX1 := Lib.hid X1
  clear hW1 X1
  obtain ⟨R, hR⟩ : ∃ R, w.heap.size + 1 = R := ⟨_, rfl⟩
  rw [hR] at HX1 ⊢
  clear hR
  refine (HC1.out R _ W1 (HX1.out.env HE.out) HX1.out.hR).mono ?_
  rintro e w2 ⟨rfl, n2, rfl⟩
  generalize hW2 : World.setCell _ _ _ = W2
  have HX2 : RowKit.Hid (RX w R r1 W2) := Lib.hid (by rw [← hW2]; exact (HX1.out.drewN n2).setR r1)
  clear hW2
  go_wp2_with fail
  refine (HS.out W2 (HX2.out.env HE.out)).mono ?_
  rintro e w3 ⟨rfl, hb3⟩
  have HX3 := Lib.hid (HX2.out.on hb3)
  clear hb3
  go_wp2_with fail
  refine (HP.out w3).mono ?_
  rintro e w4 ⟨rfl, rfl⟩
  go_wp2_with fail
  generalize hW5 : World.alloc _ _ = W5
  have hb5 : Below w4.heap.size w4 W5 := by rw [← hW5]; exact below_new _ _
  have HM5 : RowKit.Hid (W5.heap[w4.heap.size]? = some (.cells #[.int .u8 SS, .string ⟨#[]⟩, .int .i64 0, .slice none 0 0, .bool DD] 24 (0, 0))) := Lib.hid (by rw [← hW5]; exact heap_alloc_new _ _)
  have hRM : R < w4.heap.size := row_lt HX3.out.hR
  have HX5 := Lib.hid (HX3.out.on hb5)
  clear hW5 hb5
  obtain ⟨M, hM⟩ : ∃ M, w4.heap.size = M := ⟨_, rfl⟩
  rw [hM] at HM5 hRM ⊢
  clear hM
  refine (HC2.out R _ W5 (HX5.out.env HE.out) HX5.out.hR).mono ?_
  rintro e w6 ⟨rfl, n6, rfl⟩
  generalize hW6 : World.setCell _ _ _ = W6
  have HX6 : RowKit.Hid (RX w R r2 W6) := Lib.hid (by rw [← hW6]; exact (HX5.out.drewN n6).setR r2)
  have HM6 : RowKit.Hid (W6.heap[M]? = some (.cells #[.int .u8 SS, .string ⟨#[]⟩, .int .i64 0, .slice none 0 0, .bool DD] 24 (0, 0))) := Lib.hid (by
    rw [← hW6]
    exact row_far (V := W5.drewN n6) HM5.out (Nat.ne_of_gt hRM))
  clear hW6
  go_wp2_with fail
  refine (HC3.out W6 (HX6.out.env HE.out)).mono ?_
  rintro e w7 ⟨rfl, n7, rfl⟩
  generalize hW7 : World.drewN _ _ = W7
  have HX7 : RowKit.Hid (RX w R r2 W7) := Lib.hid (by rw [← hW7]; exact HX6.out.drewN n7)
  have HM7 : RowKit.Hid (W7.heap[M]? = some (.cells #[.int .u8 SS, .string ⟨#[]⟩, .int .i64 0, .slice none 0 0, .bool DD] 24 (0, 0))) := Lib.hid (by rw [← hW7]; exact HM6.out)
  clear hW7
  obtain ⟨hz, e0, e1, e2, e3, e4, f0, f1, f2, f3, f4⟩ := locfacts HM7.out
  go_wp2_with fail
  clear hz e0 e1 e2 e3 e4 f0 f1 f2 f3 f4
  generalize hW8 : World.setCell _ _ _ = W8
  have HX8 : RowKit.Hid (RX w R r2 W8) := Lib.hid (by rw [← hW8]; exact HX7.out.setM hRM)
  have HM8 : RowKit.Hid (W8.heap[M]? = some (.cells #[.int .u8 SS, .string (str h3), .int .i64 0, .slice none 0 0, .bool DD] 24 (0, 0))) := Lib.hid (by rw [← hW8]; exact heap_setCell_same _ _ _ _ _ _ HM7.out)
  clear hW8
  refine (HA.out W8 (HX8.out.env HE.out)).mono ?_
  rintro e w9 ⟨v, rfl, hb9⟩
  have HX9 := Lib.hid (HX8.out.on hb9)
  have HM9 := Lib.hid (row_on HM8.out hb9)
  clear hb9
  obtain ⟨hz, e0, e1, e2, e3, e4, f0, f1, f2, f3, f4⟩ := locfacts HM9.out
  go_wp2_with fail
  clear hz e0 e1 e2 e3 e4 f0 f1 f2 f3 f4
  generalize hW0 : World.setCell _ _ _ = W0
  have HX0 : RowKit.Hid (RX w R r2 W0) := Lib.hid (by rw [← hW0]; exact HX9.out.setM hRM)
  have HM0 : RowKit.Hid (W0.heap[M]? = some (.cells #[.int .u8 SS, .string (str h3), .int .i64 AA, .slice none 0 0, .bool DD] 24 (0, 0))) := Lib.hid (by rw [← hW0]; exact heap_setCell_same _ _ _ _ _ _ HM9.out)
  clear hW0
  have HL0 : RowKit.Hid (LX w R M SS h3 AA DD r2 [] (.slice none 0 0) W0) := Lib.hid ⟨HX0.out, HM0.out, World.ownsRow_nil _ _ _ _, row_lt HM0.out, hRM⟩
  go_loopw [] (fun wr => ∃ (rr : List UInt8) (xs : List (List UInt8)) (v : Value), LX w R M SS h3 AA DD rr xs v wr ∧ pcs r2 = xs ++ pcs rr ∧ rr.length + xs.length ≤ 200 ∧ ∀ p ∈ xs, p.length ≤ 200) (fun wr => strAt R wr)
  case atStart => exact ⟨r2, [], _, HL0.out, by simp, by have := HQ.out.1; simpa using this, fun p hp => by cases hp⟩
  case round =>
    obtain ⟨rr, xs, v, hl, hpc, hln, hxs⟩ := hrel
    have HL := Lib.hid hl
    have HPC0 := Lib.hid hpc
    have HXS0 := Lib.hid hxs
    have e0 : wr.cell? ⟨R, 0, none⟩ = some (.string (str rr)) := cell_row hl.rx.hR
    have hlt := row_lt hl.rx.hR
    clear hl hpc hxs HL0
    by_cases hrr : rr = []
    · subst hrr
      have n1 : ((str []).toList == []) = true := by rw [eqS, str_dat]; exact decide_eq_true rfl
      rw [pcs_nil, List.append_nil] at HPC0
      obtain ⟨A, c, rfl⟩ := own_sl HL.out.own
      obtain ⟨hz, m0, m1, m2, m3, m4, -, -, -, -, -⟩ := locfacts HL.out.mm
      obtain ⟨gz, g0, g1, g2, g3, g4, k0, k1, k2, k3, k4⟩ := locfacts (a := .int .u8 0) (b := .string ⟨#[]⟩) (c := .int .i64 0) (d := .slice none 0 0) (e := .bool false) HL.out.rx.hN
      go_wp2_with fail
      have B := five_row (v0 := .int .u8 SS) (v1 := .string (str h3)) (v2 := .int .i64 AA) (v3 := .slice A xs.length c) (v4 := .bool DD) (a := .int .u8 0) (b := .string ⟨#[]⟩) (c := .int .i64 0) (d := .slice none 0 0) (e := .bool false) HL.out.rx.hN
      have HO := HL.out.own
      have hgt : w.heap.size < M + 1 := by have h1 := HL.out.rx.lR; have h2 := HL.out.ne; omega
      have O5 := own_set hgt (own_set hgt (own_set hgt (own_set hgt (own_set hgt HO 0 (.int .u8 SS)) 1 (.string (str h3))) 2 (.int .i64 AA)) 3 (.slice A xs.length c)) 4 (.bool DD)
      have hbl := HL.out.rx.bl
      generalize hfin : World.setCell (World.setCell (World.setCell (World.setCell (World.setCell wr _ _) _ _) _ _) _ _) _ _ = fin at B O5 ⊢
      have hb5 : Below w.heap.size w fin := by
        rw [← hfin]
        exact ((((hbl.setCell (Nat.le_refl _) _).setCell (Nat.le_refl _) _).setCell (Nat.le_refl _) _).setCell (Nat.le_refl _) _).setCell (Nat.le_refl _) _
      clear hfin
      obtain ⟨-, b0, b1, b2, b3, b4, -, -, -, -, -⟩ := locfacts B
      have hst := own_strs O5
      refine bodyPost_ret (v := .agg #[.int .u8 SS, .string (str h3), .int .i64 AA, .slice A xs.length c, .bool DD]) (by simp [results, Tryd.results31, go_sem, b0, b1, b2, b3, b4]) rfl ⟨A, c, ?_, ?_, ?_, hb5⟩
      · rw [HRD.out, HPC0.out]
        rfl
      · rw [HRD.out, HPC0.out]
        exact ⟨by assumption, by have := HQ.out.2; show h3.length < _; omega, hst.1, hst.2, fun p hp => by have := HXS0.out p hp; omega⟩
      · rw [HRD.out, HPC0.out]
        exact own_mono O5 (by have h1 := HL.out.rx.lR; omega)
    · have n1 : ((str rr).toList == []) = false := by rw [eqS, str_dat]; exact decide_eq_false hrr
      have hcl := cut_less rr hrr
      have hq := cut_lens rr [47]
      have HCL := Lib.hid (cl_any rr [47] (by omega))
      have hpp := pcs_cons rr hrr
      generalize Go.Lib.cut rr [47] = CC at hcl hq HCL hpp
      obtain ⟨cc, rr2, x4⟩ := CC
      simp only at hcl hq HCL hpp
      have HPC := Lib.hid (show pcs r2 = (xs ++ [cc]) ++ pcs rr2 by rw [HPC0.out, hpp]; simp)
      have HLN := Lib.hid (show rr2.length + (xs.length + 1) ≤ 200 by omega)
      have HXS := Lib.hid (show ∀ p ∈ xs ++ [cc], p.length ≤ 200 from fun p hp => by
        rcases List.mem_append.1 hp with hp | hp
        · exact HXS0.out p hp
        · rw [List.mem_singleton.1 hp]; omega)
      have HME : RowKit.Hid (∀ (V : World), V.heap[R]? = some (.cells #[.string (str rr2)] 9 (0, 0)) → strAt R V < strAt R wr) := Lib.hid (fun V hV => by rw [strAt_eq hV, strAt_eq HL.out.rx.hR]; exact hcl)
      clear hcl hq hpp HPC0 HXS0 hrr
      go_wp2_with fail
      -- ROUND
      refine wp_region_held_drew (S := fun _ => True) (by kernel_rfl) trivial (fun hHeld => ?_)
      generalize hU : World.drew wr = U at hHeld ⊢
      have HLU := Lib.hid (show LX w R M SS h3 AA DD rr xs v U by rw [← hU]; exact HL.out.drew)
      clear hU
      refine wpAnyH_take (i := 0) (oi := { dst := Option.some 34, op := Go.Op.fieldAddr 24 (Go.Operand.tmp 5) 3, type := 0, pos := "text.go:64", after := #[], guard := Option.none }) (v := ?_) rfl (by kernel_rfl) (by kernel_rfl) (by kernel_rfl) (fun _ _ _ h => h) (Or.inl ⟨by rfl, ?_⟩) hHeld ?_
      rotate_left
      · intro w hSw
        clear hSw
        go_simp
        try with_reducible rfl
      try simp only [Act.put, List.setIfInBounds_toArray, List.set_cons_zero, List.set_cons_succ]
      refine wpAnyH_take (i := 2) (oi := { dst := Option.some 36, op := Go.Op.move (Go.Operand.tmp 4), type := 71, pos := "text.go:64", after := #[], guard := Option.none }) (v := ?_) rfl (by kernel_rfl) (by kernel_rfl) (by kernel_rfl) (fun _ _ _ h => h) (Or.inl ⟨by rfl, ?_⟩) hHeld ?_
      rotate_left
      · intro w hSw
        clear hSw
        go_simp
        try with_reducible rfl
      try simp only [Act.put, List.setIfInBounds_toArray, List.set_cons_zero, List.set_cons_succ]
      refine wpAnyH_ready (rs := [1, 3]) (by kernel_rfl) (by simp) (AllReadyH.cons (o := { dst := Option.some 35, op := Go.Op.load 22 (Go.Operand.tmp 34), type := 22, pos := "text.go:64", after := #[{ on := 0, ground := Go.Ground.data }], guard := Option.none }) rfl (fun K hK => ?_) (AllReadyH.cons (o := { dst := Option.some 37, op := Go.Op.call { callee := Go.Callee.value (Go.Operand.tmp 36), args := #[Go.Operand.const (Go.Value.string { data := #[47] })], argTypes := #[9] }, type := 9, pos := "text.go:64", after := #[{ on := 2, ground := Go.Ground.data }], guard := Option.none }) rfl (fun K hK => ?_) AllReadyH.nil))
      · have hc := cell_row (j := 3) HLU.out.mm
        have hlt := row_lt HLU.out.mm
        go_simp
        clear hc hlt
        refine hK.out _ _ trivial (fun hHeld2 => ?_)
        clear hK K hHeld
        have hHeld := hHeld2
        clear hHeld2
        try simp only [Act.put, List.setIfInBounds_toArray, List.set_cons_zero, List.set_cons_succ]
        refine wpAnyH_ready (rs := [3]) (by kernel_rfl) (by simp) (AllReadyH.cons (o := { dst := Option.some 37, op := Go.Op.call { callee := Go.Callee.value (Go.Operand.tmp 36), args := #[Go.Operand.const (Go.Value.string { data := #[47] })], argTypes := #[9] }, type := 9, pos := "text.go:64", after := #[{ on := 2, ground := Go.Ground.data }], guard := Option.none }) rfl (fun K hK => ?_) AllReadyH.nil)
        go_simp
        refine (HCL.out R _ U (HLU.out.rx.env HE.out) HLU.out.rx.hR).mono ?_
        rintro e z3 ⟨rfl, n3, rfl⟩
        go_simp
        generalize hz3 : World.setCell _ _ _ = z3
        have HL3 := Lib.hid (show LX w R M SS h3 AA DD rr2 xs v z3 by rw [← hz3]; exact (HLU.out.drewN n3).setR rr2)
        clear hz3
        refine hK.out _ _ trivial (fun hHeld2 => ?_)
        clear hK K hHeld
        have hHeld := hHeld2
        clear hHeld2
        try simp only [Act.put, List.setIfInBounds_toArray, List.set_cons_zero, List.set_cons_succ]
        refine wpAnyH_ready (rs := [4]) (by kernel_rfl) (by simp) (AllReadyH.cons (o := { dst := Option.some 38, op := Go.Op.buildSlice 22 1 #[(0, Go.Operand.tmp 37)], type := 22, pos := "text.go:64", after := #[{ on := 3, ground := Go.Ground.data }], guard := Option.none }) rfl (fun K hK => ?_) AllReadyH.nil)
        go_simp
        generalize hz4 : World.alloc z3 _ = z4
        have b4 : Below z3.heap.size z3 z4 := by rw [← hz4]; exact below_new _ _
        have q4 := Lib.hid (show z4.heap[z3.heap.size]? = some (.cells #[.string (str cc)] 9 (0, 0)) by rw [← hz4]; exact heap_alloc_new _ _)
        have HL4 := Lib.hid (HL3.out.on b4)
        obtain ⟨B4, hB4⟩ : ∃ B4, z3.heap.size = B4 := ⟨_, rfl⟩
        rw [hB4] at q4
        try simp only [hB4]
        clear hz4 b4 hB4
        refine hK.out _ _ trivial (fun hHeld2 => ?_)
        clear hK K hHeld
        have hHeld := hHeld2
        clear hHeld2
        try simp only [Act.put, List.setIfInBounds_toArray, List.set_cons_zero, List.set_cons_succ]
        refine wpAnyH_ready (rs := [5]) (by kernel_rfl) (by simp) (AllReadyH.cons (o := { dst := Option.some 39, op := Go.Op.call { callee := Go.Callee.builtin Go.Builtin.append, args := #[Go.Operand.tmp 35, Go.Operand.tmp 38], argTypes := #[22, 22] }, type := 22, pos := "text.go:64", after := #[{ on := 1, ground := Go.Ground.data }, { on := 4, ground := Go.Ground.data }, { on := 3, ground := Go.Ground.chain }], guard := Option.none }) rfl (fun K hK => ?_) AllReadyH.nil)
        try rw [if_pos (by rfl)]
        refine wp_append_strs (.tmp 35) (.tmp 38) rfl (M + 1) v xs.length (strsV xs) rfl HL4.out.own ⟨B4, 0, none⟩ 1 1 [.string (str cc)] rfl rfl (fun j u hj => by
          have h1 := cell_row (j := j) q4.out
          rw [addr_add, Nat.zero_add, h1]
          simpa using hj) (by simp [Value.oneCell']) (by have := HLN.out; omega) HL4.out.sz ?_
        intro v7 z5 o5 g5
        have HL5 := Lib.hid (HL4.out.grown o5 g5)
        obtain ⟨A7, c7, rfl⟩ := own_sl o5
        clear o5 g5
        refine hK.out _ _ trivial (fun hHeld2 => ?_)
        clear hK K hHeld
        have hHeld := hHeld2
        clear hHeld2
        try simp only [Act.put, List.setIfInBounds_toArray, List.set_cons_zero, List.set_cons_succ]
        refine wpAnyH_take (i := 6) (oi := { dst := Option.some 40, op := Go.Op.fieldAddr 24 (Go.Operand.tmp 5) 3, type := 0, pos := "text.go:64", after := #[{ on := 0, ground := Go.Ground.phase }, { on := 1, ground := Go.Ground.phase }, { on := 2, ground := Go.Ground.phase }, { on := 3, ground := Go.Ground.phase }, { on := 4, ground := Go.Ground.phase }, { on := 5, ground := Go.Ground.phase }], guard := Option.none }) (v := ?_) rfl (by kernel_rfl) (by kernel_rfl) (by kernel_rfl) (fun _ _ _ h => h) (Or.inl ⟨by rfl, ?_⟩) hHeld ?_
        rotate_left
        · intro w hSw
          clear hSw
          go_simp
          try with_reducible rfl
        try simp only [Act.put, List.setIfInBounds_toArray, List.set_cons_zero, List.set_cons_succ]
        refine wpAnyH_ready (rs := [7]) (by kernel_rfl) (by simp) (AllReadyH.cons (o := { dst := Option.none, op := Go.Op.store 22 (Go.Operand.tmp 40) (Go.Operand.tmp 39), type := 0, pos := "text.go:64", after := #[{ on := 6, ground := Go.Ground.data }, { on := 5, ground := Go.Ground.data }, { on := 5, ground := Go.Ground.chain }, { on := 0, ground := Go.Ground.phase }, { on := 1, ground := Go.Ground.phase }, { on := 2, ground := Go.Ground.phase }, { on := 3, ground := Go.Ground.phase }, { on := 4, ground := Go.Ground.phase }, { on := 5, ground := Go.Ground.phase }], guard := Option.none }) rfl (fun K hK => ?_) AllReadyH.nil)
        obtain ⟨hz, e0, e1, e2, e3, e4, f0, f1, f2, f3, f4⟩ := locfacts HL5.out.1
        go_simp
        clear hz e0 e1 e2 e3 e4 f0 f1 f2 f3 f4
        generalize hz9 : World.setCell z5 _ _ = z9
        have HL9 := Lib.hid (show LX w R M SS h3 AA DD rr2 (xs ++ [cc]) (.slice A7 (xs.length + 1) c7) z9 by rw [← hz9]; exact HL5.out.2)
        clear hz9
        refine hK.out _ _ trivial (fun hHeld2 => ?_)
        clear hK K hHeld
        have hHeld := hHeld2
        clear hHeld2
        try simp only [Act.put, List.setIfInBounds_toArray, List.set_cons_zero, List.set_cons_succ]
        refine wpAnyH_done (by kernel_rfl) ?_ _
        go_wp2_with fail
        exact ⟨⟨rr2, xs ++ [cc], _, HL9.out, HPC.out, by rw [List.length_append]; exact HLN.out, HXS.out⟩, HME.out _ HL9.out.rx.hR⟩
      · go_simp
        refine (HCL.out R _ U (HLU.out.rx.env HE.out) HLU.out.rx.hR).mono ?_
        rintro e z3 ⟨rfl, n3, rfl⟩
        go_simp
        generalize hz3 : World.setCell _ _ _ = z3
        have HL3 := Lib.hid (show LX w R M SS h3 AA DD rr2 xs v z3 by rw [← hz3]; exact (HLU.out.drewN n3).setR rr2)
        clear hz3
        refine hK.out _ _ trivial (fun hHeld2 => ?_)
        clear hK K hHeld
        have hHeld := hHeld2
        clear hHeld2
        try simp only [Act.put, List.setIfInBounds_toArray, List.set_cons_zero, List.set_cons_succ]
        refine wpAnyH_ready (rs := [1, 4]) (by kernel_rfl) (by simp) (AllReadyH.cons (o := { dst := Option.some 35, op := Go.Op.load 22 (Go.Operand.tmp 34), type := 22, pos := "text.go:64", after := #[{ on := 0, ground := Go.Ground.data }], guard := Option.none }) rfl (fun K hK => ?_) (AllReadyH.cons (o := { dst := Option.some 38, op := Go.Op.buildSlice 22 1 #[(0, Go.Operand.tmp 37)], type := 22, pos := "text.go:64", after := #[{ on := 3, ground := Go.Ground.data }], guard := Option.none }) rfl (fun K hK => ?_) AllReadyH.nil))
        · have hc := cell_row (j := 3) HL3.out.mm
          have hlt := row_lt HL3.out.mm
          go_simp
          clear hc hlt
          refine hK.out _ _ trivial (fun hHeld2 => ?_)
          clear hK K hHeld
          have hHeld := hHeld2
          clear hHeld2
          try simp only [Act.put, List.setIfInBounds_toArray, List.set_cons_zero, List.set_cons_succ]
          refine wpAnyH_ready (rs := [4]) (by kernel_rfl) (by simp) (AllReadyH.cons (o := { dst := Option.some 38, op := Go.Op.buildSlice 22 1 #[(0, Go.Operand.tmp 37)], type := 22, pos := "text.go:64", after := #[{ on := 3, ground := Go.Ground.data }], guard := Option.none }) rfl (fun K hK => ?_) AllReadyH.nil)
          go_simp
          generalize hz4 : World.alloc z3 _ = z4
          have b4 : Below z3.heap.size z3 z4 := by rw [← hz4]; exact below_new _ _
          have q4 := Lib.hid (show z4.heap[z3.heap.size]? = some (.cells #[.string (str cc)] 9 (0, 0)) by rw [← hz4]; exact heap_alloc_new _ _)
          have HL4 := Lib.hid (HL3.out.on b4)
          obtain ⟨B4, hB4⟩ : ∃ B4, z3.heap.size = B4 := ⟨_, rfl⟩
          rw [hB4] at q4
          try simp only [hB4]
          clear hz4 b4 hB4
          refine hK.out _ _ trivial (fun hHeld2 => ?_)
          clear hK K hHeld
          have hHeld := hHeld2
          clear hHeld2
          try simp only [Act.put, List.setIfInBounds_toArray, List.set_cons_zero, List.set_cons_succ]
          refine wpAnyH_ready (rs := [5]) (by kernel_rfl) (by simp) (AllReadyH.cons (o := { dst := Option.some 39, op := Go.Op.call { callee := Go.Callee.builtin Go.Builtin.append, args := #[Go.Operand.tmp 35, Go.Operand.tmp 38], argTypes := #[22, 22] }, type := 22, pos := "text.go:64", after := #[{ on := 1, ground := Go.Ground.data }, { on := 4, ground := Go.Ground.data }, { on := 3, ground := Go.Ground.chain }], guard := Option.none }) rfl (fun K hK => ?_) AllReadyH.nil)
          try rw [if_pos (by rfl)]
          refine wp_append_strs (.tmp 35) (.tmp 38) rfl (M + 1) v xs.length (strsV xs) rfl HL4.out.own ⟨B4, 0, none⟩ 1 1 [.string (str cc)] rfl rfl (fun j u hj => by
            have h1 := cell_row (j := j) q4.out
            rw [addr_add, Nat.zero_add, h1]
            simpa using hj) (by simp [Value.oneCell']) (by have := HLN.out; omega) HL4.out.sz ?_
          intro v7 z5 o5 g5
          have HL5 := Lib.hid (HL4.out.grown o5 g5)
          obtain ⟨A7, c7, rfl⟩ := own_sl o5
          clear o5 g5
          refine hK.out _ _ trivial (fun hHeld2 => ?_)
          clear hK K hHeld
          have hHeld := hHeld2
          clear hHeld2
          try simp only [Act.put, List.setIfInBounds_toArray, List.set_cons_zero, List.set_cons_succ]
          refine wpAnyH_take (i := 6) (oi := { dst := Option.some 40, op := Go.Op.fieldAddr 24 (Go.Operand.tmp 5) 3, type := 0, pos := "text.go:64", after := #[{ on := 0, ground := Go.Ground.phase }, { on := 1, ground := Go.Ground.phase }, { on := 2, ground := Go.Ground.phase }, { on := 3, ground := Go.Ground.phase }, { on := 4, ground := Go.Ground.phase }, { on := 5, ground := Go.Ground.phase }], guard := Option.none }) (v := ?_) rfl (by kernel_rfl) (by kernel_rfl) (by kernel_rfl) (fun _ _ _ h => h) (Or.inl ⟨by rfl, ?_⟩) hHeld ?_
          rotate_left
          · intro w hSw
            clear hSw
            go_simp
            try with_reducible rfl
          try simp only [Act.put, List.setIfInBounds_toArray, List.set_cons_zero, List.set_cons_succ]
          refine wpAnyH_ready (rs := [7]) (by kernel_rfl) (by simp) (AllReadyH.cons (o := { dst := Option.none, op := Go.Op.store 22 (Go.Operand.tmp 40) (Go.Operand.tmp 39), type := 0, pos := "text.go:64", after := #[{ on := 6, ground := Go.Ground.data }, { on := 5, ground := Go.Ground.data }, { on := 5, ground := Go.Ground.chain }, { on := 0, ground := Go.Ground.phase }, { on := 1, ground := Go.Ground.phase }, { on := 2, ground := Go.Ground.phase }, { on := 3, ground := Go.Ground.phase }, { on := 4, ground := Go.Ground.phase }, { on := 5, ground := Go.Ground.phase }], guard := Option.none }) rfl (fun K hK => ?_) AllReadyH.nil)
          obtain ⟨hz, e0, e1, e2, e3, e4, f0, f1, f2, f3, f4⟩ := locfacts HL5.out.1
          go_simp
          clear hz e0 e1 e2 e3 e4 f0 f1 f2 f3 f4
          generalize hz9 : World.setCell z5 _ _ = z9
          have HL9 := Lib.hid (show LX w R M SS h3 AA DD rr2 (xs ++ [cc]) (.slice A7 (xs.length + 1) c7) z9 by rw [← hz9]; exact HL5.out.2)
          clear hz9
          refine hK.out _ _ trivial (fun hHeld2 => ?_)
          clear hK K hHeld
          have hHeld := hHeld2
          clear hHeld2
          try simp only [Act.put, List.setIfInBounds_toArray, List.set_cons_zero, List.set_cons_succ]
          refine wpAnyH_done (by kernel_rfl) ?_ _
          go_wp2_with fail
          exact ⟨⟨rr2, xs ++ [cc], _, HL9.out, HPC.out, by rw [List.length_append]; exact HLN.out, HXS.out⟩, HME.out _ HL9.out.rx.hR⟩
        · go_simp
          generalize hz4 : World.alloc z3 _ = z4
          have b4 : Below z3.heap.size z3 z4 := by rw [← hz4]; exact below_new _ _
          have q4 := Lib.hid (show z4.heap[z3.heap.size]? = some (.cells #[.string (str cc)] 9 (0, 0)) by rw [← hz4]; exact heap_alloc_new _ _)
          have HL4 := Lib.hid (HL3.out.on b4)
          obtain ⟨B4, hB4⟩ : ∃ B4, z3.heap.size = B4 := ⟨_, rfl⟩
          rw [hB4] at q4
          try simp only [hB4]
          clear hz4 b4 hB4
          refine hK.out _ _ trivial (fun hHeld2 => ?_)
          clear hK K hHeld
          have hHeld := hHeld2
          clear hHeld2
          try simp only [Act.put, List.setIfInBounds_toArray, List.set_cons_zero, List.set_cons_succ]
          refine wpAnyH_ready (rs := [1]) (by kernel_rfl) (by simp) (AllReadyH.cons (o := { dst := Option.some 35, op := Go.Op.load 22 (Go.Operand.tmp 34), type := 22, pos := "text.go:64", after := #[{ on := 0, ground := Go.Ground.data }], guard := Option.none }) rfl (fun K hK => ?_) AllReadyH.nil)
          have hc := cell_row (j := 3) HL4.out.mm
          have hlt := row_lt HL4.out.mm
          go_simp
          clear hc hlt
          refine hK.out _ _ trivial (fun hHeld2 => ?_)
          clear hK K hHeld
          have hHeld := hHeld2
          clear hHeld2
          try simp only [Act.put, List.setIfInBounds_toArray, List.set_cons_zero, List.set_cons_succ]
          refine wpAnyH_ready (rs := [5]) (by kernel_rfl) (by simp) (AllReadyH.cons (o := { dst := Option.some 39, op := Go.Op.call { callee := Go.Callee.builtin Go.Builtin.append, args := #[Go.Operand.tmp 35, Go.Operand.tmp 38], argTypes := #[22, 22] }, type := 22, pos := "text.go:64", after := #[{ on := 1, ground := Go.Ground.data }, { on := 4, ground := Go.Ground.data }, { on := 3, ground := Go.Ground.chain }], guard := Option.none }) rfl (fun K hK => ?_) AllReadyH.nil)
          try rw [if_pos (by rfl)]
          refine wp_append_strs (.tmp 35) (.tmp 38) rfl (M + 1) v xs.length (strsV xs) rfl HL4.out.own ⟨B4, 0, none⟩ 1 1 [.string (str cc)] rfl rfl (fun j u hj => by
            have h1 := cell_row (j := j) q4.out
            rw [addr_add, Nat.zero_add, h1]
            simpa using hj) (by simp [Value.oneCell']) (by have := HLN.out; omega) HL4.out.sz ?_
          intro v7 z5 o5 g5
          have HL5 := Lib.hid (HL4.out.grown o5 g5)
          obtain ⟨A7, c7, rfl⟩ := own_sl o5
          clear o5 g5
          refine hK.out _ _ trivial (fun hHeld2 => ?_)
          clear hK K hHeld
          have hHeld := hHeld2
          clear hHeld2
          try simp only [Act.put, List.setIfInBounds_toArray, List.set_cons_zero, List.set_cons_succ]
          refine wpAnyH_take (i := 6) (oi := { dst := Option.some 40, op := Go.Op.fieldAddr 24 (Go.Operand.tmp 5) 3, type := 0, pos := "text.go:64", after := #[{ on := 0, ground := Go.Ground.phase }, { on := 1, ground := Go.Ground.phase }, { on := 2, ground := Go.Ground.phase }, { on := 3, ground := Go.Ground.phase }, { on := 4, ground := Go.Ground.phase }, { on := 5, ground := Go.Ground.phase }], guard := Option.none }) (v := ?_) rfl (by kernel_rfl) (by kernel_rfl) (by kernel_rfl) (fun _ _ _ h => h) (Or.inl ⟨by rfl, ?_⟩) hHeld ?_
          rotate_left
          · intro w hSw
            clear hSw
            go_simp
            try with_reducible rfl
          try simp only [Act.put, List.setIfInBounds_toArray, List.set_cons_zero, List.set_cons_succ]
          refine wpAnyH_ready (rs := [7]) (by kernel_rfl) (by simp) (AllReadyH.cons (o := { dst := Option.none, op := Go.Op.store 22 (Go.Operand.tmp 40) (Go.Operand.tmp 39), type := 0, pos := "text.go:64", after := #[{ on := 6, ground := Go.Ground.data }, { on := 5, ground := Go.Ground.data }, { on := 5, ground := Go.Ground.chain }, { on := 0, ground := Go.Ground.phase }, { on := 1, ground := Go.Ground.phase }, { on := 2, ground := Go.Ground.phase }, { on := 3, ground := Go.Ground.phase }, { on := 4, ground := Go.Ground.phase }, { on := 5, ground := Go.Ground.phase }], guard := Option.none }) rfl (fun K hK => ?_) AllReadyH.nil)
          obtain ⟨hz, e0, e1, e2, e3, e4, f0, f1, f2, f3, f4⟩ := locfacts HL5.out.1
          go_simp
          clear hz e0 e1 e2 e3 e4 f0 f1 f2 f3 f4
          generalize hz9 : World.setCell z5 _ _ = z9
          have HL9 := Lib.hid (show LX w R M SS h3 AA DD rr2 (xs ++ [cc]) (.slice A7 (xs.length + 1) c7) z9 by rw [← hz9]; exact HL5.out.2)
          clear hz9
          refine hK.out _ _ trivial (fun hHeld2 => ?_)
          clear hK K hHeld
          have hHeld := hHeld2
          clear hHeld2
          try simp only [Act.put, List.setIfInBounds_toArray, List.set_cons_zero, List.set_cons_succ]
          refine wpAnyH_done (by kernel_rfl) ?_ _
          go_wp2_with fail
          exact ⟨⟨rr2, xs ++ [cc], _, HL9.out, HPC.out, by rw [List.length_append]; exact HLN.out, HXS.out⟩, HME.out _ HL9.out.rx.hR⟩
      -- END ROUND
end Go.Proofs.YthagoafcphaadaaDoor
