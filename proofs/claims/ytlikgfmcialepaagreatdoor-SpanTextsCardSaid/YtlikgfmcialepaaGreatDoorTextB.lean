/-
  THE WALKS over the strings of package number: groups of 16 bits.
-/
import Derived.Test.YtlikgfmcialepaaGreatDoorTextA
namespace Go.Proofs.YtlikgfmcialepaaGreatDoor
open Go.RowKit Adr
variable {fl : Bool}
/-- the eight groups -/
def gs (H L : Nat) : List Nat := [H / 281474976710656 % 65536, H / 4294967296 % 65536, H / 65536 % 65536, H % 65536, L / 281474976710656 % 65536, L / 4294967296 % 65536, L / 65536 % 65536, L % 65536]
theorem u16w (x : Nat) : IntKind.u16.wrap (x : Int) = ((x % 65536 : Nat) : Int) := by
  simp only [IntKind.wrap, IntKind.signed, IntKind.bits]
  simp
set_option maxRecDepth 100000 in
set_option maxHeartbeats 2000000 in
theorem divide_any (H L : Nat) (w : World) :
    Calls Tryz.prog 24 #[.agg #[.int .u64 H, .int .u64 L]] w fun e w' => e = .returned (.agg #[.int .u16 ((H / 281474976710656 % 65536 : Nat) : Int), .int .u16 ((H / 4294967296 % 65536 : Nat) : Int), .int .u16 ((H / 65536 % 65536 : Nat) : Int), .int .u16 ((H % 65536 : Nat) : Int), .int .u16 ((L / 281474976710656 % 65536 : Nat) : Int), .int .u16 ((L / 4294967296 % 65536 : Nat) : Int), .int .u16 ((L / 65536 % 65536 : Nat) : Int), .int .u16 ((L % 65536 : Nat) : Int)]) ∧ Below w.heap.size w w' := by
  go_enter Tryz.func24, Tryz.ntmps24
  go_wp2_with fail
  refine wp_loop_rounds 5 ?_
  iterate 5 (rw [rounds_succ]; go_wp2_with fail)
  refine bodyPost_ret (v := .agg #[.int .u16 (IntKind.u16.wrap ((H : Int) / 281474976710656)), .int .u16 (IntKind.u16.wrap ((H : Int) / 4294967296)), .int .u16 (IntKind.u16.wrap ((H : Int) / 65536)), .int .u16 (IntKind.u16.wrap (H : Int)), .int .u16 (IntKind.u16.wrap ((L : Int) / 281474976710656)), .int .u16 (IntKind.u16.wrap ((L : Int) / 4294967296)), .int .u16 (IntKind.u16.wrap ((L : Int) / 65536)), .int .u16 (IntKind.u16.wrap (L : Int))]) (by simp [results, Tryz.results24, go_sem]) rfl ⟨?_, (((Below.refl _ _).alloc (Nat.le_refl _) _).alloc (by simp) _).alloc (by simp; omega) _⟩
  have e : ∀ (x n : Nat), IntKind.u16.wrap ((x : Int) / (n : Int)) = ((x / n % 65536 : Nat) : Int) := fun x n => by rw [← Int.natCast_ediv, u16w]
  rw [show (281474976710656 : Int) = ((281474976710656 : Nat) : Int) from rfl, show (4294967296 : Int) = ((4294967296 : Nat) : Int) from rfl, show (65536 : Int) = ((65536 : Nat) : Int) from rfl]
  simp only [e, u16w]
theorem Tryz.info_string : (Tryz.prog.info? 9).map (fun i => (i.zero, i.size, i.bytes)) = some (some (.string ⟨#[]⟩), 1, 16) := by kernel_rfl
/-- groups with colons between them -/
def colS (zs : List Nat) : List UInt8 := Lib.join (zs.map hex4) [58]
theorem own_step' {B : Nat} {w wr w1 : World} {o : Obj} {e size n : Nat} {v : Value} {xs : List Value} (hown : wr.ownsRow B e size v n xs) (hg : (wr.alloc o).grownBy w1 v.ownBlock) (hbel : Below B w wr) (hsz : B ≤ wr.heap.size) :
    Below B w w1 ∧ B ≤ w1.heap.size := by
  have hlt := hown.lt
  have h1 : Below B w (wr.alloc o) := hbel.alloc hsz o
  refine ⟨h1.grown hg (by simp; omega) (fun k hk => (hlt k hk).1), ?_⟩
  have := hg.size
  simp at this
  omega
/-- a row of strings of the call's own, opened -/
theorem own_strs {w : World} {base : Nat} {e : TypeId} {v : Value} {n : Nat} {xs : List ByteArray} (h : w.ownsRow base e 1 v n (xs.map Value.string)) (hn : 0 < n) :
    ∃ g cap, v = .slice (some ⟨g, 0, none⟩) n cap ∧ base ≤ g ∧ g < w.heap.size ∧ n ≤ cap ∧ cap ≤ maxLen ∧ (∀ (j : Nat) (x : ByteArray), xs[j]? = some x → w.cell? ⟨g, 0 + j, none⟩ = some (.string x)) ∧ xs.length = n := by
  obtain ⟨hl, h | ⟨g, cap, cur, rfl, hb, hg, hnc, hcm, hcs, ht⟩⟩ := h
  · omega
  · have hlt : g < w.heap.size := by
      have := hg
      rw [Array.getElem?_eq_some_iff] at this
      exact this.1
    have hxl : xs.length = n := by simpa using hl
    refine ⟨g, cap, rfl, hb, hlt, hnc, hcm, fun j x hj => ?_, hxl⟩
    have hjn : j < n := by have := (List.getElem?_eq_some_iff.1 hj).1; omega
    have h1 : cur.toList[j]? = some (.string x) := by
      have h2 : (cur.toList.take (n * 1))[j]? = cur.toList[j]? := by rw [List.getElem?_take]; rw [if_pos (by omega)]
      rw [← h2, ht, List.getElem?_map, hj]
      rfl
    simp only [World.cell?, hg]
    simpa using h1
theorem hex4_len (u : Nat) : (hex4 u).length ≤ 4 := by
  unfold hex4
  split
  · simp
  · split
    · simp
    · split <;> simp
theorem join_len : ∀ (zs : List Nat), (Lib.join (zs.map hex4) [58]).length ≤ 5 * zs.length
  | [] => by simp [Lib.join]
  | [a] => by have := hex4_len a; simp [Lib.join]; omega
  | a :: b :: r => by
    have ih := join_len (b :: r)
    have := hex4_len a
    simp only [Lib.join, List.map_cons, List.length_cons] at ih ⊢
    rw [List.intercalate_cons_cons]
    simp only [List.length_append, List.length_cons, List.length_nil]
    omega
theorem col_list (zs : List Nat) : ((zs.map fun z => str (hex4 z)).map fun x => x.data.toList) = zs.map hex4 := by
  simp [str, Function.comp_def]
set_option maxHeartbeats 1000000 in
theorem col_any (b off n cap : Nat) (zs : List Nat) (w : World) (env : Env fl w) (hzl : zs.length = n) (hn : n ≤ 8) (hz : ∀ z ∈ zs, z < 65536) (hb : b < w.heap.size)
    (hc : ∀ j, j < n → w.cell? ⟨b, off + j, none⟩ = some (.int .u16 ((zs.getD j 0 : Nat) : Int))) :
    Calls Tryz.prog 53 #[.slice (some ⟨b, off, none⟩) n cap] w fun e w' => e = .returned (.string (str (colS zs))) ∧ Below w.heap.size w w' := by
  have hG := env.big
  have HE := Lib.hid env
  have HC := Lib.hid hc
  have HZ := Lib.hid hz
  have HZL := Lib.hid hzl
  clear env hc hz hzl
  obtain ⟨i0, hi, hz0, hz1, hz2⟩ := info_parts Tryz.info_string
  go_enter Tryz.func53, Tryz.ntmps53
  go_wp2_with fail
  go_loopw [3, 8] (fun v i wr => ∃ k : Nat, k ≤ n ∧ i = .int .i64 k ∧ Below w.heap.size w wr ∧ w.heap.size ≤ wr.heap.size ∧ wr.ownsRow w.heap.size 9 1 v k (((zs.take k).map fun z => str (hex4 z)).map Value.string)) (fun _ i _ => n - (intOf i).toNat)
  case atStart => exact ⟨0, Nat.zero_le _, rfl, Below.refl _ _, Nat.le_refl _, by simpa using World.ownsRow_nil _ _ _ _⟩
  case round =>
    obtain ⟨k, hk, rfl, hbel, hsz, hown⟩ := hrel
    have HB := Lib.hid hbel
    clear hbel
    by_cases hlt : k < n
    · have hck : wr.cell? ⟨b, off + k, none⟩ = some (.int .u16 ((zs.getD k 0 : Nat) : Int)) := (HB.out.cell (p := ⟨b, off + k, none⟩) hb).trans (HC.out k hlt)
      obtain ⟨z, hzk⟩ : ∃ z : Nat, zs.getD k 0 = z := ⟨_, rfl⟩
      rw [hzk] at hck
      have hz65 : z < 65536 := by
        have : zs.getD k 0 ∈ zs := by
          have hl : k < zs.length := by have := HZL.out; omega
          simp [List.getD, List.getElem?_eq_getElem hl]
        have := HZ.out _ this
        omega
      have HZK := Lib.hid hzk
      have H65 := Lib.hid hz65
      have hwz : IntKind.u64.wrap (z : Int) = (z : Int) := wrap_u64 ⟨by omega, by omega⟩
      have HO := Lib.hid hown
      clear hzk hz65 hown
      obtain ⟨x, hx⟩ : ∃ x, str (hex4 z) = x := ⟨_, rfl⟩
      have hfu := fu16 z wr (by omega) (HE.out.below HB.out hG).tz H65.out
      rw [show (⟨(hex4 z).toArray⟩ : ByteArray) = x from hx] at hfu
      have HFU := Lib.hid hfu
      have HX := Lib.hid hx
      clear hx hfu
      go_wp2_with fail
      refine HFU.out.mono ?_
      rintro e w3 ⟨rfl, hb3⟩
      have hown3 : w3.ownsRow w.heap.size 9 1 u3 k (((zs.take k).map fun z => str (hex4 z)).map Value.string) := HO.out.kept (row := none) ⟨hb3.os, hb3.tape, hb3.output, hb3.size, fun j hj _ => hb3.block j hj⟩ (by cases u3.ownBlock <;> simp)
      have HO3 := Lib.hid hown3
      have hsz3 : w.heap.size ≤ w3.heap.size := by have := hb3.size; omega
      have HB3 := Lib.hid (HB.out.trans (hb3.mono hsz))
      clear hown3
      obtain ⟨ys, hys⟩ : ∃ ys, ((zs.take k).map fun z => str (hex4 z)).map Value.string = ys := ⟨_, rfl⟩
      rw [hys] at HO3
      have HY := Lib.hid hys
      clear hys
      go_wp2_with (at_builtin; refine wpList_append_own _ rfl _ _ 83 rfl w.heap.size 9 i0 (.string ⟨#[]⟩) 1 16 Tryz.underlying83 hi hz0 hz1 hz2 rfl (by decide) _ _ _ rfl (HO3.out.alloc _) ⟨w3.heap.size, 0, none⟩ 1 1 [.string x] rfl rfl ?c1 ?c2 ?c3 ?c4 ?c5 ?_; rotate_left 5; intro v' w4 hown4 hgrow4 _)
      case c1 => exact cell_one_new _ _ _
      case c2 => simp [Value.oneCell']
      case c3 => unfold maxLen; omega
      case c4 => omega
      case c5 => simp; omega
      obtain ⟨g1, g2⟩ := own_step' HO3.out hgrow4 HB3.out hsz3
      refine ⟨⟨k + 1, by omega, by go_num, g1, g2, ?_⟩, by simp [intOf]; omega⟩
      have hl : k < zs.length := by have := HZL.out; omega
      rw [List.take_succ_eq_append_getElem hl, List.map_append, List.map_append]
      have hzz : zs[k] = z := by have := HZK.out; simpa [List.getD, List.getElem?_eq_getElem hl] using this
      rw [← HY.out, ← HX.out] at hown4
      rw [hzz]
      exact hown4
    · have ek : k = n := by omega
      subst ek
      have hZ := HZL.out
      have hzl : zs.take k = zs := List.take_of_length_le (by omega)
      rw [hzl] at hown
      have HO := Lib.hid hown
      clear hown hzl
      by_cases hk0 : k = 0
      · subst hk0
        have hz0 : zs = [] := List.eq_nil_of_length_eq_zero hZ
        obtain ⟨a, c, hv⟩ : ∃ a c, u3 = .slice a 0 c := by
          obtain ⟨_, h | ⟨g, cap, cur, h, _⟩⟩ := HO.out
          · exact ⟨none, 0, h.1⟩
          · exact ⟨_, _, h⟩
        subst hv
        have HJ := Lib.hid (Tryz.strings_Join_none a c ⟨#[58]⟩ wr)
        go_wp2_with fail
        refine HJ.out.mono ?_
        rintro e w1 ⟨rfl, rfl⟩
        go_wp2_with fail
        go_ret
        refine ⟨?_, HB.out⟩
        rw [hz0]
        rfl
      · obtain ⟨g, cap', rfl, hg1, hg2, hg3, hg4, hg5, hg6⟩ := own_strs HO.out (by omega)
        have hjn := Tryz.strings_Join g 0 cap' (zs.map fun z => str (hex4 z)) ⟨#[58]⟩ wr hg5 hg2 (by rw [hg6]; omega) (by rw [hg6]; omega) (by
          rw [col_list]
          have := join_len zs
          show (Lib.join (zs.map hex4) [58]).length ≤ _
          omega)
        rw [hg6, col_list] at hjn
        have HJ := Lib.hid hjn
        clear hjn hg5
        go_wp2_with fail
        refine HJ.out.mono ?_
        rintro e w1 ⟨rfl, hb1⟩
        go_wp2_with fail
        go_ret
        exact ⟨rfl, HB.out.trans (hb1.mono hsz)⟩
end Go.Proofs.YtlikgfmcialepaaGreatDoor
