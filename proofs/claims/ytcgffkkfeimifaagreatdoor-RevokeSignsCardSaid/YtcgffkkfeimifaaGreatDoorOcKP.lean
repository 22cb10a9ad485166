import Derived.Test.YtcgffkkfeimifaaGreatDoorOcCI
import Derived.Lib.AppendStr
import Derived.Lib.ConvBytes
import Derived.Maps.AppendAt
namespace Go.Proofs.YtcgffkkfeimifaaGreatDoor
open Go.RowKit Sha Oc
set_option linter.unusedVariables false
set_option linter.unusedSimpArgs false
def SnPost (o : Oct) (w : World) (e : Ending) (w' : World) : Prop := ∃ x y, e = .returned (.agg (cell3 o x y)) ∧ At (fun _ => True) w' o x y ∧ Below w.heap.size w w'
theorem strCells_bvals (s : ByteArray) : Lib.strCells s = bvals s.data.toList := rfl
theorem at_bytes {w : World} (t : UInt8) {b : List UInt8} {A : Option Addr} {c : Nat} (hc : b.length ≤ c) (hbm : b.length ≤ 140737488355328) (hcn : A = none → c = 0) (hs : SrcAt A b w) : At (fun _ => True) w (.mk t b []) (.slice A b.length c) (.slice none 0 0) :=
 .mk t b [] A c none 0 0 0 (fun _ => undef) (fun _ => undef) hc hbm hcn hs (fun _ _ _ _ => trivial) (Nat.le_refl _) (by decide) (fun _ => rfl) (fun h => absurd rfl h) (fun k o h => by simp at h) (fun k o h => by simp at h) (fun k o h => by simp at h) (fun k o h => by simp at h)
theorem below_bytesWorld (V : World) (s : ByteArray) : Below V.heap.size V (Lib.bytesWorld V 5 s) :=
 ⟨rfl, rfl, rfl, by rw [Lib.bytesWorld_size]; omega, fun k hk => Lib.bytesWorld_at_old V 5 s k hk⟩
theorem own_str {W : World} {base : Nat} {v : Value} {s : ByteArray} (h : W.ownsRow base 5 1 v (0 + s.size) ([] ++ Lib.strCells s)) :
  ∃ A c, v = .slice A s.data.toList.length c ∧ s.data.toList.length ≤ c ∧ (A = none → c = 0) ∧ SrcAt A s.data.toList W ∧ ∀ ga oa, A = some ⟨ga, oa, none⟩ → Rw base W ga := by
 rw [List.nil_append, Nat.zero_add, strCells_bvals s, Lib.size_eq] at h
 exact own_rd3 h
theorem str_facts {w V W : World} {A : Option Addr} {s : ByteArray} {cs : Array Value} (h0 : Below w.heap.size w V) (hr : V.heap[w.heap.size]? = some (.cells cs 68 (0, 0))) (hg : V.grownBy W (Value.ownBlock (.slice none 0 0))) (hs : SrcAt A s.data.toList W) (hw : ∀ ga oa, A = some ⟨ga, oa, none⟩ → Rw V.heap.size W ga) :
  RowKit.Hid (Below w.heap.size w W) ∧ RowKit.Hid (W.heap[w.heap.size]? = some (.cells cs 68 (0, 0))) ∧ RowKit.Hid (SrcAt A s.data.toList W ∧ ∀ ga oa, A = some ⟨ga, oa, none⟩ → ga ≠ w.heap.size) := by
 have hb1 : Below V.heap.size V W := (Below.refl _ _).grown hg (Nat.le_refl _) (fun j hj => by cases hj)
 exact ⟨Lib.hid (chain h0 hb1), Lib.hid (row_on hr hb1), Lib.hid ⟨hs, fun ga oa e => by have h1 := (hw ga oa e).1; have h2 := (Array.getElem?_eq_some_iff.1 hr).1; omega⟩⟩
set_option maxRecDepth 100000 in
set_option maxHeartbeats 4000000 in
theorem str_any (tg : UInt8) (s : ByteArray) (hsz : s.size ≤ 70000) (w : World) : Calls Tryz.prog 56 #[.int .u8 (tg.toNat : Int), .string s] w (SnPost (.mk tg s.data.toList []) w) := by
 have HL := Lib.hid (show s.data.toList.length ≤ 140737488355328 by rw [← Lib.size_eq]; omega)
 go_enter Tryz.func56, Tryz.ntmps56
 go_upto_region 1 with (fail)
 obtain ⟨V, hV, hb0, hr0⟩ : ∃ V, World.alloc w (.cells #[.int .u8 0, .slice none 0 0, .slice none 0 0] 68) = V ∧ Below w.heap.size w V ∧ V.heap[w.heap.size]? = some (.cells #[.int .u8 0, .slice none 0 0, .slice none 0 0] 68 (0, 0)) := ⟨_, rfl, below_new w _, heap_alloc_new w _⟩
 rw [hV]
 clear hV
 have HB0 := Lib.hid hb0
 have HR0 := Lib.hid hr0
 have hle0 : w.heap.size ≤ V.heap.size := hb0.size
 clear hb0 hr0
 obtain ⟨i0, hi, hz0, hz1, hz2⟩ := info_parts Tryz.info_byte
 go_wp2_with (at_builtin; refine Lib.wpList_append_own_string _ rfl (.const (.slice none 0 0)) (.tmp 6) 34 9 rfl V.heap.size 5 i0 Tryz.underlying34 Tryz.underlying9 hi hz0 hz1 hz2 (.slice none 0 0) 0 [] rfl ⟨rfl, .inl ⟨rfl, rfl⟩⟩ s rfl (by unfold maxLen; omega) (by omega) (Nat.le_refl _) ?_; intro v' W hown hg _; obtain ⟨A, c, rfl, hc, hcn, hs, hw⟩ := own_str hown; obtain ⟨HB1, HR1, HS⟩ := str_facts HB0.out HR0.out hg hs hw; obtain ⟨HC, HCN⟩ := And.intro (Lib.hid hc) (Lib.hid hcn); clear hi hz0 hz1 hz2 hown hg hs hw hc hcn; have hlt := (Array.getElem?_eq_some_iff.1 HR1.out).1; obtain ⟨⟨hf0, hf1, hf2⟩, hd0, hd1, hd2⟩ := facts3 HR1.out)
 have e9 : ∀ a b c : Value, ((W.setCell ⟨w.heap.size, 0, none⟩ a).setCell ⟨w.heap.size, 1, none⟩ b).setCell ⟨w.heap.size, 2, none⟩ c = W.setCells w.heap.size 0 [a, b, c] := fun _ _ _ => rfl
 rw [e9]
 refine bodyPost_ret (v := .agg #[.int .u8 (tg.toNat : Int), .slice A s.data.toList.length c, .slice none 0 0]) (results_cell_row rfl _ _ w.heap.size 68 _ (0, 0) _ rfl (row_setCells8 HR1.out rfl) Tryz.underlying68 rfl (sz3o _ _ _)) rfl ⟨_, _, rfl, ?_, below_setCells8 _ _ _ HB1.out (Nat.le_refl _)⟩
 exact at_bytes tg HC.out HL.out HCN.out (srcAt_set HS.out.1 HS.out.2 0 _)
set_option maxRecDepth 100000 in
set_option maxHeartbeats 4000000 in
theorem str_ref (tg : UInt8) (s : ByteArray) (hsz : s.size ≤ 70000) (w : World) : Calls Tryz.prog 88 #[.int .u8 (tg.toNat : Int), .string s] w (SnPost (.mk tg s.data.toList []) w) := by
 have HL := Lib.hid (show s.data.toList.length ≤ 140737488355328 by rw [← Lib.size_eq]; omega)
 go_enter Tryz.func88, Tryz.ntmps88
 go_upto_region 1 with (fail)
 obtain ⟨V, hV, hb0, hr0⟩ : ∃ V, World.alloc w (.cells #[.int .u8 0, .slice none 0 0, .slice none 0 0] 68) = V ∧ Below w.heap.size w V ∧ V.heap[w.heap.size]? = some (.cells #[.int .u8 0, .slice none 0 0, .slice none 0 0] 68 (0, 0)) := ⟨_, rfl, below_new w _, heap_alloc_new w _⟩
 rw [hV]
 clear hV
 have HB0 := Lib.hid hb0
 have HR0 := Lib.hid hr0
 have hle0 : w.heap.size ≤ V.heap.size := hb0.size
 clear hb0 hr0
 have hr := Lib.run_convert_string_bytes (P := Tryz.prog) V 9 34 5 s (u := .string) Tryz.underlying9 Tryz.underlying34 Tryz.underlying5
 obtain ⟨c, hc⟩ : ∃ c, grownCap V s.size 0 5 = c := ⟨_, rfl⟩
 obtain ⟨A, hA⟩ : ∃ A : Option Addr, some (⟨V.heap.size, 0, none⟩ : Addr) = A := ⟨_, rfl⟩
 have hlc : s.data.toList.length ≤ c := by rw [← hc, ← Lib.size_eq]; exact grownCap_ge V s.size 0 _
 have hcn : A = none → c = 0 := fun e => by rw [e] at hA; cases hA
 have hs : SrcAt A s.data.toList (Lib.bytesWorld V 5 s) := fun _ => ⟨V.heap.size, 0, hA.symm, fun j x hj => by
  have hjl := (List.getElem?_eq_some_iff.1 hj).1
  rw [Nat.zero_add, Lib.bytesWorld_cell V 5 s j (by rw [Lib.size_eq]; exact hjl), List.getD_eq_getElem?_getD, hj]
  rfl⟩
 have hne : ∀ ga oa, A = some ⟨ga, oa, none⟩ → ga ≠ w.heap.size := fun ga oa e => by
  rw [← hA] at e
  have e2 := congrArg Addr.block (Option.some.inj e)
  have h2 := (Array.getElem?_eq_some_iff.1 HR0.out).1
  show ga ≠ w.heap.size
  have e3 : V.heap.size = ga := e2
  omega
 have hb1 : Below V.heap.size V (Lib.bytesWorld V 5 s) := below_bytesWorld V s
 rw [hc, hA, Lib.size_eq] at hr
 generalize Lib.bytesWorld V 5 s = W at hr hs hb1
 have HB1 := Lib.hid (chain HB0.out hb1)
 have HR1 := Lib.hid (row_on HR0.out hb1)
 have HS := Lib.hid (And.intro hs hne)
 have HC := Lib.hid hlc
 have HCN := Lib.hid hcn
 clear hb1 hs hne hlc hcn hc hA
 have hlt := (Array.getElem?_eq_some_iff.1 HR1.out).1
 obtain ⟨⟨hf0, hf1, hf2⟩, hd0, hd1, hd2⟩ := facts3 HR1.out
 go_wp2_with fail
 have e9 : ∀ a b c : Value, ((W.setCell ⟨w.heap.size, 0, none⟩ a).setCell ⟨w.heap.size, 1, none⟩ b).setCell ⟨w.heap.size, 2, none⟩ c = W.setCells w.heap.size 0 [a, b, c] := fun _ _ _ => rfl
 rw [e9]
 refine bodyPost_ret (v := .agg #[.int .u8 (tg.toNat : Int), .slice A s.data.toList.length c, .slice none 0 0]) (results_cell_row rfl _ _ w.heap.size 68 _ (0, 0) _ rfl (row_setCells8 HR1.out rfl) Tryz.underlying68 rfl (sz3o _ _ _)) rfl ⟨_, _, rfl, ?_, below_setCells8 _ _ _ HB1.out (Nat.le_refl _)⟩
 exact at_bytes tg HC.out HL.out HCN.out (srcAt_set HS.out.1 HS.out.2 0 _)
end Go.Proofs.YtcgffkkfeimifaaGreatDoor
namespace Go.Proofs.YtcgffkkfeimifaaGreatDoor
open Go.RowKit Sha Oc
set_option linter.unusedVariables false
set_option linter.unusedSimpArgs false
theorem cell_one_new8 (w : World) (a : Value) (t : TypeId) : ∀ j u, ([a] : List Value)[j]? = some u → (w.alloc (.cells #[a] t)).cell? ((⟨w.heap.size, 0, none⟩ : Addr).add j) = some u := fun j u hj => by
 rw [add_eq, Nat.zero_add, cell_of_row _ _ _ _ _ _ (heap_alloc_new w _), List.getElem?_toArray]
 exact hj
theorem nb_len : ∀ (k x : Nat), x < 256 ^ k → (nb x).length ≤ k := fun k => by
 induction k with
 | zero =>
  intro x hx
  obtain rfl : x = 0 := by omega
  rw [nb_zero]
  exact Nat.zero_le _
 | succ k ih =>
  intro x hx
  by_cases h0 : x = 0
  ·
   subst h0
   rw [nb_zero]
   exact Nat.zero_le _
  ·
   have h1 := ih (x / 256) (by rw [Nat.div_lt_iff_lt_mul (by decide)]; rw [Nat.pow_succ] at hx; exact hx)
   rw [nb_pos x h0, List.length_append]
   simp
   omega
def NbPost (x : Nat) (w : World) (e : Ending) (w' : World) : Prop := ∃ v, e = .returned v ∧ w'.ownsRow w.heap.size 5 1 v (nb x).length (bvals (nb x)) ∧ Below w.heap.size w w'
set_option maxRecDepth 100000 in
set_option maxHeartbeats 4000000 in
theorem bytesof_any : ∀ (k x : Nat), x < 256 ^ k → k ≤ 8 → ∀ w : World, Calls Tryz.prog 99 #[.int .u64 (x : Int)] w (NbPost x w) := fun k => by
 induction k with
 | zero =>
  intro x hx _ w
  obtain rfl : x = 0 := by omega
  go_enter Tryz.func99, Tryz.ntmps99
  go_wp2_with fail
  go_ret
  exact ⟨_, rfl, ⟨by rw [nb_zero]; rfl, .inl ⟨rfl, by rw [nb_zero]; rfl⟩⟩, Below.refl _ _⟩
 | succ k ih =>
  intro x hx hk w
  by_cases h0 : x = 0
  ·
   subst h0
   clear ih
   go_enter Tryz.func99, Tryz.ntmps99
   go_wp2_with fail
   go_ret
   exact ⟨_, rfl, ⟨by rw [nb_zero]; rfl, .inl ⟨rfl, by rw [nb_zero]; rfl⟩⟩, Below.refl _ _⟩
  ·
   obtain ⟨i0, hi, hz0, hz1, hz2⟩ := info_parts Tryz.info_byte
   have HI := Lib.hid hi
   have hi0 : ¬ (x : Int) = 0 := by omega
   have hie : ((x : Int) == 0) = false := by simp [h0]
   have hx2 : x / 256 < 256 ^ k := by rw [Nat.div_lt_iff_lt_mul (by decide)]; rw [Nat.pow_succ] at hx; exact hx
   have h64 : x < 18446744073709551616 := by
    have h2 : (256 : Nat) ^ (k + 1) ≤ 256 ^ 8 := Nat.pow_le_pow_right (by decide) hk
    have h3 : (256 : Nat) ^ 8 = 18446744073709551616 := by decide
    omega
   have hcall := ih (x / 256) hx2 (by omega) w
   unfold NbPost at hcall
   have HC := Lib.hid hcall
   have HNB := Lib.hid (nb_pos x h0)
   have HL := Lib.hid (nb_len k (x / 256) hx2)
   obtain ⟨y, hy⟩ : ∃ y : UInt8, UInt8.ofNat (x % 256) = y := ⟨_, rfl⟩
   have hyn : ((y.toNat : Nat) : Int) = (x : Int) % 256 := by rw [← hy, u8n _ (by omega)]; omega
   rw [hy] at HNB
   have HYN := Lib.hid hyn
   have HK := Lib.hid hk
   clear hi hcall ih hx hx2 h0 hy hyn hk
   go_enter Tryz.func99, Tryz.ntmps99
   go_wp2_with fail
   refine (HC.out).mono ?_
   rintro e w1 ⟨v, rfl, hown, hb1⟩
   have HO := Lib.hid hown
   have HB := Lib.hid hb1
   have HSZ := Lib.hid hb1.size
   clear hown hb1
   go_wp2_with (at_builtin; go_loud (refine wpList_append_own_at _ rfl (.tmp 7) (.tmp 10) 34 rfl w.heap.size 5 i0 (.int .u8 0) 1 1 Tryz.underlying34 HI.out hz0 hz1 hz2 rfl (by decide) _ _ _ rfl (HO.out.alloc _) ⟨w1.heap.size, 0, none⟩ 1 1 [_] rfl rfl (cell_one_new8 _ _ _) (by simp [Value.oneCell']) (by have := HL.out; have := HK.out; unfold maxLen; omega) (by have := HL.out; have := HK.out; omega) (by have := HSZ.out; simp; omega) ?_); intro v' w5 hown5 hgrow5 _ hloc5; have HO5 := Lib.hid hown5; have HG5 := Lib.hid hgrow5; clear hown5 hgrow5 hloc5)
   go_ret
   refine ⟨_, rfl, ?_, (HB.out.alloc HSZ.out _).grown HG5.out (by have := HSZ.out; simp; omega) (fun j hj => (own_ge HO.out hj).1)⟩
   rw [HNB.out, bvals_app, List.length_append]
   have h9 := HO5.out
   rw [← HYN.out] at h9
   exact h9
set_option maxRecDepth 100000 in
set_option maxHeartbeats 4000000 in
theorem bytes_ref : ∀ (k x : Nat), x < 256 ^ k → k ≤ 8 → ∀ w : World, Calls Tryz.prog 125 #[.int .u64 (x : Int)] w (NbPost x w) := fun k => by
 induction k with
 | zero =>
  intro x hx _ w
  obtain rfl : x = 0 := by omega
  go_enter Tryz.func125, Tryz.ntmps125
  go_wp2_with fail
  go_ret
  exact ⟨_, rfl, ⟨by rw [nb_zero]; rfl, .inl ⟨rfl, by rw [nb_zero]; rfl⟩⟩, Below.refl _ _⟩
 | succ k ih =>
  intro x hx hk w
  by_cases h0 : x = 0
  ·
   subst h0
   clear ih
   go_enter Tryz.func125, Tryz.ntmps125
   go_wp2_with fail
   go_ret
   exact ⟨_, rfl, ⟨by rw [nb_zero]; rfl, .inl ⟨rfl, by rw [nb_zero]; rfl⟩⟩, Below.refl _ _⟩
  ·
   obtain ⟨i0, hi, hz0, hz1, hz2⟩ := info_parts Tryz.info_byte
   have HI := Lib.hid hi
   have hi0 : ¬ (x : Int) = 0 := by omega
   have hie : ((x : Int) == 0) = false := by simp [h0]
   have hx2 : x / 256 < 256 ^ k := by rw [Nat.div_lt_iff_lt_mul (by decide)]; rw [Nat.pow_succ] at hx; exact hx
   have h64 : x < 18446744073709551616 := by
    have h2 : (256 : Nat) ^ (k + 1) ≤ 256 ^ 8 := Nat.pow_le_pow_right (by decide) hk
    have h3 : (256 : Nat) ^ 8 = 18446744073709551616 := by decide
    omega
   have hcall := ih (x / 256) hx2 (by omega) w
   unfold NbPost at hcall
   have HC := Lib.hid hcall
   have HNB := Lib.hid (nb_pos x h0)
   have HL := Lib.hid (nb_len k (x / 256) hx2)
   obtain ⟨y, hy⟩ : ∃ y : UInt8, UInt8.ofNat (x % 256) = y := ⟨_, rfl⟩
   have hyn : ((y.toNat : Nat) : Int) = (x : Int) % 256 := by rw [← hy, u8n _ (by omega)]; omega
   rw [hy] at HNB
   have HYN := Lib.hid hyn
   have HK := Lib.hid hk
   clear hi hcall ih hx hx2 h0 hy hyn hk
   go_enter Tryz.func125, Tryz.ntmps125
   go_wp2_with fail
   refine (HC.out).mono ?_
   rintro e w1 ⟨v, rfl, hown, hb1⟩
   have HO := Lib.hid hown
   have HB := Lib.hid hb1
   have HSZ := Lib.hid hb1.size
   clear hown hb1
   go_wp2_with (at_builtin; go_loud (refine wpList_append_own_at _ rfl (.tmp 7) (.tmp 11) 34 rfl w.heap.size 5 i0 (.int .u8 0) 1 1 Tryz.underlying34 HI.out hz0 hz1 hz2 rfl (by decide) _ _ _ rfl (HO.out.alloc _) ⟨w1.heap.size, 0, none⟩ 1 1 [_] rfl rfl (cell_one_new8 _ _ _) (by simp [Value.oneCell']) (by have := HL.out; have := HK.out; unfold maxLen; omega) (by have := HL.out; have := HK.out; omega) (by have := HSZ.out; simp; omega) ?_); intro v' w5 hown5 hgrow5 _ hloc5; have HO5 := Lib.hid hown5; have HG5 := Lib.hid hgrow5; clear hown5 hgrow5 hloc5)
   go_ret
   refine ⟨_, rfl, ?_, (HB.out.alloc HSZ.out _).grown HG5.out (by have := HSZ.out; simp; omega) (fun j hj => (own_ge HO.out hj).1)⟩
   rw [HNB.out, bvals_app, List.length_append]
   have h9 := HO5.out
   rw [← HYN.out] at h9
   exact h9
set_option maxRecDepth 100000 in
set_option maxHeartbeats 4000000 in
theorem num_any (tg : UInt8) (x : Nat) (hx : x < 256 ^ 8) (w : World) : Calls Tryz.prog 57 #[.int .u8 (tg.toNat : Int), .int .u64 (x : Int)] w (SnPost (.mk tg (nb x) []) w) := by
 go_enter Tryz.func57, Tryz.ntmps57
 go_upto_region 1 with (fail)
 obtain ⟨V, hV, hb0, hr0⟩ : ∃ V, World.alloc w (.cells #[.int .u8 0, .slice none 0 0, .slice none 0 0] 68) = V ∧ Below w.heap.size w V ∧ V.heap[w.heap.size]? = some (.cells #[.int .u8 0, .slice none 0 0, .slice none 0 0] 68 (0, 0)) := ⟨_, rfl, below_new w _, heap_alloc_new w _⟩
 rw [hV]
 clear hV
 have HB0 := Lib.hid hb0
 have HR0 := Lib.hid hr0
 have hle0 : w.heap.size ≤ V.heap.size := hb0.size
 clear hb0 hr0
 have hcall := bytesof_any 8 x hx (Nat.le_refl _) V
 unfold NbPost at hcall
 have HC := Lib.hid hcall
 clear hcall
 go_wp2_with fail
 refine (HC.out).mono ?_
 rintro e W ⟨v, rfl, hown, hb1⟩
 have hlen := nb_len 8 x hx
 obtain ⟨A, c, rfl, hc, hcn, hs, hw⟩ := own_rd3 hown
 have HB1 := Lib.hid (chain HB0.out hb1)
 have HR1 := Lib.hid (row_on HR0.out hb1)
 have HS := Lib.hid (And.intro hs (fun ga oa e => show ga ≠ w.heap.size by have h1 := (hw ga oa e).1; have h2 := (Array.getElem?_eq_some_iff.1 HR0.out).1; omega))
 have HCC := Lib.hid hc
 have HCN := Lib.hid hcn
 have HL := Lib.hid (show (nb x).length ≤ 140737488355328 by omega)
 clear hown hlen hb1 hc hcn hs hw
 have hlt := (Array.getElem?_eq_some_iff.1 HR1.out).1
 obtain ⟨⟨hf0, hf1, hf2⟩, hd0, hd1, hd2⟩ := facts3 HR1.out
 go_wp2_with fail
 have e9 : ∀ a b c : Value, ((W.setCell ⟨w.heap.size, 0, none⟩ a).setCell ⟨w.heap.size, 1, none⟩ b).setCell ⟨w.heap.size, 2, none⟩ c = W.setCells w.heap.size 0 [a, b, c] := fun _ _ _ => rfl
 rw [e9]
 refine bodyPost_ret (v := .agg #[.int .u8 (tg.toNat : Int), .slice A (nb x).length c, .slice none 0 0]) (results_cell_row rfl _ _ w.heap.size 68 _ (0, 0) _ rfl (row_setCells8 HR1.out rfl) Tryz.underlying68 rfl (sz3o _ _ _)) rfl ⟨_, _, rfl, ?_, below_setCells8 _ _ _ HB1.out (Nat.le_refl _)⟩
 exact at_bytes tg HCC.out HL.out HCN.out (srcAt_set HS.out.1 HS.out.2 0 _)
set_option maxRecDepth 100000 in
set_option maxHeartbeats 4000000 in
theorem num_ref (tg : UInt8) (x : Nat) (hx : x < 256 ^ 8) (w : World) : Calls Tryz.prog 86 #[.int .u8 (tg.toNat : Int), .int .u64 (x : Int)] w (SnPost (.mk tg (nb x) []) w) := by
 go_enter Tryz.func86, Tryz.ntmps86
 go_upto_region 1 with (fail)
 obtain ⟨V, hV, hb0, hr0⟩ : ∃ V, World.alloc w (.cells #[.int .u8 0, .slice none 0 0, .slice none 0 0] 68) = V ∧ Below w.heap.size w V ∧ V.heap[w.heap.size]? = some (.cells #[.int .u8 0, .slice none 0 0, .slice none 0 0] 68 (0, 0)) := ⟨_, rfl, below_new w _, heap_alloc_new w _⟩
 rw [hV]
 clear hV
 have HB0 := Lib.hid hb0
 have HR0 := Lib.hid hr0
 have hle0 : w.heap.size ≤ V.heap.size := hb0.size
 clear hb0 hr0
 have hcall := bytes_ref 8 x hx (Nat.le_refl _) V
 unfold NbPost at hcall
 have HC := Lib.hid hcall
 clear hcall
 go_wp2_with fail
 refine (HC.out).mono ?_
 rintro e W ⟨v, rfl, hown, hb1⟩
 have hlen := nb_len 8 x hx
 obtain ⟨A, c, rfl, hc, hcn, hs, hw⟩ := own_rd3 hown
 have HB1 := Lib.hid (chain HB0.out hb1)
 have HR1 := Lib.hid (row_on HR0.out hb1)
 have HS := Lib.hid (And.intro hs (fun ga oa e => show ga ≠ w.heap.size by have h1 := (hw ga oa e).1; have h2 := (Array.getElem?_eq_some_iff.1 HR0.out).1; omega))
 have HCC := Lib.hid hc
 have HCN := Lib.hid hcn
 have HL := Lib.hid (show (nb x).length ≤ 140737488355328 by omega)
 clear hown hlen hb1 hc hcn hs hw
 have hlt := (Array.getElem?_eq_some_iff.1 HR1.out).1
 obtain ⟨⟨hf0, hf1, hf2⟩, hd0, hd1, hd2⟩ := facts3 HR1.out
 go_wp2_with fail
 have e9 : ∀ a b c : Value, ((W.setCell ⟨w.heap.size, 0, none⟩ a).setCell ⟨w.heap.size, 1, none⟩ b).setCell ⟨w.heap.size, 2, none⟩ c = W.setCells w.heap.size 0 [a, b, c] := fun _ _ _ => rfl
 rw [e9]
 refine bodyPost_ret (v := .agg #[.int .u8 (tg.toNat : Int), .slice A (nb x).length c, .slice none 0 0]) (results_cell_row rfl _ _ w.heap.size 68 _ (0, 0) _ rfl (row_setCells8 HR1.out rfl) Tryz.underlying68 rfl (sz3o _ _ _)) rfl ⟨_, _, rfl, ?_, below_setCells8 _ _ _ HB1.out (Nat.le_refl _)⟩
 exact at_bytes tg HCC.out HL.out HCN.out (srcAt_set HS.out.1 HS.out.2 0 _)
end Go.Proofs.YtcgffkkfeimifaaGreatDoor
namespace Go.Proofs.YtcgffkkfeimifaaGreatDoor
open Go.RowKit Sha Oc
set_option linter.unusedVariables false
set_option linter.unusedSimpArgs false
set_option maxRecDepth 100000 in
set_option maxHeartbeats 4000000 in
theorem seq_any (tg : UInt8) (l : List Oct) (hll : l.length ≤ 5000) (hT : ∀ o ∈ l, cnt o ≤ 5000 ∧ tot o ≤ 100000) (B : Option Addr) (d g off : Nat) (vb vl : Nat → Value) (w : World) (he : Els w B l g off vb vl) : Calls Tryz.prog 29 #[.int .u8 (tg.toNat : Int), .slice B l.length d] w (TwPost (.mk tg [] l) w) := by
 have HT := Lib.hid (fun (V : World) (hb : Below w.heap.size w V) => twins_of l hll (fun k o ho V x y hat => twin_all 5000 o (hT o (List.mem_of_getElem? ho)).1 (Nat.le_refl _) (hT o (List.mem_of_getElem? ho)).2 V x y hat) B d g off vb vl V (he.on hb))
 unfold TwsPost at HT
 have HL := Lib.hid hll
 clear hT he hll
 go_enter Tryz.func29, Tryz.ntmps29
 go_upto_region 1 with (fail)
 obtain ⟨V, hV, hb0, hr0⟩ : ∃ V, World.alloc w (.cells #[.int .u8 0, .slice none 0 0, .slice none 0 0] 68) = V ∧ Below w.heap.size w V ∧ V.heap[w.heap.size]? = some (.cells #[.int .u8 0, .slice none 0 0, .slice none 0 0] 68 (0, 0)) := ⟨_, rfl, below_new w _, heap_alloc_new w _⟩
 rw [hV]
 clear hV
 have HB0 := Lib.hid hb0
 have HR0 := Lib.hid hr0
 have hle0 : w.heap.size ≤ V.heap.size := hb0.size
 clear hb0 hr0

 go_wp2_with fail
 refine (HT.out V HB0.out).mono ?_
 rintro e W ⟨v, ts, rfl, hts, hown, hels, hb1⟩
 have HB1 := Lib.hid (chain HB0.out hb1)
 have HR1 := Lib.hid (row_on HR0.out hb1)
 have HLV : RowKit.Hid (w.heap.size < V.heap.size) := Lib.hid (Array.getElem?_eq_some_iff.1 HR0.out).1
 have htl : ts.length = l.length := by rw [← hts, List.length_map]
 rw [← htl] at hown
 obtain ⟨B2, d2, rfl, hat⟩ := at_of_rows tg (b := []) (A := none) (c := 0) hown hels (by rw [htl]; have := HL.out; omega) (Nat.le_refl _) (by decide) (fun _ => rfl) (fun h => absurd rfl h) (fun _ _ _ h => absurd rfl h)
 rw [hts] at hat
 rw [htl] at hat ⊢
 have HAT := Lib.hid hat
 clear hts hown hels hb1 htl hat
 have hlt := (Array.getElem?_eq_some_iff.1 HR1.out).1
 obtain ⟨⟨hf0, hf1, hf2⟩, hd0, hd1, hd2⟩ := facts3 HR1.out
 go_wp2_with fail
 have e9 : ∀ a b c : Value, ((W.setCell ⟨w.heap.size, 0, none⟩ a).setCell ⟨w.heap.size, 1, none⟩ b).setCell ⟨w.heap.size, 2, none⟩ c = W.setCells w.heap.size 0 [a, b, c] := fun _ _ _ => rfl
 rw [e9]
 refine bodyPost_ret (v := .agg #[.int .u8 (tg.toNat : Int), .slice none 0 0, .slice B2 l.length d2]) (results_cell_row rfl _ _ w.heap.size 68 _ (0, 0) _ rfl (row_setCells8 HR1.out rfl) Tryz.underlying68 rfl (sz3o _ _ _)) rfl ⟨_, _, rfl, at_setCells HAT.out HLV.out (by have := HLV.out; omega) _ _, below_setCells8 _ _ _ HB1.out (Nat.le_refl _)⟩
set_option maxRecDepth 100000 in
set_option maxHeartbeats 8000000 in
theorem seq_ref (t : UInt8) (l : List Oct) (hll : l.length ≤ 5000) (hT : ∀ o ∈ l, cnt o ≤ 5000 ∧ tot o ≤ 100000) (B : Option Addr) (d g off : Nat) (vb vl : Nat → Value) (w : World) (he : Els w B l g off vb vl) : Calls Tryz.prog 87 #[.int .u8 (t.toNat : Int), .slice B l.length d] w (TwPost (.mk t [] l) w) := by
 have HTT : RowKit.Hid (∀ (k : Nat) (o : Oct), l[k]? = some o → ∀ (V : World) (x y : Value), At (fun _ => True) V o x y → Calls Tryz.prog 126 #[.agg (cell3 o x y)] V (TwPost o V)) := Lib.hid (fun k o ho V x y hat => twin_ref8 5000 o (hT o (List.mem_of_getElem? ho)).1 (Nat.le_refl _) (hT o (List.mem_of_getElem? ho)).2 V x y hat)
 have HE := Lib.hid he
 have HL := Lib.hid hll
 clear hT he hll
 go_enter Tryz.func87, Tryz.ntmps87
 go_upto_region 1 with (fail)
 obtain ⟨V, hV, hb0, hr0⟩ : ∃ V, World.alloc w (.cells #[.int .u8 0, .slice none 0 0, .slice none 0 0] 68) = V ∧ Below w.heap.size w V ∧ V.heap[w.heap.size]? = some (.cells #[.int .u8 0, .slice none 0 0, .slice none 0 0] 68 (0, 0)) := ⟨_, rfl, below_new w _, heap_alloc_new w _⟩
 rw [hV]
 clear hV
 have HB0 := Lib.hid hb0
 have HR0 := Lib.hid hr0
 have hle0 : w.heap.size ≤ V.heap.size := hb0.size
 clear hb0 hr0

 obtain ⟨U, hU⟩ : ∃ U, V = U := ⟨_, rfl⟩
 subst hU
 have HWU := HB0
 have HRR := HR0
 have HLE : RowKit.Hid (w.heap.size < V.heap.size) := Lib.hid (Array.getElem?_eq_some_iff.1 HRR.out).1
 go_cut [5] (fun s3 wx => ∃ SB : Nat, s3 = .pointer (some ⟨SB, 0, none⟩) ∧ V.heap.size ≤ SB ∧ wx.heap[SB]? = some (.cells #[.int .u8 (t.toNat : Int), .slice none 0 0, .slice none 0 0] 68 (0, 0)) ∧ Below V.heap.size V wx)
 case first =>
  go_wp2_with fail
  go_meet
  exact ⟨_, rfl, Nat.le_refl _, heap_alloc_new V _, below_new _ _⟩
 case rest =>
  obtain ⟨SB, rfl, hle9, hr9, hb9⟩ := hcut
  obtain ⟨U, hU⟩ : ∃ U, V = U := ⟨_, rfl⟩
  rw [hU] at HWU HRR HLE HB0 HR0 hle0 hle9 hb9
  obtain ⟨W1, hW1⟩ : ∃ W1, wc = W1 := ⟨_, rfl⟩
  subst hW1
  clear hU
  have HB9 := Lib.hid hb9
  have HSB0 : RowKit.Hid (U.heap.size ≤ SB) := Lib.hid hle9
  have HW01 : RowKit.Hid (U.heap.size ≤ wc.heap.size) := Lib.hid hb9.size
  have HTX : RowKit.Hid (TX wc SB (.int .u8 (t.toNat : Int)) (.slice none 0 0) [] none 0 0 wc) := Lib.hid ⟨rfl, rfl, rfl, Nat.le_refl _, fun _ _ _ => rfl, (Array.getElem?_eq_some_iff.1 hr9).1, hr9, mk_none _ _⟩
  obtain ⟨n, hn⟩ : ∃ n, l.length = n := ⟨_, rfl⟩
  have HN := Lib.hid hn
  rw [hn] at HL
  try simp only [hn]
  clear hle9 hr9 hb9 hn
  go_wp2_with fail
  go_loopw [6] (fun i wr => ∃ (k : Nat) (ts : List (Oct × Value × Value)) (PB : Option Addr) (pd : Nat), k ≤ n ∧ i = .int .i64 (k : Int) ∧ RowKit.Hid (ts.map (·.1) = l.take k) ∧ RowKit.Hid (TX wc SB (.int .u8 (t.toNat : Int)) (.slice none 0 0) ts PB pd k wr)) (fun i _ => n - (intOf i).toNat)
  case atStart => exact ⟨0, [], none, 0, by omega, rfl, Lib.hid (by simp), HTX⟩
  case round =>
   clear HTX
   obtain ⟨k, ts, PB, pd, hk, rfl, HM, HTX⟩ := hrel
   have HBR : RowKit.Hid (Below U.heap.size U wr) := Lib.hid (HTX.out.below HB9.out HW01.out HSB0.out)
   by_cases hlt : k < n
   ·
    have hki : (k : Int) < (n : Int) := by omega
    have hh5 := HL.out
    obtain ⟨o, ho⟩ : ∃ o, l[k]? = some o := ⟨_, List.getElem?_eq_getElem (by rw [HN.out]; exact hlt)⟩
    have hne : l ≠ [] := fun e => by rw [e] at ho; simp at ho
    have hBB := HE.out.hB hne
    subst hBB
    have hbw : Below w.heap.size w wr := chain HWU.out HBR.out
    have hew := HE.out.on hbw
    have hc0 := hew.h0 k o ho
    have hc1 := hew.h1 k o ho
    have hc2 := hew.h2 k o ho
    have hat := hew.hr k o ho
    obtain ⟨A1, m1, c1, B1, n1, d1, e1, e2⟩ := hat.slices
    rw [e1] at hc1 hat
    rw [e2] at hc2 hat
    have hcg : g < wr.heap.size := World.block_lt_of_cell? _ _ hc0
    have hrg : wr.rangeAt g (off + k * 3) [Value.int .u8 ((tagO o).toNat : Int), .slice A1 m1 c1, .slice B1 n1 d1] := range3o hc0 hc1 hc2
    have hgw : g < w.heap.size := World.block_lt_of_cell? _ _ (HE.out.h0 k o ho)
    have HRG0 : RowKit.Hid (w.rangeAt g (off + k * 3) [Value.int .u8 ((tagO o).toNat : Int), .slice A1 m1 c1, .slice B1 n1 d1]) := Lib.hid (fun j v hj => by
     have h1 := hrg j v hj
     rw [hbw.cell (p := ⟨g, off + k * 3 + j, none⟩) hgw] at h1
     exact h1)
    have HGW := Lib.hid hgw
    have hcall := fun (V : World) (hb : Below wr.heap.size wr V) => HTT.out k o ho V _ _ (hat.on hb)
    unfold TwPost at hcall
    have HTK : RowKit.Hid (l.take (k + 1) = l.take k ++ [o]) := Lib.hid (by rw [List.take_add_one, ho]; rfl)
    have HLT := Lib.hid hlt
    obtain ⟨W0, hW0⟩ : ∃ W0, U = W0 := ⟨_, rfl⟩
    rw [hW0] at HWU HRR HLE HBR HSB0 HW01 HB9
    clear hne hew hat ho e1 e2 hc0 hc1 hc2 hcg hrg hgw hbw hW0
    go_wp2_with fail
    obtain ⟨U, hU⟩ : ∃ U, wr.drew = U := ⟨_, rfl⟩
    have hbU : Below wr.heap.size wr U := by rw [← hU]; exact (Below.refl _ _).drew
    have HSU := Lib.hid (HTX.out.on hbU)
    have HBU := Lib.hid (chain HBR.out hbU)
    have hcall2 := fun (V : World) (hb : Below U.heap.size U V) => hcall V (chain hbU hb)
    have HCALL := Lib.hid hcall2
    have mkS : ∀ z, Below W0.heap.size W0 z → z.rangeAt g (off + k * 3) [Value.int .u8 ((tagO o).toNat : Int), .slice A1 m1 c1, .slice B1 n1 d1] := fun z hz => fun j v hj => by
     rw [(chain HWU.out hz).cell (p := ⟨g, off + k * 3 + j, none⟩) HGW.out]
     exact HRG0.out j v hj
    have hS0 : wr.drew.rangeAt g (off + k * 3) [Value.int .u8 ((tagO o).toNat : Int), .slice A1 m1 c1, .slice B1 n1 d1] := by rw [hU]; exact mkS _ HBU.out
    clear hbU hcall hcall2 HTX
    refine wp_region_held_drew (S := fun z => z.rangeAt g (off + k * 3) [Value.int .u8 ((tagO o).toNat : Int), .slice A1 m1 c1, .slice B1 n1 d1]) (by kernel_rfl) hS0 (fun hHeld => ?_)
    rw [hU] at hHeld ⊢
    clear hS0 hU
    refine wpAnyH_take (i := 0) (oi := { dst := some 15, op := .fieldAddr 68 (.tmp 5) 2, type := 0, pos := "ref.go:180", after := #[], guard := none }) (v := ?_) rfl (by kernel_rfl) (by kernel_rfl) (by kernel_rfl) (fun _ _ _ h => h) (Or.inl ⟨by rfl, ?_⟩) hHeld ?_
    rotate_left
    ·
     intro w hSw
     clear hSw
     go_simp
     try with_reducible rfl
    try simp only [Act.put, List.setIfInBounds_toArray, List.set_cons_zero, List.set_cons_succ]
    refine wpAnyH_take (i := 2) (oi := { dst := some 17, op := .move (.tmp 1), type := 66, pos := "ref.go:180", after := #[], guard := none }) (v := ?_) rfl (by kernel_rfl) (by kernel_rfl) (by kernel_rfl) (fun _ _ _ h => h) (Or.inl ⟨by rfl, ?_⟩) hHeld ?_
    rotate_left
    ·
     intro w hSw
     clear hSw
     go_simp
     try with_reducible rfl
    try simp only [Act.put, List.setIfInBounds_toArray, List.set_cons_zero, List.set_cons_succ]
    refine wpAnyH_take (i := 3) (oi := { dst := some 18, op := .move (.tmp 6), type := 3, pos := "ref.go:180", after := #[], guard := none }) (v := ?_) rfl (by kernel_rfl) (by kernel_rfl) (by kernel_rfl) (fun _ _ _ h => h) (Or.inl ⟨by rfl, ?_⟩) hHeld ?_
    rotate_left
    ·
     intro w hSw
     clear hSw
     go_simp
     try with_reducible rfl
    try simp only [Act.put, List.setIfInBounds_toArray, List.set_cons_zero, List.set_cons_succ]
    refine wpAnyH_take (i := 4) (oi := { dst := some 19, op := .indexAddr 66 (.tmp 17) (.tmp 18), type := 0, pos := "ref.go:180", after := #[{ on := 2, ground := .data }, { on := 3, ground := .data }], guard := none }) (v := ?_) rfl (by kernel_rfl) (by kernel_rfl) (by kernel_rfl) (fun _ _ _ h => h) (Or.inl ⟨by rfl, ?_⟩) hHeld ?_
    rotate_left
    ·
     intro w hSw
     clear hSw
     go_simp
     try with_reducible rfl
    try simp only [Act.put, List.setIfInBounds_toArray, List.set_cons_zero, List.set_cons_succ]
    refine wpAnyH_take (i := 5) (oi := { dst := some 20, op := .load 68 (.tmp 19), type := 68, pos := "ref.go:180", after := #[{ on := 4, ground := .data }], guard := none }) (v := .agg [.int .u8 ((tagO o).toNat : Int), .slice A1 m1 c1, .slice B1 n1 d1].toArray) rfl (by kernel_rfl) (by kernel_rfl) (by kernel_rfl) (fun _ _ _ h => h) (yieldsIf_load_mid (by rfl) _ _ rfl _ _ rfl [Value.int .u8 ((tagO o).toNat : Int), .slice A1 m1 c1, .slice B1 n1 d1] _ (fun w hSw => hSw) Tryz.underlying68 rfl (sz3o _ _ _)) hHeld ?_
    try simp only [Act.put, List.setIfInBounds_toArray, List.set_cons_zero, List.set_cons_succ]
    refine wpAnyH_ready (rs := [1, 6]) (by kernel_rfl) (by simp) (AllReadyH.cons (o := { dst := some 16, op := .load 66 (.tmp 15), type := 66, pos := "ref.go:180", after := #[{ on := 0, ground := .data }], guard := none }) rfl (fun K hK => ?_) (AllReadyH.cons (o := { dst := some 21, op := .call { callee := .value (.func 126), args := #[.tmp 20], argTypes := #[68] }, type := 68, pos := "ref.go:180", after := #[{ on := 5, ground := .data }], guard := none }) rfl (fun K hK => ?_) AllReadyH.nil))
    ·
     have hq2 := (facts3 (row_on HSU.out.rg (Below.refl _ _))).2.2.2
     go_simp
     clear hq2
     refine hK.out _ _ (mkS _ (chain HBU.out (Below.refl _ _))) (fun hHeld2 => ?_)
     clear hK K hHeld
     have hHeld := hHeld2
     clear hHeld2
     try simp only [Act.put, List.setIfInBounds_toArray, List.set_cons_zero, List.set_cons_succ]
     refine wpAnyH_ready (rs := [6]) (by kernel_rfl) (by simp) (AllReadyH.cons (o := { dst := some 21, op := .call { callee := .value (.func 126), args := #[.tmp 20], argTypes := #[68] }, type := 68, pos := "ref.go:180", after := #[{ on := 5, ground := .data }], guard := none }) rfl (fun K hK => ?_) AllReadyH.nil)
     go_simp
     refine (HCALL.out _ (Below.refl _ _)).mono ?_
     rintro e z5 ⟨x, y, rfl, hat2, b5⟩
     have HAT := Lib.hid hat2
     have HONE := Lib.hid (oct_one hat2)
     obtain ⟨A2, m2, c2, B2, n2, d2, rfl, rfl⟩ := hat2.slices
     clear hat2
     go_simp
     refine hK.out _ _ (mkS _ (chain HBU.out b5)) (fun hHeld2 => ?_)
     clear hK K hHeld
     have hHeld := hHeld2
     clear hHeld2
     try simp only [Act.put, List.setIfInBounds_toArray, List.set_cons_zero, List.set_cons_succ]
     refine wpAnyH_ready (rs := [7]) (by kernel_rfl) (by simp) (AllReadyH.cons (o := { dst := some 22, op := .buildSlice 66 1 #[(0, .tmp 21)], type := 66, pos := "ref.go:180", after := #[{ on := 6, ground := .data }], guard := none }) rfl (fun K hK => ?_) AllReadyH.nil)
     go_simp
     generalize hq : World.alloc z5 _ = z6
     have r6 : z6 = z5.alloc (.cells #[.int .u8 ((tagO o).toNat : Int), .slice A2 m2 c2, .slice B2 n2 d2] 68) := hq.symm
     have n6 : Below z5.heap.size z5 z6 := by rw [r6]; exact below_new _ _
     have b6 : Below U.heap.size U z6 := chain b5 n6
     have q6 : ∀ j u, ([.int .u8 ((tagO o).toNat : Int), .slice A2 m2 c2, .slice B2 n2 d2] : List Value)[j]? = some u → z6.cell? ((⟨z5.heap.size, 0, none⟩ : Addr).add j) = some u := by rw [r6]; exact cell_three_new _ _ _ _ _
     clear hq r6
     refine hK.out _ _ (mkS _ (chain HBU.out b6)) (fun hHeld2 => ?_)
     clear hK K hHeld
     have hHeld := hHeld2
     clear hHeld2
     try simp only [Act.put, List.setIfInBounds_toArray, List.set_cons_zero, List.set_cons_succ]
     refine wpAnyH_ready (rs := [8]) (by kernel_rfl) (by simp) (AllReadyH.cons (o := { dst := some 23, op := .call { callee := .builtin .append, args := #[.tmp 16, .tmp 22], argTypes := #[66, 66] }, type := 66, pos := "ref.go:180", after := #[{ on := 1, ground := .data }, { on := 7, ground := .data }, { on := 6, ground := .chain }], guard := none }) rfl (fun K hK => ?_) AllReadyH.nil)
     try rw [if_pos (by rfl)]
     have hmk := HSU.out.lm.on b6
     refine wp_append_own_at8 (.tmp 16) (.tmp 22) rfl wc.heap.size _ _ _ rfl hmk.own ⟨z5.heap.size, 0, none⟩ 1 1 [.int .u8 ((tagO o).toNat : Int), .slice A2 m2 c2, .slice B2 n2 d2] rfl rfl q6 HONE.out (by have := HLT.out; omega) (by have h1 := HSU.out.sz; have h2 := b6.size; omega) ?_
     intro v7 z7 o7 g7 l7
     have hput := HSU.out.lm.put b6 HSU.out.sz (HAT.out.own n6 (Nat.le_refl _)) o7 g7 l7
     obtain ⟨A7, c7, rfl⟩ := own_sliceO o7
     have hlo := HSU.out.lm.own.lt
     have HS7 := Lib.hid (HSU.out.step b6 g7 (fun j hj => (hlo j hj).1) hput)
     have b7 : Below W0.heap.size W0 z7 := (chain HBU.out b6).grown g7 (chain HBU.out b6).size (fun j hj => by have h1 := (hlo j hj).1; have h2 := HW01.out; omega)
     clear g7 o7 l7 hput hlo hmk
     refine hK.out _ _ (mkS _ (b7)) (fun hHeld2 => ?_)
     clear hK K hHeld
     have hHeld := hHeld2
     clear hHeld2
     try simp only [Act.put, List.setIfInBounds_toArray, List.set_cons_zero, List.set_cons_succ]
     refine wpAnyH_take (i := 9) (oi := { dst := some 24, op := .fieldAddr 68 (.tmp 5) 2, type := 0, pos := "ref.go:180", after := #[{ on := 0, ground := .phase }, { on := 1, ground := .phase }, { on := 2, ground := .phase }, { on := 3, ground := .phase }, { on := 4, ground := .phase }, { on := 5, ground := .phase }, { on := 6, ground := .phase }, { on := 7, ground := .phase }, { on := 8, ground := .phase }], guard := none }) (v := ?_) rfl (by kernel_rfl) (by kernel_rfl) (by kernel_rfl) (fun _ _ _ h => h) (Or.inl ⟨by rfl, ?_⟩) hHeld ?_
     rotate_left
     ·
      intro w hSw
      clear hSw
      go_simp
      try with_reducible rfl
     try simp only [Act.put, List.setIfInBounds_toArray, List.set_cons_zero, List.set_cons_succ]
     refine wpAnyH_ready (rs := [10]) (by kernel_rfl) (by simp) (AllReadyH.cons (o := { dst := none, op := .store 66 (.tmp 24) (.tmp 23), type := 0, pos := "ref.go:180", after := #[{ on := 9, ground := .data }, { on := 8, ground := .data }, { on := 8, ground := .chain }, { on := 0, ground := .phase }, { on := 1, ground := .phase }, { on := 2, ground := .phase }, { on := 3, ground := .phase }, { on := 4, ground := .phase }, { on := 5, ground := .phase }, { on := 6, ground := .phase }, { on := 7, ground := .phase }, { on := 8, ground := .phase }], guard := none }) rfl (fun K hK => ?_) AllReadyH.nil)
     obtain ⟨⟨_, _, hf7⟩, _, _, hc7⟩ := facts3 HS7.out.1
     have hl7 := (Array.getElem?_eq_some_iff.1 HS7.out.1).1
     go_simp
     clear hf7 hc7 hl7
     have HS9 := Lib.hid HS7.out.2
     refine hK.out _ _ (mkS _ (b7.setCell HSB0.out _)) (fun hHeld2 => ?_)
     clear hK K hHeld hHeld2
     try simp only [Act.put, List.setIfInBounds_toArray, List.set_cons_zero, List.set_cons_succ]
     refine wpAnyH_done (by kernel_rfl) ?_ _
     generalize World.setCell _ _ _ = z9 at HS9 ⊢
     clear mkS
     go_wp2_with fail
     exact ⟨⟨k + 1, _, _, _, by have := HLT.out; omega, by go_num, Lib.hid (by rw [List.map_append, HM.out, HTK.out]; rfl), HS9⟩, by have := HLT.out; simp [intOf]; omega⟩
    ·
     go_simp
     refine (HCALL.out _ (Below.refl _ _)).mono ?_
     rintro e z5 ⟨x, y, rfl, hat2, b5⟩
     have HAT := Lib.hid hat2
     have HONE := Lib.hid (oct_one hat2)
     obtain ⟨A2, m2, c2, B2, n2, d2, rfl, rfl⟩ := hat2.slices
     clear hat2
     go_simp
     refine hK.out _ _ (mkS _ (chain HBU.out b5)) (fun hHeld2 => ?_)
     clear hK K hHeld
     have hHeld := hHeld2
     clear hHeld2
     try simp only [Act.put, List.setIfInBounds_toArray, List.set_cons_zero, List.set_cons_succ]
     refine wpAnyH_ready (rs := [1, 7]) (by kernel_rfl) (by simp) (AllReadyH.cons (o := { dst := some 16, op := .load 66 (.tmp 15), type := 66, pos := "ref.go:180", after := #[{ on := 0, ground := .data }], guard := none }) rfl (fun K hK => ?_) (AllReadyH.cons (o := { dst := some 22, op := .buildSlice 66 1 #[(0, .tmp 21)], type := 66, pos := "ref.go:180", after := #[{ on := 6, ground := .data }], guard := none }) rfl (fun K hK => ?_) AllReadyH.nil))
     ·
      have hq2 := (facts3 (row_on HSU.out.rg b5)).2.2.2
      go_simp
      clear hq2
      refine hK.out _ _ (mkS _ (chain HBU.out b5)) (fun hHeld2 => ?_)
      clear hK K hHeld
      have hHeld := hHeld2
      clear hHeld2
      try simp only [Act.put, List.setIfInBounds_toArray, List.set_cons_zero, List.set_cons_succ]
      refine wpAnyH_ready (rs := [7]) (by kernel_rfl) (by simp) (AllReadyH.cons (o := { dst := some 22, op := .buildSlice 66 1 #[(0, .tmp 21)], type := 66, pos := "ref.go:180", after := #[{ on := 6, ground := .data }], guard := none }) rfl (fun K hK => ?_) AllReadyH.nil)
      go_simp
      generalize hq : World.alloc z5 _ = z6
      have r6 : z6 = z5.alloc (.cells #[.int .u8 ((tagO o).toNat : Int), .slice A2 m2 c2, .slice B2 n2 d2] 68) := hq.symm
      have n6 : Below z5.heap.size z5 z6 := by rw [r6]; exact below_new _ _
      have b6 : Below U.heap.size U z6 := chain b5 n6
      have q6 : ∀ j u, ([.int .u8 ((tagO o).toNat : Int), .slice A2 m2 c2, .slice B2 n2 d2] : List Value)[j]? = some u → z6.cell? ((⟨z5.heap.size, 0, none⟩ : Addr).add j) = some u := by rw [r6]; exact cell_three_new _ _ _ _ _
      clear hq r6
      refine hK.out _ _ (mkS _ (chain HBU.out b6)) (fun hHeld2 => ?_)
      clear hK K hHeld
      have hHeld := hHeld2
      clear hHeld2
      try simp only [Act.put, List.setIfInBounds_toArray, List.set_cons_zero, List.set_cons_succ]
      refine wpAnyH_ready (rs := [8]) (by kernel_rfl) (by simp) (AllReadyH.cons (o := { dst := some 23, op := .call { callee := .builtin .append, args := #[.tmp 16, .tmp 22], argTypes := #[66, 66] }, type := 66, pos := "ref.go:180", after := #[{ on := 1, ground := .data }, { on := 7, ground := .data }, { on := 6, ground := .chain }], guard := none }) rfl (fun K hK => ?_) AllReadyH.nil)
      try rw [if_pos (by rfl)]
      have hmk := HSU.out.lm.on b6
      refine wp_append_own_at8 (.tmp 16) (.tmp 22) rfl wc.heap.size _ _ _ rfl hmk.own ⟨z5.heap.size, 0, none⟩ 1 1 [.int .u8 ((tagO o).toNat : Int), .slice A2 m2 c2, .slice B2 n2 d2] rfl rfl q6 HONE.out (by have := HLT.out; omega) (by have h1 := HSU.out.sz; have h2 := b6.size; omega) ?_
      intro v7 z7 o7 g7 l7
      have hput := HSU.out.lm.put b6 HSU.out.sz (HAT.out.own n6 (Nat.le_refl _)) o7 g7 l7
      obtain ⟨A7, c7, rfl⟩ := own_sliceO o7
      have hlo := HSU.out.lm.own.lt
      have HS7 := Lib.hid (HSU.out.step b6 g7 (fun j hj => (hlo j hj).1) hput)
      have b7 : Below W0.heap.size W0 z7 := (chain HBU.out b6).grown g7 (chain HBU.out b6).size (fun j hj => by have h1 := (hlo j hj).1; have h2 := HW01.out; omega)
      clear g7 o7 l7 hput hlo hmk
      refine hK.out _ _ (mkS _ (b7)) (fun hHeld2 => ?_)
      clear hK K hHeld
      have hHeld := hHeld2
      clear hHeld2
      try simp only [Act.put, List.setIfInBounds_toArray, List.set_cons_zero, List.set_cons_succ]
      refine wpAnyH_take (i := 9) (oi := { dst := some 24, op := .fieldAddr 68 (.tmp 5) 2, type := 0, pos := "ref.go:180", after := #[{ on := 0, ground := .phase }, { on := 1, ground := .phase }, { on := 2, ground := .phase }, { on := 3, ground := .phase }, { on := 4, ground := .phase }, { on := 5, ground := .phase }, { on := 6, ground := .phase }, { on := 7, ground := .phase }, { on := 8, ground := .phase }], guard := none }) (v := ?_) rfl (by kernel_rfl) (by kernel_rfl) (by kernel_rfl) (fun _ _ _ h => h) (Or.inl ⟨by rfl, ?_⟩) hHeld ?_
      rotate_left
      ·
       intro w hSw
       clear hSw
       go_simp
       try with_reducible rfl
      try simp only [Act.put, List.setIfInBounds_toArray, List.set_cons_zero, List.set_cons_succ]
      refine wpAnyH_ready (rs := [10]) (by kernel_rfl) (by simp) (AllReadyH.cons (o := { dst := none, op := .store 66 (.tmp 24) (.tmp 23), type := 0, pos := "ref.go:180", after := #[{ on := 9, ground := .data }, { on := 8, ground := .data }, { on := 8, ground := .chain }, { on := 0, ground := .phase }, { on := 1, ground := .phase }, { on := 2, ground := .phase }, { on := 3, ground := .phase }, { on := 4, ground := .phase }, { on := 5, ground := .phase }, { on := 6, ground := .phase }, { on := 7, ground := .phase }, { on := 8, ground := .phase }], guard := none }) rfl (fun K hK => ?_) AllReadyH.nil)
      obtain ⟨⟨_, _, hf7⟩, _, _, hc7⟩ := facts3 HS7.out.1
      have hl7 := (Array.getElem?_eq_some_iff.1 HS7.out.1).1
      go_simp
      clear hf7 hc7 hl7
      have HS9 := Lib.hid HS7.out.2
      refine hK.out _ _ (mkS _ (b7.setCell HSB0.out _)) (fun hHeld2 => ?_)
      clear hK K hHeld hHeld2
      try simp only [Act.put, List.setIfInBounds_toArray, List.set_cons_zero, List.set_cons_succ]
      refine wpAnyH_done (by kernel_rfl) ?_ _
      generalize World.setCell _ _ _ = z9 at HS9 ⊢
      clear mkS
      go_wp2_with fail
      exact ⟨⟨k + 1, _, _, _, by have := HLT.out; omega, by go_num, Lib.hid (by rw [List.map_append, HM.out, HTK.out]; rfl), HS9⟩, by have := HLT.out; simp [intOf]; omega⟩
     ·
      go_simp
      generalize hq : World.alloc z5 _ = z6
      have r6 : z6 = z5.alloc (.cells #[.int .u8 ((tagO o).toNat : Int), .slice A2 m2 c2, .slice B2 n2 d2] 68) := hq.symm
      have n6 : Below z5.heap.size z5 z6 := by rw [r6]; exact below_new _ _
      have b6 : Below U.heap.size U z6 := chain b5 n6
      have q6 : ∀ j u, ([.int .u8 ((tagO o).toNat : Int), .slice A2 m2 c2, .slice B2 n2 d2] : List Value)[j]? = some u → z6.cell? ((⟨z5.heap.size, 0, none⟩ : Addr).add j) = some u := by rw [r6]; exact cell_three_new _ _ _ _ _
      clear hq r6
      refine hK.out _ _ (mkS _ (chain HBU.out b6)) (fun hHeld2 => ?_)
      clear hK K hHeld
      have hHeld := hHeld2
      clear hHeld2
      try simp only [Act.put, List.setIfInBounds_toArray, List.set_cons_zero, List.set_cons_succ]
      refine wpAnyH_ready (rs := [1]) (by kernel_rfl) (by simp) (AllReadyH.cons (o := { dst := some 16, op := .load 66 (.tmp 15), type := 66, pos := "ref.go:180", after := #[{ on := 0, ground := .data }], guard := none }) rfl (fun K hK => ?_) AllReadyH.nil)
      have hq2 := (facts3 (row_on HSU.out.rg b6)).2.2.2
      go_simp
      clear hq2
      refine hK.out _ _ (mkS _ (chain HBU.out b6)) (fun hHeld2 => ?_)
      clear hK K hHeld
      have hHeld := hHeld2
      clear hHeld2
      try simp only [Act.put, List.setIfInBounds_toArray, List.set_cons_zero, List.set_cons_succ]
      refine wpAnyH_ready (rs := [8]) (by kernel_rfl) (by simp) (AllReadyH.cons (o := { dst := some 23, op := .call { callee := .builtin .append, args := #[.tmp 16, .tmp 22], argTypes := #[66, 66] }, type := 66, pos := "ref.go:180", after := #[{ on := 1, ground := .data }, { on := 7, ground := .data }, { on := 6, ground := .chain }], guard := none }) rfl (fun K hK => ?_) AllReadyH.nil)
      try rw [if_pos (by rfl)]
      have hmk := HSU.out.lm.on b6
      refine wp_append_own_at8 (.tmp 16) (.tmp 22) rfl wc.heap.size _ _ _ rfl hmk.own ⟨z5.heap.size, 0, none⟩ 1 1 [.int .u8 ((tagO o).toNat : Int), .slice A2 m2 c2, .slice B2 n2 d2] rfl rfl q6 HONE.out (by have := HLT.out; omega) (by have h1 := HSU.out.sz; have h2 := b6.size; omega) ?_
      intro v7 z7 o7 g7 l7
      have hput := HSU.out.lm.put b6 HSU.out.sz (HAT.out.own n6 (Nat.le_refl _)) o7 g7 l7
      obtain ⟨A7, c7, rfl⟩ := own_sliceO o7
      have hlo := HSU.out.lm.own.lt
      have HS7 := Lib.hid (HSU.out.step b6 g7 (fun j hj => (hlo j hj).1) hput)
      have b7 : Below W0.heap.size W0 z7 := (chain HBU.out b6).grown g7 (chain HBU.out b6).size (fun j hj => by have h1 := (hlo j hj).1; have h2 := HW01.out; omega)
      clear g7 o7 l7 hput hlo hmk
      refine hK.out _ _ (mkS _ (b7)) (fun hHeld2 => ?_)
      clear hK K hHeld
      have hHeld := hHeld2
      clear hHeld2
      try simp only [Act.put, List.setIfInBounds_toArray, List.set_cons_zero, List.set_cons_succ]
      refine wpAnyH_take (i := 9) (oi := { dst := some 24, op := .fieldAddr 68 (.tmp 5) 2, type := 0, pos := "ref.go:180", after := #[{ on := 0, ground := .phase }, { on := 1, ground := .phase }, { on := 2, ground := .phase }, { on := 3, ground := .phase }, { on := 4, ground := .phase }, { on := 5, ground := .phase }, { on := 6, ground := .phase }, { on := 7, ground := .phase }, { on := 8, ground := .phase }], guard := none }) (v := ?_) rfl (by kernel_rfl) (by kernel_rfl) (by kernel_rfl) (fun _ _ _ h => h) (Or.inl ⟨by rfl, ?_⟩) hHeld ?_
      rotate_left
      ·
       intro w hSw
       clear hSw
       go_simp
       try with_reducible rfl
      try simp only [Act.put, List.setIfInBounds_toArray, List.set_cons_zero, List.set_cons_succ]
      refine wpAnyH_ready (rs := [10]) (by kernel_rfl) (by simp) (AllReadyH.cons (o := { dst := none, op := .store 66 (.tmp 24) (.tmp 23), type := 0, pos := "ref.go:180", after := #[{ on := 9, ground := .data }, { on := 8, ground := .data }, { on := 8, ground := .chain }, { on := 0, ground := .phase }, { on := 1, ground := .phase }, { on := 2, ground := .phase }, { on := 3, ground := .phase }, { on := 4, ground := .phase }, { on := 5, ground := .phase }, { on := 6, ground := .phase }, { on := 7, ground := .phase }, { on := 8, ground := .phase }], guard := none }) rfl (fun K hK => ?_) AllReadyH.nil)
      obtain ⟨⟨_, _, hf7⟩, _, _, hc7⟩ := facts3 HS7.out.1
      have hl7 := (Array.getElem?_eq_some_iff.1 HS7.out.1).1
      go_simp
      clear hf7 hc7 hl7
      have HS9 := Lib.hid HS7.out.2
      refine hK.out _ _ (mkS _ (b7.setCell HSB0.out _)) (fun hHeld2 => ?_)
      clear hK K hHeld hHeld2
      try simp only [Act.put, List.setIfInBounds_toArray, List.set_cons_zero, List.set_cons_succ]
      refine wpAnyH_done (by kernel_rfl) ?_ _
      generalize World.setCell _ _ _ = z9 at HS9 ⊢
      clear mkS
      go_wp2_with fail
      exact ⟨⟨k + 1, _, _, _, by have := HLT.out; omega, by go_num, Lib.hid (by rw [List.map_append, HM.out, HTK.out]; rfl), HS9⟩, by have := HLT.out; simp [intOf]; omega⟩
   ·
    have hkk : k = n := by omega
    have HKK := Lib.hid hkk
    have hge : ¬ (k : Int) < (n : Int) := by omega
    have hlt0 : w.heap.size < wr.heap.size := by have h1 := HBR.out.size; have h2 := HLE.out; omega
    have HR2 := Lib.hid (row_on HRR.out HBR.out)
    have HBW := Lib.hid (chain HWU.out HBR.out)
    have hltR := (Array.getElem?_eq_some_iff.1 HR2.out).1
    obtain ⟨⟨hf0, hf1, hf2⟩, hd0, hd1, hd2⟩ := facts3 HR2.out
    have hlS := (Array.getElem?_eq_some_iff.1 HTX.out.rg).1
    obtain ⟨_, hs0, hs1, hs2⟩ := facts3 HTX.out.rg
    have hw01 := HW01.out
    have hlm := HTX.out.lm
    have htl : ts.length = l.length := by rw [hlm.len, hkk, HN.out]
    have hln : k = ts.length := hlm.len.symm
    have how := hlm.own
    rw [hln] at how
    obtain ⟨B2, d2, hv2, hfin⟩ := at_of_rows (base := U.heap.size) t (b := []) (A := none) (c := 0) (own_base8 how hw01) (fun u hu => (hlm.done u hu).to fun g p x hx hR => ⟨hx, by have := hR.1; omega, hR.2⟩) (by rw [htl, HN.out]; have := HL.out; omega) (Nat.le_refl _) (by decide) (fun _ => rfl) (fun h => absurd rfl h) (fun _ _ _ h => absurd rfl h)
    rw [HM.out, hkk, List.take_of_length_le (by rw [HN.out]; exact Nat.le_refl _)] at hfin
    rw [← hln] at hfin
    have HFIN := Lib.hid hfin
    clear hkk hlt hw01 hlm htl hln how hv2 hfin
    go_wp2_with fail
    have e9 : ∀ a b c : Value, ((wr.setCell ⟨w.heap.size, 0, none⟩ a).setCell ⟨w.heap.size, 1, none⟩ b).setCell ⟨w.heap.size, 2, none⟩ c = wr.setCells w.heap.size 0 [a, b, c] := fun _ _ _ => rfl
    rw [e9]
    refine bodyPost_ret (v := .agg #[.int .u8 (t.toNat : Int), .slice none 0 0, .slice PB k pd]) (results_cell_row rfl _ _ w.heap.size 68 _ (0, 0) _ rfl (row_setCells8 HR2.out rfl) Tryz.underlying68 rfl (sz3o _ _ _)) rfl ⟨_, _, rfl, ?_, ?_⟩
    ·
     exact at_setCells HFIN.out HLE.out (by have := HLE.out; omega) _ _
    ·
     exact below_setCells8 _ _ _ HBW.out (by omega)
end Go.Proofs.YtcgffkkfeimifaaGreatDoor
namespace Go.Proofs.YtcgffkkfeimifaaGreatDoor
open Go.RowKit Sha Oc
set_option linter.unusedVariables false
set_option linter.unusedSimpArgs false
set_option maxRecDepth 100000
structure Sp (base : Nat) (w w' : World) : Prop where
 os : w'.os = w.os
 tape : w'.tape = w.tape
 output : w'.output = w.output
 size : w.heap.size ≤ w'.heap.size
 blk : ∀ b : Nat, b < base → w'.heap[b]? = w.heap[b]?
 cel : ∀ (g p : Nat) (u : Value), w.cell? ⟨g, p, none⟩ = some u → ∃ u', w'.cell? ⟨g, p, none⟩ = some u' ∧ (u' = u ∨ ∃ a b : UInt8, u = .int .u8 (a.toNat : Int) ∧ u' = .int .u8 (b.toNat : Int))
 row : ∀ (g : Nat) (cs : Array Value) (t : TypeId), w.heap[g]? = some (.cells cs t (0, 0)) → ∃ cs' : Array Value, w'.heap[g]? = some (.cells cs' t (0, 0))
theorem Sp.refl (base : Nat) (w : World) : Sp base w w := ⟨rfl, rfl, rfl, Nat.le_refl _, fun _ _ => rfl, fun g p u h => ⟨u, h, .inl rfl⟩, fun g cs t h => ⟨cs, h⟩⟩
theorem Sp.trans {base : Nat} {w u v : World} (h : Sp base w u) (h2 : Sp base u v) : Sp base w v :=
 ⟨h2.os.trans h.os, h2.tape.trans h.tape, h2.output.trans h.output, Nat.le_trans h.size h2.size, fun b hb => (h2.blk b hb).trans (h.blk b hb), fun g p x hx => by
  obtain ⟨x1, h3, h4⟩ := h.cel g p x hx
  obtain ⟨x2, h5, h6⟩ := h2.cel g p x1 h3
  refine ⟨x2, h5, ?_⟩
  rcases h4 with rfl | ⟨a, b, rfl, rfl⟩
  ·
   exact h6
  ·
   rcases h6 with rfl | ⟨c, d, h7, rfl⟩
   ·
    exact .inr ⟨a, b, rfl, rfl⟩
   ·
    exact .inr ⟨a, d, rfl, rfl⟩, fun g cs t hg => by
  obtain ⟨cs1, h3⟩ := h.row g cs t hg
  exact h2.row g cs1 t h3⟩
theorem Sp.less {base b' : Nat} {w u : World} (h : Sp base w u) (hb : b' ≤ base) : Sp b' w u := ⟨h.os, h.tape, h.output, h.size, fun b hlt => h.blk b (by omega), h.cel, h.row⟩
theorem Sp.below {base n : Nat} {w u : World} (h : Sp base w u) (hn : n ≤ base) : Below n w u := ⟨h.os, h.tape, h.output, h.size, fun b hb => h.blk b (by omega)⟩
theorem Sp.keep {base : Nat} {w u : World} (h : Sp base w u) {g p : Nat} {A : Option Addr} {n c : Nat} (hx : w.cell? ⟨g, p, none⟩ = some (.slice A n c)) : u.cell? ⟨g, p, none⟩ = some (.slice A n c) := by
 obtain ⟨u', h1, h2⟩ := h.cel g p _ hx
 rcases h2 with rfl | ⟨a, b, h3, _⟩
 ·
  exact h1
 ·
  cases h3
theorem Sp.byte {base : Nat} {w u : World} (h : Sp base w u) {g p : Nat} {a : UInt8} (hx : w.cell? ⟨g, p, none⟩ = some (.int .u8 (a.toNat : Int))) : ∃ b : UInt8, u.cell? ⟨g, p, none⟩ = some (.int .u8 (b.toNat : Int)) := by
 obtain ⟨u', h1, h2⟩ := h.cel g p _ hx
 rcases h2 with rfl | ⟨a', b, _, rfl⟩
 ·
  exact ⟨a, h1⟩
 ·
  exact ⟨b, h1⟩
theorem Sp.rw {base : Nat} {w u : World} (h : Sp base w u) {g : Nat} (hg : Rw base w g) : Rw base u g := by
 obtain ⟨h1, cs, t, h2⟩ := hg
 obtain ⟨cs', h3⟩ := h.row g cs t h2
 exact ⟨h1, cs', t, h3⟩
theorem cnts_eq : ∀ (l l' : List Oct), l'.length = l.length → (∀ (k : Nat) (o o' : Oct), l[k]? = some o → l'[k]? = some o' → cnt o' = cnt o ∧ tot o' = tot o) → cnts l' = cnts l ∧ tots l' = tots l
 | [], [], _, _ => ⟨rfl, rfl⟩
 | [], _ :: _, h, _ => by cases h
 | _ :: _, [], h, _ => by cases h
 | v :: r, v' :: r', h, hk => by
  have h1 := hk 0 v v' rfl rfl
  have h2 := cnts_eq r r' (by simpa using h) (fun k o o' a b => hk (k + 1) o o' (by simpa using a) (by simpa using b))
  rw [cnts, cnts, tots, tots]
  omega
theorem Oc.At.spoil {base : Nat} {w u : World} (hs : Sp base w u) : ∀ {o : Oct} {x y : Value}, At (Rw base w) w o x y → ∀ t' : UInt8, ∃ o', At (Rw base u) u o' x y ∧ cnt o' = cnt o ∧ tot o' = tot o ∧ tagO o' = t' := fun h => by
 induction h with
 | mk t b l A c B d g off vb vl hc hbm hcn hsA hA hd hlm hdn hB h0 h1 h2 hr ih =>
  intro t'
  haveI : Inhabited UInt8 := ⟨0⟩
  -- the bytes
  have hbytes : ∃ b' : List UInt8, b'.length = b.length ∧ SrcAt A b' u ∧ ∀ ga oa, A = some ⟨ga, oa, none⟩ → b' ≠ [] → Rw base u ga := by
   by_cases hb0 : b = []
   ·
    exact ⟨[], by rw [hb0], fun h => absurd rfl h, fun _ _ _ h => absurd rfl h⟩
   ·
    obtain ⟨ga, oa, hAe, hcell⟩ := hsA hb0
    have each : ∀ j, j < b.length → ∃ z : UInt8, u.cell? ⟨ga, oa + j, none⟩ = some (.int .u8 (z.toNat : Int)) := fun j hj => hs.byte (hcell j _ (List.getElem?_eq_getElem hj))
    obtain ⟨f, hf⟩ := Go.Deep.choose_lt each
    refine ⟨(List.range b.length).map f, by simp, fun _ => ⟨ga, oa, hAe, fun j z hj => ?_⟩, fun g2 o2 e _ => hs.rw (hA g2 o2 e hb0)⟩
    rw [List.getElem?_map] at hj
    obtain ⟨i, hi, rfl⟩ := Option.map_eq_some_iff.1 hj
    have hjl : j < b.length := by
     have := (List.getElem?_eq_some_iff.1 hi).1
     simpa using this
    rw [List.getElem?_range hjl] at hi
    obtain rfl := Option.some.inj hi
    exact hf j hjl
  obtain ⟨b', hb1, hb2, hb3⟩ := hbytes
  -- the elements
  have each : ∀ k, k < l.length → ∃ o' : Oct, At (Rw base u) u o' (vb k) (vl k) ∧ (∀ o, l[k]? = some o → cnt o' = cnt o ∧ tot o' = tot o) ∧ u.cell? ⟨g, off + k * 3, none⟩ = some (.int .u8 ((tagO o').toNat : Int)) := fun k hk => by
   have hl := List.getElem?_eq_getElem hk
   obtain ⟨z, hz⟩ := hs.byte (h0 k _ hl)
   obtain ⟨o', h3, h4, h5, h6⟩ := ih k _ hl z
   exact ⟨o', h3, fun o ho => by rw [hl] at ho; obtain rfl := Option.some.inj ho; exact ⟨h4, h5⟩, by rw [h6]; exact hz⟩
  obtain ⟨f, hf⟩ := Go.Deep.choose_lt each
  have hlen : ((List.range l.length).map f).length = l.length := by simp
  have hat : ∀ (k : Nat) (o' : Oct), ((List.range l.length).map f)[k]? = some o' → k < l.length ∧ o' = f k := fun k o' hk => by
   rw [List.getElem?_map] at hk
   obtain ⟨i, hi, rfl⟩ := Option.map_eq_some_iff.1 hk
   have hkl : k < l.length := by
    have := (List.getElem?_eq_some_iff.1 hi).1
    simpa using this
   rw [List.getElem?_range hkl] at hi
   obtain rfl := Option.some.inj hi
   exact ⟨hkl, rfl⟩
  have hct := cnts_eq l ((List.range l.length).map f) hlen (fun k o o' ho ho' => by
   obtain ⟨hkl, rfl⟩ := hat k o' ho'
   exact (hf k hkl).2.1 o ho)
  have hkeep : ∀ k, k < l.length → u.cell? ⟨g, off + k * 3 + 1, none⟩ = some (vb k) ∧ u.cell? ⟨g, off + k * 3 + 2, none⟩ = some (vl k) := fun k hk => by
   have hl := List.getElem?_eq_getElem hk
   obtain ⟨A1, m1, c1, B1, n1, d1, e1, e2⟩ := (hr k _ hl).slices
   have h3 := h1 k _ hl
   have h4 := h2 k _ hl
   rw [e1] at h3 ⊢
   rw [e2] at h4 ⊢
   exact ⟨hs.keep h3, hs.keep h4⟩
  refine ⟨.mk t' b' ((List.range l.length).map f), ?_, by rw [cnt, cnt, hct.1], by rw [tot, tot, hct.2, hb1], rfl⟩
  have hfin := At.mk (R := Rw base u) (w := u) t' b' ((List.range l.length).map f) A c B d g off vb vl (by rw [hb1]; exact hc) (by rw [hb1]; exact hbm) hcn hb2 hb3 (by rw [hlen]; exact hd) (by rw [hlen]; exact hlm) hdn
   (fun hne => by
    have hl0 : l ≠ [] := fun e => hne (by rw [e]; rfl)
    exact ⟨(hB hl0).1, hs.rw (hB hl0).2⟩)
   (fun k o' hk => by obtain ⟨hkl, rfl⟩ := hat k o' hk; exact (hf k hkl).2.2)
   (fun k o' hk => by obtain ⟨hkl, rfl⟩ := hat k o' hk; exact (hkeep k hkl).1)
   (fun k o' hk => by obtain ⟨hkl, rfl⟩ := hat k o' hk; exact (hkeep k hkl).2)
   (fun k o' hk => by obtain ⟨hkl, rfl⟩ := hat k o' hk; exact (hf k hkl).1)
  rw [hb1, hlen] at hfin
  exact hfin
end Go.Proofs.YtcgffkkfeimifaaGreatDoor
namespace Go.Proofs.YtcgffkkfeimifaaGreatDoor
open Go.RowKit Sha Oc
set_option linter.unusedVariables false
set_option linter.unusedSimpArgs false
end Go.Proofs.YtcgffkkfeimifaaGreatDoor
namespace Go.Proofs.YtcgffkkfeimifaaGreatDoor
open Go.RowKit Sha Oc
set_option linter.unusedVariables false
set_option linter.unusedSimpArgs false
end Go.Proofs.YtcgffkkfeimifaaGreatDoor
