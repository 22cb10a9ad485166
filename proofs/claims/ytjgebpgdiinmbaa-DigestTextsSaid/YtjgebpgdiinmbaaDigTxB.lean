/-
  THE WALK over the reference's reading in hexadecimal.
-/
import Derived.Test.YtjgebpgdiinmbaaDigTxA
namespace Go.Proofs.Ytjgebpgdiinmbaa
open Go.RowKit Sha
set_option linter.unusedVariables false
set_option linter.unusedSimpArgs false
theorem place_x (al : ByteArray) (hs : al.size ≤ 1000) (c : UInt8) (w : World) :
    Calls Try.prog 15 #[.string al, .int .u8 (c.toNat : Int)] w fun e w' => e = .returned (.int .i64 (dv al c)) ∧ w' = w := (place_any al hs c w).mono fun _ _ h => ⟨h.1, h.2.symm⟩
theorem run_index_s (s : ByteArray) (z : Int) (j : Nat) (hz : z = (j : Int)) (h : j < s.size) (w : World) : (Instr.index 9 (.string s) (.int .i64 z)).run Try.prog w = .ok (.int .u8 ((s[j]'h).toNat : Int)) w := by
  subst hz
  have h0 : (0 : Int) ≤ (j : Int) := by omega
  have h1 : s[j]? = some (s[j]'h) := getElem?_pos s j h
  simp [Instr.index, asIntOf, run_underlying Try.underlying9, h1]
/-- the error's number -/
def erR (R : Option (List UInt8)) : Int := match R with | some _ => 0 | none => 12
/-- what is handed back: an own row, or nil -/
def OwnR (w : World) (base : Nat) (v : Value) (R : Option (List UInt8)) : Prop := match R with | some l => w.ownsRow base 5 1 v l.length (bvals l) | none => v = .slice none 0 0
theorem map_cons_app (R : Option (List UInt8)) (a d : List UInt8) : (R.map (fun l => a ++ l)).map (fun l => d ++ l) = R.map (fun l => (d ++ a) ++ l) := by
  cases R with
  | none => rfl
  | some l => simp
set_option maxRecDepth 100000 in
set_option maxHeartbeats 4000000 in
theorem rfh_any (s : ByteArray) (hl : s.size ≤ 100000) (w : World) :
    Calls Try.prog 5 #[.string s] w fun e w' => ∃ v, e = .returned (.tuple #[v, .int .i64 (erR (rfx s.data.toList))]) ∧ OwnR w' w.heap.size v (rfx s.data.toList) ∧ Below w.heap.size w w' := by
  obtain ⟨R, hR⟩ : ∃ R, rfx s.data.toList = R := ⟨_, rfl⟩
  rw [hR]
  have HR := Lib.hid hR
  have hp : ∀ (c : UInt8) (w : World), Calls Try.prog 15 #[.string ⟨#[48, 49, 50, 51, 52, 53, 54, 55, 56, 57, 97, 98, 99, 100, 101, 102]⟩, .int .u8 (c.toNat : Int)] w fun e w' => e = .returned (.int .i64 (dv hexL c)) ∧ w' = w := fun c w => place_x hexL (by decide) c w
  have HP := Lib.hid hp
  clear hp
  obtain ⟨i0, hi, hz0, hz1, hz2⟩ := info_parts Try.info_byte
  clear hR
  by_cases hodd : s.size % 2 = 1
  · have hm : ((s.size : Int) % 2 == 1) = true := by rw [beq_iff_eq]; omega
    have hno : R = none := by
      rw [← HR.out]
      have : ∀ l : List UInt8, l.length % 2 = 1 → rfx l = none := fun l => by
        induction l using rfx.induct with
        | case1 => intro h; simp at h
        | case2 => intro _; rfl
        | case3 a b r h => intro _; rw [rfx, if_pos h]
        | case4 a b r h ih => intro h2; rw [rfx, if_neg h, ih (by simp at h2; omega)]; rfl
      exact this _ (by simpa using hodd)
    subst hno
    clear HR
    go_enter Try.func5, Try.ntmps5
    go_wp2_with fail
    go_ret2
    exact ⟨_, rfl, rfl, Below.refl _ _⟩
  · have hm : ((s.size : Int) % 2 == 1) = false := by rw [beq_eq_false_iff_ne]; omega
    go_enter Try.func5, Try.ntmps5
    go_wp2_with fail
    go_loopw [4, 5] (fun v i wr => ∃ (K : Nat) (done : List UInt8), K ≤ s.size ∧ i = .int .i64 (K : Int) ∧ RowKit.Hid (2 * done.length = K) ∧ R = (rfx (s.data.toList.drop K)).map (fun l => done ++ l) ∧ wr.ownsRow w.heap.size 5 1 v done.length (bvals done) ∧ Below w.heap.size w wr) (fun _ i _ => s.size - (intOf i).toNat)
    case atStart => exact ⟨0, [], by omega, rfl, Lib.hid rfl, by rw [← HR.out]; simp, ⟨rfl, Or.inl ⟨rfl, rfl⟩⟩, Below.refl _ _⟩
    case round =>
      obtain ⟨K, done, hk, rfl, HK, hd, hown, hbel⟩ := hrel
      clear HR
      have HD := Lib.hid hd
      have HO := Lib.hid hown
      have HB := Lib.hid hbel
      clear hd hown hbel
      by_cases hlt : K < s.size
      · have hlt2 : K + 1 < s.size := by have := HK.out; omega
        have hki : (K : Int) < (s.size : Int) := by omega
        have hki2 : (K : Int) + 1 < (s.size : Int) := by omega
        have hw1 : IntKind.i64.wrap ((K : Int) + 1) = ((K + 1 : Nat) : Int) := IntWalk.i64_in _ (by omega)
        have hidx := run_index_s s ((K : Int) + 1) (K + 1) (by omega) hlt2
        have hdk : s.data.toList.drop K = (s[K]'hlt) :: (s[K + 1]'hlt2) :: s.data.toList.drop (K + 2) := by
          rw [List.drop_eq_getElem_cons (by simpa using hlt), List.drop_eq_getElem_cons (by simpa using hlt2)]
          rfl
        have hd2 := HD.out
        rw [hdk, rfx] at hd2
        have P1 := Lib.hid (fun w => HP.out (s[K]'hlt) w)
        have P2 := Lib.hid (fun w => HP.out (s[K + 1]'hlt2) w)
        obtain ⟨c2, hc2⟩ : ∃ c2, s[K + 1]'hlt2 = c2 := ⟨_, rfl⟩
        rw [hc2] at hd2 P2 hidx
        obtain ⟨x, hx⟩ : ∃ x, dv hexL (s[K]'hlt) = x := ⟨_, rfl⟩
        obtain ⟨y, hy⟩ : ∃ y, dv hexL c2 = y := ⟨_, rfl⟩
        rw [hx, hy] at hd2
        rw [hx] at P1
        rw [hy] at P2
        have hxl : x < 16 := by rw [← hx]; exact dv_lt hexL _
        have hyl : y < 16 := by rw [← hy]; exact dv_lt hexL _
        have HD2 := Lib.hid hd2
        clear hx hy hd2 hdk hc2
        go_wp2_with fail
        go_quiet (first | (go_at_call 15; with_reducible exact Calls.quiet_of_same (P1.out _)) | (go_at_call 15; with_reducible exact Calls.quiet_of_same (P2.out _)))
        generalize hwq : wr.drewN _ = wq
        have hoq : wq.ownsRow w.heap.size 5 1 u4 done.length (bvals done) := by rw [← hwq]; exact HO.out
        have hbq : Below w.heap.size w wq := by rw [← hwq]; exact below_drewN HB.out _
        have HOQ := Lib.hid hoq
        have HBQ := Lib.hid hbq
        clear hwq hoq hbq HO HB
        by_cases hxn : x < 0
        · have hno : R = none := by rw [HD2.out, if_pos (Or.inl hxn)]; rfl
          have HNO := Lib.hid hno
          clear hno
          go_wp2_with fail
          go_ret2
          rw [HNO.out]
          exact ⟨_, rfl, rfl, HBQ.out⟩
        · by_cases hyn : y < 0
          · have hno : R = none := by rw [HD2.out, if_pos (Or.inr hyn)]; rfl
            have HNO := Lib.hid hno
            clear hno
            go_wp2_with fail
            go_ret2
            rw [HNO.out]
            exact ⟨_, rfl, rfl, HBQ.out⟩
          · obtain ⟨a, rfl⟩ := Int.eq_ofNat_of_zero_le (show 0 ≤ x by omega)
            obtain ⟨b, rfl⟩ := Int.eq_ofNat_of_zero_le (show 0 ≤ y by omega)
            have ha : a < 16 := by omega
            have hb : b < 16 := by omega
            have hd3 := HD2.out
            rw [if_neg (by omega), Int.toNat_natCast, Int.toNat_natCast] at hd3
            obtain ⟨z, hz⟩ : ∃ z, UInt8.ofNat (16 * a + b) = z := ⟨_, rfl⟩
            have hzi : (16 * (a : Int) + (b : Int)) = (z.toNat : Int) := by
              rw [← hz, UInt8.toNat_ofNat', Nat.mod_eq_of_lt (by omega)]
              omega
            have hd4 : R = Option.map (fun l => (done ++ [z]) ++ l) (rfx (List.drop (K + 2) s.data.toList)) := by
              rw [hd3, ← map_cons_app, hz]
              rfl
            have HD4 := Lib.hid hd4
            have HZI := Lib.hid hzi
            have hdl : done.length ≤ 100000 := by have := HK.out; omega
            have HDL := Lib.hid hdl
            clear hd3 hz hzi hd4 HD2 HD hdl
            go_wp2_with (at_builtin; refine wpList_append_own _ rfl (.tmp 33) (.tmp 39) 22 rfl w.heap.size 5 i0 (.int .u8 0) 1 1 Try.underlying22 hi hz0 hz1 hz2 rfl (by decide) _ _ _ rfl (HOQ.out.alloc _) ⟨wq.heap.size, 0, none⟩ 1 1 [.int .u8 (16 * (a : Int) + (b : Int))] rfl rfl ?c1 ?c2 ?c3 ?c4 ?c5 ?_; rotate_left 5; intro v' w5 hown5 hgrow5 hnil; have HO5 := Lib.hid hown5; have HG5 := Lib.hid hgrow5; have HNIL := Lib.hid hnil; clear hown5 hgrow5 hnil)
            case c2 => simp [Value.oneCell']
            case c3 => unfold maxLen; have := HDL.out; omega
            case c4 => have := HDL.out; omega
            case c5 => have := HBQ.out.size; omega
            obtain ⟨g1, g2⟩ := own_step' HOQ.out HG5.out HBQ.out HBQ.out.size
            refine ⟨⟨K + 2, done ++ [z], by omega, by go_num, Lib.hid (by have := HK.out; simp; omega), HD4.out, ?_, g1⟩, by simp [intOf]; omega⟩
            rw [List.length_append, bvals_app]
            have h1 := HO5.out
            rw [HZI.out] at h1
            exact h1
      · have hge : ¬ ((K : Int) < (s.size : Int)) := by omega
        have hfin : R = some done := by
          rw [HD.out, List.drop_of_length_le (by simp; omega)]
          simp [rfx]
        have HFI := Lib.hid hfin
        clear hfin
        go_wp2_with fail
        go_ret2
        rw [HFI.out]
        exact ⟨_, rfl, HO.out, HB.out⟩
end Go.Proofs.Ytjgebpgdiinmbaa
