import Derived.Test.YtcgffkkfeimifaaGreatDoorOneAll
import Derived.Deep.Slices
import Derived.OpenShut
import Derived.Test.YtcgffkkfeimifaaGreatDoorMkDL
import Derived.Deep.Strs
import Derived.Lib.SmallJoins
namespace Go.Proofs.YtcgffkkfeimifaaGreatDoor
open Go.ChangeShapes Go.WideShapes Go.ChangeAt Go.RowKit Go.Joins
set_option linter.unusedVariables false
set_option maxRecDepth 100000
theorem Tryz.cellsShort : Tryz.prog.cellsOf 41 = 16 := by kernel_rfl
def u8of : Value → UInt8
 | .int _ n => UInt8.ofNat n.toNat
 | _ => 0
section
variable {H : Type} {enc : TypeId × Value → H} {w : World}
theorem row_of_trod {base : Nat} {spare : Nat → Bool} {held : Bool} {fuel : Nat} {cs : List Value} {x : DataW H × List MemPlace} (h : DataW.trod enc Tryz.prog w base spare held fuel 41 cs = some x) : ∃ l : List UInt8, l.length = 16 ∧ cs = bvals l := by
 obtain ⟨xs, m, _, _, hl, hxl, hx⟩ := DataW.trod_array Tryz.underlying41 h
 rw [Tryz.cellsShort] at hl
 have hat : ∀ i, i < 16 → ∃ n, cs[i]? = some (.int .u8 n) ∧ 0 ≤ n ∧ n ≤ 255 := fun i hi => by
  have h1 := hx i hi
  rw [Tryz.cellsByte, Nat.mul_one, List.getElem?_eq_getElem (by omega : i < xs.length)] at h1
  obtain ⟨n, h2, _, h3⟩ := DataW.trod_int Tryz.underlying5 h1
  refine ⟨n, ?_, bounds_u8 h3⟩
  have h4 := congrArg (fun l => l[0]?) h2
  simp only [List.getElem?_take, List.getElem?_drop] at h4
  simpa using h4
 refine ⟨cs.map u8of, by rw [List.length_map, hl], ?_⟩
 apply List.ext_getElem?
 intro i
 unfold bvals
 rw [List.getElem?_map, List.getElem?_map]
 by_cases hi : i < 16
 ·
  obtain ⟨n, h1, h2, h3⟩ := hat i hi
  rw [h1]
  show some (Value.int .u8 n) = some (Value.int .u8 (((UInt8.ofNat n.toNat).toNat : Nat) : Int))
  rw [UInt8.toNat_ofNat']
  congr 2
  omega
 ·
  rw [List.getElem?_eq_none (by omega)]
  rfl
theorem open_short {r : Reach} {b0 base : Nat} {spare : Nat → Bool} {held : Bool} {v : Value} {d : DataW H} {p : List MemPlace} (hv : Value.okWide Tryz.prog w r b0 41 v) (h : DataW.Trod enc Tryz.prog w base spare held 41 v d p) :
  ∃ l : List UInt8, l.length = 16 ∧ v = .agg (bcells l) := by
 obtain ⟨fuel, hf⟩ := h
 simp only [Value.okWide, Tryz.underlying41] at hv
 obtain ⟨cs, rfl, _, _⟩ := hv
 obtain ⟨l, h1, h2⟩ := row_of_trod hf
 refine ⟨l, h1, ?_⟩
 have h3 : cs.toList = bvals l := h2
 have h4 : cs = bcells l := by
  apply Array.ext'
  rw [h3]
  rfl
 rw [h4]
end
end Go.Proofs.YtcgffkkfeimifaaGreatDoor
namespace Go.Proofs.YtcgffkkfeimifaaGreatDoor
open Go.ChangeShapes Go.WideShapes Go.ChangeAt Go.RowKit Go.Joins Sha Ots
set_option linter.unusedVariables false
set_option maxRecDepth 100000
theorem Tryz.cellsPk : Tryz.prog.cellsOf 43 = 17 := by kernel_rfl
theorem Tryz.cellsInt : Tryz.prog.cellsOf 3 = 1 := by kernel_rfl
section
variable {H : Type} {enc : TypeId × Value → H} {w : World}
theorem open_pk {r : Reach} {b0 base : Nat} {spare : Nat → Bool} {held : Bool} {v : Value} {d : DataW H} {p : List MemPlace} (hv : Value.okWide Tryz.prog w r b0 43 v) (h : DataW.Trod enc Tryz.prog w base spare held 43 v d p) :
  ∃ (R : List UInt8) (x : Int), R.length = 16 ∧ v = .agg (pkc R x) := by
 obtain ⟨cs, rfl, hsz⟩ := okWide_struct Tryz.underlying43 hv
 obtain ⟨fuel, hf⟩ := h
 obtain ⟨y0, y1, n, hx, hl, h0, h1⟩ := trod_struct2 Tryz.underlying43 hf
 rw [Tryz.cellsPk] at hsz
 obtain ⟨R, hR, hr⟩ := row_of_trod h0
 obtain ⟨x, e1, _, _⟩ := DataW.trod_int Tryz.underlying3 h1
 rw [Tryz.cellsShort] at hr
 rw [Tryz.cellsInt] at e1
 refine ⟨R, x, hR, ?_⟩
 have h2 : cs.toList = bvals R ++ [Value.int .i64 x] := by
  have h3 : cs.toList = (cs.toList.take 16) ++ (cs.toList.drop 16) := (List.take_append_drop 16 _).symm
  have h4 : cs.toList.take 16 = bvals R := by simpa [Value.cells] using hr
  have h5 : cs.toList.drop 16 = [Value.int .i64 x] := by
   have h6 : (cs.toList.drop 16).take 1 = [Value.int .i64 x] := by simpa [Value.cells] using e1
   have h7 : (cs.toList.drop 16).length = 1 := by simp [hsz]
   rw [List.take_of_length_le (by omega)] at h6
   exact h6
  rw [h3, h4, h5]
 unfold pkc
 rw [← h2]
end
end Go.Proofs.YtcgffkkfeimifaaGreatDoor
namespace Go.Proofs.YtcgffkkfeimifaaGreatDoor
open Go.RowKit Sha Ots
set_option linter.unusedVariables false
set_option linter.unusedSimpArgs false
theorem chkV_zero {h n : Int} {cl pl : Nat} (h0 : chkV h n cl pl = 0) : (0 ≤ h ∧ h ≤ 4) ∧ (0 ≤ n ∧ n < ((2 ^ h.toNat : Nat) : Int)) ∧ cl = 35 ∧ (pl : Int) = h := by
 unfold chkV at h0
 by_cases h1 : 0 ≤ h ∧ h ≤ 4
 ·
  rw [if_pos h1] at h0
  by_cases h2 : (0 ≤ n ∧ n < ((2 ^ h.toNat : Nat) : Int)) ∧ cl = 35 ∧ (pl : Int) = h
  ·
   exact ⟨h1, h2⟩
  ·
   rw [if_neg h2] at h0
   exact absurd h0 (by decide)
 ·
  rw [if_neg h1] at h0
  exact absurd h0 (by decide)
def rtV (l : List UInt8) (cs ps : List (List UInt8)) (h n : Int) : List UInt8 := if chkV h n cs.length ps.length = 0 then fol (key l cs) n.toNat ps else List.replicate 16 0
theorem rtV_len (l : List UInt8) (cs ps : List (List UInt8)) (h n : Int) : (rtV l cs ps h n).length = 16 := by
 unfold rtV
 split
 ·
  exact fol_len _ (key_len _ _) _ _
 ·
  rfl
theorem root_all (l : List UInt8) (A : Option Addr) (c : Nat) (hl : l.length ≤ 100000) (hc : l.length ≤ c) (hcm : c ≤ maxLen) (n : Int) (CA PA : Option Addr) (cs ps : List (List UInt8)) (cc pc : Nat) (w : World) (hsrc : SrcAt A l w) (hsc : Shorts CA cs w) (hsp : Shorts PA ps w) (env : DEnv w) (h : Int) :
  Calls Tryz.prog 51 #[.int .i64 h, .slice A l.length c, .agg #[.int .i64 n, .slice CA cs.length cc, .slice PA ps.length pc]] w fun e w' => e = .returned (.tuple #[.agg (bcells (rtV l cs ps h n)), .int .i64 (chkV h n cs.length ps.length)]) ∧ Below w.heap.size w w' := by
 by_cases h0 : chkV h n cs.length ps.length = 0
 ·
  obtain ⟨h1, h2, h3, h4⟩ := chkV_zero h0
  have hr : rtV l cs ps h n = fol (key l cs) n.toNat ps := by unfold rtV; rw [if_pos h0]
  obtain ⟨k, rfl⟩ : ∃ k : Nat, h = (k : Int) := ⟨h.toNat, by omega⟩
  obtain ⟨j, rfl⟩ : ∃ j : Nat, n = (j : Int) := ⟨n.toNat, by omega⟩
  rw [Int.toNat_natCast] at h2
  have hpk : ps.length = k := by omega
  have hj : j < 2 ^ k := by have := h2.2; exact_mod_cast this
  rw [h0, hr, Int.toNat_natCast, h3, hpk]
  exact root_any k j (by omega) hj l A c hl hc hcm cs ps CA PA cc pc h3 hpk w hsrc hsc hsp env
 ·
  have hr : rtV l cs ps h n = List.replicate 16 0 := by unfold rtV; rw [if_neg h0]
  rw [hr]
  exact root_bad h n _ CA PA _ cc _ pc h0 w
theorem verify_all (R : List UInt8) (hR : R.length = 16) (x : Int) (l : List UInt8) (A : Option Addr) (c : Nat) (hl : l.length ≤ 100000) (hc : l.length ≤ c) (hcm : c ≤ maxLen) (n : Int) (CA PA : Option Addr) (cs ps : List (List UInt8)) (cc pc : Nat) (w : World) (hsrc : SrcAt A l w) (hsc : Shorts CA cs w) (hsp : Shorts PA ps w) (env : DEnv w) :
  Calls Tryz.prog 27 #[.agg (pkc R x), .slice A l.length c, .agg #[.int .i64 n, .slice CA cs.length cc, .slice PA ps.length pc]] w fun e w' => e = .returned (.bool (decide (chkV x n cs.length ps.length = 0) && (rtV l cs ps x n == R))) ∧ Below w.heap.size w w' :=
 verify7_of R (rtV l cs ps x n) hR (rtV_len _ _ _ _ _) x n (chkV x n cs.length ps.length) A l.length c CA PA cs.length cc ps.length pc w (fun V hb => root_all l A c hl hc hcm n CA PA cs ps cc pc V (hsrc.on hb) (hsc.on hb) (hsp.on hb) (env.on hb) x)
end Go.Proofs.YtcgffkkfeimifaaGreatDoor
