/-
  PLAIN MATHEMATICS of layer 9: Parse in a form that the kernel reckons; the chapter's examples.
-/
import Derived.Test.YthagoafcphaadaaDoorLocC
namespace Go.Proofs.YthagoafcphaadaaDoor
namespace Lo
set_option linter.unusedVariables false
set_option linter.unusedSimpArgs false
def pcsF : Nat → List UInt8 → List (List UInt8)
  | 0, _ => []
  | n + 1, l => if l = [] then [] else (Go.Lib.cut l [47]).1 :: pcsF n (Go.Lib.cut l [47]).2.1
theorem pcsF_eq : ∀ (n : Nat) (l : List UInt8), l.length ≤ n → pcsF n l = pcs l
  | 0, l, h => by
    have e : l = [] := List.length_eq_zero_iff.1 (by omega)
    rw [e, pcs_nil]; rfl
  | n + 1, l, h => by
    by_cases e : l = []
    · rw [e, pcs_nil]; rfl
    · have hl := cut_less l e
      rw [pcs_cons l e]
      unfold pcsF
      rw [if_neg e, pcsF_eq n _ (by omega)]
def decF : Nat → Nat → List UInt8
  | 0, _ => []
  | k + 1, n => if n < 10 then [UInt8.ofNat (48 + n)] else decF k (n / 10) ++ [UInt8.ofNat (48 + n % 10)]
theorem decF_eq : ∀ (k n : Nat), n < 10 ^ k → 0 < k → decF k n = Go.Lib.decDigits n
  | 0, n, h, h0 => by omega
  | k + 1, n, h, _ => by
    unfold decF
    by_cases hn : n < 10
    · rw [if_pos hn, Go.Lib.decDigits, dif_pos hn]
    · rw [if_neg hn, Go.Lib.decDigits, dif_neg hn]
      have h1 : n / 10 < 10 ^ k := by
        rw [Nat.div_lt_iff_lt_mul (by omega), ← Nat.pow_succ]
        exact h
      have h2 : 0 < k := by
        rcases Nat.eq_zero_or_pos k with e | e
        · subst e; simp at h; omega
        · exact e
      rw [decF_eq k (n / 10) h1 h2]
def ptC (p : Int) : List UInt8 := if p = 0 then [] else 58 :: decF 6 p.toNat
def wrC (l : Lc) : List UInt8 := word l.sch ++ ([58, 47, 47] ++ (l.host ++ (ptC l.port ++ (47 :: (Go.Lib.join l.parts [47] ++ endD l.parts l.dir)))))
theorem wrC_eq (l : Lc) (h0 : 0 ≤ l.port) (h1 : l.port ≤ 65535) : wrC l = wrL l := by
  have e : ptC l.port = ptI l.port := by
    unfold ptC ptI
    by_cases h : l.port = 0
    · rw [if_pos h, if_pos h]
    · rw [if_neg h, if_neg h]
      unfold Go.Lib.itoa
      rw [if_neg (by omega), decF_eq 6 l.port.toNat (by omega) (by omega)]
  unfold wrC wrL
  rw [e]
def rdC (s : List UInt8) : Lc :=
  let r := (Go.Lib.cut s [58, 47, 47]).2.1
  let b := Go.Lib.cut r [47]
  let hp := Go.Lib.cut b.1 [58]
  ⟨schOf (Go.Lib.cut s [58, 47, 47]).1, hp.1, atN hp.2.1, pcsF b.2.1.length b.2.1, Go.Lib.hasSuffix s [47]⟩
theorem rdC_eq (s : List UInt8) : rdC s = rdL s := by
  unfold rdC rdL
  simp only [pcsF_eq _ _ (Nat.le_refl _)]
def chkC (l : Lc) : Int := if 10 < l.parts.length then 4 else if goodB l = false then 8 else if 200 < (wrC l).length then 4 else 0
theorem chkC_eq (l : Lc) : chkC l = chk l := by
  unfold chkC chk
  by_cases h : 10 < l.parts.length
  · rw [if_pos h, if_pos h]
  · rw [if_neg h, if_neg h]
    cases hg : goodB l with
    | false => rfl
    | true =>
      have g := (good_iff l).1 hg
      rw [wrC_eq l g.p0 g.p1]
def parseC (s : List UInt8) : Option Lc := if s.length ≤ 200 ∧ chkC (rdC s) = 0 ∧ wrC (rdC s) = s then some (rdC s) else none
theorem parseC_eq (s : List UInt8) : parseL s = parseC s := by
  unfold parseL parseC
  rw [rdC_eq, chkC_eq]
  by_cases h : chk (rdL s) = 0
  · have g := (chk_zero h).1
    rw [wrC_eq _ g.p0 g.p1]
  · rw [if_neg (fun e => h e.2.1), if_neg (fun e => h e.2.1)]
def xOne : List UInt8 := [114, 115, 121, 110, 99, 58, 47, 47, 114, 101, 112, 111, 46, 101, 120, 97, 109, 112, 108, 101, 47, 99, 97, 47, 111, 110, 101, 46, 99, 101, 114]
def xDir : List UInt8 := [114, 115, 121, 110, 99, 58, 47, 47, 114, 101, 112, 111, 46, 101, 120, 97, 109, 112, 108, 101, 47, 99, 97, 47]
def xPort : List UInt8 := [104, 116, 116, 112, 115, 58, 47, 47, 114, 101, 112, 111, 46, 101, 120, 97, 109, 112, 108, 101, 58, 56, 52, 52, 51, 47]
def hRepo : List UInt8 := [114, 101, 112, 111, 46, 101, 120, 97, 109, 112, 108, 101]
def lOne : Lc := ⟨1, hRepo, 0, [[99, 97], [111, 110, 101, 46, 99, 101, 114]], false⟩
def lDir : Lc := ⟨1, hRepo, 0, [[99, 97]], true⟩
def lPort : Lc := ⟨2, hRepo, 8443, [], true⟩
theorem x_one : parseL xOne = some lOne := by rw [parseC_eq]; decide +kernel
theorem x_dir : parseL xDir = some lDir := by rw [parseC_eq]; decide +kernel
theorem x_port : parseL xPort = some lPort := by rw [parseC_eq]; decide +kernel
theorem x_in : withinL xDir xOne = (true, 0) := by
  unfold withinL
  rw [x_one, x_dir]
  decide +kernel
def xB : List (List UInt8) := [[104, 116, 116, 112, 115, 58, 47, 47, 114, 101, 112, 111, 46, 101, 120, 97, 109, 112, 108, 101],
  [104, 116, 116, 112, 115, 58, 47, 47, 114, 101, 112, 111, 46, 101, 120, 97, 109, 112, 108, 101, 58, 52, 52, 51, 47],
  [114, 115, 121, 110, 99, 58, 47, 47, 82, 101, 112, 111, 46, 101, 120, 97, 109, 112, 108, 101, 47],
  [114, 115, 121, 110, 99, 58, 47, 47, 114, 101, 112, 111, 46, 101, 120, 97, 109, 112, 108, 101, 47, 97, 47, 47, 98],
  [114, 115, 121, 110, 99, 58, 47, 47, 114, 101, 112, 111, 46, 101, 120, 97, 109, 112, 108, 101, 47, 97, 47, 46, 46, 47, 98],
  [114, 115, 121, 110, 99, 58, 47, 47, 114, 101, 112, 111, 46, 46, 101, 120, 97, 109, 112, 108, 101, 47, 97]]
theorem x_bad : ∀ s ∈ xB, parseL s = none := by
  intro s hs
  rw [parseC_eq]
  revert s
  decide +kernel
end Lo
end Go.Proofs.YthagoafcphaadaaDoor
