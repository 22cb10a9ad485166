/-
  THE WALKS over FromHex and FromBase64.
-/
import Derived.Test.YtjgebpgdiinmbaaDigU
namespace Go.Proofs.Ytjgebpgdiinmbaa
open Go.RowKit Sha
set_option linter.unusedVariables false
set_option linter.unusedSimpArgs false
theorem own_src {w : World} {base : Nat} {v : Value} {L : List UInt8} (h : w.ownsRow base 5 1 v L.length (bvals L)) (hn : v ≠ .slice none 0 0) :
    ∃ g cap, v = .slice (some ⟨g, 0, none⟩) L.length cap ∧ base ≤ g ∧ L.length ≤ cap ∧ cap ≤ maxLen ∧ SrcAt (some ⟨g, 0, none⟩) L w := by
  obtain ⟨hl', h | ⟨g, cap, cur, hv, hb, hg, hnc, hcm, hcs, ht⟩⟩ := h
  · exact absurd h.1 hn
  · refine ⟨g, cap, hv, hb, hnc, hcm, fun _ => ⟨g, 0, rfl, fun j x hj => ?_⟩⟩
    rw [Nat.zero_add, cell_of_row w g j cur _ _ hg, ← Array.getElem?_toList]
    have h2 : (cur.toList.take (L.length * 1))[j]? = some (.int .u8 (x.toNat : Int)) := by
      rw [ht]
      unfold bvals
      rw [List.getElem?_map, hj]
      rfl
    rw [List.getElem?_take] at h2
    split at h2
    · exact h2
    · cases h2
theorem owns_on {w w' : World} {base size n : Nat} {e : TypeId} {v : Value} {xs : List Value} (h : w.ownsRow base e size v n xs) (hb : Below w.heap.size w w') : w'.ownsRow base e size v n xs := by
  obtain ⟨h1, h | ⟨g, cap, cur, rfl, hg1, hg2, h3, h4, h5, h6⟩⟩ := h
  · exact ⟨h1, Or.inl h⟩
  · have hlt : g < w.heap.size := (Array.getElem?_eq_some_iff.1 hg2).1
    exact ⟨h1, Or.inr ⟨g, cap, cur, rfl, hg1, (hb.block g hlt).trans hg2, h3, h4, h5, h6⟩⟩
theorem bs_list (s : ByteArray) : bs s.data.toList = s := by
  unfold bs
  simp
set_option maxRecDepth 100000 in
set_option maxHeartbeats 1000000 in
theorem exact_yes (tf : Nat) (htf : tf = 8 ∨ tf = 10) (s : ByteArray) (A : Option Addr) (n c : Nat) (w : World)
    (hc : ∀ V, Below w.heap.size w V → Calls Try.prog tf #[.slice A n c] V fun e w' => e = .returned (.string s) ∧ Below V.heap.size V w') :
    Calls Try.prog 13 #[.string s, .func (.func tf) #[] #[], .slice A n c] w fun e w' => e = .returned (.tuple #[.slice A n c, .int .i64 0]) ∧ Below w.heap.size w w' := by
  have HC := Lib.hid hc
  clear hc
  rcases htf with rfl | rfl
  all_goals
    go_enter Try.func13, Try.ntmps13
    go_wp2_with fail
    refine (HC.out _ (Below.refl _ _)).mono ?_
    rintro e w1 ⟨rfl, hb⟩
    have HB := Lib.hid hb
    clear hb
    go_wp2_with fail
    go_ret2
    exact ⟨rfl, HB.out⟩
set_option maxRecDepth 100000 in
set_option maxHeartbeats 1000000 in
theorem exact_no (tf : Nat) (htf : tf = 8 ∨ tf = 10) (s X : ByteArray) (hX : X ≠ s) (A : Option Addr) (n c : Nat) (w : World)
    (hc : ∀ V, Below w.heap.size w V → Calls Try.prog tf #[.slice A n c] V fun e w' => e = .returned (.string X) ∧ Below V.heap.size V w') :
    Calls Try.prog 13 #[.string s, .func (.func tf) #[] #[], .slice A n c] w fun e w' => e = .returned (.tuple #[.slice none 0 0, .int .i64 12]) ∧ Below w.heap.size w w' := by
  have HC := Lib.hid hc
  have h1 : (X.toList == s.toList) = false := by
    rw [beq_eq_false_iff_ne]
    intro e
    apply hX
    have : X.data.toList = s.data.toList := by
      rw [← ByteArray.toList_eq, ← ByteArray.toList_eq]
      exact e
    rw [← bs_list X, ← bs_list s, this]
  have h2 : (X.toList != s.toList) = true := by rw [bne, h1]; rfl
  clear hc hX
  rcases htf with rfl | rfl
  all_goals
    go_enter Try.func13, Try.ntmps13
    go_wp2_with fail
    refine (HC.out _ (Below.refl _ _)).mono ?_
    rintro e w1 ⟨rfl, hb⟩
    have HB := Lib.hid hb
    clear hb
    go_wp2_with fail
    go_ret2
    exact ⟨rfl, HB.out⟩
def undX (s : ByteArray) : List UInt8 := und 4 hexL 0 0 s.data.toList
def undB (s : ByteArray) : List UInt8 := und 6 b64L 0 0 s.data.toList
theorem undX_len (s : ByteArray) : (undX s).length ≤ s.size := by
  have := und_len 4 hexL s.data.toList 0 0
  simpa [undX] using this
theorem undB_len (s : ByteArray) : (undB s).length ≤ s.size := by
  have := und_len 6 b64L s.data.toList 0 0
  simpa [undB] using this
set_option maxRecDepth 100000 in
set_option maxHeartbeats 1000000 in
theorem fh_yes (s : ByteArray) (hs : s.size ≤ 20000) (hX : bs (hexS (undX s)) = s) (w : World) :
    Calls Try.prog 4 #[.string s] w fun e w' => ∃ v, e = .returned (.tuple #[v, .int .i64 0]) ∧ w'.ownsRow w.heap.size 5 1 v (undX s).length (bvals (undX s)) ∧ v ≠ .slice none 0 0 ∧ Below w.heap.size w w' := by
  have hu := undig_4 hexL rfl s (by omega) w
  rw [show und 4 hexL 0 0 s.data.toList = undX s from rfl] at hu
  have hul := undX_len s
  have ht := fun (A : Option Addr) (c : Nat) (h1 : (undX s).length ≤ c) (V : World) (h2 : SrcAt A (undX s) V) => hex_any (undX s) A c (by omega) h1 V h2
  obtain ⟨L, hL⟩ : ∃ L, undX s = L := ⟨_, rfl⟩
  rw [hL] at hu ht hX hul ⊢
  obtain ⟨X, hXX⟩ : ∃ X, bs (hexS L) = X := ⟨_, rfl⟩
  rw [hXX] at ht hX
  have HU := Lib.hid hu
  have HT := Lib.hid ht
  have HX := Lib.hid hX
  clear hu ht hX hXX hL hul
  go_enter Try.func4, Try.ntmps4
  go_wp2_with fail
  refine HU.out.mono ?_
  rintro e w1 ⟨v, rfl, hown, hnn, hb⟩
  obtain ⟨g, cap, rfl, hg, h1, h2, h3⟩ := own_src hown hnn
  have HO := Lib.hid hown
  have HB := Lib.hid hb
  have HEX := Lib.hid (fun V (hV : Below w1.heap.size w1 V) => HT.out (some ⟨g, 0, none⟩) cap h1 V (h3.on hV))
  have hex := exact_yes 8 (Or.inl rfl) s (some ⟨g, 0, none⟩) L.length cap w1 (by
    intro V hV
    have h := HEX.out V hV
    rw [HX.out] at h
    exact h)
  have HE := Lib.hid hex
  clear hown hb hnn hex h1 h2 h3 hg
  go_wp2_with fail
  refine HE.out.mono ?_
  rintro e w2 ⟨rfl, hb2⟩
  have HB2 := Lib.hid hb2
  clear hb2
  go_wp2_with fail
  go_ret2
  refine ⟨_, rfl, owns_on HO.out HB2.out, (by simp), HB.out.trans (HB2.out.mono HB.out.size)⟩
set_option maxRecDepth 100000 in
set_option maxHeartbeats 1000000 in
theorem fh_no (s : ByteArray) (hs : s.size ≤ 20000) (hX : bs (hexS (undX s)) ≠ s) (w : World) :
    Calls Try.prog 4 #[.string s] w fun e w' => e = .returned (.tuple #[.slice none 0 0, .int .i64 12]) ∧ Below w.heap.size w w' := by
  have hu := undig_4 hexL rfl s (by omega) w
  rw [show und 4 hexL 0 0 s.data.toList = undX s from rfl] at hu
  have hul := undX_len s
  have ht := fun (A : Option Addr) (c : Nat) (h1 : (undX s).length ≤ c) (V : World) (h2 : SrcAt A (undX s) V) => hex_any (undX s) A c (by omega) h1 V h2
  obtain ⟨L, hL⟩ : ∃ L, undX s = L := ⟨_, rfl⟩
  rw [hL] at hu ht hX hul
  obtain ⟨X, hXX⟩ : ∃ X, bs (hexS L) = X := ⟨_, rfl⟩
  rw [hXX] at ht hX
  have HU := Lib.hid hu
  have HT := Lib.hid ht
  have HX := Lib.hid hX
  clear hu ht hX hXX hL hul
  go_enter Try.func4, Try.ntmps4
  go_wp2_with fail
  refine HU.out.mono ?_
  rintro e w1 ⟨v, rfl, hown, hnn, hb⟩
  obtain ⟨g, cap, rfl, hg, h1, h2, h3⟩ := own_src hown hnn
  have HO := Lib.hid hown
  have HB := Lib.hid hb
  have HEX := Lib.hid (fun V (hV : Below w1.heap.size w1 V) => HT.out (some ⟨g, 0, none⟩) cap h1 V (h3.on hV))
  have hex := exact_no 8 (Or.inl rfl) s X HX.out (some ⟨g, 0, none⟩) L.length cap w1 HEX.out
  have HE := Lib.hid hex
  clear hown hb hnn hex h1 h2 h3 hg
  go_wp2_with fail
  refine HE.out.mono ?_
  rintro e w2 ⟨rfl, hb2⟩
  have HB2 := Lib.hid hb2
  clear hb2
  go_wp2_with fail
  go_ret2
  exact ⟨rfl, HB.out.trans (HB2.out.mono HB.out.size)⟩
set_option maxRecDepth 100000 in
set_option maxHeartbeats 1000000 in
theorem fb_yes (s : ByteArray) (hs : s.size ≤ 20000) (hX : bs (b64S (undB s)) = s) (w : World) :
    Calls Try.prog 6 #[.string s] w fun e w' => ∃ v, e = .returned (.tuple #[v, .int .i64 0]) ∧ w'.ownsRow w.heap.size 5 1 v (undB s).length (bvals (undB s)) ∧ v ≠ .slice none 0 0 ∧ Below w.heap.size w w' := by
  have hu := undig_6 b64L rfl s (by omega) w
  rw [show und 6 b64L 0 0 s.data.toList = undB s from rfl] at hu
  have hul := undB_len s
  have ht := fun (A : Option Addr) (c : Nat) (h1 : (undB s).length ≤ c) (V : World) (h2 : SrcAt A (undB s) V) => b64_any (undB s) A c (by omega) h1 V h2
  obtain ⟨L, hL⟩ : ∃ L, undB s = L := ⟨_, rfl⟩
  rw [hL] at hu ht hX hul ⊢
  obtain ⟨X, hXX⟩ : ∃ X, bs (b64S L) = X := ⟨_, rfl⟩
  rw [hXX] at ht hX
  have HU := Lib.hid hu
  have HT := Lib.hid ht
  have HX := Lib.hid hX
  clear hu ht hX hXX hL hul
  go_enter Try.func6, Try.ntmps6
  go_wp2_with fail
  refine HU.out.mono ?_
  rintro e w1 ⟨v, rfl, hown, hnn, hb⟩
  obtain ⟨g, cap, rfl, hg, h1, h2, h3⟩ := own_src hown hnn
  have HO := Lib.hid hown
  have HB := Lib.hid hb
  have HEX := Lib.hid (fun V (hV : Below w1.heap.size w1 V) => HT.out (some ⟨g, 0, none⟩) cap h1 V (h3.on hV))
  have hex := exact_yes 10 (Or.inr rfl) s (some ⟨g, 0, none⟩) L.length cap w1 (by
    intro V hV
    have h := HEX.out V hV
    rw [HX.out] at h
    exact h)
  have HE := Lib.hid hex
  clear hown hb hnn hex h1 h2 h3 hg
  go_wp2_with fail
  refine HE.out.mono ?_
  rintro e w2 ⟨rfl, hb2⟩
  have HB2 := Lib.hid hb2
  clear hb2
  go_wp2_with fail
  go_ret2
  refine ⟨_, rfl, owns_on HO.out HB2.out, (by simp), HB.out.trans (HB2.out.mono HB.out.size)⟩
set_option maxRecDepth 100000 in
set_option maxHeartbeats 1000000 in
theorem fb_no (s : ByteArray) (hs : s.size ≤ 20000) (hX : bs (b64S (undB s)) ≠ s) (w : World) :
    Calls Try.prog 6 #[.string s] w fun e w' => e = .returned (.tuple #[.slice none 0 0, .int .i64 12]) ∧ Below w.heap.size w w' := by
  have hu := undig_6 b64L rfl s (by omega) w
  rw [show und 6 b64L 0 0 s.data.toList = undB s from rfl] at hu
  have hul := undB_len s
  have ht := fun (A : Option Addr) (c : Nat) (h1 : (undB s).length ≤ c) (V : World) (h2 : SrcAt A (undB s) V) => b64_any (undB s) A c (by omega) h1 V h2
  obtain ⟨L, hL⟩ : ∃ L, undB s = L := ⟨_, rfl⟩
  rw [hL] at hu ht hX hul
  obtain ⟨X, hXX⟩ : ∃ X, bs (b64S L) = X := ⟨_, rfl⟩
  rw [hXX] at ht hX
  have HU := Lib.hid hu
  have HT := Lib.hid ht
  have HX := Lib.hid hX
  clear hu ht hX hXX hL hul
  go_enter Try.func6, Try.ntmps6
  go_wp2_with fail
  refine HU.out.mono ?_
  rintro e w1 ⟨v, rfl, hown, hnn, hb⟩
  obtain ⟨g, cap, rfl, hg, h1, h2, h3⟩ := own_src hown hnn
  have HO := Lib.hid hown
  have HB := Lib.hid hb
  have HEX := Lib.hid (fun V (hV : Below w1.heap.size w1 V) => HT.out (some ⟨g, 0, none⟩) cap h1 V (h3.on hV))
  have hex := exact_no 10 (Or.inr rfl) s X HX.out (some ⟨g, 0, none⟩) L.length cap w1 HEX.out
  have HE := Lib.hid hex
  clear hown hb hnn hex h1 h2 h3 hg
  go_wp2_with fail
  refine HE.out.mono ?_
  rintro e w2 ⟨rfl, hb2⟩
  have HB2 := Lib.hid hb2
  clear hb2
  go_wp2_with fail
  go_ret2
  exact ⟨rfl, HB.out.trans (HB2.out.mono HB.out.size)⟩
end Go.Proofs.Ytjgebpgdiinmbaa
