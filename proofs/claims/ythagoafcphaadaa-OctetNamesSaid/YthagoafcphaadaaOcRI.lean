/-
  THE WALK over layer 8's laws' own function alive: the chapter's examples.
-/
import Derived.Test.YthagoafcphaadaaOcRH
namespace Go.Proofs.Ythagoafcphaadaa
open Go.RowKit Sha Oc
set_option linter.unusedVariables false
set_option linter.unusedSimpArgs false
theorem two_els2 {V : World} {o1 o2 : Oct} {x1 y1 x2 y2 : Value} {g : Nat} (h1 : At (fun _ => True) V o1 x1 y1) (h2 : At (fun _ => True) V o2 x2 y2) (hg : V.heap[g]? = some (.cells #[.int .u8 ((tagO o1).toNat : Int), x1, y1, .int .u8 ((tagO o2).toNat : Int), x2, y2] 28 (0, 0))) :
    Els V (some ⟨g, 0, none⟩) [o1, o2] g 0 (fun k => if k = 0 then x1 else x2) (fun k => if k = 0 then y1 else y2) := by
  have hc : ∀ j u, (#[.int .u8 ((tagO o1).toNat : Int), x1, y1, .int .u8 ((tagO o2).toNat : Int), x2, y2] : Array Value)[j]? = some u → V.cell? ⟨g, j, none⟩ = some u := fun j u hj => by rw [cell_of_row _ _ _ _ _ _ hg]; exact hj
  refine ⟨fun _ => rfl, fun k o hk => ?_, fun k o hk => ?_, fun k o hk => ?_, fun k o hk => ?_⟩ <;> rcases k with _ | _ | k
  all_goals first | (obtain rfl := Option.some.inj hk; exact hc _ _ rfl) | (obtain rfl := Option.some.inj hk; assumption) | (simp at hk)
theorem nb_300 : nb 300 = [1, 44] := by rw [nb_pos 300 (by decide), nb_pos (300 / 256) (by decide), show 300 / 256 / 256 = 0 from rfl, nb_zero]; rfl
set_option maxRecDepth 100000 in
set_option maxHeartbeats 4000000 in
theorem alive8_any (w : World) : Calls Try.prog 15 #[] w (fun e w' => e = .returned (.bool true) ∧ Below w.heap.size w w') := by
  have c1 : ckV (.mk 2 [1, 44] []) = 0 := by kernel_rfl
  have c2 : ckV (.mk 130 [] [.mk 2 [] [], .mk 3 [97] []]) = 0 := by kernel_rfl
  have d1 : decV [2, 129, 5, 0, 0, 0, 0, 0] = (nilO, 12) := by kernel_rfl
  have d2 : decV [2, 2, 1] = (nilO, 12) := by kernel_rfl
  have e1 : enc (.mk 2 [1, 44] []) = [2, 2, 1, 44] := by kernel_rfl
  have e2 : enc (.mk 130 [] [.mk 2 [] [], .mk 3 [97] []]) = [130, 5, 2, 0, 3, 1, 97] := by kernel_rfl
  have N1 := Lib.hid (fun V => num_any 2 300 (by decide) V)
  have N2 := Lib.hid (fun V => num_any 2 0 (by decide) V)
  have N3 := Lib.hid (fun V => str_any 3 ⟨#[97]⟩ (by decide) V)
  rw [nb_300] at N1
  rw [nb_zero] at N2
  unfold SnPost at N1 N2 N3
  have E1 := Lib.hid (fun (V : World) x y hat A c hc hA hs => encodes_any _ c1 V x y hat A c hc hA hs)
  have E2 := Lib.hid (fun (V : World) x y hat A c hc hA hs => encodes_any _ c2 V x y hat A c hc hA hs)
  rw [e1] at E1
  rw [e2] at E2
  have F1 := Lib.hid (fun (V : World) A c hc hA hs => refused_any _ d1 (by decide) V A c hc hA hs)
  have F2 := Lib.hid (fun (V : World) A c hc hA hs => refused_any _ d2 (by decide) V A c hc hA hs)
  have SQ := Lib.hid (fun (V : World) (B : Option Addr) (d g off : Nat) (vb vl : Nat → Value) he => seq_any 130 [.mk 2 [] [], .mk 3 [97] []] (by decide) (fun o ho => by
    rcases List.mem_cons.1 ho with rfl | ho
    · decide
    · obtain rfl := List.mem_singleton.1 ho
      decide) B d g off vb vl V he)
  unfold TwPost at SQ
  clear c1 c2 d1 d2 e1 e2
  go_enter Try.func15, Try.ntmps15
  go_wp2_with fail
  refine (N1.out w).mono ?_
  rintro e w1 ⟨x1, y1, rfl, hat1, hb1⟩
  obtain ⟨A1, m1, k1, B1, n1, q1, rfl, rfl⟩ := hat1.slices
  unfold cell3
  dsimp only [tagO]
  have HAT1 := Lib.hid hat1
  have HB1 := Lib.hid hb1
  clear hat1 hb1 N1
  go_wp2_with fail
  have hn1 := below_new w1 (.cells (bcells [2, 2, 1, 44]) 5)
  have hc1 := E1.out (w1.alloc (.cells (bcells [2, 2, 1, 44]) 5)) _ _ (HAT1.out.on hn1) (some ⟨w1.heap.size, 0, none⟩) 4 (by decide) (fun e => by cases e) (srcAt_row (heap_alloc_new w1 _))
  refine hc1.mono ?_
  rintro e w2 ⟨rfl, hb2⟩
  have HB2 := Lib.hid (chain (chain HB1.out hn1) hb2)
  clear hn1 hc1 hb2 HAT1 HB1 E1
  go_wp2_with fail
  refine (N2.out w2).mono ?_
  rintro e w3 ⟨x3, y3, rfl, hat3, hb3⟩
  obtain ⟨A3, m3, k3, B3, n3, q3, rfl, rfl⟩ := hat3.slices
  unfold cell3
  dsimp only [tagO]
  have HAT3 := Lib.hid hat3
  have HB3 := Lib.hid (chain HB2.out hb3)
  clear hat3 hb3 N2 HB2
  go_wp2_with fail
  refine (N3.out w3).mono ?_
  rintro e w4 ⟨x4, y4, rfl, hat4, hb4⟩
  obtain ⟨A4, m4, k4, B4, n4, q4, rfl, rfl⟩ := hat4.slices
  unfold cell3
  dsimp only [tagO]
  have HAT4 := Lib.hid hat4
  have HAT34 := Lib.hid (HAT3.out.on hb4)
  have HB4 := Lib.hid (chain HB3.out hb4)
  clear hat4 hb4 N3 HB3 HAT3
  go_wp2_with fail
  generalize hV : World.alloc w4 _ = w5
  have hb5 : Below w4.heap.size w4 w5 := by rw [← hV]; exact below_new _ _
  have hr5 : w5.heap[w4.heap.size]? = some (.cells #[.int .u8 ((tagO (.mk 2 [] [])).toNat : Int), .slice A3 m3 k3, .slice B3 n3 q3, .int .u8 ((tagO (.mk 3 [97] [])).toNat : Int), .slice A4 m4 k4, .slice B4 n4 q4] 28 (0, 0)) := by rw [← hV]; exact heap_alloc_new _ _
  have hsq := SQ.out w5 _ 2 _ _ _ _ (two_els2 (HAT34.out.on hb5) (HAT4.out.on hb5) hr5)
  have HSQ := Lib.hid hsq
  have HB5 := Lib.hid (chain HB4.out hb5)
  clear hV hb5 hr5 hsq SQ HB4 HAT34 HAT4
  refine HSQ.out.mono ?_
  rintro e w6 ⟨x6, y6, rfl, hat6, hb6⟩
  obtain ⟨A6, m6, k6, B6, n6, q6, rfl, rfl⟩ := hat6.slices
  unfold cell3
  dsimp only [tagO]
  have HAT6 := Lib.hid hat6.any
  have HB6 := Lib.hid (chain HB5.out hb6)
  clear hat6 hb6 HSQ HB5
  go_wp2_with fail
  have hn1 := below_new w6 (.cells (bcells [130, 5, 2, 0, 3, 1, 97]) 5)
  have hc1 := E2.out (w6.alloc (.cells (bcells [130, 5, 2, 0, 3, 1, 97]) 5)) _ _ (HAT6.out.on hn1) (some ⟨w6.heap.size, 0, none⟩) 7 (by decide) (fun e => by cases e) (srcAt_row (heap_alloc_new w6 _))
  refine hc1.mono ?_
  rintro e w7 ⟨rfl, hb7⟩
  have HB7 := Lib.hid (chain (chain HB6.out hn1) hb7)
  clear hn1 hc1 hb7 HAT6 HB6 E2
  go_wp2_with fail
  have hn1 := below_new w7 (.cells (bcells [2, 129, 5, 0, 0, 0, 0, 0]) 5)
  have hc1 := F1.out (w7.alloc (.cells (bcells [2, 129, 5, 0, 0, 0, 0, 0]) 5)) (some ⟨w7.heap.size, 0, none⟩) 8 (by decide) (fun e => by cases e) (srcAt_row (heap_alloc_new w7 _))
  refine hc1.mono ?_
  rintro e w8 ⟨rfl, hb8⟩
  have HB8 := Lib.hid (chain (chain HB7.out hn1) hb8)
  clear hn1 hc1 hb8 HB7 F1
  go_wp2_with fail
  have hn1 := below_new w8 (.cells (bcells [2, 2, 1]) 5)
  have hc1 := F2.out (w8.alloc (.cells (bcells [2, 2, 1]) 5)) (some ⟨w8.heap.size, 0, none⟩) 3 (by decide) (fun e => by cases e) (srcAt_row (heap_alloc_new w8 _))
  refine hc1.mono ?_
  rintro e w9 ⟨rfl, hb9⟩
  have HB9 := Lib.hid (chain (chain HB8.out hn1) hb9)
  clear hn1 hc1 hb9 HB8 F2
  go_wp2_with fail
  go_ret
  exact ⟨rfl, HB9.out⟩
end Go.Proofs.Ythagoafcphaadaa
