/-
  THE PUBLIC KEYS OF TWO SEEDS DIFFER (five chains a theorem); the first two digits of "abc". Written by wip/gen-fastd.py.
-/
import Derived.Test.YtafolokkjpbieaaDoorFastC
namespace Go.Proofs.YtafolokkjpbieaaDoor
namespace Fast
open Sha Ots
set_option linter.unusedVariables false
def seed1 : List UInt8 := [1, 0, 0, 0, 0, 0, 0, 0, 0, 0, 0, 0, 0, 0, 0, 0]
def seed2 : List UInt8 := [2, 0, 0, 0, 0, 0, 0, 0, 0, 0, 0, 0, 0, 0, 0, 0]
theorem seed1_eq : wbs [16777216, 0, 0, 0] = seed1 := by decide +kernel
theorem seed2_eq : wbs [33554432, 0, 0, 0] = seed2 := by decide +kernel
theorem nats_inj : ∀ (l m : List UInt32), nats l = nats m → l = m
  | [], [], _ => rfl
  | [], w :: m, h => by simp [nats] at h
  | w :: l, [], h => by simp [nats] at h
  | v :: l, w :: m, h => by
    have h1 : v.toNat = w.toNat ∧ nats l = nats m := by simpa [nats] using h
    rw [UInt32.toNat_inj.1 h1.1, nats_inj l m h1.2]
/-- five chains, reckoned -/
theorem five (a b c d : UInt32) (x : List UInt8) (hx : wbs [a, b, c, d] = x) (i : Nat) (hi : i ≤ 30) (E : List UInt32) (h : enW 255 15 a.toNat b.toNat c.toNat d.toNat 5 i [] (fun l => l) = nats E.reverse) :
    ((List.range' i 5).map fun i => chn x i 15).flatten = wbs E := by
  obtain ⟨E2, e1, e2, e3⟩ := enW_eq 255 15 rfl rfl a b c d x hx 5 i (by omega) []
  have h3 := e3 (List Nat) (fun l => l)
  have h4 : nats [] = ([] : List Nat) := rfl
  rw [h4, h, List.append_nil] at h3
  have h5 := congrArg List.reverse (nats_inj _ _ h3)
  rw [List.reverse_reverse, List.reverse_reverse] at h5
  rw [e2, h5]
/-- the key, out of all ends -/
theorem key_of (x : List UInt8) (E : List UInt32) (hE : E.length = 140) (h : ((List.range 35).map fun i => chn x i 15).flatten = wbs E) (P : List UInt32)
    (hp : ruW 9 (nats (E ++ [2147483648, 0, 0, (4480 : UInt32)])) 0x6a09e667 0xbb67ae85 0x3c6ef372 0xa54ff53a 0x510e527f 0x9b05688c 0x1f83d9ab 0x5be0cd19 = nats P) : pub x = wbs P := by
  obtain ⟨l, hl⟩ : ∃ l, E ++ [2147483648, 0, 0, (4480 : UInt32)] = l := ⟨_, rfl⟩
  rw [hl] at hp
  have hlen : l.length = 16 * 9 := by rw [← hl, List.length_append, hE]; rfl
  have hE5 : (wbs E).length = 560 := by rw [wbs_len, hE]
  have hw : wbs E ++ ending (wbs E).length = wbs l := by
    rw [← hl, wbs_app, hE5, end_560]
  obtain ⟨r, hr⟩ : ∃ r, run 9 Sha.start (wbs l) = r := ⟨_, rfl⟩
  have hs := sha_of (wbs E) (wbs l) hw 9 (by rw [wbs_len, hlen]) r hr
  have hru := ruW_eq 9 l hlen Sha.start
  rw [hr] at hru
  have h7 : nats P = nats [r.a, r.b, r.c, r.d] := hp.symm.trans hru
  unfold pub
  rw [h]
  unfold sh
  rw [hs, hash_wbs, first_four, nats_inj _ _ h7]
theorem range_35 : List.range 35 = List.range' 0 5 ++ (List.range' 5 5 ++ (List.range' 10 5 ++ (List.range' 15 5 ++ (List.range' 20 5 ++ (List.range' 25 5 ++ List.range' 30 5))))) := by decide +kernel
def seed1_e0 : List UInt32 := [3514413881, 2160518888, 4234249593, 91770896, 1463038262, 2523212856, 884941086, 3951573006, 1410221027, 2448540815, 1311522351, 4033671292, 4259994684, 314532456, 3139109751, 1701362101, 3355017184, 2312687105, 1784372141, 3810884132]
theorem seed1_g0 : enW 255 15 16777216 0 0 0 5 0 [] (fun l => l) = [3810884132, 1784372141, 2312687105, 3355017184, 1701362101, 3139109751, 314532456, 4259994684, 4033671292, 1311522351, 2448540815, 1410221027, 3951573006, 884941086, 2523212856, 1463038262, 91770896, 4234249593, 2160518888, 3514413881] := by decide +kernel
theorem seed1_h0 : ((List.range' 0 5).map fun i => chn seed1 i 15).flatten = wbs seed1_e0 := five 16777216 0 0 0 seed1 seed1_eq 0 (by decide) seed1_e0 seed1_g0
def seed1_e1 : List UInt32 := [1785372508, 3716040920, 3416680288, 2162939385, 3605761073, 2778360809, 1699537737, 1057908279, 4144593183, 836708591, 1694469287, 3426322894, 4067817947, 1804542593, 1200373436, 78341827, 235642951, 3118964720, 2970970771, 3085939135]
theorem seed1_g1 : enW 255 15 16777216 0 0 0 5 5 [] (fun l => l) = [3085939135, 2970970771, 3118964720, 235642951, 78341827, 1200373436, 1804542593, 4067817947, 3426322894, 1694469287, 836708591, 4144593183, 1057908279, 1699537737, 2778360809, 3605761073, 2162939385, 3416680288, 3716040920, 1785372508] := by decide +kernel
theorem seed1_h1 : ((List.range' 5 5).map fun i => chn seed1 i 15).flatten = wbs seed1_e1 := five 16777216 0 0 0 seed1 seed1_eq 5 (by decide) seed1_e1 seed1_g1
def seed1_e2 : List UInt32 := [125092872, 1408920186, 1854949800, 2925880352, 2854245295, 1482760434, 271858721, 4065818939, 2644050542, 3178633218, 2822257393, 3972467164, 1367228624, 1302440125, 1073876331, 2158741588, 337803293, 322640500, 1580633212, 2586988402]
theorem seed1_g2 : enW 255 15 16777216 0 0 0 5 10 [] (fun l => l) = [2586988402, 1580633212, 322640500, 337803293, 2158741588, 1073876331, 1302440125, 1367228624, 3972467164, 2822257393, 3178633218, 2644050542, 4065818939, 271858721, 1482760434, 2854245295, 2925880352, 1854949800, 1408920186, 125092872] := by decide +kernel
theorem seed1_h2 : ((List.range' 10 5).map fun i => chn seed1 i 15).flatten = wbs seed1_e2 := five 16777216 0 0 0 seed1 seed1_eq 10 (by decide) seed1_e2 seed1_g2
def seed1_e3 : List UInt32 := [1543589635, 2204993238, 2563189728, 3403817170, 4081624983, 2550507744, 1466519246, 2655799591, 686028152, 804816784, 2096670340, 924412666, 2914720882, 1486807634, 2874856373, 2467317476, 3998222604, 1612890081, 3483917085, 3245349899]
theorem seed1_g3 : enW 255 15 16777216 0 0 0 5 15 [] (fun l => l) = [3245349899, 3483917085, 1612890081, 3998222604, 2467317476, 2874856373, 1486807634, 2914720882, 924412666, 2096670340, 804816784, 686028152, 2655799591, 1466519246, 2550507744, 4081624983, 3403817170, 2563189728, 2204993238, 1543589635] := by decide +kernel
theorem seed1_h3 : ((List.range' 15 5).map fun i => chn seed1 i 15).flatten = wbs seed1_e3 := five 16777216 0 0 0 seed1 seed1_eq 15 (by decide) seed1_e3 seed1_g3
def seed1_e4 : List UInt32 := [3739612959, 500392178, 1360505637, 4250339564, 2159698030, 4256821399, 3671409183, 1851009974, 919453211, 1197922060, 2042983941, 1014840401, 2709849972, 2329826571, 2887875128, 487631891, 3311533668, 3194230342, 549949826, 1943529999]
theorem seed1_g4 : enW 255 15 16777216 0 0 0 5 20 [] (fun l => l) = [1943529999, 549949826, 3194230342, 3311533668, 487631891, 2887875128, 2329826571, 2709849972, 1014840401, 2042983941, 1197922060, 919453211, 1851009974, 3671409183, 4256821399, 2159698030, 4250339564, 1360505637, 500392178, 3739612959] := by decide +kernel
theorem seed1_h4 : ((List.range' 20 5).map fun i => chn seed1 i 15).flatten = wbs seed1_e4 := five 16777216 0 0 0 seed1 seed1_eq 20 (by decide) seed1_e4 seed1_g4
def seed1_e5 : List UInt32 := [3915116649, 768550972, 3895343072, 1824161768, 3926835217, 3483664618, 2153161762, 3932608541, 3476257549, 3005665449, 171076507, 1933498703, 4045663291, 3190713810, 1360433535, 2315818788, 508338438, 3864982589, 447277398, 2796024605]
theorem seed1_g5 : enW 255 15 16777216 0 0 0 5 25 [] (fun l => l) = [2796024605, 447277398, 3864982589, 508338438, 2315818788, 1360433535, 3190713810, 4045663291, 1933498703, 171076507, 3005665449, 3476257549, 3932608541, 2153161762, 3483664618, 3926835217, 1824161768, 3895343072, 768550972, 3915116649] := by decide +kernel
theorem seed1_h5 : ((List.range' 25 5).map fun i => chn seed1 i 15).flatten = wbs seed1_e5 := five 16777216 0 0 0 seed1 seed1_eq 25 (by decide) seed1_e5 seed1_g5
def seed1_e6 : List UInt32 := [39823021, 851749036, 1540654779, 1568512563, 611305522, 812205555, 800434971, 2958291126, 459302667, 2308397265, 3461518149, 3894183783, 1646479928, 2042227508, 2901679137, 3542458424, 124883625, 491443593, 1869433157, 47845028]
theorem seed1_g6 : enW 255 15 16777216 0 0 0 5 30 [] (fun l => l) = [47845028, 1869433157, 491443593, 124883625, 3542458424, 2901679137, 2042227508, 1646479928, 3894183783, 3461518149, 2308397265, 459302667, 2958291126, 800434971, 812205555, 611305522, 1568512563, 1540654779, 851749036, 39823021] := by decide +kernel
theorem seed1_h6 : ((List.range' 30 5).map fun i => chn seed1 i 15).flatten = wbs seed1_e6 := five 16777216 0 0 0 seed1 seed1_eq 30 (by decide) seed1_e6 seed1_g6
theorem seed1_key : pub seed1 = wbs [1982536735, 1999619857, 2888802332, 186759165] := by
  refine key_of seed1 (seed1_e0 ++ (seed1_e1 ++ (seed1_e2 ++ (seed1_e3 ++ (seed1_e4 ++ (seed1_e5 ++ (seed1_e6))))))) (by rfl) ?_ [1982536735, 1999619857, 2888802332, 186759165] (by decide +kernel)
  rw [range_35, List.map_append, List.map_append, List.map_append, List.map_append, List.map_append, List.map_append, List.flatten_append, List.flatten_append, List.flatten_append, List.flatten_append, List.flatten_append, List.flatten_append]
  rw [wbs_app, wbs_app, wbs_app, wbs_app, wbs_app, wbs_app, seed1_h0, seed1_h1, seed1_h2, seed1_h3, seed1_h4, seed1_h5, seed1_h6]
def seed2_e0 : List UInt32 := [3273085902, 2776080388, 4561422, 3014321986, 3616084564, 2905154760, 4142236865, 2226839845, 2060831109, 1881472397, 2447933190, 1870544489, 138781081, 4078349809, 1532864971, 3197677955, 4049001569, 2463587804, 2667510264, 606141945]
theorem seed2_g0 : enW 255 15 33554432 0 0 0 5 0 [] (fun l => l) = [606141945, 2667510264, 2463587804, 4049001569, 3197677955, 1532864971, 4078349809, 138781081, 1870544489, 2447933190, 1881472397, 2060831109, 2226839845, 4142236865, 2905154760, 3616084564, 3014321986, 4561422, 2776080388, 3273085902] := by decide +kernel
theorem seed2_h0 : ((List.range' 0 5).map fun i => chn seed2 i 15).flatten = wbs seed2_e0 := five 33554432 0 0 0 seed2 seed2_eq 0 (by decide) seed2_e0 seed2_g0
def seed2_e1 : List UInt32 := [4112384821, 1507148049, 1417514731, 4098972454, 300260748, 499444755, 3895642284, 2624462298, 724632682, 2992008942, 2770943519, 4076269190, 113903162, 2246499732, 1599988772, 3829097911, 1953992729, 1407105409, 2104386136, 2893301970]
theorem seed2_g1 : enW 255 15 33554432 0 0 0 5 5 [] (fun l => l) = [2893301970, 2104386136, 1407105409, 1953992729, 3829097911, 1599988772, 2246499732, 113903162, 4076269190, 2770943519, 2992008942, 724632682, 2624462298, 3895642284, 499444755, 300260748, 4098972454, 1417514731, 1507148049, 4112384821] := by decide +kernel
theorem seed2_h1 : ((List.range' 5 5).map fun i => chn seed2 i 15).flatten = wbs seed2_e1 := five 33554432 0 0 0 seed2 seed2_eq 5 (by decide) seed2_e1 seed2_g1
def seed2_e2 : List UInt32 := [1739529483, 2060181047, 656839547, 1620489576, 1010973547, 1629673618, 4070654243, 3364224652, 1627490815, 141275842, 1516607420, 2539541270, 3658931379, 3361959522, 691857545, 1764827388, 2159283061, 1778958051, 1605244215, 2770062092]
theorem seed2_g2 : enW 255 15 33554432 0 0 0 5 10 [] (fun l => l) = [2770062092, 1605244215, 1778958051, 2159283061, 1764827388, 691857545, 3361959522, 3658931379, 2539541270, 1516607420, 141275842, 1627490815, 3364224652, 4070654243, 1629673618, 1010973547, 1620489576, 656839547, 2060181047, 1739529483] := by decide +kernel
theorem seed2_h2 : ((List.range' 10 5).map fun i => chn seed2 i 15).flatten = wbs seed2_e2 := five 33554432 0 0 0 seed2 seed2_eq 10 (by decide) seed2_e2 seed2_g2
def seed2_e3 : List UInt32 := [734354705, 1197250657, 1163299318, 3927716357, 2210028112, 358757707, 1582092805, 4032912451, 2078095513, 19520106, 1399037472, 625740799, 1011457085, 3965081392, 4186700904, 2710364166, 1742234862, 1341297980, 232443742, 4216374112]
theorem seed2_g3 : enW 255 15 33554432 0 0 0 5 15 [] (fun l => l) = [4216374112, 232443742, 1341297980, 1742234862, 2710364166, 4186700904, 3965081392, 1011457085, 625740799, 1399037472, 19520106, 2078095513, 4032912451, 1582092805, 358757707, 2210028112, 3927716357, 1163299318, 1197250657, 734354705] := by decide +kernel
theorem seed2_h3 : ((List.range' 15 5).map fun i => chn seed2 i 15).flatten = wbs seed2_e3 := five 33554432 0 0 0 seed2 seed2_eq 15 (by decide) seed2_e3 seed2_g3
def seed2_e4 : List UInt32 := [1837243642, 1422160484, 3751590507, 519448369, 1077961572, 2819517168, 1717459121, 1192057626, 617593961, 3713921595, 2698049031, 3055028689, 2006750735, 2333162193, 4126732648, 2507930972, 1775152446, 1286867519, 4159888915, 753537485]
theorem seed2_g4 : enW 255 15 33554432 0 0 0 5 20 [] (fun l => l) = [753537485, 4159888915, 1286867519, 1775152446, 2507930972, 4126732648, 2333162193, 2006750735, 3055028689, 2698049031, 3713921595, 617593961, 1192057626, 1717459121, 2819517168, 1077961572, 519448369, 3751590507, 1422160484, 1837243642] := by decide +kernel
theorem seed2_h4 : ((List.range' 20 5).map fun i => chn seed2 i 15).flatten = wbs seed2_e4 := five 33554432 0 0 0 seed2 seed2_eq 20 (by decide) seed2_e4 seed2_g4
def seed2_e5 : List UInt32 := [3100743946, 3554471408, 1467187937, 2042434925, 1659960585, 1790307312, 2353960612, 637389083, 2369869865, 2858958821, 3392635995, 2122938024, 3056261151, 1129704600, 4238822049, 1399640760, 1387819769, 4291411092, 1272861196, 2840463728]
theorem seed2_g5 : enW 255 15 33554432 0 0 0 5 25 [] (fun l => l) = [2840463728, 1272861196, 4291411092, 1387819769, 1399640760, 4238822049, 1129704600, 3056261151, 2122938024, 3392635995, 2858958821, 2369869865, 637389083, 2353960612, 1790307312, 1659960585, 2042434925, 1467187937, 3554471408, 3100743946] := by decide +kernel
theorem seed2_h5 : ((List.range' 25 5).map fun i => chn seed2 i 15).flatten = wbs seed2_e5 := five 33554432 0 0 0 seed2 seed2_eq 25 (by decide) seed2_e5 seed2_g5
def seed2_e6 : List UInt32 := [3296358888, 3255912678, 3698819426, 3460926973, 695842779, 2158228630, 3335448379, 4053417684, 4021573422, 3769249482, 1527365344, 4229742791, 3050177180, 3903745334, 686548646, 2074027939, 3055253194, 558750754, 2766145835, 2015227394]
theorem seed2_g6 : enW 255 15 33554432 0 0 0 5 30 [] (fun l => l) = [2015227394, 2766145835, 558750754, 3055253194, 2074027939, 686548646, 3903745334, 3050177180, 4229742791, 1527365344, 3769249482, 4021573422, 4053417684, 3335448379, 2158228630, 695842779, 3460926973, 3698819426, 3255912678, 3296358888] := by decide +kernel
theorem seed2_h6 : ((List.range' 30 5).map fun i => chn seed2 i 15).flatten = wbs seed2_e6 := five 33554432 0 0 0 seed2 seed2_eq 30 (by decide) seed2_e6 seed2_g6
theorem seed2_key : pub seed2 = wbs [2867819173, 2075451963, 1488122007, 2613444304] := by
  refine key_of seed2 (seed2_e0 ++ (seed2_e1 ++ (seed2_e2 ++ (seed2_e3 ++ (seed2_e4 ++ (seed2_e5 ++ (seed2_e6))))))) (by rfl) ?_ [2867819173, 2075451963, 1488122007, 2613444304] (by decide +kernel)
  rw [range_35, List.map_append, List.map_append, List.map_append, List.map_append, List.map_append, List.map_append, List.flatten_append, List.flatten_append, List.flatten_append, List.flatten_append, List.flatten_append, List.flatten_append]
  rw [wbs_app, wbs_app, wbs_app, wbs_app, wbs_app, wbs_app, seed2_h0, seed2_h1, seed2_h2, seed2_h3, seed2_h4, seed2_h5, seed2_h6]
theorem pub_ne : (pub seed1 == pub seed2) = false := by
  rw [seed1_key, seed2_key]
  decide +kernel
end Fast
theorem dig_abc : (Ots.dig [97, 98, 99]).getD 0 0 = 11 ∧ (Ots.dig [97, 98, 99]).getD 1 0 = 10 := by
  have h : Ots.sh [97, 98, 99] = [0xba, 0x78, 0x16, 0xbf, 0x8f, 0x01, 0xcf, 0xea, 65, 65, 64, 222, 93, 174, 34, 35] := by
    unfold Ots.sh
    rw [sha_abc]
    rfl
  unfold Ots.dig
  rw [h]
  exact ⟨by decide +kernel, by decide +kernel⟩
end Go.Proofs.YtafolokkjpbieaaDoor
