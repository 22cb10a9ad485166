import Derived.Test.YtcgffkkfeimifaaGreatDoorFastAll
import Derived.Test.YtcgffkkfeimifaaGreatDoorMkMath
namespace Go.Proofs.YtcgffkkfeimifaaGreatDoor
namespace Fast
open Sha Ots
set_option linter.unusedVariables false
theorem sh_of (E : List UInt32) (hE : E.length = 140) (P : List UInt32)
  (hp : ruW 9 (nats (E ++ [2147483648, 0, 0, (4480 : UInt32)])) 0x6a09e667 0xbb67ae85 0x3c6ef372 0xa54ff53a 0x510e527f 0x9b05688c 0x1f83d9ab 0x5be0cd19 = nats P) : sh (wbs E) = wbs P := by
 obtain ⟨l, hl⟩ : ∃ l, E ++ [2147483648, 0, 0, (4480 : UInt32)] = l := ⟨_, rfl⟩
 rw [hl] at hp
 have hlen : l.length = 16 * 9 := by rw [← hl, List.length_append, hE]; rfl
 have hE5 : (wbs E).length = 560 := by rw [wbs_len, hE]
 have hw : wbs E ++ ending (wbs E).length = wbs l := by
  rw [← hl, wbs_app, hE5, end_560]
 obtain ⟨r, hr⟩ : ∃ r, run 9 Sha.start (wbs l) = r := ⟨_, rfl⟩
 have hs := sha_of (wbs E) (wbs l) hw 9 (by rw [wbs_len, hlen]) r hr
 have hru := ruW_eq 9 l hlen Sha.start
 rw [hr] at hru
 have h7 : nats P = nats [r.a, r.b, r.c, r.d] := hp.symm.trans hru
 unfold sh
 rw [hs, hash_wbs, first_four, nats_inj _ _ h7]
theorem piece (i n j : Nat) (hi : i < 256) (hn : n + j ≤ 256) (a b c d A B C D : UInt32) (h : chW i n j a.toNat b.toNat c.toNat d.toNat (fun a b c d => [a, b, c, d]) = [A.toNat, B.toNat, C.toNat, D.toNat]) :
  clm (wbs [a, b, c, d]) i j n = wbs [A, B, C, D] := by
 obtain ⟨A2, B2, C2, D2, e1, e2⟩ := chW_eq i hi n j hn a b c d
 have h2 := e2 (List Nat) (fun a b c d => [a, b, c, d])
 rw [h] at h2
 injection h2 with h3 h4
 injection h4 with h4 h5
 injection h5 with h5 h6
 injection h6 with h6 h7
 rw [e1, UInt32.toNat_inj.1 h3, UInt32.toNat_inj.1 h4, UInt32.toNat_inj.1 h5, UInt32.toNat_inj.1 h6]
theorem other (S : List UInt8) (DM DN : List Nat) (i dm dn : Nat) (hi : i < 35) (h1 : DM.getD i 0 = dm) (h2 : DN.getD i 0 = dn) (hm : dm ≤ 15) (hn : dn ≤ 15) (a b c d : UInt32) (hS : wbs [a, b, c, d] = S)
  (y0 y1 y2 y3 : UInt32) (hy : chW i 1 255 a.toNat b.toNat c.toNat d.toNat (fun a b c d => [a, b, c, d]) = [y0.toNat, y1.toNat, y2.toNat, y3.toNat])
  (z0 z1 z2 z3 : UInt32) (hz : chW i dm 0 y0.toNat y1.toNat y2.toNat y3.toNat (fun a b c d => [a, b, c, d]) = [z0.toNat, z1.toNat, z2.toNat, z3.toNat])
  (e0 e1 e2 e3 : UInt32) (he : chW i (15 - dn) dn z0.toNat z1.toNat z2.toNat z3.toNat (fun a b c d => [a, b, c, d]) = [e0.toNat, e1.toNat, e2.toNat, e3.toNat]) :
  clm ((sgD S DM).getD i []) i (DN.getD i 0) (15 - DN.getD i 0) = wbs [e0, e1, e2, e3] := by
 rw [sgD_at S DM i hi, h1, h2]
 have g1 := piece i 1 255 (by omega) (by omega) a b c d y0 y1 y2 y3 hy
 have g2 := piece i dm 0 (by omega) (by omega) y0 y1 y2 y3 z0 z1 z2 z3 hz
 have g3 := piece i (15 - dn) dn (by omega) (by omega) z0 z1 z2 z3 e0 e1 e2 e3 he
 rw [hS] at g1
 have g4 : stp S i 255 = wbs [y0, y1, y2, y3] := g1
 unfold chn
 rw [g4, g2, g3]
end Fast
end Go.Proofs.YtcgffkkfeimifaaGreatDoor
