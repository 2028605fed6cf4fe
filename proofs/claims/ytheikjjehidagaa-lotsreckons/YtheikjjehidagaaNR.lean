/- layer 17: the law Reckons -/
import Derived.Test.YtheikjjehidagaaNP
import Derived.WalkKit
import Derived.ProofKit
import Derived.Handy
import Derived.WalkLawsBesides
import Derived.WalkSpells
import Derived.BigQuiet
import Derived.BigCall
import Derived.Deep.QuietTactic
import Derived.Deep.Light
import Derived.Deep.OwnRows
import Derived.Laws.AppendOwnNone
import Derived.Laws.Strings3
import Derived.Laws.RangeAny
import Derived.Deep.RegionWith
import Derived.Lib.BitFns
import Derived.Lib.Walk
import Derived.Lib.Strings
import Derived.Lib.OthersKept
import Derived.Deep.CutBlock
import Derived.Deep.DeepCutAuto
import Derived.Deep.LoopGhost
import Derived.Deep.RegionHeld3
import Derived.Lib.SmallJoins
import Derived.Maps.AppendAt
import Derived.Laws.IdiomStrings
import Derived.Lib.AppendZeros
import Derived.Deep.WholeRow
import Derived.Laws.BitsAllLaws
import Derived.Lib.ConvBytes
import Derived.Deep.RegionLaw
import Derived.Maps.OwnSet
import Derived.Maps.OwnOps
import Derived.Maps.RangeWalk
import Derived.Maps.Ext
import Derived.DeepKeys4
import Derived.Laws.StructEq
import Derived.Deep.MidRow
import Derived.Lib.Bytealg
import Derived.Lib.AppendZerosOnto
import Derived.Laws.MakeOwn
import Derived.Deep.Upon
import Derived.Sort.KeysCollected
namespace Go.Proofs.Ytheikjjehidagaa
open Go.RowKit
set_option linter.unusedVariables false
set_option linter.unusedSimpArgs false
set_option maxRecDepth 20000
theorem goodB_no {L : List Lt} (h : ¬ Good L) : goodB L = false := by
  cases e : goodB L with
  | false => rfl
  | true => exact absurd (goodB_iff.1 e) h
/-- the calls of a law over two lists -/
structure Cl (a b : List Lt) (w : World) (x1 x2 : Value) : Prop where
  p15 : ∀ W, Below w.heap.size w W → Calls Try.prog 15 #[x1, x2] W fun e w' => ∃ ad c, e = .returned (.tuple #[.slice ad (mrg a b).1.length c, .int .i64 (mrg a b).2]) ∧ Hid (Rw 2 lcs w' ad (mrg a b).1 ∧ Below W.heap.size W w')
  p16 : ∀ W, Below w.heap.size w W → Calls Try.prog 16 #[x1, x2] W fun e w' => ∃ ad c, e = .returned (.tuple #[.slice ad (mrg a b).1.length c, .int .i64 (mrg a b).2]) ∧ Hid (Rw 2 lcs w' ad (mrg a b).1 ∧ Below W.heap.size W w')
  p17 : ∀ W, Below w.heap.size w W → Calls Try.prog 17 #[x1, x2] W fun e w' => ∃ ad c, e = .returned (.tuple #[.slice ad (mnL a b).length c, .int .i64 (mnE a b)]) ∧ Hid (Rw 2 lcs w' ad (mnL a b) ∧ Below W.heap.size W w')
  p18 : ∀ W, Below w.heap.size w W → Calls Try.prog 18 #[x1, x2] W fun e w' => ∃ ad c, e = .returned (.tuple #[.slice ad (mnL a b).length c, .int .i64 (mnE a b)]) ∧ Hid (Rw 2 lcs w' ad (mnL a b) ∧ Below W.heap.size W w')
  p19 : ∀ W, Below w.heap.size w W → Calls Try.prog 19 #[x1, x2] W (BbP (decide (mnE a b = 0)) W)
  p20 : ∀ W, Below w.heap.size w W → Calls Try.prog 20 #[x1, x2] W fun e w' => ∃ ad c, e = .returned (.slice ad (bth a b).length c) ∧ Hid (Rw 2 lcs w' ad (bth a b) ∧ Below W.heap.size W w')
  p21 : ∀ W, Below w.heap.size w W → Calls Try.prog 21 #[x1, x2] W fun e w' => ∃ ad c, e = .returned (.slice ad (bth a b).length c) ∧ Hid (Rw 2 lcs w' ad (bth a b) ∧ Below W.heap.size W w')
theorem Cl.mk' {a b : List Lt} (ga : Good a) (gb : Good b) (hs : ∀ x ∈ a ++ b, x.i.size ≤ 281474976710656) {w : World} {ad ad2 : Option Addr} (cap cap2 : Nat) (h : Rw 2 lcs w ad a) (h2 : Rw 2 lcs w ad2 b) : Cl a b w (.slice ad a.length cap) (.slice ad2 b.length cap2) where
  p15 := fun W hb => xplus a b ga (by have := gb.len; omega) hs ad cap ad2 cap2 W (h.below hb) (h2.below hb)
  p16 := fun W hb => rplus a b ga (by have := gb.len; omega) gb.ok ad cap ad2 cap2 W (h.below hb) (h2.below hb)
  p17 := fun W hb => xminus a b ga gb hs ad cap ad2 cap2 W (h.below hb) (h2.below hb)
  p18 := fun W hb => rminus a b ga gb ad cap ad2 cap2 W (h.below hb) (h2.below hb)
  p19 := fun W hb => xhas a b ga gb hs ad cap ad2 cap2 W (h.below hb) (h2.below hb)
  p20 := fun W hb => xboth a b ga gb hs ad cap ad2 cap2 W (h.below hb) (h2.below hb)
  p21 := fun W hb => rboth a b ga gb ad cap ad2 cap2 W (h.below hb) (h2.below hb)
/-- lists alike, in a law -/
def LkP (w : World) (L : List Lt) (ad1 ad2 : Option Addr) : Prop := ∀ c1 c2, Calls Try.prog 13 #[.slice ad1 L.length c1, .slice ad2 L.length c2] w (BbP true w)
theorem LkP.mk' {w : World} {L : List Lt} {ad1 ad2 : Option Addr} (hl : L.length ≤ 1000000) (h1 : Rw 2 lcs w ad1 L) (h2 : Rw 2 lcs w ad2 L) : LkP w L ad1 ad2 := fun c1 c2 => rlots L hl ad1 c1 ad2 c2 w h1 h2
/-- all that a law keeps -/
structure Kl (w W : World) (xs : List (Option Addr × List Lt)) : Prop where
  b : Below w.heap.size w W
  r : ∀ p ∈ xs, Rw 2 lcs W p.1 p.2
theorem Kl.step {w W W' : World} {xs : List (Option Addr × List Lt)} (h : Kl w W xs) (hb : Below W.heap.size W W') : Kl w W' xs := ⟨h.b.trans (hb.mono h.b.size), fun p hp => (h.r p hp).below hb⟩
theorem Kl.add {w W W' : World} {xs : List (Option Addr × List Lt)} (h : Kl w W xs) (hb : Below W.heap.size W W') {ad : Option Addr} {L : List Lt} (hr : Rw 2 lcs W' ad L) : Kl w W' ((ad, L) :: xs) := ⟨(h.step hb).b, fun p hp => by
  rcases List.mem_cons.1 hp with rfl | hp
  · exact hr
  · exact (h.step hb).r p hp⟩
theorem mrg_len {a b : List Lt} (ga : Good a) : (mrg a b).1.length ≤ 64 := by
  by_cases e : (mrg a b).2 = 0
  · exact (mrg_good (b := b) ga e).len
  · rw [mrg_bad e]; simp
theorem dec_eq (E : Nat) : (((E : Nat) : Int) == 0) = decide (E = 0) := by
  by_cases e : E = 0
  · rw [e]; rfl
  · rw [decide_eq_false e, beq_eq_false_iff_ne]; omega
theorem rcheck_any (L : List Lt) (a : Option Addr) (cap : Nat) (w : World) (h : Rw 2 lcs w a L) : Calls Try.prog 10 #[.slice a L.length cap] w (CkP L w) := by
  by_cases hl : L.length ≤ 1000000
  · exact rcheck L hl a cap w h
  · have h64 : 64 < L.length := by omega
    have h64z : (64 : Int) < (L.length : Int) := by omega
    unfold CkP
    rw [chk_long h64]
    clear h hl h64
    go_enter Try.func10, Try.ntmps10
    go_wp2_with fail
    go_ret2
    exact ⟨rfl, Below.refl _ _⟩
theorem rgood_any {L : List Lt} (a : Option Addr) (cap : Nat) (w : World) (h : Rw 2 lcs w a L) : Calls Try.prog 14 #[.slice a L.length cap] w (BbP (goodB L) w) := by
  have HC : Hid (Calls Try.prog 10 #[.slice a L.length cap] w (CkP L w)) := rcheck_any L a cap w h
  have he : (((chk L).2 : Int) == 0) = goodB L := by
    unfold goodB
    by_cases e : (chk L).2 = 0
    · rw [e]; rfl
    · have h1 : ((chk L).2 == 0) = false := by simpa using e
      rw [h1, beq_eq_false_iff_ne]
      omega
  unfold CkP at HC
  clear h
  generalize goodB L = b at *
  generalize (chk L).1 = n at *
  generalize (chk L).2 = m at *
  go_enter Try.func14, Try.ntmps14
  go_wp2_with (go_at_call 10; refine HC.out.mono ?_; clear HC; rintro e w' ⟨rfl, hb⟩)
  go_ret
  exact ⟨rfl, hb⟩
set_option maxHeartbeats 16000000 in
theorem lreckons (a b : List Lt) (s : ByteArray) (ad : Option Addr) (cap : Nat) (ad2 : Option Addr) (cap2 : Nat) (w : World) (h : Rw 2 lcs w ad a) (h2 : Rw 2 lcs w ad2 b) (hs : ∀ x ∈ a ++ b, x.i.size ≤ 281474976710656) :
    Calls Try.prog 4 #[.slice ad a.length cap, .slice ad2 b.length cap2, .string s] w (BbP true w) := by
  have HAw : Hid (∀ W, Below w.heap.size w W → Calls Try.prog 8 #[] W fun e w' => e = .returned (.bool true) ∧ Hid (Below w.heap.size w w')) := fun W hb => (xawake W).mono fun e w' hh => ⟨hh.1, hb.trans (hh.2.mono hb.size)⟩
  have HG1 : Hid (Calls Try.prog 14 #[.slice ad a.length cap] w fun e w' => e = .returned (.bool (goodB a)) ∧ Hid (Below w.heap.size w w')) := (rgood_any ad cap w h).mono fun e w' hh => ⟨hh.1, hh.2⟩
  have HG2 : Hid (∀ W, Below w.heap.size w W → Calls Try.prog 14 #[.slice ad2 b.length cap2] W fun e w' => e = .returned (.bool (goodB b)) ∧ Hid (Below w.heap.size w w')) := fun W hb => (rgood_any ad2 cap2 W (h2.below hb)).mono fun e w' hh => ⟨hh.1, hb.trans (hh.2.mono hb.size)⟩
  by_cases ga : Good a
  · by_cases gb : Good b
    · have HC : Hid (Cl a b w (.slice ad a.length cap) (.slice ad2 b.length cap2)) := Cl.mk' ga gb hs cap cap2 h h2
      have hla := ga.len
      have H22 : Hid (∀ W, Below w.heap.size w W → Calls Try.prog 22 #[.slice ad a.length cap, .string s] W fun e w' => e = .returned (.int .i64 (qty a s.toList)) ∧ Hid (Below w.heap.size w w')) := fun W hb => (xqty a (by omega) s ad cap W (h.below hb)).mono fun e w' hh => ⟨hh.1, hb.trans (hh.2.mono hb.size)⟩
      have H23 : Hid (∀ W, Below w.heap.size w W → Calls Try.prog 23 #[.slice ad a.length cap, .string s] W fun e w' => e = .returned (.int .i64 (qty a s.toList)) ∧ Hid (Below w.heap.size w w')) := fun W hb => (rqty a (by omega) s ad cap W (h.below hb)).mono fun e w' hh => ⟨hh.1, hb.trans (hh.2.mono hb.size)⟩
      have HL1 : Hid ((mrg a b).1.length ≤ 1000000) := by have := mrg_len (b := b) ga; unfold Hid; omega
      have HL2 : Hid ((mnL a b).length ≤ 1000000) := by have := (mn_good ga gb).len; unfold Hid; omega
      have HL3 : Hid ((bth a b).length ≤ 1000000) := by have := pick_len (fun x => min x.n (qty b (key x))) a; unfold Hid bth; omega
      have hde := dec_eq (mnE a b)
      rw [goodB_iff.2 ga] at HG1
      rw [goodB_iff.2 gb] at HG2
      clear ga gb hs hla h h2
      have P15 := hid_in HC.out.p15
      have P16 := hid_in HC.out.p16
      have P17 := hid_in HC.out.p17
      have P18 := hid_in HC.out.p18
      have P19 := hid_in HC.out.p19
      have P20 := hid_in HC.out.p20
      have P21 := hid_in HC.out.p21
      clear HC
      unfold BbP at P19
      generalize decide (mnE a b = 0) = t at *
      generalize mnE a b = E2 at *
      generalize mnL a b = Q at *
      generalize bth a b = R at *
      generalize (mrg a b).2 = E1 at *
      generalize (mrg a b).1 = P at *
      generalize qty a s.toList = N at *
      go_enter Try.func4, Try.ntmps4
      go_wp2_with (first | (go_at_call 14; refine HG1.out.mono ?_; clear HG1; rintro e w1 ⟨rfl, HB1⟩) | (go_at_call 14; refine (HG2.out _ HB1.out).mono ?_; clear HG2 HB1; rintro e w2 ⟨rfl, HB2⟩; have K2 : Hid (Kl w w2 []) := ⟨HB2.out, fun p hp => absurd hp (List.not_mem_nil)⟩; clear HB2) | (go_at_call 15; refine (P15.out _ K2.out.b).mono ?_; clear P15; rintro e w3 ⟨a3, c3, rfl, HZ⟩; have K3 := hid_in (K2.out.add HZ.out.2 HZ.out.1); clear K2 HZ) | (go_at_call 16; refine (P16.out _ K3.out.b).mono ?_; clear P16; rintro e w4 ⟨a4, c4, rfl, HZ⟩; have K4 := hid_in (K3.out.add HZ.out.2 HZ.out.1); clear K3 HZ) | (go_at_call 17; refine (P17.out _ K4.out.b).mono ?_; clear P17; rintro e w5 ⟨a5, c5, rfl, HZ⟩; have K5 := hid_in (K4.out.add HZ.out.2 HZ.out.1); clear K4 HZ) | (go_at_call 18; refine (P18.out _ K5.out.b).mono ?_; clear P18; rintro e w6 ⟨a6, c6, rfl, HZ⟩; have K6 := hid_in (K5.out.add HZ.out.2 HZ.out.1); clear K5 HZ) | (go_at_call 13; refine (LkP.mk' (ad1 := a3) (ad2 := a4) HL1.out (K6.out.r (a3, P) (by simp)) (K6.out.r (a4, P) (by simp)) _ _).mono ?_; clear HL1; rintro e w7 ⟨rfl, hb⟩; have K7 := hid_in (K6.out.step hb); clear K6 hb) | (go_at_call 13; refine (LkP.mk' (ad1 := a5) (ad2 := a6) HL2.out (K7.out.r (a5, Q) (by simp)) (K7.out.r (a6, Q) (by simp)) _ _).mono ?_; clear HL2; rintro e w8 ⟨rfl, hb⟩; have K8 := hid_in (K7.out.step hb); clear K7 hb) | (go_at_call 19; refine (P19.out _ K8.out.b).mono ?_; clear P19; rintro e w9 ⟨rfl, hb⟩; have K9 := hid_in (K8.out.step hb); clear K8 hb) | (go_at_call 20; refine (P20.out _ K9.out.b).mono ?_; clear P20; rintro e w10 ⟨a10, c10, rfl, HZ⟩; have K10 := hid_in (K9.out.add HZ.out.2 HZ.out.1); clear K9 HZ) | (go_at_call 21; refine (P21.out _ K10.out.b).mono ?_; clear P21; rintro e w11 ⟨a11, c11, rfl, HZ⟩; have K11 := hid_in (K10.out.add HZ.out.2 HZ.out.1); clear K10 HZ) | (go_at_call 13; refine (LkP.mk' (ad1 := a10) (ad2 := a11) HL3.out (K11.out.r (a10, R) (by simp)) (K11.out.r (a11, R) (by simp)) _ _).mono ?_; clear HL3; rintro e w12 ⟨rfl, hb⟩; have K12 := hid_in (K11.out.step hb); clear K11 hb) | (go_at_call 22; refine (H22.out _ K12.out.b).mono ?_; clear H22 K12; rintro e w13 ⟨rfl, HB13⟩) | (go_at_call 23; refine (H23.out _ HB13.out).mono ?_; clear H23 HB13; rintro e w14 ⟨rfl, HB14⟩) | (go_at_call 8; refine (HAw.out _ HB14.out).mono ?_; clear HAw HB14; rintro e w15 ⟨rfl, HB15⟩))
      go_ret
      exact ⟨rfl, HB15.out⟩
    · rw [goodB_iff.2 ga] at HG1
      rw [goodB_no gb] at HG2
      clear ga gb hs h h2
      go_enter Try.func4, Try.ntmps4
      go_wp2_with (first | (go_at_call 14; refine HG1.out.mono ?_; clear HG1; rintro e w1 ⟨rfl, HB1⟩) | (go_at_call 14; refine (HG2.out _ HB1.out).mono ?_; clear HG2 HB1; rintro e w2 ⟨rfl, HB2⟩) | (go_at_call 8; refine (HAw.out _ HB2.out).mono ?_; clear HAw HB2; rintro e w15 ⟨rfl, HB15⟩))
      go_ret
      exact ⟨rfl, HB15.out⟩
  · rw [goodB_no ga] at HG1
    clear ga hs h h2
    go_enter Try.func4, Try.ntmps4
    go_wp2_with (first | (go_at_call 14; refine HG1.out.mono ?_; clear HG1; rintro e w1 ⟨rfl, HB1⟩) | (go_at_call 8; refine (HAw.out _ HB1.out).mono ?_; clear HAw HB1; rintro e w15 ⟨rfl, HB15⟩))
    go_ret
    exact ⟨rfl, HB15.out⟩
end Go.Proofs.Ytheikjjehidagaa
