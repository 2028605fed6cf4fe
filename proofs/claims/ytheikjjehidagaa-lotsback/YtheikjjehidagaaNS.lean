/- layer 17: the law Back -/
import Derived.Test.YtheikjjehidagaaNR
import Derived.WalkKit
import Derived.ProofKit
import Derived.Handy
import Derived.WalkLawsBesides
import Derived.WalkSpells
import Derived.BigQuiet
import Derived.BigCall
import Derived.Deep.QuietTactic
import Derived.Deep.Light
import Derived.Deep.OwnRows
import Derived.Laws.AppendOwnNone
import Derived.Laws.Strings3
import Derived.Laws.RangeAny
import Derived.Deep.RegionWith
import Derived.Lib.BitFns
import Derived.Lib.Walk
import Derived.Lib.Strings
import Derived.Lib.OthersKept
import Derived.Deep.CutBlock
import Derived.Deep.DeepCutAuto
import Derived.Deep.LoopGhost
import Derived.Deep.RegionHeld3
import Derived.Lib.SmallJoins
import Derived.Maps.AppendAt
import Derived.Laws.IdiomStrings
import Derived.Lib.AppendZeros
import Derived.Deep.WholeRow
import Derived.Laws.BitsAllLaws
import Derived.Lib.ConvBytes
import Derived.Deep.RegionLaw
import Derived.Maps.OwnSet
import Derived.Maps.OwnOps
import Derived.Maps.RangeWalk
import Derived.Maps.Ext
import Derived.DeepKeys4
import Derived.Laws.StructEq
import Derived.Deep.MidRow
import Derived.Lib.Bytealg
import Derived.Lib.AppendZerosOnto
import Derived.Laws.MakeOwn
import Derived.Deep.Upon
import Derived.Sort.KeysCollected
namespace Go.Proofs.Ytheikjjehidagaa
open Go.RowKit
set_option linter.unusedVariables false
set_option linter.unusedSimpArgs false
set_option maxRecDepth 20000
theorem mrg_all {P : ByteArray → Prop} : ∀ {b L : List Lt}, (∀ x ∈ L, P x.i) → (∀ x ∈ b, P x.i) → ∀ x ∈ (mrg L b).1, P x.i
  | [], L, h, _ => h
  | y :: r, L, h, h2 => by
    rw [mrg_cons]
    split
    · refine mrg_all (fun x hx => ?_) (fun x hx => h2 x (by simp [hx]))
      rcases setR_mem hx with ⟨h3, _⟩ | ⟨rfl, _⟩
      · exact h x h3
      · exact h2 y (by simp)
    · intro x hx
      cases hx
theorem mn_all {P : ByteArray → Prop} {a b : List Lt} (h : ∀ x ∈ a, P x.i) : ∀ x ∈ mnL a b, P x.i := by
  intro x hx
  unfold mnL at hx
  split at hx
  · obtain ⟨z, hz, e, _⟩ := pick_mem hx
    rw [tl_inj e]
    exact h z hz
  · cases hx
theorem mnE_ok {a b : List Lt} (h : mnOk a b) : mnE a b = 0 := by unfold mnE; rw [if_pos h]
theorem mnE_no {a b : List Lt} (h : ¬ mnOk a b) : mnE a b = 20 ∧ mnL a b = [] := by unfold mnE mnL; rw [if_neg h, if_neg h]; exact ⟨rfl, rfl⟩
def small (L : List Lt) : Prop := ∀ x ∈ L, x.i.size ≤ 281474976710656
theorem small.app {a b : List Lt} (h : small a) (k : small b) : small (a ++ b) := fun x hx => by
  rcases List.mem_append.1 hx with h1 | h1
  · exact h x h1
  · exact k x h1
/-- what the law asks of what is added -/
structure Ads (a b X : List Lt) (ad2 : Option Addr) (cap2 : Nat) (ad : Option Addr) (cap : Nat) : Prop where
  m : ∀ W a3 c3, Rw 2 lcs W a3 X → Rw 2 lcs W ad2 b → Calls Try.prog 17 #[.slice a3 X.length c3, .slice ad2 b.length cap2] W fun e w' => ∃ a5 c5, e = .returned (.tuple #[.slice a5 a.length c5, .int .i64 0]) ∧ Hid (Rw 2 lcs w' a5 a ∧ Below W.heap.size W w')
  ha : ∀ W a3 c3, Rw 2 lcs W a3 X → Rw 2 lcs W ad a → Calls Try.prog 19 #[.slice a3 X.length c3, .slice ad a.length cap] W fun e w' => e = .returned (.bool true) ∧ Hid (Below W.heap.size W w')
  hb : ∀ W a3 c3, Rw 2 lcs W a3 X → Rw 2 lcs W ad2 b → Calls Try.prog 19 #[.slice a3 X.length c3, .slice ad2 b.length cap2] W fun e w' => e = .returned (.bool true) ∧ Hid (Below W.heap.size W w')
  g : ∀ W a3 c3, Rw 2 lcs W a3 X → Calls Try.prog 14 #[.slice a3 X.length c3] W fun e w' => e = .returned (.bool true) ∧ Hid (Below W.heap.size W w')
theorem Ads.mk' {a b : List Lt} (ga : Good a) (gb : Good b) (sa : small a) (sb : small b) (h : (mrg a b).2 = 0) (ad2 : Option Addr) (cap2 : Nat) (ad : Option Addr) (cap : Nat) : Ads a b (mrg a b).1 ad2 cap2 ad cap := by
  obtain ⟨gX, o1, e1, o2⟩ := back1 ga gb h
  have sX : small (mrg a b).1 := mrg_all (P := fun i => i.size ≤ 281474976710656) sa sb
  refine ⟨fun W a3 c3 h1 h2 => ?_, fun W a3 c3 h1 h2 => ?_, fun W a3 c3 h1 h2 => ?_, fun W a3 c3 h1 => ?_⟩
  · refine (xminus _ b gX gb (sX.app sb) a3 c3 ad2 cap2 W h1 h2).mono ?_
    rintro e w' ⟨a5, c5, rfl, HZ⟩
    rw [e1] at HZ ⊢
    rw [mnE_ok o1]
    exact ⟨a5, c5, rfl, HZ⟩
  · refine (xhas _ a gX ga (sX.app sa) a3 c3 ad cap W h1 h2).mono ?_
    rintro e w' ⟨rfl, hb⟩
    rw [mnE_ok o2]
    exact ⟨rfl, hb⟩
  · refine (xhas _ b gX gb (sX.app sb) a3 c3 ad2 cap2 W h1 h2).mono ?_
    rintro e w' ⟨rfl, hb⟩
    rw [mnE_ok o1]
    exact ⟨rfl, hb⟩
  · refine (rgood_any a3 c3 W h1).mono ?_
    rintro e w' ⟨rfl, hb⟩
    rw [goodB_iff.2 gX]
    exact ⟨rfl, hb⟩
set_option maxHeartbeats 32000000 in
theorem lback (a b : List Lt) (ad : Option Addr) (cap : Nat) (ad2 : Option Addr) (cap2 : Nat) (w : World) (h : Rw 2 lcs w ad a) (h2 : Rw 2 lcs w ad2 b) (sa : small a) (sb : small b) :
    Calls Try.prog 5 #[.slice ad a.length cap, .slice ad2 b.length cap2] w (BbP true w) := by
  have HAw : Hid (∀ W, Below w.heap.size w W → Calls Try.prog 8 #[] W fun e w' => e = .returned (.bool true) ∧ Hid (Below w.heap.size w w')) := fun W hb => (xawake W).mono fun e w' hh => ⟨hh.1, hb.trans (hh.2.mono hb.size)⟩
  have K0 : Hid (Kl w w [(ad, a), (ad2, b)]) := ⟨Below.refl _ _, fun p hp => by
    simp at hp
    rcases hp with rfl | rfl
    · exact h
    · exact h2⟩
  have HG1 : Hid (Calls Try.prog 14 #[.slice ad a.length cap] w fun e w' => e = .returned (.bool (goodB a)) ∧ Hid (Below w.heap.size w w')) := (rgood_any ad cap w h).mono fun e w' hh => ⟨hh.1, hh.2⟩
  have HG2 : Hid (∀ W, Below w.heap.size w W → Calls Try.prog 14 #[.slice ad2 b.length cap2] W fun e w' => e = .returned (.bool (goodB b)) ∧ Hid (Below W.heap.size W w')) := fun W hb => (rgood_any ad2 cap2 W (h2.below hb)).mono fun e w' hh => ⟨hh.1, hh.2⟩
  by_cases ga : Good a
  · by_cases gb : Good b
    · have HC : Hid (Cl a b w (.slice ad a.length cap) (.slice ad2 b.length cap2)) := Cl.mk' ga gb (sa.app sb) cap cap2 h h2
      have P15 := hid_in HC.out.p15
      have P17 := hid_in HC.out.p17
      have HLa : Hid (a.length ≤ 1000000) := by have := ga.len; unfold Hid; omega
      have HLb : Hid (b.length ≤ 1000000) := by have := gb.len; unfold Hid; omega
      rw [goodB_iff.2 ga] at HG1
      rw [goodB_iff.2 gb] at HG2
      -- the second half
      have HT : Hid (mnOk a b → (∀ W a9 c9, Rw 2 lcs W a9 (mnL a b) → Rw 2 lcs W ad2 b → Calls Try.prog 15 #[.slice a9 (mnL a b).length c9, .slice ad2 b.length cap2] W fun e w' => ∃ a5 c5, e = .returned (.tuple #[.slice a5 a.length c5, .int .i64 0]) ∧ Hid (Rw 2 lcs w' a5 a ∧ Below W.heap.size W w')) ∧
          (∀ W, Below w.heap.size w W → Calls Try.prog 20 #[.slice ad a.length cap, .slice ad2 b.length cap2] W fun e w' => ∃ a5 c5, e = .returned (.slice a5 b.length c5) ∧ Hid (Rw 2 lcs w' a5 b ∧ Below W.heap.size W w'))) := fun ho => by
        obtain ⟨e1, e2⟩ := back2 ga gb ho
        refine ⟨fun W a9 c9 h1 h3 => ?_, fun W hb => ?_⟩
        · refine (xplus (mnL a b) b (mn_good ga gb) (by have := gb.len; omega) (small.app (mn_all (P := fun i => i.size ≤ 281474976710656) sa) sb) a9 c9 ad2 cap2 W h1 h3).mono ?_
          rintro e w' ⟨a5, c5, rfl, HZ⟩
          rw [e1] at HZ ⊢
          exact ⟨a5, c5, rfl, HZ⟩
        · refine (HC.out.p20 W hb).mono ?_
          rintro e w' ⟨a5, c5, rfl, HZ⟩
          rw [e2] at HZ ⊢
          exact ⟨a5, c5, rfl, HZ⟩
      have HAds : Hid ((mrg a b).2 = 0 → Ads a b (mrg a b).1 ad2 cap2 ad cap) := fun e => Ads.mk' ga gb sa sb e ad2 cap2 ad cap
      clear HC ga gb sa sb h h2
      by_cases he : (mrg a b).2 = 0
      · have HX := hid_in (HAds.out he)
        rw [he] at P15
        clear HAds he
        generalize (mrg a b).1 = X at *
        have X1 := hid_in HX.out.m
        have X2 := hid_in HX.out.ha
        have X3 := hid_in HX.out.hb
        have X4 := hid_in HX.out.g
        clear HX
        by_cases ho : mnOk a b
        · obtain ⟨T1, T2⟩ := HT.out ho
          replace T1 := hid_in T1
          replace T2 := hid_in T2
          rw [mnE_ok ho] at P17
          clear HT ho
          generalize mnL a b = Q at *
          go_enter Try.func5, Try.ntmps5
          go_wp2_with (first | (go_at_call 14; refine HG1.out.mono ?_; clear HG1; rintro e w1 ⟨rfl, hb⟩; have K1 := hid_in (K0.out.step hb.out); clear K0 hb) | (go_at_call 14; refine (HG2.out _ K1.out.b).mono ?_; clear HG2; rintro e w2 ⟨rfl, hb⟩; have K2 := hid_in (K1.out.step hb.out); clear K1 hb) | (go_at_call 15; refine (P15.out _ K2.out.b).mono ?_; clear P15; rintro e w3 ⟨a3, c3, rfl, HZ⟩; have K3 := hid_in (K2.out.add HZ.out.2 HZ.out.1); clear K2 HZ) | (go_at_call 17; refine (X1.out _ a3 c3 (K3.out.r (a3, X) (by simp)) (K3.out.r (ad2, b) (by simp))).mono ?_; clear X1; rintro e w4 ⟨a5, c5, rfl, HZ⟩; have K4 := hid_in (K3.out.add HZ.out.2 HZ.out.1); clear K3 HZ) | (go_at_call 13; refine (LkP.mk' (ad1 := a5) (ad2 := ad) HLa.out (K4.out.r (a5, a) (by simp)) (K4.out.r (ad, a) (by simp)) _ _).mono ?_; rintro e w5 ⟨rfl, hb⟩; have K5 := hid_in (K4.out.step hb); clear K4 hb) | (go_at_call 19; refine (X2.out _ a3 c3 (K5.out.r (a3, X) (by simp)) (K5.out.r (ad, a) (by simp))).mono ?_; clear X2; rintro e w6 ⟨rfl, hb⟩; have K6 := hid_in (K5.out.step hb.out); clear K5 hb) | (go_at_call 19; refine (X3.out _ a3 c3 (K6.out.r (a3, X) (by simp)) (K6.out.r (ad2, b) (by simp))).mono ?_; clear X3; rintro e w7 ⟨rfl, hb⟩; have K7 := hid_in (K6.out.step hb.out); clear K6 hb) | (go_at_call 14; refine (X4.out _ a3 c3 (K7.out.r (a3, X) (by simp))).mono ?_; clear X4; rintro e w8 ⟨rfl, hb⟩; have K8 := hid_in (K7.out.step hb.out); clear K7 hb) | (go_at_call 17; refine (P17.out _ K8.out.b).mono ?_; clear P17; rintro e w9 ⟨a9, c9, rfl, HZ⟩; have K9 := hid_in (K8.out.add HZ.out.2 HZ.out.1); clear K8 HZ) | (go_at_call 15; refine (T1.out _ a9 c9 (K9.out.r (a9, Q) (by simp)) (K9.out.r (ad2, b) (by simp))).mono ?_; clear T1; rintro e w10 ⟨a10, c10, rfl, HZ⟩; have K10 := hid_in (K9.out.add HZ.out.2 HZ.out.1); clear K9 HZ) | (go_at_call 13; refine (LkP.mk' (ad1 := a10) (ad2 := ad) HLa.out (K10.out.r (a10, a) (by simp)) (K10.out.r (ad, a) (by simp)) _ _).mono ?_; rintro e w11 ⟨rfl, hb⟩; have K11 := hid_in (K10.out.step hb); clear K10 hb) | (go_at_call 20; refine (T2.out _ K11.out.b).mono ?_; clear T2; rintro e w12 ⟨a12, c12, rfl, HZ⟩; have K12 := hid_in (K11.out.add HZ.out.2 HZ.out.1); clear K11 HZ) | (go_at_call 13; refine (LkP.mk' (ad1 := a12) (ad2 := ad2) HLb.out (K12.out.r (a12, b) (by simp)) (K12.out.r (ad2, b) (by simp)) _ _).mono ?_; rintro e w13 ⟨rfl, hb⟩; have K13 := hid_in (K12.out.step hb); clear K12 hb) | (go_at_call 8; refine (HAw.out _ K13.out.b).mono ?_; clear HAw K13; rintro e w15 ⟨rfl, HB15⟩))
          go_ret
          exact ⟨rfl, HB15.out⟩
        · obtain ⟨n1, n2⟩ := mnE_no ho
          rw [n1, n2] at P17
          clear HT ho n1 n2
          simp only [List.length_nil] at P17
          go_enter Try.func5, Try.ntmps5
          go_wp2_with (first | (go_at_call 14; refine HG1.out.mono ?_; clear HG1; rintro e w1 ⟨rfl, hb⟩; have K1 := hid_in (K0.out.step hb.out); clear K0 hb) | (go_at_call 14; refine (HG2.out _ K1.out.b).mono ?_; clear HG2; rintro e w2 ⟨rfl, hb⟩; have K2 := hid_in (K1.out.step hb.out); clear K1 hb) | (go_at_call 15; refine (P15.out _ K2.out.b).mono ?_; clear P15; rintro e w3 ⟨a3, c3, rfl, HZ⟩; have K3 := hid_in (K2.out.add HZ.out.2 HZ.out.1); clear K2 HZ) | (go_at_call 17; refine (X1.out _ a3 c3 (K3.out.r (a3, X) (by simp)) (K3.out.r (ad2, b) (by simp))).mono ?_; clear X1; rintro e w4 ⟨a5, c5, rfl, HZ⟩; have K4 := hid_in (K3.out.add HZ.out.2 HZ.out.1); clear K3 HZ) | (go_at_call 13; refine (LkP.mk' (ad1 := a5) (ad2 := ad) HLa.out (K4.out.r (a5, a) (by simp)) (K4.out.r (ad, a) (by simp)) _ _).mono ?_; rintro e w5 ⟨rfl, hb⟩; have K5 := hid_in (K4.out.step hb); clear K4 hb) | (go_at_call 19; refine (X2.out _ a3 c3 (K5.out.r (a3, X) (by simp)) (K5.out.r (ad, a) (by simp))).mono ?_; clear X2; rintro e w6 ⟨rfl, hb⟩; have K6 := hid_in (K5.out.step hb.out); clear K5 hb) | (go_at_call 19; refine (X3.out _ a3 c3 (K6.out.r (a3, X) (by simp)) (K6.out.r (ad2, b) (by simp))).mono ?_; clear X3; rintro e w7 ⟨rfl, hb⟩; have K7 := hid_in (K6.out.step hb.out); clear K6 hb) | (go_at_call 14; refine (X4.out _ a3 c3 (K7.out.r (a3, X) (by simp))).mono ?_; clear X4; rintro e w8 ⟨rfl, hb⟩; have K8 := hid_in (K7.out.step hb.out); clear K7 hb) | (go_at_call 17; refine (P17.out _ K8.out.b).mono ?_; clear P17; rintro e w9 ⟨a9, c9, rfl, HZ⟩; have K9 := hid_in (K8.out.add HZ.out.2 HZ.out.1); clear K8 HZ) | (go_at_call 8; refine (HAw.out _ K9.out.b).mono ?_; clear HAw K9; rintro e w15 ⟨rfl, HB15⟩))
          go_ret
          exact ⟨rfl, HB15.out⟩
      · have hez : ((((mrg a b).2 : Nat) : Int) == 0) = false := by rw [beq_eq_false_iff_ne]; omega
        clear HAds he
        generalize (mrg a b).2 = E1 at *
        generalize (mrg a b).1 = X at *
        by_cases ho : mnOk a b
        · obtain ⟨T1, T2⟩ := HT.out ho
          replace T1 := hid_in T1
          replace T2 := hid_in T2
          rw [mnE_ok ho] at P17
          clear HT ho
          generalize mnL a b = Q at *
          go_enter Try.func5, Try.ntmps5
          go_wp2_with (first | (go_at_call 14; refine HG1.out.mono ?_; clear HG1; rintro e w1 ⟨rfl, hb⟩; have K1 := hid_in (K0.out.step hb.out); clear K0 hb) | (go_at_call 14; refine (HG2.out _ K1.out.b).mono ?_; clear HG2; rintro e w2 ⟨rfl, hb⟩; have K2 := hid_in (K1.out.step hb.out); clear K1 hb) | (go_at_call 15; refine (P15.out _ K2.out.b).mono ?_; clear P15; rintro e w3 ⟨a3, c3, rfl, HZ⟩; have K3 := hid_in (K2.out.add HZ.out.2 HZ.out.1); clear K2 HZ) | (go_at_call 17; refine (P17.out _ K3.out.b).mono ?_; clear P17; rintro e w9 ⟨a9, c9, rfl, HZ⟩; have K9 := hid_in (K3.out.add HZ.out.2 HZ.out.1); clear K3 HZ) | (go_at_call 15; refine (T1.out _ a9 c9 (K9.out.r (a9, Q) (by simp)) (K9.out.r (ad2, b) (by simp))).mono ?_; clear T1; rintro e w10 ⟨a10, c10, rfl, HZ⟩; have K10 := hid_in (K9.out.add HZ.out.2 HZ.out.1); clear K9 HZ) | (go_at_call 13; refine (LkP.mk' (ad1 := a10) (ad2 := ad) HLa.out (K10.out.r (a10, a) (by simp)) (K10.out.r (ad, a) (by simp)) _ _).mono ?_; rintro e w11 ⟨rfl, hb⟩; have K11 := hid_in (K10.out.step hb); clear K10 hb) | (go_at_call 20; refine (T2.out _ K11.out.b).mono ?_; clear T2; rintro e w12 ⟨a12, c12, rfl, HZ⟩; have K12 := hid_in (K11.out.add HZ.out.2 HZ.out.1); clear K11 HZ) | (go_at_call 13; refine (LkP.mk' (ad1 := a12) (ad2 := ad2) HLb.out (K12.out.r (a12, b) (by simp)) (K12.out.r (ad2, b) (by simp)) _ _).mono ?_; rintro e w13 ⟨rfl, hb⟩; have K13 := hid_in (K12.out.step hb); clear K12 hb) | (go_at_call 8; refine (HAw.out _ K13.out.b).mono ?_; clear HAw K13; rintro e w15 ⟨rfl, HB15⟩))
          go_ret
          exact ⟨rfl, HB15.out⟩
        · obtain ⟨n1, n2⟩ := mnE_no ho
          rw [n1, n2] at P17
          clear HT ho n1 n2
          simp only [List.length_nil] at P17
          go_enter Try.func5, Try.ntmps5
          go_wp2_with (first | (go_at_call 14; refine HG1.out.mono ?_; clear HG1; rintro e w1 ⟨rfl, hb⟩; have K1 := hid_in (K0.out.step hb.out); clear K0 hb) | (go_at_call 14; refine (HG2.out _ K1.out.b).mono ?_; clear HG2; rintro e w2 ⟨rfl, hb⟩; have K2 := hid_in (K1.out.step hb.out); clear K1 hb) | (go_at_call 15; refine (P15.out _ K2.out.b).mono ?_; clear P15; rintro e w3 ⟨a3, c3, rfl, HZ⟩; have K3 := hid_in (K2.out.add HZ.out.2 HZ.out.1); clear K2 HZ) | (go_at_call 17; refine (P17.out _ K3.out.b).mono ?_; clear P17; rintro e w9 ⟨a9, c9, rfl, HZ⟩; have K9 := hid_in (K3.out.add HZ.out.2 HZ.out.1); clear K3 HZ) | (go_at_call 8; refine (HAw.out _ K9.out.b).mono ?_; clear HAw K9; rintro e w15 ⟨rfl, HB15⟩))
          go_ret
          exact ⟨rfl, HB15.out⟩
    · rw [goodB_iff.2 ga] at HG1
      rw [goodB_no gb] at HG2
      clear ga gb sa sb h h2
      go_enter Try.func5, Try.ntmps5
      go_wp2_with (first | (go_at_call 14; refine HG1.out.mono ?_; clear HG1; rintro e w1 ⟨rfl, HB1⟩) | (go_at_call 14; refine (HG2.out _ HB1.out).mono ?_; clear HG2; rintro e w2 ⟨rfl, hb⟩; have HB2 := hid_in (HB1.out.trans (hb.out.mono HB1.out.size)); clear HB1 hb) | (go_at_call 8; refine (HAw.out _ HB2.out).mono ?_; clear HAw HB2; rintro e w15 ⟨rfl, HB15⟩))
      go_ret
      exact ⟨rfl, HB15.out⟩
  · rw [goodB_no ga] at HG1
    clear ga sa sb h h2
    go_enter Try.func5, Try.ntmps5
    go_wp2_with (first | (go_at_call 14; refine HG1.out.mono ?_; clear HG1; rintro e w1 ⟨rfl, HB1⟩) | (go_at_call 8; refine (HAw.out _ HB1.out).mono ?_; clear HAw HB1; rintro e w15 ⟨rfl, HB15⟩))
    go_ret
    exact ⟨rfl, HB15.out⟩
end Go.Proofs.Ytheikjjehidagaa
