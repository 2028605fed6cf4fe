/- layer 13: law Apart -/
import Derived.Test.YtbgdmpaghkmadaaYD
import Derived.Test.YtbgdmpaghkmadaaYE
import Derived.WalkKit
import Derived.ProofKit
import Derived.Handy
import Derived.WalkLawsBesides
import Derived.WalkSpells
import Derived.BigQuiet
import Derived.BigCall
import Derived.Deep.QuietTactic
import Derived.Deep.Light
import Derived.Deep.OwnRows
import Derived.Laws.AppendOwnNone
import Derived.Laws.Strings3
import Derived.Laws.RangeAny
import Derived.Deep.RegionWith
import Derived.Lib.BitFns
import Derived.Lib.Walk
import Derived.Lib.Strings
import Derived.Lib.OthersKept
import Derived.Deep.CutBlock
import Derived.Deep.DeepCutAuto
import Derived.Deep.LoopGhost
import Derived.Deep.RegionHeld3
import Derived.Lib.SmallJoins
import Derived.Maps.AppendAt
import Derived.Laws.IdiomStrings
import Derived.Lib.AppendZeros
import Derived.Deep.WholeRow
import Derived.Laws.BitsAllLaws
import Derived.Lib.ConvBytes
import Derived.Deep.RegionLaw
import Derived.Maps.OwnSet
import Derived.Maps.OwnOps
import Derived.Maps.RangeWalk
import Derived.Maps.Ext
import Derived.DeepKeys4
import Derived.Laws.StructEq
import Derived.Deep.MidRow
import Derived.Lib.Bytealg
import Derived.Lib.Overlaps
import Derived.Lib.AppendZerosOnto
import Derived.Laws.MakeOwn
namespace Go.Proofs.Ytbgdmpaghkmadaa
open Go.RowKit
set_option linter.unusedVariables false
set_option linter.unusedSimpArgs false
open Num
set_option maxRecDepth 20000
theorem Bk.mono {B C : Nat} {w : World} {q : Nat} {v : Value} {L : List Kn} (h : Bk B w q v L) (hC : C ≤ B) : Bk C w q v L := ⟨h.b, own_mono h.o hC, Nat.le_trans hC h.q⟩
set_option maxHeartbeats 32000000 in
theorem lapart (xs : List Ac) (a0 : Option Addr) (cap : Nat) (ys : List Ac) (b0 : Option Addr) (bcap : Nat) (n : ByteArray) (w : World) (h : Acs w a0 xs) (h2 : Acs w b0 ys) : Calls Try.prog 8 #[.slice a0 xs.length cap, .slice b0 ys.length bcap, .string n] w (OkP w) := by
  have HAw : Hid (∀ w, Calls Try.prog 12 #[] w (OkP w)) := fun w => xawake w
  have HFi : Hid (Calls Try.prog 13 #[.slice a0 xs.length cap] w (FiP w)) := xfilled xs a0 cap w h
  have HM : Hid (Acs w b0 ys) := h2
  clear h h2
  go_enter Try.func8, Try.ntmps8
  go_upto_region 2 with (go_at_call 13; refine HFi.out.mono ?_; clear HFi; rintro e w1 ⟨L, v, lp, al, cl, rfl, HZ⟩)
  have HG : Hid (Num.Good L) := HZ.out.1
  have HC : Hid (Calls Try.prog 28 #[.pointer (some ⟨w.heap.size, 0, none⟩)] w1 fun e w2 => ∃ vc, e = .returned (.pointer (some ⟨w1.heap.size, 0, none⟩)) ∧ Hid (Tw w w2 w.heap.size v lp L L al cl w1.heap.size vc)) := (xclo HZ.out.2.x HG.out).mono fun e w2 k => by
    obtain ⟨vc, rfl, hz⟩ := k
    obtain ⟨hk, hb⟩ := hz.out
    refine ⟨vc, rfl, HZ.out.2.below hb, hk.mono HZ.out.2.b.size, by have := HZ.out.2.x.b.lt; omega, fun g e e2 => ?_⟩
    have h1 := (hk.o.lt g e).1
    have h2 := (HZ.out.2.x.o.lt g e2.symm).2
    omega
  clear HZ
  generalize w1.heap.size = cq at *
  go_wp2_with (go_at_call 28; refine HC.out.mono ?_; clear HC; rintro e w2 ⟨vc, rfl, HT⟩)
  go_loopw [11] (fun i wr => ∃ (k : Nat) (L' : List Kn) (v : Value), k ≤ ys.length ∧ k ≤ 30 ∧ i = .int .i64 k ∧ Hid (Num.Good L' ∧ Tw w wr w.heap.size v lp L' L al cl cq vc))
    (fun i _ => ys.length - (intOf i).toNat)
  case atStart => exact ⟨0, L, v, Nat.zero_le _, by omega, rfl, HG.out, HT.out⟩
  case round =>
    obtain ⟨k, L', v', hk, hk30, rfl, HR⟩ := hrel
    clear HT
    by_cases hgo : k < ys.length ∧ k < 30
    · obtain ⟨hkn, hk3⟩ := hgo
      have hkz : (k : Int) < (ys.length : Int) := by omega
      have hk3z : (k : Int) < 30 := by omega
      obtain ⟨blk, off, rfl, hbl, hcs⟩ := HM.out.r (by omega)
      obtain ⟨c0, c1, c2, c3, c4, c5, c6⟩ := Acs.at7 hcs HR.out.2.d.b hbl hkn
      have hw := HM.out.w ys[k] (List.getElem_mem hkn)
      have hslot := fun (W : World) (hb : Below w.heap.size w W) => (Acs.at7 hcs hb hbl hkn).2.2.2.2.2.2
      have HAd : Hid (Calls Try.prog 29 #[.pointer (some ⟨w.heap.size, 0, none⟩), .agg #[.string ys[k].a.i, .int .i64 ys[k].a.iss, .int .i64 ys[k].a.rat, .int .i64 ys[k].a.mat, .string ys[k].a.c]] wr fun e w3 => ∃ E : Nat, e = .returned (.int .i64 E) ∧ w3.cell? ⟨blk, off + k * 7 + 6, none⟩ = some (.slice ys[k].pa ys[k].ps.length ys[k].pc) ∧ Hid (∃ L1 v1, Num.Good L1 ∧ Tw w w3 w.heap.size v1 lp L1 L al cl cq vc)) := (xadd HR.out.1 ys[k].a (by have := hw.s; omega) wr HR.out.2.d.x HR.out.2.d.b.size).mono fun e w3 hh => by
        obtain ⟨v1, h1⟩ := HR.out.2.af hh.2.out
        exact ⟨_, hh.1, hslot w3 h1.d.b, _, v1, Num.Good.add HR.out.1 (fun h => eA_ok h), h1⟩
      have HSt : Hid (ys[k].ps.length ≤ 100 → ∀ w3, (∃ L1 v1, Num.Good L1 ∧ Tw w w3 w.heap.size v1 lp L1 L al cl cq vc) → Calls Try.prog 30 #[.pointer (some ⟨w.heap.size, 0, none⟩), .slice ys[k].pa ys[k].ps.length ys[k].pc] w3 fun e w4 => ∃ N E : Nat, e = .returned (.tuple #[.int .i64 N, .int .i64 E]) ∧ Hid (∃ L1 v1, Num.Good L1 ∧ Tw w w4 w.heap.size v1 lp L1 L al cl cq vc)) := fun hps w3 hex => by
        obtain ⟨L1, v1, g1, t1⟩ := hex
        refine (xset g1 ys[k].ps (by omega) ys[k].pa ys[k].pc w3 t1.d.x (hw.ps.below t1.d.b) t1.d.b.size (fun b9 o9 e h0 => ?_)).mono fun e w4 hh => ?_
        · obtain ⟨b8, o8, e8, hb8, _⟩ := hw.ps h0
          rw [e] at e8
          injection e8 with e8
          injection e8 with e8 _
          subst e8
          exact ⟨by have := t1.d.x.q; omega, fun e2 => by have := (t1.d.x.o.lt _ e2.symm).1; omega⟩
        · obtain ⟨v2, t2⟩ := t1.af hh.2.out
          exact ⟨_, _, hh.1, _, v2, Num.Good.set g1 _, t2⟩
      clear hcs hw hslot hbl HR
      generalize ys[k] = x at *
      obtain ⟨k9, ⟨xi, x1, x2, x3, xc⟩, ps, pa, pc⟩ := x
      simp only at *
      by_cases hps : ps.length ≤ 100
      · have hpz : (ps.length : Int) ≤ 100 := by omega
        have HS2 := HSt.out hps
        have HS3 : Hid (∀ w3, (∃ L1 v1, Num.Good L1 ∧ Tw w w3 w.heap.size v1 lp L1 L al cl cq vc) → Calls Try.prog 30 #[.pointer (some ⟨w.heap.size, 0, none⟩), .slice pa ps.length pc] w3 fun e w4 => ∃ N E : Nat, e = .returned (.tuple #[.int .i64 N, .int .i64 E]) ∧ Hid (∃ L1 v1, Num.Good L1 ∧ Tw w w4 w.heap.size v1 lp L1 L al cl cq vc)) := HS2
        clear HS2 HSt hps
        go_wp2_with (first | (go_at_call 29; refine HAd.out.mono ?_; clear HAd; rintro e w3 ⟨E, rfl, d6, HX⟩) | (go_at_call 30; refine (HS3.out _ HX.out).mono ?_; clear HS3; rintro e w4 ⟨N, E2, rfl, HY⟩))
        go_roundw
        case rel =>
          obtain ⟨L1, v1, hy⟩ := HY.out
          exact ⟨k + 1, L1, v1, by omega, by omega, by simp, hy⟩
        case measure => simp [intOf]; omega
      · have hpz : ¬ (ps.length : Int) ≤ 100 := by omega
        clear HSt hps
        go_wp2_with (go_at_call 29; refine HAd.out.mono ?_; clear HAd; rintro e w3 ⟨E, rfl, d6, HX⟩)
        go_roundw
        case rel =>
          obtain ⟨L1, v1, hy⟩ := HX.out
          exact ⟨k + 1, L1, v1, by omega, by omega, by simp, hy⟩
        case measure => simp [intOf]; omega
    · have hst : ¬ (k : Int) < (ys.length : Int) ∨ (k : Int) < (ys.length : Int) ∧ ¬ (k : Int) < 30 := by omega
      have HSh : Hid (Calls Try.prog 11 #[.pointer (some ⟨cq, 0, none⟩), .slice al L.length cl] wr fun e w5 => e = .returned (.bool true) ∧ Hid (Below w.heap.size w w5)) := (xshows (B' := 0) HR.out.2.c HG.out al cl HR.out.2.d.rw).mono fun e w5 hh => ⟨hh.1, HR.out.2.d.b.trans (hh.2.mono HR.out.2.d.b.size)⟩
      clear HR hgo
      rcases hst with hkz | ⟨hkz, hk3z⟩
      · go_wp2_with (go_at_call 11; refine HSh.out.mono ?_; clear HSh; rintro e w5 ⟨rfl, HB5⟩)
        have HS5 : Hid (Below w.heap.size w ((w5.alloc (.cells #[.bool false, .slice none 0 0] 70)).alloc (.cells #[.pointer none, .pointer (some ⟨w5.heap.size, 0, none⟩)] 23)) ∧ Bx ((w5.alloc (.cells #[.bool false, .slice none 0 0] 70)).alloc (.cells #[.pointer none, .pointer (some ⟨w5.heap.size, 0, none⟩)] 23)) w5.heap.size #[.bool false, .slice none 0 0] 70 ∧ Bx ((w5.alloc (.cells #[.bool false, .slice none 0 0] 70)).alloc (.cells #[.pointer none, .pointer (some ⟨w5.heap.size, 0, none⟩)] 23)) (w5.heap.size + 1) #[.pointer none, .pointer (some ⟨w5.heap.size, 0, none⟩)] 23) := by
          have hb1 := HB5.out.alloc HB5.out.size (.cells #[.bool false, .slice none 0 0] 70)
          refine ⟨hb1.alloc hb1.size _, (Bx.new w5 _ _).kept (grown_alloc _ _ none) (by simp), ?_⟩
          have := Bx.new (w5.alloc (.cells #[.bool false, .slice none 0 0] 70)) #[.pointer none, .pointer (some ⟨w5.heap.size, 0, none⟩)] 23
          rw [World.size_alloc] at this
          exact this
        clear HB5
        go_loopw [69] (fun i wr => ∃ m : Nat, m ≤ 2 ∧ i = .int .i64 m ∧ Hid (Below w.heap.size w wr ∧ Bx wr w5.heap.size #[.bool false, .slice none 0 0] 70 ∧ Bx wr (w5.heap.size + 1) #[.pointer none, .pointer (some ⟨w5.heap.size, 0, none⟩)] 23))
          (fun i _ => 2 - (intOf i).toNat)
        case atStart => exact ⟨0, by omega, rfl, HS5.out⟩
        case round =>
          obtain ⟨m, hm, rfl, HR⟩ := hrel
          clear HS5
          by_cases hm2 : m < 2
          · have hmz : (m : Int) < 2 := by omega
            obtain ⟨p, hp, hlk⟩ : ∃ p, wr.cell? ⟨w5.heap.size + 1, m, none⟩ = some (.pointer p) ∧ Lk p wr := by
              rcases (show m = 0 ∨ m = 1 by omega) with rfl | rfl
              · exact ⟨none, HR.out.2.2.cell 0, Lk.nil wr⟩
              · exact ⟨_, HR.out.2.2.cell 1, Lk.zero HR.out.2.1⟩
            have HLk : Hid (Lk p wr) := hlk
            have H30 : Hid (Calls Try.prog 30 #[.pointer p, .slice none 0 0] wr fun e w' => e = .returned (.tuple #[.int .i64 0, .int .i64 3]) ∧ wr = w') := nset hlk
            have H21 : Hid (Calls Try.prog 21 #[.pointer p, .agg #[.string n, .int .i64 0]] wr fun e w' => e = .returned (.tuple #[.int .i64 0, .int .i64 3]) ∧ Hid (Below wr.heap.size wr w')) := (nvalue hlk n 0).mono fun e w' k => ⟨k.1, k.2⟩
            have H15 : Hid (∀ W, Below wr.heap.size wr W → Calls Try.prog 15 #[.pointer p, .string n] W fun e w' => e = .returned (.tuple #[.agg #[.string ⟨#[]⟩, .int .i64 0, .int .i64 0, .int .i64 0, .string ⟨#[]⟩], .bool false]) ∧ Hid (Below wr.heap.size wr w')) := fun W hb => (xget_no W ((HLk.out.below hb).fnc n)).mono fun e w' k => ⟨k.1, hb.trans (k.2.mono hb.size)⟩
            have H29 : Hid (∀ W, Below wr.heap.size wr W → Calls Try.prog 29 #[.pointer p, .agg #[.string ⟨#[]⟩, .int .i64 0, .int .i64 0, .int .i64 0, .string ⟨#[]⟩]] W fun e w' => e = .returned (.int .i64 3) ∧ Hid (Below wr.heap.size wr w')) := fun W hb => (nadd (HLk.out.below hb) _ _ _ _ _).mono fun e w' k => ⟨k.1, hb.trans (k.2.mono hb.size)⟩
            have H31 : Hid (∀ W, Below wr.heap.size wr W → Calls Try.prog 31 #[.pointer p] W fun e w' => ∃ a c, e = .returned (.slice a 0 c) ∧ Hid (Below wr.heap.size wr w')) := fun W hb => (nall (HLk.out.below hb)).mono fun e w' k => by
              obtain ⟨a, c, rfl, hb2⟩ := k
              exact ⟨a, c, rfl, hb.trans (hb2.out.mono hb.size)⟩
            have H32 : Hid (∀ W, Below wr.heap.size wr W → Calls Try.prog 32 #[.pointer p] W fun e w' => ∃ a c, e = .returned (.slice a 0 c) ∧ Hid (Below wr.heap.size wr w')) := fun W hb => (nprices (HLk.out.below hb)).mono fun e w' k => by
              obtain ⟨a, c, rfl, hb2⟩ := k
              exact ⟨a, c, rfl, hb.trans (hb2.out.mono hb.size)⟩
            have H26 : Hid (∀ W, Below wr.heap.size wr W → Calls Try.prog 26 #[.pointer p, .int .i64 5] W fun e w' => ∃ a c, e = .returned (.slice a 0 c) ∧ Hid (Below wr.heap.size wr w')) := fun W hb => (nending (HLk.out.below hb) 5).mono fun e w' k => by
              obtain ⟨a, c, rfl, hb2⟩ := k
              exact ⟨a, c, rfl, hb.trans (hb2.out.mono hb.size)⟩
            have HF : Hid (∀ W, Below wr.heap.size wr W → Below w.heap.size w W ∧ Bx W w5.heap.size #[.bool false, .slice none 0 0] 70 ∧ Bx W (w5.heap.size + 1) #[.pointer none, .pointer (some ⟨w5.heap.size, 0, none⟩)] 23) := fun W hb => ⟨HR.out.1.trans (hb.mono HR.out.1.size), HR.out.2.1.below hb HR.out.2.1.lt, HR.out.2.2.below hb HR.out.2.2.lt⟩
            clear hlk HLk HR
            go_wp2_with (first | (go_at_call 30; refine H30.out.mono ?_; clear H30; rintro e w7 ⟨rfl, rfl⟩) | (go_at_call 21; refine H21.out.mono ?_; clear H21; rintro e w7 ⟨rfl, K7⟩) | (go_at_call 15; refine (H15.out _ K7.out).mono ?_; clear H15; rintro e w8 ⟨rfl, K8⟩) | (go_at_call 29; refine (H29.out _ (K8.out.alloc K8.out.size _)).mono ?_; clear H29; rintro e w9 ⟨rfl, K9⟩) | (go_at_call 31; refine (H31.out _ K9.out).mono ?_; clear H31; rintro e w10 ⟨a10, c10, rfl, K10⟩) | (go_at_call 32; refine (H32.out _ K10.out).mono ?_; clear H32; rintro e w11 ⟨a11, c11, rfl, K11⟩) | (go_at_call 26; refine (H26.out _ K11.out).mono ?_; clear H26; rintro e w12 ⟨a12, c12, rfl, K12⟩))
            go_roundw
            case rel => exact ⟨m + 1, by omega, by simp, HF.out _ K12.out⟩
            case measure => simp [intOf]; omega
          · have hmz : ¬ (m : Int) < 2 := by omega
            go_wp2_with (go_at_call 12; refine (HAw.out _).mono ?_; rintro e w9 ⟨rfl, HB9⟩)
            go_ret
            exact ⟨rfl, HR.out.1.trans (HB9.mono HR.out.1.size)⟩
      · go_wp2_with (go_at_call 11; refine HSh.out.mono ?_; clear HSh; rintro e w5 ⟨rfl, HB5⟩)
        have HS5 : Hid (Below w.heap.size w ((w5.alloc (.cells #[.bool false, .slice none 0 0] 70)).alloc (.cells #[.pointer none, .pointer (some ⟨w5.heap.size, 0, none⟩)] 23)) ∧ Bx ((w5.alloc (.cells #[.bool false, .slice none 0 0] 70)).alloc (.cells #[.pointer none, .pointer (some ⟨w5.heap.size, 0, none⟩)] 23)) w5.heap.size #[.bool false, .slice none 0 0] 70 ∧ Bx ((w5.alloc (.cells #[.bool false, .slice none 0 0] 70)).alloc (.cells #[.pointer none, .pointer (some ⟨w5.heap.size, 0, none⟩)] 23)) (w5.heap.size + 1) #[.pointer none, .pointer (some ⟨w5.heap.size, 0, none⟩)] 23) := by
          have hb1 := HB5.out.alloc HB5.out.size (.cells #[.bool false, .slice none 0 0] 70)
          refine ⟨hb1.alloc hb1.size _, (Bx.new w5 _ _).kept (grown_alloc _ _ none) (by simp), ?_⟩
          have := Bx.new (w5.alloc (.cells #[.bool false, .slice none 0 0] 70)) #[.pointer none, .pointer (some ⟨w5.heap.size, 0, none⟩)] 23
          rw [World.size_alloc] at this
          exact this
        clear HB5
        go_loopw [69] (fun i wr => ∃ m : Nat, m ≤ 2 ∧ i = .int .i64 m ∧ Hid (Below w.heap.size w wr ∧ Bx wr w5.heap.size #[.bool false, .slice none 0 0] 70 ∧ Bx wr (w5.heap.size + 1) #[.pointer none, .pointer (some ⟨w5.heap.size, 0, none⟩)] 23))
          (fun i _ => 2 - (intOf i).toNat)
        case atStart => exact ⟨0, by omega, rfl, HS5.out⟩
        case round =>
          obtain ⟨m, hm, rfl, HR⟩ := hrel
          clear HS5
          by_cases hm2 : m < 2
          · have hmz : (m : Int) < 2 := by omega
            obtain ⟨p, hp, hlk⟩ : ∃ p, wr.cell? ⟨w5.heap.size + 1, m, none⟩ = some (.pointer p) ∧ Lk p wr := by
              rcases (show m = 0 ∨ m = 1 by omega) with rfl | rfl
              · exact ⟨none, HR.out.2.2.cell 0, Lk.nil wr⟩
              · exact ⟨_, HR.out.2.2.cell 1, Lk.zero HR.out.2.1⟩
            have HLk : Hid (Lk p wr) := hlk
            have H30 : Hid (Calls Try.prog 30 #[.pointer p, .slice none 0 0] wr fun e w' => e = .returned (.tuple #[.int .i64 0, .int .i64 3]) ∧ wr = w') := nset hlk
            have H21 : Hid (Calls Try.prog 21 #[.pointer p, .agg #[.string n, .int .i64 0]] wr fun e w' => e = .returned (.tuple #[.int .i64 0, .int .i64 3]) ∧ Hid (Below wr.heap.size wr w')) := (nvalue hlk n 0).mono fun e w' k => ⟨k.1, k.2⟩
            have H15 : Hid (∀ W, Below wr.heap.size wr W → Calls Try.prog 15 #[.pointer p, .string n] W fun e w' => e = .returned (.tuple #[.agg #[.string ⟨#[]⟩, .int .i64 0, .int .i64 0, .int .i64 0, .string ⟨#[]⟩], .bool false]) ∧ Hid (Below wr.heap.size wr w')) := fun W hb => (xget_no W ((HLk.out.below hb).fnc n)).mono fun e w' k => ⟨k.1, hb.trans (k.2.mono hb.size)⟩
            have H29 : Hid (∀ W, Below wr.heap.size wr W → Calls Try.prog 29 #[.pointer p, .agg #[.string ⟨#[]⟩, .int .i64 0, .int .i64 0, .int .i64 0, .string ⟨#[]⟩]] W fun e w' => e = .returned (.int .i64 3) ∧ Hid (Below wr.heap.size wr w')) := fun W hb => (nadd (HLk.out.below hb) _ _ _ _ _).mono fun e w' k => ⟨k.1, hb.trans (k.2.mono hb.size)⟩
            have H31 : Hid (∀ W, Below wr.heap.size wr W → Calls Try.prog 31 #[.pointer p] W fun e w' => ∃ a c, e = .returned (.slice a 0 c) ∧ Hid (Below wr.heap.size wr w')) := fun W hb => (nall (HLk.out.below hb)).mono fun e w' k => by
              obtain ⟨a, c, rfl, hb2⟩ := k
              exact ⟨a, c, rfl, hb.trans (hb2.out.mono hb.size)⟩
            have H32 : Hid (∀ W, Below wr.heap.size wr W → Calls Try.prog 32 #[.pointer p] W fun e w' => ∃ a c, e = .returned (.slice a 0 c) ∧ Hid (Below wr.heap.size wr w')) := fun W hb => (nprices (HLk.out.below hb)).mono fun e w' k => by
              obtain ⟨a, c, rfl, hb2⟩ := k
              exact ⟨a, c, rfl, hb.trans (hb2.out.mono hb.size)⟩
            have H26 : Hid (∀ W, Below wr.heap.size wr W → Calls Try.prog 26 #[.pointer p, .int .i64 5] W fun e w' => ∃ a c, e = .returned (.slice a 0 c) ∧ Hid (Below wr.heap.size wr w')) := fun W hb => (nending (HLk.out.below hb) 5).mono fun e w' k => by
              obtain ⟨a, c, rfl, hb2⟩ := k
              exact ⟨a, c, rfl, hb.trans (hb2.out.mono hb.size)⟩
            have HF : Hid (∀ W, Below wr.heap.size wr W → Below w.heap.size w W ∧ Bx W w5.heap.size #[.bool false, .slice none 0 0] 70 ∧ Bx W (w5.heap.size + 1) #[.pointer none, .pointer (some ⟨w5.heap.size, 0, none⟩)] 23) := fun W hb => ⟨HR.out.1.trans (hb.mono HR.out.1.size), HR.out.2.1.below hb HR.out.2.1.lt, HR.out.2.2.below hb HR.out.2.2.lt⟩
            clear hlk HLk HR
            go_wp2_with (first | (go_at_call 30; refine H30.out.mono ?_; clear H30; rintro e w7 ⟨rfl, rfl⟩) | (go_at_call 21; refine H21.out.mono ?_; clear H21; rintro e w7 ⟨rfl, K7⟩) | (go_at_call 15; refine (H15.out _ K7.out).mono ?_; clear H15; rintro e w8 ⟨rfl, K8⟩) | (go_at_call 29; refine (H29.out _ (K8.out.alloc K8.out.size _)).mono ?_; clear H29; rintro e w9 ⟨rfl, K9⟩) | (go_at_call 31; refine (H31.out _ K9.out).mono ?_; clear H31; rintro e w10 ⟨a10, c10, rfl, K10⟩) | (go_at_call 32; refine (H32.out _ K10.out).mono ?_; clear H32; rintro e w11 ⟨a11, c11, rfl, K11⟩) | (go_at_call 26; refine (H26.out _ K11.out).mono ?_; clear H26; rintro e w12 ⟨a12, c12, rfl, K12⟩))
            go_roundw
            case rel => exact ⟨m + 1, by omega, by simp, HF.out _ K12.out⟩
            case measure => simp [intOf]; omega
          · have hmz : ¬ (m : Int) < 2 := by omega
            go_wp2_with (go_at_call 12; refine (HAw.out _).mono ?_; rintro e w9 ⟨rfl, HB9⟩)
            go_ret
            exact ⟨rfl, HR.out.1.trans (HB9.mono HR.out.1.size)⟩
end Go.Proofs.Ytbgdmpaghkmadaa
