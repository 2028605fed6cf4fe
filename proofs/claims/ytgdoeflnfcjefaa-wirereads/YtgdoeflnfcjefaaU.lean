/- Law Reads. -/
import Derived.Test.YtgdoeflnfcjefaaT
import Derived.WalkKit
import Derived.ProofKit
import Derived.Handy
import Derived.WalkLawsBesides
import Derived.WalkSpells
import Derived.BigQuiet
import Derived.BigCall
import Derived.Deep.QuietTactic
import Derived.Deep.Light
import Derived.Deep.OwnRows
import Derived.Laws.AppendOwnNone
import Derived.Laws.Strings3
import Derived.Laws.RangeAny
import Derived.Deep.RegionWith
import Derived.Lib.BitFns
import Derived.Lib.Walk
import Derived.Lib.Strings
import Derived.Lib.OthersKept
import Derived.Deep.CutBlock
import Derived.Deep.DeepCutAuto
import Derived.Deep.LoopGhost
import Derived.Deep.RegionHeld3
import Derived.Lib.SmallJoins
import Derived.Maps.AppendAt
import Derived.Laws.IdiomStrings
import Derived.Lib.AppendZeros
import Derived.Deep.WholeRow
import Derived.Laws.BitsAllLaws
import Derived.Lib.ConvBytes
import Derived.Deep.RegionLaw
namespace Go.Proofs.Ytgdoeflnfcjefaa
open Go.RowKit
set_option linter.unusedVariables false
set_option linter.unusedSimpArgs false
structure Byts (w : World) (a : Option Addr) (n : Nat) : Prop where
  at_ : 0 < n → ∃ b off, a = some ⟨b, off, none⟩ ∧ b < w.heap.size ∧ ∀ j, j < n → ∃ x : Nat, x < 256 ∧ w.cell? ⟨b, off + j, none⟩ = some (.int .u8 x)
  len : n ≤ 140737488355328
theorem lreads (B p q : Nat) (r : Rd) (m : Int) (hm : I64 m) (w : World) (h : Rm w q r) (k : Rq w p r) (bw : B ≤ w.heap.size) (bp : B ≤ p) (bq : B ≤ q) (hs : r.s.length ≤ 1000000) (j : Nat) (hj : j < 8) (z : Int) (hz : z = j) : Calls Try.prog 17 #[.pointer (some ⟨q, 0, none⟩), .pointer (some ⟨p, 0, none⟩), .int .i64 z, .int .i64 m] w (LP B p q (rDo j m r) w) := by
  subst hz
  match j, hj with
  | 0, _ => exact lreads0 B p q r m hm w h k bw bp bq hs
  | 1, _ => exact lreads1 B p q r m hm w h k bw bp bq hs
  | 2, _ => exact lreads2 B p q r m hm w h k bw bp bq hs
  | 3, _ => exact lreads3 B p q r m hm w h k bw bp bq hs
  | 4, _ => exact lreads4 B p q r m hm w h k bw bp bq hs
  | 5, _ => exact lreads5 B p q r m hm w h k bw bp bq hs
  | 6, _ => exact lreads6 B p q r m hm w h k bw bp bq hs
  | 7, _ => exact lreads7 B p q r m hm w h k bw bp bq hs
set_option maxHeartbeats 4000000 in
theorem lawreads (s : ByteArray) (a : Option Addr) (n cap : Nat) (m : Int) (hm : I64 m) (w : World) (hb : Byts w a n) : Calls Try.prog 4 #[.string s, .slice a n cap, .int .i64 m] w (BB true w) := by
  have HA : Hid (∀ w, Calls Try.prog 9 #[] w (BB true w)) := fun w => lawake w
  have HM : Hid (I64 m) := hm
  have HY : Hid (Byts w a n) := hb
  have hn := hb.len
  clear hm hb
  by_cases hs : s.size ≤ 6000
  · have hsz : ¬ (6000 : Int) < (s.size : Int) := by omega
    have HN : Hid (Calls Try.prog 16 #[.string s] w (NwP s.data.toList w)) := xnew s (by omega) w
    have HL : Hid (s.data.toList.length = s.size) := rfl
    have HQ : Hid (qcells ⟨s.data.toList, 0, 0⟩ = #[.string s, .int .i64 0, .int .i64 0]) := rfl
    go_enter Try.func4, Try.ntmps4
    go_wp2_with fail
    refine HN.out.mono ?_
    rintro e w1 ⟨q, rfl, hq, HR1, HB1⟩
    have HE1 : Hid (w1.alloc (.cells #[.string s, .int .i64 0, .int .i64 0] 39) = w1.alloc (.cells (qcells ⟨s.data.toList, 0, 0⟩) 39)) := by unfold Hid; rw [HQ.out]
    have hp : w.heap.size ≤ w1.heap.size := HB1.out.size
    have HR2 : Hid (Rm (w1.alloc (.cells (qcells ⟨s.data.toList, 0, 0⟩) 39)) q ⟨s.data.toList, 0, 0⟩) := HR1.out.keep (below_new _ _)
    have HP2 : Hid (Rq (w1.alloc (.cells (qcells ⟨s.data.toList, 0, 0⟩) 39)) w1.heap.size ⟨s.data.toList, 0, 0⟩) := Rq.new _ _
    have HB2 : Hid (Below w.heap.size w (w1.alloc (.cells (qcells ⟨s.data.toList, 0, 0⟩) 39))) := HB1.out.alloc hp _
    clear HN
    go_upto_region 4 with fail
    rw [HE1.out]
    generalize w1.alloc (.cells (qcells ⟨s.data.toList, 0, 0⟩) 39) = w2 at *
    generalize w1.heap.size = p at *
    clear HE1 HR1 HB1 HQ
    go_wp2_with fail
    go_loopw [9] (fun i wr => ∃ (k : Nat) (r : Rd), i = .int .i64 k ∧ k ≤ n ∧ k ≤ 60 ∧ Hid (Rm wr q r) ∧ Hid (Rq wr p r) ∧ Hid (r.s = s.data.toList) ∧ Hid (Below w.heap.size w wr)) (fun i _ => n - (Lib.intOf i).toNat)
    case atStart => exact ⟨0, _, rfl, Nat.zero_le _, by omega, HR2, HP2, rfl, HB2⟩
    case round =>
      clear HR2 HP2 HB2
      obtain ⟨k, r, rfl, hk, hk60, HR, HP, HS, HB⟩ := hrel
      by_cases hkn : k < n
      · have hkz : (k : Int) < (n : Int) := by omega
        by_cases hk6 : k < 60
        · have hk6z : (k : Int) < 60 := by omega
          obtain ⟨b, off, rfl, hbl, hce⟩ := HY.out.at_ (by omega)
          obtain ⟨x, hx, hcx⟩ := hce k hkn
          have hc : wr.cell? ⟨b, off + k, none⟩ = some (.int .u8 x) := (HB.out.cell (by exact hbl)).trans hcx
          have HD : Hid (∀ z : Int, z = ((x % 8 : Nat) : Int) → Calls Try.prog 17 #[.pointer (some ⟨q, 0, none⟩), .pointer (some ⟨p, 0, none⟩), .int .i64 z, .int .i64 m] wr (LP w.heap.size p q (rDo (x % 8) m r) wr)) := fun z hz => lreads w.heap.size p q r m HM.out wr HR.out HP.out HB.out.size hp hq (by rw [HS.out, HL.out]; omega) (x % 8) (by omega) z hz
          have HS2 : Hid ((rDo (x % 8) m r).s = s.data.toList) := (rDo_ok (x % 8) m (show r.Ok from HR.out.le)).2.trans HS.out
          generalize rDo (x % 8) m r = r2 at *
          clear hcx hce
          go_wp2_with fail
          refine (HD.out _ (by omega)).mono ?_
          rintro e w3 ⟨rfl, HR3, HP3, HB3⟩
          have HB4 : Hid (Below w.heap.size w w3) := HB.out.trans HB3.out
          clear HB3 HR HP HB HD
          go_wp2_with fail
          exact ⟨⟨k + 1, r2, by go_num, by omega, by omega, HR3.out, HP3.out, HS2.out, HB4.out⟩, by simp [Lib.intOf]; omega⟩
        · have hk6z : ¬ (k : Int) < 60 := by omega
          go_wp2_with fail
          refine (HA.out _).mono ?_
          rintro e w3 ⟨rfl, hb3⟩
          have HB4 : Hid (Below w.heap.size w w3) := HB.out.trans (hb3.mono HB.out.size)
          clear hb3
          go_wp2_with fail
          go_ret
          exact BB.mk rfl HB4.out
      · have hkz : ¬ (k : Int) < (n : Int) := by omega
        go_wp2_with fail
        refine (HA.out _).mono ?_
        rintro e w3 ⟨rfl, hb3⟩
        have HB4 : Hid (Below w.heap.size w w3) := HB.out.trans (hb3.mono HB.out.size)
        clear hb3
        go_wp2_with fail
        go_ret
        exact BB.mk rfl HB4.out
  · have hsz : (6000 : Int) < (s.size : Int) := by omega
    go_enter Try.func4, Try.ntmps4
    go_wp2_with fail
    refine (HA.out _).mono ?_
    rintro e w1 ⟨rfl, hb1⟩
    have HB1 : Hid (Below w.heap.size w w1) := hb1
    clear hb1
    go_wp2_with fail
    go_ret
    exact BB.mk rfl HB1.out
end Go.Proofs.Ytgdoeflnfcjefaa
