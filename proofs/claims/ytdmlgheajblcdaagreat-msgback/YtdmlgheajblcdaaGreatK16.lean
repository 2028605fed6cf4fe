/- Layer 10: Small, Of. -/
import Derived.Test.YtdmlgheajblcdaaGreatK14
import Derived.WalkKit
import Derived.ProofKit
import Derived.Handy
import Derived.WalkLawsBesides
import Derived.WalkSpells
import Derived.BigQuiet
import Derived.BigCall
import Derived.Deep.QuietTactic
import Derived.Deep.Light
import Derived.Deep.OwnRows
import Derived.Laws.AppendOwnNone
import Derived.Laws.Strings3
import Derived.Laws.RangeAny
import Derived.Deep.RegionWith
import Derived.Lib.BitFns
import Derived.Lib.Walk
import Derived.Lib.Strings
import Derived.Lib.OthersKept
import Derived.Deep.CutBlock
import Derived.Deep.DeepCutAuto
import Derived.Deep.LoopGhost
import Derived.Deep.RegionHeld3
import Derived.Lib.SmallJoins
import Derived.Maps.AppendAt
import Derived.Laws.IdiomStrings
import Derived.Lib.AppendZeros
import Derived.Deep.WholeRow
import Derived.Laws.BitsAllLaws
import Derived.Lib.ConvBytes
import Derived.Deep.RegionLaw
namespace Go.Proofs.YtdmlgheajblcdaaGreat
open Go.RowKit
set_option linter.unusedVariables false
set_option linter.unusedSimpArgs false
set_option maxRecDepth 20000
def smB (m : Mg) : Bool := decide (m.name.length ≤ 1000) && (decide (m.t.length ≤ 1000) && (decide (m.ps.length ≤ 100) && (decide (m.ins.length ≤ 100) && (decide (m.b.cuts.length ≤ 100) && (decide (m.b.bar.length ≤ 100))))))
set_option maxHeartbeats 4000000 in
theorem rSmall (m : Mg) (pa ia ca ba : Option Addr) (pc ic cc bc : Nat) (w : World) (hz1 : m.name.length ≤ 9223372036854775807) (hz2 : m.t.length ≤ 9223372036854775807) : Calls Tryz.prog 9 #[.agg (mcs m pa ia ca ba pc ic cc bc)] w (KP (.bool (smB m)) w) := by
  have HB : Hid (∀ o, Below w.heap.size w (w.alloc o)) := below_a w
  have hs1 : (⟨m.name.toArray⟩ : ByteArray).size = m.name.length := rfl
  have hs2 : (⟨m.t.toArray⟩ : ByteArray).size = m.t.length := rfl
  unfold mcs
  by_cases e1 : m.name.length ≤ 1000
  · by_cases e2 : m.t.length ≤ 1000
    · by_cases e3 : m.ps.length ≤ 100
      · by_cases e4 : m.ins.length ≤ 100
        · by_cases e5 : m.b.cuts.length ≤ 100
          · by_cases e6 : m.b.bar.length ≤ 100
            · have f1 : (((⟨m.name.toArray⟩ : ByteArray).size : Nat) : Int) ≤ 1000 := by omega
              have f2 : (((⟨m.t.toArray⟩ : ByteArray).size : Nat) : Int) ≤ 1000 := by omega
              have f3 : (m.ps.length : Int) ≤ 100 := by omega
              have f4 : (m.ins.length : Int) ≤ 100 := by omega
              have f5 : (m.b.cuts.length : Int) ≤ 100 := by omega
              have f6 : (m.b.bar.length : Int) ≤ 100 := by omega
              have HV : Hid (smB m = true) := by
                unfold Hid smB
                rw [decide_eq_true e1, decide_eq_true e2, decide_eq_true e3, decide_eq_true e4, decide_eq_true e5, decide_eq_true e6]; rfl
              generalize smB m = g at *
              generalize (⟨m.name.toArray⟩ : ByteArray) = nam at *
              generalize (⟨m.t.toArray⟩ : ByteArray) = txt at *
              go_enter Tryz.func9, Tryz.ntmps9
              go_wp2_with fail
              go_ret
              exact KP.mk (congrArg Value.bool HV.out.symm) (HB.out _)
            · have f1 : (((⟨m.name.toArray⟩ : ByteArray).size : Nat) : Int) ≤ 1000 := by omega
              have f2 : (((⟨m.t.toArray⟩ : ByteArray).size : Nat) : Int) ≤ 1000 := by omega
              have f3 : (m.ps.length : Int) ≤ 100 := by omega
              have f4 : (m.ins.length : Int) ≤ 100 := by omega
              have f5 : (m.b.cuts.length : Int) ≤ 100 := by omega
              have f6 : ¬ (m.b.bar.length : Int) ≤ 100 := by omega
              have HV : Hid (smB m = false) := by
                unfold Hid smB
                rw [decide_eq_true e1, decide_eq_true e2, decide_eq_true e3, decide_eq_true e4, decide_eq_true e5, decide_eq_false e6]; rfl
              generalize smB m = g at *
              generalize (⟨m.name.toArray⟩ : ByteArray) = nam at *
              generalize (⟨m.t.toArray⟩ : ByteArray) = txt at *
              go_enter Tryz.func9, Tryz.ntmps9
              go_wp2_with fail
              go_ret
              exact KP.mk (congrArg Value.bool HV.out.symm) (HB.out _)
          · have f1 : (((⟨m.name.toArray⟩ : ByteArray).size : Nat) : Int) ≤ 1000 := by omega
            have f2 : (((⟨m.t.toArray⟩ : ByteArray).size : Nat) : Int) ≤ 1000 := by omega
            have f3 : (m.ps.length : Int) ≤ 100 := by omega
            have f4 : (m.ins.length : Int) ≤ 100 := by omega
            have f5 : ¬ (m.b.cuts.length : Int) ≤ 100 := by omega
            have HV : Hid (smB m = false) := by
              unfold Hid smB
              rw [decide_eq_true e1, decide_eq_true e2, decide_eq_true e3, decide_eq_true e4, decide_eq_false e5]; rfl
            generalize smB m = g at *
            generalize (⟨m.name.toArray⟩ : ByteArray) = nam at *
            generalize (⟨m.t.toArray⟩ : ByteArray) = txt at *
            go_enter Tryz.func9, Tryz.ntmps9
            go_wp2_with fail
            go_ret
            exact KP.mk (congrArg Value.bool HV.out.symm) (HB.out _)
        · have f1 : (((⟨m.name.toArray⟩ : ByteArray).size : Nat) : Int) ≤ 1000 := by omega
          have f2 : (((⟨m.t.toArray⟩ : ByteArray).size : Nat) : Int) ≤ 1000 := by omega
          have f3 : (m.ps.length : Int) ≤ 100 := by omega
          have f4 : ¬ (m.ins.length : Int) ≤ 100 := by omega
          have HV : Hid (smB m = false) := by
            unfold Hid smB
            rw [decide_eq_true e1, decide_eq_true e2, decide_eq_true e3, decide_eq_false e4]; rfl
          generalize smB m = g at *
          generalize (⟨m.name.toArray⟩ : ByteArray) = nam at *
          generalize (⟨m.t.toArray⟩ : ByteArray) = txt at *
          go_enter Tryz.func9, Tryz.ntmps9
          go_wp2_with fail
          go_ret
          exact KP.mk (congrArg Value.bool HV.out.symm) (HB.out _)
      · have f1 : (((⟨m.name.toArray⟩ : ByteArray).size : Nat) : Int) ≤ 1000 := by omega
        have f2 : (((⟨m.t.toArray⟩ : ByteArray).size : Nat) : Int) ≤ 1000 := by omega
        have f3 : ¬ (m.ps.length : Int) ≤ 100 := by omega
        have HV : Hid (smB m = false) := by
          unfold Hid smB
          rw [decide_eq_true e1, decide_eq_true e2, decide_eq_false e3]; rfl
        generalize smB m = g at *
        generalize (⟨m.name.toArray⟩ : ByteArray) = nam at *
        generalize (⟨m.t.toArray⟩ : ByteArray) = txt at *
        go_enter Tryz.func9, Tryz.ntmps9
        go_wp2_with fail
        go_ret
        exact KP.mk (congrArg Value.bool HV.out.symm) (HB.out _)
    · have f1 : (((⟨m.name.toArray⟩ : ByteArray).size : Nat) : Int) ≤ 1000 := by omega
      have f2 : ¬ (((⟨m.t.toArray⟩ : ByteArray).size : Nat) : Int) ≤ 1000 := by omega
      have HV : Hid (smB m = false) := by
        unfold Hid smB
        rw [decide_eq_true e1, decide_eq_false e2]; rfl
      generalize smB m = g at *
      generalize (⟨m.name.toArray⟩ : ByteArray) = nam at *
      generalize (⟨m.t.toArray⟩ : ByteArray) = txt at *
      go_enter Tryz.func9, Tryz.ntmps9
      go_wp2_with fail
      go_ret
      exact KP.mk (congrArg Value.bool HV.out.symm) (HB.out _)
  · have f1 : ¬ (((⟨m.name.toArray⟩ : ByteArray).size : Nat) : Int) ≤ 1000 := by omega
    have HV : Hid (smB m = false) := by
      unfold Hid smB
      rw [decide_eq_false e1]; rfl
    generalize smB m = g at *
    generalize (⟨m.name.toArray⟩ : ByteArray) = nam at *
    generalize (⟨m.t.toArray⟩ : ByteArray) = txt at *
    go_enter Tryz.func9, Tryz.ntmps9
    go_wp2_with fail
    go_ret
    exact KP.mk (congrArg Value.bool HV.out.symm) (HB.out _)
theorem of1 (m : Mg) (pa ia ca ba : Option Addr) (pc ic cc bc : Nat) (w : World) (hk : m.k = 1) : Calls Tryz.prog 11 #[.agg (mcs m pa ia ca ba pc ic cc bc)] w (KP (.iface 76 (.agg #[.int .i64 m.mem, .string ⟨m.name.toArray⟩])) w) := by
  have HB : Hid (∀ o, Below w.heap.size w (w.alloc o)) := below_a w
  unfold mcs
  rw [hk]
  clear hk
  go_enter Tryz.func11, Tryz.ntmps11
  go_wp2_with fail
  go_ret
  exact ⟨rfl, HB.out _⟩
theorem of2 (m : Mg) (pa ia ca ba : Option Addr) (pc ic cc bc : Nat) (w : World) (hk : m.k = 2) : Calls Tryz.prog 11 #[.agg (mcs m pa ia ca ba pc ic cc bc)] w (KP (.iface 78 (.agg #[.string ⟨m.a.i.toArray⟩, .int .i64 m.a.iss, .int .i64 m.a.rat, .int .i64 m.a.mat, .string ⟨m.a.cur.toArray⟩])) w) := by
  have HB : Hid (∀ o, Below w.heap.size w (w.alloc o)) := below_a w
  unfold mcs
  rw [hk]
  clear hk
  go_enter Tryz.func11, Tryz.ntmps11
  go_wp2_with fail
  go_ret
  exact ⟨rfl, HB.out _⟩
theorem of3 (m : Mg) (pa ia ca ba : Option Addr) (pc ic cc bc : Nat) (w : World) (hk : m.k = 3) : Calls Tryz.prog 11 #[.agg (mcs m pa ia ca ba pc ic cc bc)] w (KP (.iface 80 (.agg #[.int .i64 m.b.id, .int .i64 m.b.ver, .string ⟨m.b.cur.toArray⟩, .int .i64 m.b.rat, .int .i64 m.b.least, .int .i64 m.b.most, .slice ca m.b.cuts.length cc, .int .i64 m.b.iss, .int .i64 m.b.ass, .slice ba m.b.bar.length bc])) w) := by
  have HB : Hid (∀ o, Below w.heap.size w (w.alloc o)) := below_a w
  unfold mcs
  rw [hk]
  clear hk
  go_enter Tryz.func11, Tryz.ntmps11
  go_wp2_with fail
  go_ret
  exact ⟨rfl, HB.out _⟩
theorem of4 (m : Mg) (pa ia ca ba : Option Addr) (pc ic cc bc : Nat) (w : World) (hk : m.k = 4) : Calls Tryz.prog 11 #[.agg (mcs m pa ia ca ba pc ic cc bc)] w (KP (.iface 82 (.agg #[.slice pa m.ps.length pc])) w) := by
  have HB : Hid (∀ o, Below w.heap.size w (w.alloc o)) := below_a w
  unfold mcs
  rw [hk]
  clear hk
  go_enter Tryz.func11, Tryz.ntmps11
  go_wp2_with fail
  go_ret
  exact ⟨rfl, HB.out _⟩
theorem of5 (m : Mg) (pa ia ca ba : Option Addr) (pc ic cc bc : Nat) (w : World) (hk : m.k = 5) : Calls Tryz.prog 11 #[.agg (mcs m pa ia ca ba pc ic cc bc)] w (KP (.iface 74 (.agg #[.int .i64 m.day])) w) := by
  have HB : Hid (∀ o, Below w.heap.size w (w.alloc o)) := below_a w
  unfold mcs
  rw [hk]
  clear hk
  go_enter Tryz.func11, Tryz.ntmps11
  go_wp2_with fail
  go_ret
  exact ⟨rfl, HB.out _⟩
theorem of6 (m : Mg) (pa ia ca ba : Option Addr) (pc ic cc bc : Nat) (w : World) (hk : m.k = 6) : Calls Tryz.prog 11 #[.agg (mcs m pa ia ca ba pc ic cc bc)] w (KP (.iface 84 (.agg #[.int .i64 m.mem, .string ⟨m.t.toArray⟩, .int .i64 m.n])) w) := by
  have HB : Hid (∀ o, Below w.heap.size w (w.alloc o)) := below_a w
  unfold mcs
  rw [hk]
  clear hk
  go_enter Tryz.func11, Tryz.ntmps11
  go_wp2_with fail
  go_ret
  exact ⟨rfl, HB.out _⟩
theorem of7 (m : Mg) (pa ia ca ba : Option Addr) (pc ic cc bc : Nat) (w : World) (hk : m.k = 7) : Calls Tryz.prog 11 #[.agg (mcs m pa ia ca ba pc ic cc bc)] w (KP (.iface 86 (.agg #[.int .i64 m.mem, .string ⟨m.t.toArray⟩, .int .i64 m.n])) w) := by
  have HB : Hid (∀ o, Below w.heap.size w (w.alloc o)) := below_a w
  unfold mcs
  rw [hk]
  clear hk
  go_enter Tryz.func11, Tryz.ntmps11
  go_wp2_with fail
  go_ret
  exact ⟨rfl, HB.out _⟩
theorem of8 (m : Mg) (pa ia ca ba : Option Addr) (pc ic cc bc : Nat) (w : World) (hk : m.k = 8) : Calls Tryz.prog 11 #[.agg (mcs m pa ia ca ba pc ic cc bc)] w (KP (.iface 63 (.agg #[.int .i64 m.q.id, .int .i64 m.q.mem, .int .i64 m.q.side, .int .i64 m.q.bas, .int .i64 m.q.am, .int .i64 m.q.rate, .int .i64 m.q.st, .int .i64 m.q.en])) w) := by
  have HB : Hid (∀ o, Below w.heap.size w (w.alloc o)) := below_a w
  unfold mcs
  rw [hk]
  clear hk
  go_enter Tryz.func11, Tryz.ntmps11
  go_wp2_with fail
  go_ret
  exact ⟨rfl, HB.out _⟩
theorem of9 (m : Mg) (pa ia ca ba : Option Addr) (pc ic cc bc : Nat) (w : World) (hk : m.k = 9) : Calls Tryz.prog 11 #[.agg (mcs m pa ia ca ba pc ic cc bc)] w (KP (.iface 88 (.agg #[.int .i64 m.mem, .int .i64 m.n])) w) := by
  have HB : Hid (∀ o, Below w.heap.size w (w.alloc o)) := below_a w
  unfold mcs
  rw [hk]
  clear hk
  go_enter Tryz.func11, Tryz.ntmps11
  go_wp2_with fail
  go_ret
  exact ⟨rfl, HB.out _⟩
theorem of10 (m : Mg) (pa ia ca ba : Option Addr) (pc ic cc bc : Nat) (w : World) (hk : m.k = 10) : Calls Tryz.prog 11 #[.agg (mcs m pa ia ca ba pc ic cc bc)] w (KP (.iface 90 (.agg #[.int .i64 m.mem, .int .i64 m.tr, .int .i64 m.day])) w) := by
  have HB : Hid (∀ o, Below w.heap.size w (w.alloc o)) := below_a w
  unfold mcs
  rw [hk]
  clear hk
  go_enter Tryz.func11, Tryz.ntmps11
  go_wp2_with fail
  go_ret
  exact ⟨rfl, HB.out _⟩
theorem of11 (m : Mg) (pa ia ca ba : Option Addr) (pc ic cc bc : Nat) (w : World) (hk : m.k = 11) : Calls Tryz.prog 11 #[.agg (mcs m pa ia ca ba pc ic cc bc)] w (KP (.iface 67 (.agg #[.int .i64 m.mem, .int .i64 m.tr, .string ⟨m.out.i.toArray⟩, .int .i64 m.out.q, .slice ia m.ins.length ic])) w) := by
  have HB : Hid (∀ o, Below w.heap.size w (w.alloc o)) := below_a w
  unfold mcs
  rw [hk]
  clear hk
  go_enter Tryz.func11, Tryz.ntmps11
  go_wp2_with fail
  go_ret
  exact ⟨rfl, HB.out _⟩
theorem of12 (m : Mg) (pa ia ca ba : Option Addr) (pc ic cc bc : Nat) (w : World) (hk : m.k = 12) : Calls Tryz.prog 11 #[.agg (mcs m pa ia ca ba pc ic cc bc)] w (KP (.iface 92 (.agg #[.int .i64 m.mem, .int .i64 m.day, .bool m.done])) w) := by
  have HB : Hid (∀ o, Below w.heap.size w (w.alloc o)) := below_a w
  unfold mcs
  rw [hk]
  clear hk
  go_enter Tryz.func11, Tryz.ntmps11
  go_wp2_with fail
  go_ret
  exact ⟨rfl, HB.out _⟩
theorem of13 (m : Mg) (pa ia ca ba : Option Addr) (pc ic cc bc : Nat) (w : World) (hk : m.k = 13) : Calls Tryz.prog 11 #[.agg (mcs m pa ia ca ba pc ic cc bc)] w (KP (.iface 94 (.agg #[.int .i64 m.mem])) w) := by
  have HB : Hid (∀ o, Below w.heap.size w (w.alloc o)) := below_a w
  unfold mcs
  rw [hk]
  clear hk
  go_enter Tryz.func11, Tryz.ntmps11
  go_wp2_with fail
  go_ret
  exact ⟨rfl, HB.out _⟩
theorem of14 (m : Mg) (pa ia ca ba : Option Addr) (pc ic cc bc : Nat) (w : World) (hk : m.k = 14) : Calls Tryz.prog 11 #[.agg (mcs m pa ia ca ba pc ic cc bc)] w (KP (.iface 96 (.agg #[.int .i64 m.mem, .int .i64 m.n])) w) := by
  have HB : Hid (∀ o, Below w.heap.size w (w.alloc o)) := below_a w
  unfold mcs
  rw [hk]
  clear hk
  go_enter Tryz.func11, Tryz.ntmps11
  go_wp2_with fail
  go_ret
  exact ⟨rfl, HB.out _⟩
theorem of15 (m : Mg) (pa ia ca ba : Option Addr) (pc ic cc bc : Nat) (w : World) (hk : m.k = 15) : Calls Tryz.prog 11 #[.agg (mcs m pa ia ca ba pc ic cc bc)] w (KP (.iface 98 (.agg #[.int .i64 m.tr, .int .i64 m.day, .int .i64 m.rate])) w) := by
  have HB : Hid (∀ o, Below w.heap.size w (w.alloc o)) := below_a w
  unfold mcs
  rw [hk]
  clear hk
  go_enter Tryz.func11, Tryz.ntmps11
  go_wp2_with fail
  go_ret
  exact ⟨rfl, HB.out _⟩
theorem of0 (m : Mg) (pa ia ca ba : Option Addr) (pc ic cc bc : Nat) (w : World) (hk : inn m.k 1 15 = false) : Calls Tryz.prog 11 #[.agg (mcs m pa ia ca ba pc ic cc bc)] w (KP .nilIface w) := by
  have HB : Hid (∀ o, Below w.heap.size w (w.alloc o)) := below_a w
  have hk2 : ¬ (1 ≤ m.k ∧ m.k ≤ 15) := by unfold inn at hk; rw [Bool.and_eq_false_iff, decide_eq_false_iff_not, decide_eq_false_iff_not] at hk; omega
  have q1 : (m.k == 1) = false := by rw [beq_eq_false_iff_ne]; omega
  have q2 : (m.k == 2) = false := by rw [beq_eq_false_iff_ne]; omega
  have q3 : (m.k == 3) = false := by rw [beq_eq_false_iff_ne]; omega
  have q4 : (m.k == 4) = false := by rw [beq_eq_false_iff_ne]; omega
  have q5 : (m.k == 5) = false := by rw [beq_eq_false_iff_ne]; omega
  have q6 : (m.k == 6) = false := by rw [beq_eq_false_iff_ne]; omega
  have q7 : (m.k == 7) = false := by rw [beq_eq_false_iff_ne]; omega
  have q8 : (m.k == 8) = false := by rw [beq_eq_false_iff_ne]; omega
  have q9 : (m.k == 9) = false := by rw [beq_eq_false_iff_ne]; omega
  have q10 : (m.k == 10) = false := by rw [beq_eq_false_iff_ne]; omega
  have q11 : (m.k == 11) = false := by rw [beq_eq_false_iff_ne]; omega
  have q12 : (m.k == 12) = false := by rw [beq_eq_false_iff_ne]; omega
  have q13 : (m.k == 13) = false := by rw [beq_eq_false_iff_ne]; omega
  have q14 : (m.k == 14) = false := by rw [beq_eq_false_iff_ne]; omega
  have q15 : (m.k == 15) = false := by rw [beq_eq_false_iff_ne]; omega
  clear hk hk2
  unfold mcs
  go_enter Tryz.func11, Tryz.ntmps11
  go_wp2_with fail
  go_ret
  exact ⟨rfl, HB.out _⟩
end Go.Proofs.YtdmlgheajblcdaaGreat
