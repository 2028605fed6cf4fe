/- Layer 10: what is right is short; Encode of both, whole. -/
import Derived.Test.YtdmlgheajblcdaaGreatK21
import Derived.Test.YtdmlgheajblcdaaGreatK26
import Derived.Test.YtdmlgheajblcdaaGreatK25
import Derived.WalkKit
import Derived.ProofKit
import Derived.Handy
import Derived.WalkLawsBesides
import Derived.WalkSpells
import Derived.BigQuiet
import Derived.BigCall
import Derived.Deep.QuietTactic
import Derived.Deep.Light
import Derived.Deep.OwnRows
import Derived.Laws.AppendOwnNone
import Derived.Laws.Strings3
import Derived.Laws.RangeAny
import Derived.Deep.RegionWith
import Derived.Lib.BitFns
import Derived.Lib.Walk
import Derived.Lib.Strings
import Derived.Lib.OthersKept
import Derived.Deep.CutBlock
import Derived.Deep.DeepCutAuto
import Derived.Deep.LoopGhost
import Derived.Deep.RegionHeld3
import Derived.Lib.SmallJoins
import Derived.Maps.AppendAt
import Derived.Laws.IdiomStrings
import Derived.Lib.AppendZeros
import Derived.Deep.WholeRow
import Derived.Laws.BitsAllLaws
import Derived.Lib.ConvBytes
import Derived.Deep.RegionLaw
import Derived.Test.YtdmlgheajblcdaaGreatK16
namespace Go.Proofs.YtdmlgheajblcdaaGreat
open Go.RowKit
set_option linter.unusedVariables false
set_option linter.unusedSimpArgs false
set_option maxRecDepth 20000
theorem chk_is1 {m : Mg} (hk : m.k = 1) : chkM C0 m = if mbr m.mem = true then C0.nm m.name else 1 := by
  unfold chkM
  rw [if_pos hk]
theorem chk_is2 {m : Mg} (hk : m.k = 2) : chkM C0 m = C0.ast m.a := by
  unfold chkM
  rw [if_neg (by omega : ¬ m.k = 1)]
  rw [if_pos hk]
theorem chk_is3 {m : Mg} (hk : m.k = 3) : chkM C0 m = bkE C0 m.b := by
  unfold chkM
  rw [if_neg (by omega : ¬ m.k = 1)]
  rw [if_neg (by omega : ¬ m.k = 2)]
  rw [if_pos hk]
theorem chk_is4 {m : Mg} (hk : m.k = 4) : chkM C0 m = prE C0 m.ps := by
  unfold chkM
  rw [if_neg (by omega : ¬ m.k = 1)]
  rw [if_neg (by omega : ¬ m.k = 2)]
  rw [if_neg (by omega : ¬ m.k = 3)]
  rw [if_pos hk]
theorem chk_is5 {m : Mg} (hk : m.k = 5) : chkM C0 m = dayE C0 m.day := by
  unfold chkM
  rw [if_neg (by omega : ¬ m.k = 1)]
  rw [if_neg (by omega : ¬ m.k = 2)]
  rw [if_neg (by omega : ¬ m.k = 3)]
  rw [if_neg (by omega : ¬ m.k = 4)]
  rw [if_pos hk]
theorem chk_is6 {m : Mg} (hk : m.k = 6) : chkM C0 m = if C0.cu m.t = true then if mbr m.mem = true then if sgn m.n = true then 0 else 1 else 1 else 11 := by
  unfold chkM
  rw [if_neg (by omega : ¬ m.k = 1)]
  rw [if_neg (by omega : ¬ m.k = 2)]
  rw [if_neg (by omega : ¬ m.k = 3)]
  rw [if_neg (by omega : ¬ m.k = 4)]
  rw [if_neg (by omega : ¬ m.k = 5)]
  rw [if_pos hk]
  generalize mbr m.mem = t0
  generalize sgn m.n = t1
  cases t0 <;> cases t1 <;> first | rfl | simp
theorem chk_is7 {m : Mg} (hk : m.k = 7) : chkM C0 m = if mbr m.mem = true then if sgn m.n = true then C0.is m.t else 1 else 1 := by
  unfold chkM
  rw [if_neg (by omega : ¬ m.k = 1)]
  rw [if_neg (by omega : ¬ m.k = 2)]
  rw [if_neg (by omega : ¬ m.k = 3)]
  rw [if_neg (by omega : ¬ m.k = 4)]
  rw [if_neg (by omega : ¬ m.k = 5)]
  rw [if_neg (by omega : ¬ m.k = 6)]
  rw [if_pos hk]
  generalize mbr m.mem = t0
  generalize sgn m.n = t1
  cases t0 <;> cases t1 <;> first | rfl | simp
theorem chk_is8 {m : Mg} (hk : m.k = 8) : chkM C0 m = if mbr m.q.mem = true then quE C0 m.q else 1 := by
  unfold chkM
  rw [if_neg (by omega : ¬ m.k = 1)]
  rw [if_neg (by omega : ¬ m.k = 2)]
  rw [if_neg (by omega : ¬ m.k = 3)]
  rw [if_neg (by omega : ¬ m.k = 4)]
  rw [if_neg (by omega : ¬ m.k = 5)]
  rw [if_neg (by omega : ¬ m.k = 6)]
  rw [if_neg (by omega : ¬ m.k = 7)]
  rw [if_pos hk]
theorem chk_is9 {m : Mg} (hk : m.k = 9) : chkM C0 m = if mbr m.mem = true then if amt m.n = true then 0 else 1 else 1 := by
  unfold chkM
  rw [if_neg (by omega : ¬ m.k = 1)]
  rw [if_neg (by omega : ¬ m.k = 2)]
  rw [if_neg (by omega : ¬ m.k = 3)]
  rw [if_neg (by omega : ¬ m.k = 4)]
  rw [if_neg (by omega : ¬ m.k = 5)]
  rw [if_neg (by omega : ¬ m.k = 6)]
  rw [if_neg (by omega : ¬ m.k = 7)]
  rw [if_neg (by omega : ¬ m.k = 8)]
  rw [if_pos hk]
  generalize mbr m.mem = t0
  generalize amt m.n = t1
  cases t0 <;> cases t1 <;> first | rfl | simp
theorem chk_is10 {m : Mg} (hk : m.k = 10) : chkM C0 m = if mbr m.mem = true then if amt m.tr = true then dayE C0 m.day else 1 else 1 := by
  unfold chkM
  rw [if_neg (by omega : ¬ m.k = 1)]
  rw [if_neg (by omega : ¬ m.k = 2)]
  rw [if_neg (by omega : ¬ m.k = 3)]
  rw [if_neg (by omega : ¬ m.k = 4)]
  rw [if_neg (by omega : ¬ m.k = 5)]
  rw [if_neg (by omega : ¬ m.k = 6)]
  rw [if_neg (by omega : ¬ m.k = 7)]
  rw [if_neg (by omega : ¬ m.k = 8)]
  rw [if_neg (by omega : ¬ m.k = 9)]
  rw [if_pos hk]
  generalize mbr m.mem = t0
  generalize amt m.tr = t1
  cases t0 <;> cases t1 <;> first | rfl | simp
theorem chk_is11 {m : Mg} (hk : m.k = 11) : chkM C0 m = if mbr m.mem = true then if amt m.tr = true then if decide (m.ins.length ≤ 64) = true then lotsE C0 (m.out :: m.ins) else 1 else 1 else 1 := by
  unfold chkM
  rw [if_neg (by omega : ¬ m.k = 1)]
  rw [if_neg (by omega : ¬ m.k = 2)]
  rw [if_neg (by omega : ¬ m.k = 3)]
  rw [if_neg (by omega : ¬ m.k = 4)]
  rw [if_neg (by omega : ¬ m.k = 5)]
  rw [if_neg (by omega : ¬ m.k = 6)]
  rw [if_neg (by omega : ¬ m.k = 7)]
  rw [if_neg (by omega : ¬ m.k = 8)]
  rw [if_neg (by omega : ¬ m.k = 9)]
  rw [if_neg (by omega : ¬ m.k = 10)]
  rw [if_pos hk]
  generalize mbr m.mem = t0
  generalize amt m.tr = t1
  generalize decide (m.ins.length ≤ 64) = t2
  cases t0 <;> cases t1 <;> cases t2 <;> first | rfl | simp
theorem chk_is12 {m : Mg} (hk : m.k = 12) : chkM C0 m = if mbr m.mem = true then dayE C0 m.day else 1 := by
  unfold chkM
  rw [if_neg (by omega : ¬ m.k = 1)]
  rw [if_neg (by omega : ¬ m.k = 2)]
  rw [if_neg (by omega : ¬ m.k = 3)]
  rw [if_neg (by omega : ¬ m.k = 4)]
  rw [if_neg (by omega : ¬ m.k = 5)]
  rw [if_neg (by omega : ¬ m.k = 6)]
  rw [if_neg (by omega : ¬ m.k = 7)]
  rw [if_neg (by omega : ¬ m.k = 8)]
  rw [if_neg (by omega : ¬ m.k = 9)]
  rw [if_neg (by omega : ¬ m.k = 10)]
  rw [if_neg (by omega : ¬ m.k = 11)]
  rw [if_pos hk]
theorem chk_is13 {m : Mg} (hk : m.k = 13) : chkM C0 m = if mbr m.mem = true then 0 else 1 := by
  unfold chkM
  rw [if_neg (by omega : ¬ m.k = 1)]
  rw [if_neg (by omega : ¬ m.k = 2)]
  rw [if_neg (by omega : ¬ m.k = 3)]
  rw [if_neg (by omega : ¬ m.k = 4)]
  rw [if_neg (by omega : ¬ m.k = 5)]
  rw [if_neg (by omega : ¬ m.k = 6)]
  rw [if_neg (by omega : ¬ m.k = 7)]
  rw [if_neg (by omega : ¬ m.k = 8)]
  rw [if_neg (by omega : ¬ m.k = 9)]
  rw [if_neg (by omega : ¬ m.k = 10)]
  rw [if_neg (by omega : ¬ m.k = 11)]
  rw [if_neg (by omega : ¬ m.k = 12)]
  rw [if_pos hk]
theorem chk_is14 {m : Mg} (hk : m.k = 14) : chkM C0 m = if mbr m.mem = true then if inn m.n 0 1125899906842624 = true then 0 else 1 else 1 := by
  unfold chkM
  rw [if_neg (by omega : ¬ m.k = 1)]
  rw [if_neg (by omega : ¬ m.k = 2)]
  rw [if_neg (by omega : ¬ m.k = 3)]
  rw [if_neg (by omega : ¬ m.k = 4)]
  rw [if_neg (by omega : ¬ m.k = 5)]
  rw [if_neg (by omega : ¬ m.k = 6)]
  rw [if_neg (by omega : ¬ m.k = 7)]
  rw [if_neg (by omega : ¬ m.k = 8)]
  rw [if_neg (by omega : ¬ m.k = 9)]
  rw [if_neg (by omega : ¬ m.k = 10)]
  rw [if_neg (by omega : ¬ m.k = 11)]
  rw [if_neg (by omega : ¬ m.k = 12)]
  rw [if_neg (by omega : ¬ m.k = 13)]
  rw [if_pos hk]
  generalize mbr m.mem = t0
  generalize inn m.n 0 1125899906842624 = t1
  cases t0 <;> cases t1 <;> first | rfl | simp
theorem chk_is15 {m : Mg} (hk : m.k = 15) : chkM C0 m = if amt m.tr = true then if inn m.rate (-1000000) 1000000 = true then dayE C0 m.day else 1 else 1 := by
  unfold chkM
  rw [if_neg (by omega : ¬ m.k = 1)]
  rw [if_neg (by omega : ¬ m.k = 2)]
  rw [if_neg (by omega : ¬ m.k = 3)]
  rw [if_neg (by omega : ¬ m.k = 4)]
  rw [if_neg (by omega : ¬ m.k = 5)]
  rw [if_neg (by omega : ¬ m.k = 6)]
  rw [if_neg (by omega : ¬ m.k = 7)]
  rw [if_neg (by omega : ¬ m.k = 8)]
  rw [if_neg (by omega : ¬ m.k = 9)]
  rw [if_neg (by omega : ¬ m.k = 10)]
  rw [if_neg (by omega : ¬ m.k = 11)]
  rw [if_neg (by omega : ¬ m.k = 12)]
  rw [if_neg (by omega : ¬ m.k = 13)]
  rw [if_neg (by omega : ¬ m.k = 14)]
  rw [if_pos hk]
  generalize amt m.tr = t0
  generalize inn m.rate (-1000000) 1000000 = t1
  cases t0 <;> cases t1 <;> first | rfl | simp
theorem shrt_of {m : Mg} (h : chkM C0 m = 0) : Shrt m where
  n := fun hk => by
    rw [chk_is1 hk] at h
    split at h
    · have := C0_ok.nm _ h; omega
    · cases h
  a := fun hk => by
    rw [chk_is2 hk] at h
    have := C0_ok.ast _ h
    omega
  b := fun hk => by
    rw [chk_is3 hk] at h
    have := bkE_len C0_ok h
    omega
  p := fun hk => by
    rw [chk_is4 hk] at h
    unfold prE at h
    split at h
    · cases h
    · rename_i hn
      exact ⟨by omega, fun y hy => by have := prsE_len C0_ok _ _ h y hy; omega⟩
  t := fun hk => by
    rcases hk with hk | hk
    · rw [chk_is6 hk] at h
      split at h
      · rename_i hc; have := C0_ok.cu _ hc; omega
      · cases h
    · rw [chk_is7 hk] at h
      split at h
      · split at h
        · have := C0_ok.is _ h; omega
        · cases h
      · cases h
  l := fun hk => by
    rw [chk_is11 hk] at h
    split at h
    · split at h
      · split at h
        · rename_i hd
          have := lotsE_len C0_ok _ h
          refine ⟨by have := this _ (List.mem_cons_self ..); omega, of_decide_eq_true hd, fun y hy => by have := this _ (List.mem_cons_of_mem _ hy); omega⟩
        · cases h
      · cases h
    · cases h
theorem bh_len {m : Mg} (hS : Shrt m) (hW : m.Wf) : (bhL m).length ≤ 1000000 := by
  unfold bhL
  split
  · rename_i hk
    obtain ⟨h1, h2⟩ := inn_of hk
    have a0 := intL_len hW.mem
    have a1 := intL_len hW.n
    have a2 := intL_len hW.tr
    have a3 := intL_len hW.day
    have a4 := intL_len hW.rate
    have a5 := intL_len hW.out
    have hc : m.k = 9 ∨ m.k = 10 ∨ m.k = 11 ∨ m.k = 12 ∨ m.k = 13 ∨ m.k = 14 ∨ m.k = 15 := by omega
    rcases hc with hk | hk | hk | hk | hk | hk | hk
    · have e : bodL m = intL m.mem ++ intL m.n := by unfold bodL; simp [hk]
      rw [e, List.length_append]; omega
    · have e : bodL m = intL m.mem ++ (intL m.tr ++ intL m.day) := by unfold bodL; simp [hk]
      rw [e, List.length_append, List.length_append]; omega
    · have e : bodL m = intL m.mem ++ (intL m.tr ++ (lotL m.out ++ (uintL m.ins.length ++ flatM lotL m.ins))) := by unfold bodL; simp [hk]
      have hl := hS.l hk
      have b1 := lotL_len hl.1 hW.out
      have b2 := uintL_len (n := m.ins.length) (by omega)
      have b3 := flatM_len lotL 1020 m.ins (fun y hy => lotL_len (hl.2.2 y hy) (hW.ins y hy))
      rw [e, List.length_append, List.length_append, List.length_append, List.length_append]; omega
    · have e : bodL m = intL m.mem ++ (intL m.day ++ boolL m.done) := by unfold bodL; simp [hk]
      have b1 : (boolL m.done).length = 1 := rfl
      rw [e, List.length_append, List.length_append]; omega
    · have e : bodL m = intL m.mem := by unfold bodL; simp [hk]
      rw [e]; omega
    · have e : bodL m = intL m.mem ++ intL m.n := by unfold bodL; simp [hk]
      rw [e, List.length_append]; omega
    · have e : bodL m = intL m.tr ++ (intL m.day ++ intL m.rate) := by unfold bodL; simp [hk]
      rw [e, List.length_append, List.length_append]; omega
  · exact Nat.zero_le _
theorem rBehind (m : Mg) (pa ia ca ba : Option Addr) (pc ic cc bc : Nat) (w : World) (hW : m.Wf) (hH : Hld w.heap.size w m pa ia ca ba) (hSh : Shrt m) : Calls Tryz.prog 54 #[.agg (mcs m pa ia ca ba pc ic cc bc)] w (SB (bhL m) w) := by
  rcases Bool.eq_false_or_eq_true (inn m.k 9 15) with h | h
  · obtain ⟨h1, h2⟩ := inn_of h
    have e0 : bhL m = bodL m := by unfold bhL; rw [if_pos h]
    rw [e0]
    have hc : m.k = 9 ∨ m.k = 10 ∨ m.k = 11 ∨ m.k = 12 ∨ m.k = 13 ∨ m.k = 14 ∨ m.k = 15 := by omega
    rcases hc with hk | hk | hk | hk | hk | hk | hk
    · have e : bodL m = flatI [m.mem, m.n] := by unfold bodL; simp [hk, flatI]
      rw [e]; exact behind9 m pa ia ca ba pc ic cc bc hk w hW
    · have e : bodL m = flatI [m.mem, m.tr, m.day] := by unfold bodL; simp [hk, flatI]
      rw [e]; exact behind10 m pa ia ca ba pc ic cc bc hk w hW
    · exact behind11 m pa ia ca ba pc ic cc bc hk w hW hH hSh
    · have e : bodL m = flatI [m.mem, m.day] ++ boolL m.done := by unfold bodL; simp [hk, flatI]
      rw [e]; exact behind12 m pa ia ca ba pc ic cc bc hk w hW
    · have e : bodL m = intL m.mem := by unfold bodL; simp [hk]
      rw [e]; exact behind13 m pa ia ca ba pc ic cc bc hk w hW
    · have e : bodL m = flatI [m.mem, m.n] := by unfold bodL; simp [hk, flatI]
      rw [e]; exact behind14 m pa ia ca ba pc ic cc bc hk w hW
    · have e : bodL m = flatI [m.tr, m.day, m.rate] := by unfold bodL; simp [hk, flatI]
      rw [e]; exact behind15 m pa ia ca ba pc ic cc bc hk w hW
  · have e : bhL m = [] := by unfold bhL; rw [h]; rfl
    rw [e]; exact behind0 m pa ia ca ba pc ic cc bc h w
/-- P10.4 -/
def encS (m : Mg) : List UInt8 := if chkM C0 m = 0 then encL m else []
theorem encS_ok {m : Mg} (h : chkM C0 m = 0) : encS m = encL m := if_pos h
theorem encS_bad {m : Mg} (h : ¬ chkM C0 m = 0) : encS m = [] := if_neg h
set_option maxHeartbeats 4000000 in
theorem rEncBad (M : Array Value) (hsz : M.size = 36) (g : Nat) (hg : g ≠ 0) (w : World) (h13 : ∀ W, Below w.heap.size w W → Calls Tryz.prog 13 #[.agg M] W (KP (.int .i64 g) W)) : Calls Tryz.prog 19 #[.agg M] w (KP (.tuple #[.string ⟨#[]⟩, .int .i64 g]) w) := by
  have H13 : Hid (∀ W, Below w.heap.size w W → Calls Tryz.prog 13 #[.agg M] W (KP (.int .i64 g) W)) := h13
  have hz : ((g : Int) != 0) = true := by rw [bne_iff_ne]; omega
  have HX0 : Hid (Bx (w.alloc (.cells M 35)) w.heap.size M 35) := Bx.new _ _ _
  have HB0 : Hid (Below w.heap.size w (w.alloc (.cells M 35))) := below_a w _
  have HLD : Hid (∀ W, Bx W w.heap.size M 35 → (Instr.loadAt 35 (.pointer (some ⟨w.heap.size, 0, none⟩))).run Tryz.prog W = .ok (.agg M) W) := fun W h => hloadAt W w.heap.size M hsz h
  clear h13 hg
  go_enter Tryz.func19, Tryz.ntmps19
  go_upto_region 1 with fail
  generalize hw1 : w.alloc (.cells M 35) = w1 at *
  have HX : Hid (Bx w1 w.heap.size M 35) := HX0.out
  have HB : Hid (Below w.heap.size w w1) := HB0.out
  clear HX0 HB0 hw1
  go_wp2_with (guard_target =~ wpList _ _ _ (⟨_, Op.load 35 _, _, _, _, _⟩ :: _) _ _; refine wl_load _ rfl 35 _ rfl _ rfl _ (HLD.out _ HX.out) ?_; go_simp)
  refine (H13.out _ HB.out).mono ?_
  rintro e w2 ⟨rfl, hb2⟩
  have HX2 : Hid (Bx w2 w.heap.size M 35) := HX.out.keep hb2.out
  have HB2 : Hid (Below w.heap.size w w2) := bt HB.out hb2.out
  clear hb2 HX HB
  go_wp2_with (guard_target =~ wpList _ _ _ (⟨_, Op.load 35 _, _, _, _, _⟩ :: _) _ _; refine wl_load _ rfl 35 _ rfl _ rfl _ (HLD.out _ HX2.out) ?_; go_simp)
  refine (H13.out _ HB2.out).mono ?_
  rintro e w3 ⟨rfl, hb3⟩
  have HB3 : Hid (Below w.heap.size w w3) := bt HB2.out hb3.out
  clear hb3 HX2 HB2
  go_wp2_with fail
  go_ret2
  exact ⟨rfl, HB3.out⟩
theorem xEnc1 (m : Mg) (pa ia ca ba : Option Addr) (pc ic cc bc : Nat) (hk : m.k = 1) (w : World) (hH : Hld w.heap.size w m pa ia ca ba) (hW : m.Wf) (hZ : Szd m) : Calls Tryz.prog 18 #[.iface 76 (.agg #[.int .i64 m.mem, .string ⟨m.name.toArray⟩])] w (KP (.tuple #[.string ⟨(encS m).toArray⟩, .int .i64 ((chkM C0 m : Nat) : Int)]) w) := by
  have hc := xCk1 m pa ia ca ba pc ic cc bc hk w hH hW hZ
  rw [← chk_is1 hk] at hc
  by_cases h0 : chkM C0 m = 0
  · rw [encS_ok h0]
    rw [h0] at hc ⊢
    have e : encL m = intL 1 ++ (intL m.mem ++ textL m.name) := by unfold encL bodL; simp [hk]
    rw [e]
    exact encode1 (m.mem) ⟨m.name.toArray⟩ (intL m.mem ++ textL m.name) w hc (fun w' p v l hb hw hp hl => write1 p p v l _ _ hW.mem ((shrt_of h0).n hk) w' hw (by omega))
  · rw [encS_bad h0]
    exact encodeBad _ _ h0 w hc
theorem xEnc2 (m : Mg) (pa ia ca ba : Option Addr) (pc ic cc bc : Nat) (hk : m.k = 2) (w : World) (hH : Hld w.heap.size w m pa ia ca ba) (hW : m.Wf) (hZ : Szd m) : Calls Tryz.prog 18 #[.iface 78 (.agg #[.string ⟨m.a.i.toArray⟩, .int .i64 m.a.iss, .int .i64 m.a.rat, .int .i64 m.a.mat, .string ⟨m.a.cur.toArray⟩])] w (KP (.tuple #[.string ⟨(encS m).toArray⟩, .int .i64 ((chkM C0 m : Nat) : Int)]) w) := by
  have hc := xCk2 m pa ia ca ba pc ic cc bc hk w hH hW hZ
  rw [← chk_is2 hk] at hc
  by_cases h0 : chkM C0 m = 0
  · rw [encS_ok h0]
    rw [h0] at hc ⊢
    have e : encL m = intL 2 ++ (textL m.a.i ++ (intL m.a.iss ++ (intL m.a.rat ++ (intL m.a.mat ++ textL m.a.cur)))) := by unfold encL bodL; simp [hk]
    rw [e]
    exact encode2 ⟨m.a.i.toArray⟩ (m.a.iss) (m.a.rat) (m.a.mat) ⟨m.a.cur.toArray⟩ (textL m.a.i ++ (intL m.a.iss ++ (intL m.a.rat ++ (intL m.a.mat ++ textL m.a.cur)))) w hc (fun w' p v l hb hw hp hl => write2 p p v l _ _ _ _ _ ((shrt_of h0).a hk).1 hW.a.1 hW.a.2.1 hW.a.2.2 ((shrt_of h0).a hk).2 w' hw (by omega))
  · rw [encS_bad h0]
    exact encodeBad _ _ h0 w hc
theorem xEnc3 (m : Mg) (pa ia ca ba : Option Addr) (pc ic cc bc : Nat) (hk : m.k = 3) (w : World) (hH : Hld w.heap.size w m pa ia ca ba) (hW : m.Wf) (hZ : Szd m) : Calls Tryz.prog 18 #[.iface 80 (.agg #[.int .i64 m.b.id, .int .i64 m.b.ver, .string ⟨m.b.cur.toArray⟩, .int .i64 m.b.rat, .int .i64 m.b.least, .int .i64 m.b.most, .slice ca m.b.cuts.length cc, .int .i64 m.b.iss, .int .i64 m.b.ass, .slice ba m.b.bar.length bc])] w (KP (.tuple #[.string ⟨(encS m).toArray⟩, .int .i64 ((chkM C0 m : Nat) : Int)]) w) := by
  have hc := xCk3 m pa ia ca ba pc ic cc bc hk w hH hW hZ
  rw [← chk_is3 hk] at hc
  by_cases h0 : chkM C0 m = 0
  · rw [encS_ok h0]
    rw [h0] at hc ⊢
    have e : encL m = intL 3 ++ (bkL m.b) := by unfold encL bodL; simp [hk]
    rw [e]
    exact encode3 (m.b.id) (m.b.ver) ⟨m.b.cur.toArray⟩ (m.b.rat) (m.b.least) (m.b.most) ca (m.b.cuts.length) cc (m.b.iss) (m.b.ass) ba (m.b.bar.length) bc (bkL m.b) w hc (fun w' p v l hb hw hp hl => write3 p p v l _ _ _ _ _ _ m.b.cuts ca cc _ _ m.b.bar ba bc hW.b.1 hW.b.2.1 ((shrt_of h0).b hk).1 hW.b.2.2.1 hW.b.2.2.2.1 hW.b.2.2.2.2.1 hW.b.2.2.2.2.2.1 hW.b.2.2.2.2.2.2.1 w' hw (by omega) ((shrt_of h0).b hk).2.1 ((shrt_of h0).b hk).2.2 ((hH.cuts.keep hb).mono hp) hW.b.2.2.2.2.2.2.2.1 ((hH.bar.keep hb).mono hp) hW.b.2.2.2.2.2.2.2.2)
  · rw [encS_bad h0]
    exact encodeBad _ _ h0 w hc
theorem xEnc4 (m : Mg) (pa ia ca ba : Option Addr) (pc ic cc bc : Nat) (hk : m.k = 4) (w : World) (hH : Hld w.heap.size w m pa ia ca ba) (hW : m.Wf) (hZ : Szd m) : Calls Tryz.prog 18 #[.iface 82 (.agg #[.slice pa m.ps.length pc])] w (KP (.tuple #[.string ⟨(encS m).toArray⟩, .int .i64 ((chkM C0 m : Nat) : Int)]) w) := by
  have hc := xCk4 m pa ia ca ba pc ic cc bc hk w hH hW hZ
  rw [← chk_is4 hk] at hc
  by_cases h0 : chkM C0 m = 0
  · rw [encS_ok h0]
    rw [h0] at hc ⊢
    have e : encL m = intL 4 ++ (uintL m.ps.length ++ flatM lotL m.ps) := by unfold encL bodL; simp [hk]
    rw [e]
    exact encode4 pa (m.ps.length) pc (uintL m.ps.length ++ flatM lotL m.ps) w hc (fun w' p v l hb hw hp hl => write4 p p v l m.ps pa pc w' hw (by omega) ((shrt_of h0).p hk).1 ((hH.ps.keep hb).mono hp) (fun y hy => ⟨((shrt_of h0).p hk).2 y hy, hW.ps y hy⟩))
  · rw [encS_bad h0]
    exact encodeBad _ _ h0 w hc
theorem xEnc5 (m : Mg) (pa ia ca ba : Option Addr) (pc ic cc bc : Nat) (hk : m.k = 5) (w : World) (hH : Hld w.heap.size w m pa ia ca ba) (hW : m.Wf) (hZ : Szd m) : Calls Tryz.prog 18 #[.iface 74 (.agg #[.int .i64 m.day])] w (KP (.tuple #[.string ⟨(encS m).toArray⟩, .int .i64 ((chkM C0 m : Nat) : Int)]) w) := by
  have hc := xCk5 m pa ia ca ba pc ic cc bc hk w hH hW hZ
  rw [← chk_is5 hk] at hc
  by_cases h0 : chkM C0 m = 0
  · rw [encS_ok h0]
    rw [h0] at hc ⊢
    have e : encL m = intL 5 ++ (intL m.day) := by unfold encL bodL; simp [hk]
    rw [e]
    exact encode5 (m.day) (intL m.day) w hc (fun w' p v l hb hw hp hl => write5 p p v l _ hW.day w' hw (by omega))
  · rw [encS_bad h0]
    exact encodeBad _ _ h0 w hc
theorem xEnc6 (m : Mg) (pa ia ca ba : Option Addr) (pc ic cc bc : Nat) (hk : m.k = 6) (w : World) (hH : Hld w.heap.size w m pa ia ca ba) (hW : m.Wf) (hZ : Szd m) : Calls Tryz.prog 18 #[.iface 84 (.agg #[.int .i64 m.mem, .string ⟨m.t.toArray⟩, .int .i64 m.n])] w (KP (.tuple #[.string ⟨(encS m).toArray⟩, .int .i64 ((chkM C0 m : Nat) : Int)]) w) := by
  have hc := xCk6 m pa ia ca ba pc ic cc bc hk w hH hW hZ
  rw [← chk_is6 hk] at hc
  by_cases h0 : chkM C0 m = 0
  · rw [encS_ok h0]
    rw [h0] at hc ⊢
    have e : encL m = intL 6 ++ (intL m.mem ++ (intL m.n ++ textL m.t)) := by unfold encL bodL; simp [hk]
    rw [e]
    exact encode6 (m.mem) ⟨m.t.toArray⟩ (m.n) (intL m.mem ++ (intL m.n ++ textL m.t)) w hc (fun w' p v l hb hw hp hl => write6 p p v l _ _ _ hW.mem ((shrt_of h0).t (Or.inl hk)) hW.n w' hw (by omega))
  · rw [encS_bad h0]
    exact encodeBad _ _ h0 w hc
theorem xEnc7 (m : Mg) (pa ia ca ba : Option Addr) (pc ic cc bc : Nat) (hk : m.k = 7) (w : World) (hH : Hld w.heap.size w m pa ia ca ba) (hW : m.Wf) (hZ : Szd m) : Calls Tryz.prog 18 #[.iface 86 (.agg #[.int .i64 m.mem, .string ⟨m.t.toArray⟩, .int .i64 m.n])] w (KP (.tuple #[.string ⟨(encS m).toArray⟩, .int .i64 ((chkM C0 m : Nat) : Int)]) w) := by
  have hc := xCk7 m pa ia ca ba pc ic cc bc hk w hH hW hZ
  rw [← chk_is7 hk] at hc
  by_cases h0 : chkM C0 m = 0
  · rw [encS_ok h0]
    rw [h0] at hc ⊢
    have e : encL m = intL 7 ++ (intL m.mem ++ (intL m.n ++ textL m.t)) := by unfold encL bodL; simp [hk]
    rw [e]
    exact encode7 (m.mem) ⟨m.t.toArray⟩ (m.n) (intL m.mem ++ (intL m.n ++ textL m.t)) w hc (fun w' p v l hb hw hp hl => write7 p p v l _ _ _ hW.mem ((shrt_of h0).t (Or.inr hk)) hW.n w' hw (by omega))
  · rw [encS_bad h0]
    exact encodeBad _ _ h0 w hc
theorem xEnc8 (m : Mg) (pa ia ca ba : Option Addr) (pc ic cc bc : Nat) (hk : m.k = 8) (w : World) (hH : Hld w.heap.size w m pa ia ca ba) (hW : m.Wf) (hZ : Szd m) : Calls Tryz.prog 18 #[.iface 63 (.agg #[.int .i64 m.q.id, .int .i64 m.q.mem, .int .i64 m.q.side, .int .i64 m.q.bas, .int .i64 m.q.am, .int .i64 m.q.rate, .int .i64 m.q.st, .int .i64 m.q.en])] w (KP (.tuple #[.string ⟨(encS m).toArray⟩, .int .i64 ((chkM C0 m : Nat) : Int)]) w) := by
  have hc := xCk8 m pa ia ca ba pc ic cc bc hk w hH hW hZ
  rw [← chk_is8 hk] at hc
  by_cases h0 : chkM C0 m = 0
  · rw [encS_ok h0]
    rw [h0] at hc ⊢
    have e : encL m = intL 8 ++ (quL m.q) := by unfold encL bodL; simp [hk]
    rw [e]
    exact encode8 (m.q.id) (m.q.mem) (m.q.side) (m.q.bas) (m.q.am) (m.q.rate) (m.q.st) (m.q.en) (quL m.q) w hc (fun w' p v l hb hw hp hl => write8 p p v l _ _ _ _ _ _ _ _ hW.q.1 hW.q.2.1 hW.q.2.2.1 hW.q.2.2.2.1 hW.q.2.2.2.2.1 hW.q.2.2.2.2.2.1 hW.q.2.2.2.2.2.2.1 hW.q.2.2.2.2.2.2.2 w' hw (by omega))
  · rw [encS_bad h0]
    exact encodeBad _ _ h0 w hc
theorem xEnc9 (m : Mg) (pa ia ca ba : Option Addr) (pc ic cc bc : Nat) (hk : m.k = 9) (w : World) (hH : Hld w.heap.size w m pa ia ca ba) (hW : m.Wf) (hZ : Szd m) : Calls Tryz.prog 18 #[.iface 88 (.agg #[.int .i64 m.mem, .int .i64 m.n])] w (KP (.tuple #[.string ⟨(encS m).toArray⟩, .int .i64 ((chkM C0 m : Nat) : Int)]) w) := by
  have hc := xCk9 m pa ia ca ba pc ic cc bc hk w hH hW hZ
  rw [← chk_is9 hk] at hc
  by_cases h0 : chkM C0 m = 0
  · rw [encS_ok h0]
    rw [h0] at hc ⊢
    have e : encL m = intL 9 ++ (intL m.mem ++ intL m.n) := by unfold encL bodL; simp [hk]
    rw [e]
    exact encode9 (m.mem) (m.n) (intL m.mem ++ intL m.n) w hc (fun w' p v l hb hw hp hl => write9 p p v l _ _ hW.mem hW.n w' hw (by omega))
  · rw [encS_bad h0]
    exact encodeBad _ _ h0 w hc
theorem xEnc10 (m : Mg) (pa ia ca ba : Option Addr) (pc ic cc bc : Nat) (hk : m.k = 10) (w : World) (hH : Hld w.heap.size w m pa ia ca ba) (hW : m.Wf) (hZ : Szd m) : Calls Tryz.prog 18 #[.iface 90 (.agg #[.int .i64 m.mem, .int .i64 m.tr, .int .i64 m.day])] w (KP (.tuple #[.string ⟨(encS m).toArray⟩, .int .i64 ((chkM C0 m : Nat) : Int)]) w) := by
  have hc := xCk10 m pa ia ca ba pc ic cc bc hk w hH hW hZ
  rw [← chk_is10 hk] at hc
  by_cases h0 : chkM C0 m = 0
  · rw [encS_ok h0]
    rw [h0] at hc ⊢
    have e : encL m = intL 10 ++ (intL m.mem ++ (intL m.tr ++ intL m.day)) := by unfold encL bodL; simp [hk]
    rw [e]
    exact encode10 (m.mem) (m.tr) (m.day) (intL m.mem ++ (intL m.tr ++ intL m.day)) w hc (fun w' p v l hb hw hp hl => write10 p p v l _ _ _ hW.mem hW.tr hW.day w' hw (by omega))
  · rw [encS_bad h0]
    exact encodeBad _ _ h0 w hc
theorem xEnc11 (m : Mg) (pa ia ca ba : Option Addr) (pc ic cc bc : Nat) (hk : m.k = 11) (w : World) (hH : Hld w.heap.size w m pa ia ca ba) (hW : m.Wf) (hZ : Szd m) : Calls Tryz.prog 18 #[.iface 67 (.agg #[.int .i64 m.mem, .int .i64 m.tr, .string ⟨m.out.i.toArray⟩, .int .i64 m.out.q, .slice ia m.ins.length ic])] w (KP (.tuple #[.string ⟨(encS m).toArray⟩, .int .i64 ((chkM C0 m : Nat) : Int)]) w) := by
  have hc := xCk11 m pa ia ca ba pc ic cc bc hk w hH hW hZ
  rw [← chk_is11 hk] at hc
  by_cases h0 : chkM C0 m = 0
  · rw [encS_ok h0]
    rw [h0] at hc ⊢
    have e : encL m = intL 11 ++ (intL m.mem ++ (intL m.tr ++ (lotL m.out ++ (uintL m.ins.length ++ flatM lotL m.ins)))) := by unfold encL bodL; simp [hk]
    rw [e]
    exact encode11 (m.mem) (m.tr) ⟨m.out.i.toArray⟩ (m.out.q) ia (m.ins.length) ic (intL m.mem ++ (intL m.tr ++ (lotL m.out ++ (uintL m.ins.length ++ flatM lotL m.ins)))) w hc (fun w' p v l hb hw hp hl => write11 p p v l _ _ _ _ m.ins ia ic hW.mem hW.tr ((shrt_of h0).l hk).1 hW.out w' hw (by omega) ((shrt_of h0).l hk).2.1 ((hH.ins.keep hb).mono hp) (fun y hy => ⟨((shrt_of h0).l hk).2.2 y hy, hW.ins y hy⟩))
  · rw [encS_bad h0]
    exact encodeBad _ _ h0 w hc
theorem xEnc12 (m : Mg) (pa ia ca ba : Option Addr) (pc ic cc bc : Nat) (hk : m.k = 12) (w : World) (hH : Hld w.heap.size w m pa ia ca ba) (hW : m.Wf) (hZ : Szd m) : Calls Tryz.prog 18 #[.iface 92 (.agg #[.int .i64 m.mem, .int .i64 m.day, .bool m.done])] w (KP (.tuple #[.string ⟨(encS m).toArray⟩, .int .i64 ((chkM C0 m : Nat) : Int)]) w) := by
  have hc := xCk12 m pa ia ca ba pc ic cc bc hk w hH hW hZ
  rw [← chk_is12 hk] at hc
  by_cases h0 : chkM C0 m = 0
  · rw [encS_ok h0]
    rw [h0] at hc ⊢
    have e : encL m = intL 12 ++ (intL m.mem ++ (intL m.day ++ boolL m.done)) := by unfold encL bodL; simp [hk]
    rw [e]
    exact encode12 (m.mem) (m.day) (m.done) (intL m.mem ++ (intL m.day ++ boolL m.done)) w hc (fun w' p v l hb hw hp hl => write12 p p v l _ _ _ hW.mem hW.day w' hw (by omega))
  · rw [encS_bad h0]
    exact encodeBad _ _ h0 w hc
theorem xEnc13 (m : Mg) (pa ia ca ba : Option Addr) (pc ic cc bc : Nat) (hk : m.k = 13) (w : World) (hH : Hld w.heap.size w m pa ia ca ba) (hW : m.Wf) (hZ : Szd m) : Calls Tryz.prog 18 #[.iface 94 (.agg #[.int .i64 m.mem])] w (KP (.tuple #[.string ⟨(encS m).toArray⟩, .int .i64 ((chkM C0 m : Nat) : Int)]) w) := by
  have hc := xCk13 m pa ia ca ba pc ic cc bc hk w hH hW hZ
  rw [← chk_is13 hk] at hc
  by_cases h0 : chkM C0 m = 0
  · rw [encS_ok h0]
    rw [h0] at hc ⊢
    have e : encL m = intL 13 ++ (intL m.mem) := by unfold encL bodL; simp [hk]
    rw [e]
    exact encode13 (m.mem) (intL m.mem) w hc (fun w' p v l hb hw hp hl => write13 p p v l _ hW.mem w' hw (by omega))
  · rw [encS_bad h0]
    exact encodeBad _ _ h0 w hc
theorem xEnc14 (m : Mg) (pa ia ca ba : Option Addr) (pc ic cc bc : Nat) (hk : m.k = 14) (w : World) (hH : Hld w.heap.size w m pa ia ca ba) (hW : m.Wf) (hZ : Szd m) : Calls Tryz.prog 18 #[.iface 96 (.agg #[.int .i64 m.mem, .int .i64 m.n])] w (KP (.tuple #[.string ⟨(encS m).toArray⟩, .int .i64 ((chkM C0 m : Nat) : Int)]) w) := by
  have hc := xCk14 m pa ia ca ba pc ic cc bc hk w hH hW hZ
  rw [← chk_is14 hk] at hc
  by_cases h0 : chkM C0 m = 0
  · rw [encS_ok h0]
    rw [h0] at hc ⊢
    have e : encL m = intL 14 ++ (intL m.mem ++ intL m.n) := by unfold encL bodL; simp [hk]
    rw [e]
    exact encode14 (m.mem) (m.n) (intL m.mem ++ intL m.n) w hc (fun w' p v l hb hw hp hl => write14 p p v l _ _ hW.mem hW.n w' hw (by omega))
  · rw [encS_bad h0]
    exact encodeBad _ _ h0 w hc
theorem xEnc15 (m : Mg) (pa ia ca ba : Option Addr) (pc ic cc bc : Nat) (hk : m.k = 15) (w : World) (hH : Hld w.heap.size w m pa ia ca ba) (hW : m.Wf) (hZ : Szd m) : Calls Tryz.prog 18 #[.iface 98 (.agg #[.int .i64 m.tr, .int .i64 m.day, .int .i64 m.rate])] w (KP (.tuple #[.string ⟨(encS m).toArray⟩, .int .i64 ((chkM C0 m : Nat) : Int)]) w) := by
  have hc := xCk15 m pa ia ca ba pc ic cc bc hk w hH hW hZ
  rw [← chk_is15 hk] at hc
  by_cases h0 : chkM C0 m = 0
  · rw [encS_ok h0]
    rw [h0] at hc ⊢
    have e : encL m = intL 15 ++ (intL m.tr ++ (intL m.day ++ intL m.rate)) := by unfold encL bodL; simp [hk]
    rw [e]
    exact encode15 (m.tr) (m.day) (m.rate) (intL m.tr ++ (intL m.day ++ intL m.rate)) w hc (fun w' p v l hb hw hp hl => write15 p p v l _ _ _ hW.tr hW.day hW.rate w' hw (by omega))
  · rw [encS_bad h0]
    exact encodeBad _ _ h0 w hc
theorem xEnc0 (w : World) : Calls Tryz.prog 18 #[.nilIface] w (KP (.tuple #[.string ⟨#[]⟩, .int .i64 ((17 : Nat) : Int)]) w) := encodeBad _ 17 (by decide) w (checkV0 w)
theorem rEnc (m : Mg) (pa ia ca ba : Option Addr) (pc ic cc bc : Nat) (w : World) (hH : Hld w.heap.size w m pa ia ca ba) (hW : m.Wf) (hZ : Szd m) : Calls Tryz.prog 19 #[.agg (mcs m pa ia ca ba pc ic cc bc)] w (KP (.tuple #[.string ⟨(encS m).toArray⟩, .int .i64 ((chkM C0 m : Nat) : Int)]) w) := by
  have h13 : ∀ W, Below w.heap.size w W → Calls Tryz.prog 13 #[.agg (mcs m pa ia ca ba pc ic cc bc)] W (KP (.int .i64 ((chkM C0 m : Nat) : Int)) W) := by
    intro W hb
    rcases kinds m.k with h0 | hk | hk | hk | hk | hk | hk | hk | hk | hk | hk | hk | hk | hk | hk | hk
    · rw [chk_none h0]; exact rCheck0 m pa ia ca ba pc ic cc bc W h0
    · rw [chk_is1 hk]; exact rCk1 m pa ia ca ba pc ic cc bc hk W (hH.on hb) hW hZ
    · rw [chk_is2 hk]; exact rCk2 m pa ia ca ba pc ic cc bc hk W (hH.on hb) hW hZ
    · rw [chk_is3 hk]; exact rCk3 m pa ia ca ba pc ic cc bc hk W (hH.on hb) hW hZ
    · rw [chk_is4 hk]; exact rCk4 m pa ia ca ba pc ic cc bc hk W (hH.on hb) hW hZ
    · rw [chk_is5 hk]; exact rCk5 m pa ia ca ba pc ic cc bc hk W (hH.on hb) hW hZ
    · rw [chk_is6 hk]; exact rCk6 m pa ia ca ba pc ic cc bc hk W (hH.on hb) hW hZ
    · rw [chk_is7 hk]; exact rCk7 m pa ia ca ba pc ic cc bc hk W (hH.on hb) hW hZ
    · rw [chk_is8 hk]; exact rCk8 m pa ia ca ba pc ic cc bc hk W (hH.on hb) hW hZ
    · rw [chk_is9 hk]; exact rCk9 m pa ia ca ba pc ic cc bc hk W (hH.on hb) hW hZ
    · rw [chk_is10 hk]; exact rCk10 m pa ia ca ba pc ic cc bc hk W (hH.on hb) hW hZ
    · rw [chk_is11 hk]; exact rCk11 m pa ia ca ba pc ic cc bc hk W (hH.on hb) hW hZ
    · rw [chk_is12 hk]; exact rCk12 m pa ia ca ba pc ic cc bc hk W (hH.on hb) hW hZ
    · rw [chk_is13 hk]; exact rCk13 m pa ia ca ba pc ic cc bc hk W (hH.on hb) hW hZ
    · rw [chk_is14 hk]; exact rCk14 m pa ia ca ba pc ic cc bc hk W (hH.on hb) hW hZ
    · rw [chk_is15 hk]; exact rCk15 m pa ia ca ba pc ic cc bc hk W (hH.on hb) hW hZ
  by_cases h0 : chkM C0 m = 0
  · rw [encS_ok h0]
    rw [h0] at h13 ⊢
    exact rEncOk m pa ia ca ba pc ic cc bc w h13 hW hH (shrt_of h0) (fun W hb => rBehind m pa ia ca ba pc ic cc bc W hW (hH.on hb) (shrt_of h0)) (bh_len (shrt_of h0) hW) (chk_kind h0)
  · rw [encS_bad h0]
    exact rEncBad _ (mcs_size m pa ia ca ba pc ic cc bc) _ h0 w h13
end Go.Proofs.YtdmlgheajblcdaaGreat

/- Layer 10: the law Encodes. -/
namespace Go.Proofs.YtdmlgheajblcdaaGreat
open Go.RowKit
set_option linter.unusedVariables false
set_option linter.unusedSimpArgs false
set_option maxRecDepth 20000
set_option maxHeartbeats 4000000 in
theorem lEncGo (M : Array Value) (hsz : M.size = 36) (V : Value) (S : ByteArray) (g : Nat) (w : World)
    (hsm : ∀ W, Calls Tryz.prog 9 #[.agg M] W (KP (.bool true) W)) (hof : ∀ W, Calls Tryz.prog 11 #[.agg M] W (KP V W))
    (h18 : ∀ W, Below w.heap.size w W → Calls Tryz.prog 18 #[V] W (KP (.tuple #[.string S, .int .i64 g]) W)) (h19 : ∀ W, Below w.heap.size w W → Calls Tryz.prog 19 #[.agg M] W (KP (.tuple #[.string S, .int .i64 g]) W)) : Calls Tryz.prog 5 #[.agg M] w (KP (.bool true) w) := by
  have HOF : Hid (∀ W, Calls Tryz.prog 11 #[.agg M] W (KP V W)) := hof
  have H18 : Hid (∀ W, Below w.heap.size w W → Calls Tryz.prog 18 #[V] W (KP (.tuple #[.string S, .int .i64 g]) W)) := h18
  have H19 : Hid (∀ W, Below w.heap.size w W → Calls Tryz.prog 19 #[.agg M] W (KP (.tuple #[.string S, .int .i64 g]) W)) := h19
  have HSM : Hid (∀ W, Calls Tryz.prog 9 #[.agg M] W (KP (.bool true) W)) := hsm
  have HX0 : Hid (Bx (w.alloc (.cells M 35)) w.heap.size M 35) := Bx.new _ _ _
  have HB0 : Hid (Below w.heap.size w (w.alloc (.cells M 35))) := below_a w _
  have HLD : Hid (∀ W, Bx W w.heap.size M 35 → (Instr.loadAt 35 (.pointer (some ⟨w.heap.size, 0, none⟩))).run Tryz.prog W = .ok (.agg M) W) := fun W h => hloadAt W w.heap.size M hsz h
  clear hof h18 h19 hsm
  go_enter Tryz.func5, Tryz.ntmps5
  go_upto_region 1 with fail
  generalize hw1 : w.alloc (.cells M 35) = w1 at *
  have HX : Hid (Bx w1 w.heap.size M 35) := HX0.out
  have HB : Hid (Below w.heap.size w w1) := HB0.out
  clear HX0 HB0 hw1
  go_wp2_with (guard_target =~ wpList _ _ _ (⟨_, Op.load 35 _, _, _, _, _⟩ :: _) _ _; refine wl_load _ rfl 35 _ rfl _ rfl _ (HLD.out _ HX.out) ?_; go_simp)
  refine (HSM.out _).mono ?_
  rintro e w2 ⟨rfl, hb2⟩
  have HX2 : Hid (Bx w2 w.heap.size M 35) := HX.out.keep hb2.out
  have HB2 : Hid (Below w.heap.size w w2) := bt HB.out hb2.out
  clear hb2 HX HB
  go_wp2_with (guard_target =~ wpList _ _ _ (⟨_, Op.load 35 _, _, _, _, _⟩ :: _) _ _; refine wl_load _ rfl 35 _ rfl _ rfl _ (HLD.out _ HX2.out) ?_; go_simp)
  refine (HOF.out _).mono ?_
  rintro e w3 ⟨rfl, hb3⟩
  have HX3 : Hid (Bx w3 w.heap.size M 35) := HX2.out.keep hb3.out
  have HB3 : Hid (Below w.heap.size w w3) := bt HB2.out hb3.out
  clear hb3 HX2 HB2
  go_wp2_with fail
  refine (H18.out _ HB3.out).mono ?_
  rintro e w4 ⟨rfl, hb4⟩
  have HX4 : Hid (Bx w4 w.heap.size M 35) := HX3.out.keep hb4.out
  have HB4 : Hid (Below w.heap.size w w4) := bt HB3.out hb4.out
  clear hb4 HX3 HB3
  go_wp2_with (guard_target =~ wpList _ _ _ (⟨_, Op.load 35 _, _, _, _, _⟩ :: _) _ _; refine wl_load _ rfl 35 _ rfl _ rfl _ (HLD.out _ HX4.out) ?_; go_simp)
  refine (H19.out _ HB4.out).mono ?_
  rintro e w5 ⟨rfl, hb5⟩
  have HX5 : Hid (Bx w5 w.heap.size M 35) := HX4.out.keep hb5.out
  have HB5 : Hid (Below w.heap.size w w5) := bt HB4.out hb5.out
  clear hb5 HX4 HB4
  go_wp2_with fail
  refine (awake _).mono ?_
  rintro e w6 ⟨rfl, hb6⟩
  have HX6 : Hid (Bx w6 w.heap.size M 35) := HX5.out.keep hb6.out
  have HB6 : Hid (Below w.heap.size w w6) := bt HB5.out hb6.out
  clear hb6 HX5 HB5
  go_wp2_with fail
  go_ret
  exact KP.mk rfl HB6.out
set_option maxHeartbeats 4000000 in
theorem lEncBig (M : Array Value) (hsz : M.size = 36) (w : World) (hsm : ∀ W, Calls Tryz.prog 9 #[.agg M] W (KP (.bool false) W)) : Calls Tryz.prog 5 #[.agg M] w (KP (.bool true) w) := by
  have HSM : Hid (∀ W, Calls Tryz.prog 9 #[.agg M] W (KP (.bool false) W)) := hsm
  have HX0 : Hid (Bx (w.alloc (.cells M 35)) w.heap.size M 35) := Bx.new _ _ _
  have HB0 : Hid (Below w.heap.size w (w.alloc (.cells M 35))) := below_a w _
  have HLD : Hid (∀ W, Bx W w.heap.size M 35 → (Instr.loadAt 35 (.pointer (some ⟨w.heap.size, 0, none⟩))).run Tryz.prog W = .ok (.agg M) W) := fun W h => hloadAt W w.heap.size M hsz h
  clear hsm
  go_enter Tryz.func5, Tryz.ntmps5
  go_upto_region 1 with fail
  generalize hw1 : w.alloc (.cells M 35) = w1 at *
  have HX : Hid (Bx w1 w.heap.size M 35) := HX0.out
  have HB : Hid (Below w.heap.size w w1) := HB0.out
  clear HX0 HB0 hw1
  go_wp2_with (guard_target =~ wpList _ _ _ (⟨_, Op.load 35 _, _, _, _, _⟩ :: _) _ _; refine wl_load _ rfl 35 _ rfl _ rfl _ (HLD.out _ HX.out) ?_; go_simp)
  refine (HSM.out _).mono ?_
  rintro e w2 ⟨rfl, hb2⟩
  have HX2 : Hid (Bx w2 w.heap.size M 35) := HX.out.keep hb2.out
  have HB2 : Hid (Below w.heap.size w w2) := bt HB.out hb2.out
  clear hb2 HX HB
  go_wp2_with fail
  refine (awake _).mono ?_
  rintro e w3 ⟨rfl, hb3⟩
  have HX3 : Hid (Bx w3 w.heap.size M 35) := HX2.out.keep hb3.out
  have HB3 : Hid (Below w.heap.size w w3) := bt HB2.out hb3.out
  clear hb3 HX2 HB2
  go_wp2_with fail
  go_ret
  exact KP.mk rfl HB3.out
theorem lEncodes (m : Mg) (pa ia ca ba : Option Addr) (pc ic cc bc : Nat) (w : World) (hH : Hld w.heap.size w m pa ia ca ba) (hW : m.Wf) (hZ : Szd m) : Calls Tryz.prog 5 #[.agg (mcs m pa ia ca ba pc ic cc bc)] w (KP (.bool true) w) := by
  have h1 : m.name.length ≤ 9223372036854775807 := by have := hZ.name; omega
  have h2 : m.t.length ≤ 9223372036854775807 := by have := hZ.t; omega
  by_cases hS : smB m = true
  · have hsm : ∀ W, Calls Tryz.prog 9 #[.agg (mcs m pa ia ca ba pc ic cc bc)] W (KP (.bool true) W) := fun W => by have := rSmall m pa ia ca ba pc ic cc bc W h1 h2; rw [hS] at this; exact this
    have h19 : ∀ W, Below w.heap.size w W → Calls Tryz.prog 19 #[.agg (mcs m pa ia ca ba pc ic cc bc)] W (KP (.tuple #[.string ⟨(encS m).toArray⟩, .int .i64 ((chkM C0 m : Nat) : Int)]) W) := fun W hb => rEnc m pa ia ca ba pc ic cc bc W (hH.on hb) hW hZ
    rcases kinds m.k with h0 | hk | hk | hk | hk | hk | hk | hk | hk | hk | hk | hk | hk | hk | hk | hk
    · have hb : ¬ chkM C0 m = 0 := by rw [chk_none h0]; decide
      rw [encS_bad hb, chk_none h0] at h19
      exact lEncGo (mcs m pa ia ca ba pc ic cc bc) (mcs_size m pa ia ca ba pc ic cc bc) _ _ 17 w hsm (fun W => of0 m pa ia ca ba pc ic cc bc W h0) (fun W hb => xEnc0 W) h19
    · exact lEncGo (mcs m pa ia ca ba pc ic cc bc) (mcs_size m pa ia ca ba pc ic cc bc) _ _ _ w hsm (fun W => of1 m pa ia ca ba pc ic cc bc W hk) (fun W hb => xEnc1 m pa ia ca ba pc ic cc bc hk W (hH.on hb) hW hZ) h19
    · exact lEncGo (mcs m pa ia ca ba pc ic cc bc) (mcs_size m pa ia ca ba pc ic cc bc) _ _ _ w hsm (fun W => of2 m pa ia ca ba pc ic cc bc W hk) (fun W hb => xEnc2 m pa ia ca ba pc ic cc bc hk W (hH.on hb) hW hZ) h19
    · exact lEncGo (mcs m pa ia ca ba pc ic cc bc) (mcs_size m pa ia ca ba pc ic cc bc) _ _ _ w hsm (fun W => of3 m pa ia ca ba pc ic cc bc W hk) (fun W hb => xEnc3 m pa ia ca ba pc ic cc bc hk W (hH.on hb) hW hZ) h19
    · exact lEncGo (mcs m pa ia ca ba pc ic cc bc) (mcs_size m pa ia ca ba pc ic cc bc) _ _ _ w hsm (fun W => of4 m pa ia ca ba pc ic cc bc W hk) (fun W hb => xEnc4 m pa ia ca ba pc ic cc bc hk W (hH.on hb) hW hZ) h19
    · exact lEncGo (mcs m pa ia ca ba pc ic cc bc) (mcs_size m pa ia ca ba pc ic cc bc) _ _ _ w hsm (fun W => of5 m pa ia ca ba pc ic cc bc W hk) (fun W hb => xEnc5 m pa ia ca ba pc ic cc bc hk W (hH.on hb) hW hZ) h19
    · exact lEncGo (mcs m pa ia ca ba pc ic cc bc) (mcs_size m pa ia ca ba pc ic cc bc) _ _ _ w hsm (fun W => of6 m pa ia ca ba pc ic cc bc W hk) (fun W hb => xEnc6 m pa ia ca ba pc ic cc bc hk W (hH.on hb) hW hZ) h19
    · exact lEncGo (mcs m pa ia ca ba pc ic cc bc) (mcs_size m pa ia ca ba pc ic cc bc) _ _ _ w hsm (fun W => of7 m pa ia ca ba pc ic cc bc W hk) (fun W hb => xEnc7 m pa ia ca ba pc ic cc bc hk W (hH.on hb) hW hZ) h19
    · exact lEncGo (mcs m pa ia ca ba pc ic cc bc) (mcs_size m pa ia ca ba pc ic cc bc) _ _ _ w hsm (fun W => of8 m pa ia ca ba pc ic cc bc W hk) (fun W hb => xEnc8 m pa ia ca ba pc ic cc bc hk W (hH.on hb) hW hZ) h19
    · exact lEncGo (mcs m pa ia ca ba pc ic cc bc) (mcs_size m pa ia ca ba pc ic cc bc) _ _ _ w hsm (fun W => of9 m pa ia ca ba pc ic cc bc W hk) (fun W hb => xEnc9 m pa ia ca ba pc ic cc bc hk W (hH.on hb) hW hZ) h19
    · exact lEncGo (mcs m pa ia ca ba pc ic cc bc) (mcs_size m pa ia ca ba pc ic cc bc) _ _ _ w hsm (fun W => of10 m pa ia ca ba pc ic cc bc W hk) (fun W hb => xEnc10 m pa ia ca ba pc ic cc bc hk W (hH.on hb) hW hZ) h19
    · exact lEncGo (mcs m pa ia ca ba pc ic cc bc) (mcs_size m pa ia ca ba pc ic cc bc) _ _ _ w hsm (fun W => of11 m pa ia ca ba pc ic cc bc W hk) (fun W hb => xEnc11 m pa ia ca ba pc ic cc bc hk W (hH.on hb) hW hZ) h19
    · exact lEncGo (mcs m pa ia ca ba pc ic cc bc) (mcs_size m pa ia ca ba pc ic cc bc) _ _ _ w hsm (fun W => of12 m pa ia ca ba pc ic cc bc W hk) (fun W hb => xEnc12 m pa ia ca ba pc ic cc bc hk W (hH.on hb) hW hZ) h19
    · exact lEncGo (mcs m pa ia ca ba pc ic cc bc) (mcs_size m pa ia ca ba pc ic cc bc) _ _ _ w hsm (fun W => of13 m pa ia ca ba pc ic cc bc W hk) (fun W hb => xEnc13 m pa ia ca ba pc ic cc bc hk W (hH.on hb) hW hZ) h19
    · exact lEncGo (mcs m pa ia ca ba pc ic cc bc) (mcs_size m pa ia ca ba pc ic cc bc) _ _ _ w hsm (fun W => of14 m pa ia ca ba pc ic cc bc W hk) (fun W hb => xEnc14 m pa ia ca ba pc ic cc bc hk W (hH.on hb) hW hZ) h19
    · exact lEncGo (mcs m pa ia ca ba pc ic cc bc) (mcs_size m pa ia ca ba pc ic cc bc) _ _ _ w hsm (fun W => of15 m pa ia ca ba pc ic cc bc W hk) (fun W hb => xEnc15 m pa ia ca ba pc ic cc bc hk W (hH.on hb) hW hZ) h19
  · have hS : smB m = false := by simpa using hS
    exact lEncBig (mcs m pa ia ca ba pc ic cc bc) (mcs_size m pa ia ca ba pc ic cc bc) w (fun W => by have := rSmall m pa ia ca ba pc ic cc bc W h1 h2; rw [hS] at this; exact this)
end Go.Proofs.YtdmlgheajblcdaaGreat
