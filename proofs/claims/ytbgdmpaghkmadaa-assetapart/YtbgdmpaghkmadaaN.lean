/- layer 13: Find, Value, Total of the document's -/
import Derived.Test.YtbgdmpaghkmadaaM
import Derived.WalkKit
import Derived.ProofKit
import Derived.Handy
import Derived.WalkLawsBesides
import Derived.WalkSpells
import Derived.BigQuiet
import Derived.BigCall
import Derived.Deep.QuietTactic
import Derived.Deep.Light
import Derived.Deep.OwnRows
import Derived.Laws.AppendOwnNone
import Derived.Laws.Strings3
import Derived.Laws.RangeAny
import Derived.Deep.RegionWith
import Derived.Lib.BitFns
import Derived.Lib.Walk
import Derived.Lib.Strings
import Derived.Lib.OthersKept
import Derived.Deep.CutBlock
import Derived.Deep.DeepCutAuto
import Derived.Deep.LoopGhost
import Derived.Deep.RegionHeld3
import Derived.Lib.SmallJoins
import Derived.Maps.AppendAt
import Derived.Laws.IdiomStrings
import Derived.Lib.AppendZeros
import Derived.Deep.WholeRow
import Derived.Laws.BitsAllLaws
import Derived.Lib.ConvBytes
import Derived.Deep.RegionLaw
import Derived.Maps.OwnSet
import Derived.Maps.OwnOps
import Derived.Maps.RangeWalk
import Derived.Maps.Ext
import Derived.DeepKeys4
import Derived.Laws.StructEq
import Derived.Deep.MidRow
import Derived.Lib.Bytealg
import Derived.Lib.Overlaps
import Derived.Lib.AppendZerosOnto
import Derived.Laws.MakeOwn
namespace Go.Proofs.Ytbgdmpaghkmadaa
open Go.RowKit
set_option linter.unusedVariables false
set_option linter.unusedSimpArgs false
open Num
set_option maxRecDepth 20000
def FxP (n : Int) (w : World) (e : Ending) (w' : World) : Prop := e = .returned (.int .i64 n) ∧ w = w'
set_option maxHeartbeats 4000000 in
theorem rfind {L : List Kn} (hs : Srt L) (hl : L.length ≤ 1000000) (n : ByteArray) (a : Option Addr) (cap : Nat) (w : World) (h : Rw 6 kcs w a L) : Calls Try.prog 14 #[.slice a L.length cap, .string n] w (FxP (fx L n.toList) w) := by
  have HE : Hid (Rw 6 kcs w a L) := h
  have HS : Hid (Srt L) := hs
  have hlz : (L.length : Int) ≤ 1000000 := by omega
  clear h hs
  go_enter Try.func14, Try.ntmps14
  go_wp2_with fail
  go_loopw [5] (fun i wr => ∃ k : Nat, k ≤ L.length ∧ i = .int .i64 k ∧ w = wr ∧ Hid (∀ j (hj : j < L.length), j < k → key L[j] ≠ n.toList))
    (fun i _ => L.length - (intOf i).toNat)
  case atStart => exact ⟨0, Nat.zero_le _, rfl, rfl, fun j _ h => absurd h (Nat.not_lt_zero j)⟩
  case round =>
    obtain ⟨k, hk, rfl, rfl, HZ⟩ := hrel
    by_cases hkn : k < L.length
    · have hkz : (k : Int) < (L.length : Int) := by omega
      obtain ⟨blk, off, rfl, hbl, hcs⟩ := HE.out (by omega)
      obtain ⟨c0, _, _, _, _, _⟩ := Rw.at6 hcs (Below.refl _ w) hbl hkn
      have HY : Hid (key L[k] = n.toList → fx L n.toList = k) := fun e => by
        obtain ⟨h1, h2⟩ := at_pos HS.out hkn e
        unfold fx
        rw [if_pos h1, h2]
      have HN : Hid (key L[k] ≠ n.toList → ∀ j (hj : j < L.length), j < k + 1 → key L[j] ≠ n.toList) := fun e j hj h1 => by
        rcases Nat.lt_or_ge j k with h2 | h2
        · exact HZ.out j hj h2
        · obtain rfl : j = k := by omega
          exact e
      have hkey : key L[k] = L[k].a.i.toList := rfl
      rw [hkey] at HY HN
      generalize L[k].a.i = xi at *
      clear hcs HZ hkey
      by_cases e : xi.toList = n.toList
      · have hz : (xi.toList == n.toList) = true := by simp [e]
        have HF : Hid (fx L n.toList = k) := HY.out e
        clear e HY HN
        generalize fx L n.toList = r at *
        go_wp2_with fail
        go_ret
        exact ⟨by rw [HF.out]; rfl, rfl⟩
      · have hz : (xi.toList == n.toList) = false := by simp [e]
        have HF : Hid (∀ j (hj : j < L.length), j < k + 1 → key L[j] ≠ n.toList) := HN.out e
        clear e HY HN
        go_wp2_with fail
        go_roundw
        case rel => exact ⟨k + 1, by omega, by simp, trivial, HF.out⟩
        case measure => simp [intOf]; omega
    · have hkz : ¬ (k : Int) < (L.length : Int) := by omega
      have HF : Hid (fx L n.toList = -1) := by
        unfold fx Hid
        rw [has_not (fun j hj => HZ.out j hj (by omega))]
        rfl
      clear HZ
      generalize fx L n.toList = r at *
      go_wp2_with fail
      go_ret
      exact ⟨by rw [HF.out]; rfl, rfl⟩
set_option maxHeartbeats 4000000 in
theorem rvalue {w : World} {ra : Option Addr} {rc : Nat} {L : List Kn} (h : Rw 6 kcs w ra L) (g : Num.Good L) (n : ByteArray) (qt : Int) :
    Calls Try.prog 22 #[.slice ra L.length rc, .agg #[.string n, .int .i64 qt]] w (WoP (vaS L (n, qt)) (vaE L (n, qt)) w) := by
  have hb0 : ∀ y, Below w.heap.size w (w.alloc y) := fun y => (Below.refl _ w).alloc (Nat.le_refl _) _
  have HFC : Hid (Calls Try.prog 14 #[.slice ra L.length rc, .string n] (w.alloc (.cells #[.string n, .int .i64 qt] 56)) (FxP (fx L n.toList) (w.alloc (.cells #[.string n, .int .i64 qt] 56)))) := rfind g.srt (by have := g.len; omega) n ra rc _ (h.below (hb0 _))
  have HB0 : Hid (Below w.heap.size w (w.alloc (.cells #[.string n, .int .i64 qt] 56))) := hb0 _
  have HX0 : Hid (Bx (w.alloc (.cells #[.string n, .int .i64 qt] 56)) w.heap.size #[.string n, .int .i64 qt] 56) := Bx.new w _ _
  unfold vaS vaE
  simp only
  cases hh : has L n.toList with
  | false =>
    have hf : fx L n.toList = -1 := by unfold fx; rw [hh]; rfl
    rw [hf] at HFC
    clear h g hh hb0 hf
    go_enter Try.func22, Try.ntmps22
    go_wp2_with (go_at_call 14; refine HFC.out.mono ?_; clear HFC; rintro e w1 ⟨rfl, rfl⟩)
    go_ret2
    exact ⟨rfl, HB0.out⟩
  | true =>
    have hp : pos L n.toList < L.length := (has_pos g.srt hh).1
    have hf : fx L n.toList = pos L n.toList := by unfold fx; rw [hh]; rfl
    rw [hf] at HFC
    obtain ⟨blk, off, rfl, hbl, hcs⟩ := h (by omega)
    have hcells := (Rw.at6 hcs (hb0 (.cells #[.string n, .int .i64 qt] 56)) hbl hp).2.2.2.2.2
    have hpz : (pos L n.toList : Int) < (L.length : Int) := by omega
    rw [pri_at hp]
    generalize L[pos L n.toList].p = xp at *
    generalize pos L n.toList = P at *
    have hpn : ¬ (P : Int) < 0 := by omega
    have q1 := HX0.out.cell 1
    have q0 : (w.alloc (.cells #[.string n, .int .i64 qt] 56)).cell? ⟨w.heap.size, 1, none⟩ = some (.int .i64 qt) := q1
    clear h g hh hcs hp hbl hb0 hf q1
    by_cases hx : xp = 0
    · subst hx
      simp only [if_true]
      obtain ⟨w1, hw1⟩ : ∃ w1, w1 = w.alloc (.cells #[.string n, .int .i64 qt] 56) := ⟨_, rfl⟩
      have HW : Hid (w.alloc (.cells #[.string n, .int .i64 qt] 56) = w1) := hw1.symm
      have k0 : w1.cell? ⟨w.heap.size, 0, none⟩ = some (.string n) := by rw [hw1]; exact HX0.out.cell 0
      rw [← hw1] at HFC HB0 hcells q0
      clear hw1 HX0
      go_enter Try.func22, Try.ntmps22
      go_upto_region 1 with fail
      rw [HW.out]
      go_wp2_with (go_at_call 14; refine HFC.out.mono ?_; clear HFC; rintro e w1 ⟨rfl, rfl⟩)
      go_ret2
      exact ⟨rfl, HB0.out⟩
    · have hz : (xp == 0) = false := by simp [hx]
      simp only [if_true, if_neg hx]
      have HW2 : Hid (∀ w1, Below w.heap.size w w1 → Calls Try.prog 18 #[.int .i64 qt, .int .i64 xp] w1 fun e w2 => ∃ y, e = .returned y ∧ (y = .tuple #[.int .i64 (woS qt xp), .int .i64 (woE qt xp)] ∧ Hid (Below w.heap.size w w2))) := fun w1 hb => (rworth qt xp w1).mono fun e w2 k => ⟨_, k.1, rfl, hb.trans (k.2.mono hb.size)⟩
      obtain ⟨w1, hw1⟩ : ∃ w1, w1 = w.alloc (.cells #[.string n, .int .i64 qt] 56) := ⟨_, rfl⟩
      have HW : Hid (w.alloc (.cells #[.string n, .int .i64 qt] 56) = w1) := hw1.symm
      have k0 : w1.cell? ⟨w.heap.size, 0, none⟩ = some (.string n) := by rw [hw1]; exact HX0.out.cell 0
      rw [← hw1] at HFC HB0 hcells q0
      generalize woS qt xp = S at *
      generalize woE qt xp = E at *
      clear hw1 HX0 hx
      go_enter Try.func22, Try.ntmps22
      go_upto_region 1 with fail
      rw [HW.out]
      go_wp2_with (go_at_call 14; refine HFC.out.mono ?_; clear HFC; rintro e w1 ⟨rfl, rfl⟩)
      go_region_law (refine step_call _ (by rfl) 18 #[.int .i64 qt, .int .i64 xp] (by go_simp) _ (HW2.out _ HB0.out.drew) ?_; clear HW2; rintro v9 w2 ⟨rfl, HB2⟩)
      all_goals
        go_wp2_with fail
        go_ret2
        exact ⟨rfl, HB2.out⟩
set_option maxHeartbeats 8000000 in
theorem rtotal {w : World} {ra : Option Addr} {rc : Nat} {L : List Kn} (h : Rw 6 kcs w ra L) (g : Num.Good L) (xs : List Pr) (hl : xs.length ≤ 1000000) (a : Option Addr) (cap : Nat) (hp : Prs w a xs) :
    Calls Try.prog 20 #[.slice ra L.length rc, .slice a xs.length cap] w (WoP (tot L 0 xs).1 (tot L 0 xs).2 w) := by
  have HS : Hid (Rw 6 kcs w ra L) := h
  have HG : Hid (Num.Good L) := g
  have HP : Hid (Prs w a xs) := hp
  have hlz : (xs.length : Int) ≤ 1000000 := by omega
  obtain ⟨T1, hT1⟩ : ∃ T, T = (tot L 0 xs).1 := ⟨_, rfl⟩
  obtain ⟨T2, hT2⟩ : ∃ T, T = (tot L 0 xs).2 := ⟨_, rfl⟩
  have HT : Hid (tot L 0 xs = (T1, T2)) := by rw [hT1, hT2]; rfl
  rw [← hT1, ← hT2]
  clear h g hp hT1 hT2
  go_enter Try.func20, Try.ntmps20
  go_wp2_with fail
  go_loopw [6, 7, 9] (fun t i e wr => ∃ (k : Nat) (s : Int), k ≤ xs.length ∧ t = .int .i64 s ∧ i = .int .i64 k ∧ Hid (Rng s ∧ tot L s (xs.drop k) = (T1, T2) ∧ Below w.heap.size w wr))
    (fun _ i _ _ => xs.length - (intOf i).toNat)
  case atStart => exact ⟨0, 0, Nat.zero_le _, rfl, rfl, by constructor <;> omega, HT.out, Below.refl _ _⟩
  case round =>
    obtain ⟨k, s, hk, rfl, rfl, HZ⟩ := hrel
    by_cases hkn : k < xs.length
    · have hkz : (k : Int) < (xs.length : Int) := by omega
      obtain ⟨blk, off, rfl, hbl, hcs⟩ := HP.out (by omega)
      have hc2 := hcs k hkn
      have HB : Hid (Below w.heap.size w wr) := HZ.out.2.2
      have hv := va_rng L xs[k]
      have HT1 : Hid (vaE L xs[k] ≠ 0 → (0, vaE L xs[k]) = (T1, T2)) := fun e => (tot_bad hkn e).symm.trans HZ.out.2.1
      have HT2 : Hid (vaE L xs[k] = 0 → N1.fitE (s + vaS L xs[k]) ≠ 0 → (0, N1.fitE (s + vaS L xs[k])) = (T1, T2)) := fun e e2 => (tot_over hkn e e2).symm.trans HZ.out.2.1
      have HT3 : Hid (vaE L xs[k] = 0 → N1.fitE (s + vaS L xs[k]) = 0 → tot L (s + vaS L xs[k]) (xs.drop (k + 1)) = (T1, T2)) := fun e e2 => (tot_next hkn e e2).symm.trans HZ.out.2.1
      have hs := HZ.out.1
      have HV : Hid (Calls Try.prog 22 #[.slice ra L.length rc, .agg #[.string xs[k].1, .int .i64 xs[k].2]] wr fun e w' => e = .returned (.tuple #[.int .i64 (vaS L xs[k]), .int .i64 (vaE L xs[k])]) ∧ Hid (Below w.heap.size w w')) := (rvalue (HS.out.below HB.out) HG.out xs[k].1 xs[k].2).mono fun e w' hh => ⟨hh.1, HB.out.trans (hh.2.mono HB.out.size)⟩
      generalize vaS L xs[k] = S at *
      generalize vaE L xs[k] = E at *
      have HPl : Hid (∀ w, Calls Try.prog 41 #[.int .i64 s, .int .i64 S] w fun e w' => e = .returned (.tuple #[.int .i64 (N1.fitS (s + S)), .int .i64 (N1.fitE (s + S))]) ∧ w = w') := fun w => N1.rplus s S hs (by omega) w
      generalize xs[k] = x at *
      obtain ⟨x1, x2⟩ := x
      simp only at *
      have c0 : wr.cell? ⟨blk, off + k * 2, none⟩ = some (.string x1) := (HB.out.cell (p := ⟨blk, off + k * 2 + 0, none⟩) hbl).trans (hc2 0 (by omega))
      have c1 : wr.cell? ⟨blk, off + k * 2 + 1, none⟩ = some (.int .i64 x2) := (HB.out.cell (p := ⟨blk, off + k * 2 + 1, none⟩) hbl).trans (hc2 1 (by omega))
      by_cases hE : E = 0
      · have hEz : (E != 0) = false := by simp [hE]
        by_cases hF : N1.fitE (s + S) = 0
        · have hFz : (N1.fitE (s + S) != 0) = false := by simp [hF]
          have HY : Hid (N1.fitS (s + S) = s + S ∧ Rng (s + S) ∧ tot L (s + S) (xs.drop (k + 1)) = (T1, T2)) := ⟨(fit_ok hF).1, (fit_ok hF).2, HT3.out hE hF⟩
          generalize N1.fitE (s + S) = F at *
          generalize N1.fitS (s + S) = FS at *
          clear hE hF hs hv HT1 HT2 HT3 HZ hc2 hcs
          go_wp2_with (first | (go_at_call 22; refine HV.out.mono ?_; clear HV; rintro e w3 ⟨rfl, HB3⟩) | (go_at_call 41; refine (HPl.out _).mono ?_; clear HPl; rintro e w4 ⟨rfl, rfl⟩))
          go_roundw
          case rel => exact ⟨k + 1, s + S, by omega, by rw [HY.out.1], by simp, HY.out.2.1, HY.out.2.2, HB3.out⟩
          case measure => simp [intOf]; omega
        · have hFz : (N1.fitE (s + S) != 0) = true := by simp [hF]
          have HY : Hid ((0, N1.fitE (s + S)) = (T1, T2)) := HT2.out hE hF
          generalize N1.fitE (s + S) = F at *
          generalize N1.fitS (s + S) = FS at *
          clear hE hF hs hv HT1 HT2 HT3 HZ hc2 hcs
          go_wp2_with (first | (go_at_call 22; refine HV.out.mono ?_; clear HV; rintro e w3 ⟨rfl, HB3⟩) | (go_at_call 41; refine (HPl.out _).mono ?_; clear HPl; rintro e w4 ⟨rfl, rfl⟩))
          go_ret2
          have h9 := HY.out
          injection h9 with h9 h8
          rw [← h9, ← h8]
          exact ⟨rfl, HB3.out⟩
      · have hEz : (E != 0) = true := by simp [hE]
        have HY : Hid ((0, E) = (T1, T2)) := HT1.out hE
        clear hE hs hv HT1 HT2 HT3 HZ hc2 hcs HPl
        go_wp2_with (go_at_call 22; refine HV.out.mono ?_; clear HV; rintro e w3 ⟨rfl, HB3⟩)
        go_ret2
        have h9 := HY.out
        injection h9 with h9 h8
        rw [← h9, ← h8]
        exact ⟨rfl, HB3.out⟩
    · have hkz : ¬ (k : Int) < (xs.length : Int) := by omega
      have HF : Hid (WoP T1 T2 w (.returned (.tuple #[.int .i64 s, .int .i64 0])) wr) := by
        have hr := HZ.out
        rw [show k = xs.length by omega, tot_nil] at hr
        obtain ⟨_, h2, h3⟩ := hr
        injection h2 with h4 h5
        rw [← h4, ← h5]
        exact ⟨rfl, h3⟩
      clear HZ
      go_wp2_with fail
      go_ret2
      exact HF.out
end Go.Proofs.Ytbgdmpaghkmadaa
