/- layer 13: calls one behind the other; law Plays -/
import Derived.Test.YtbgdmpaghkmadaaT
import Derived.WalkKit
import Derived.ProofKit
import Derived.Handy
import Derived.WalkLawsBesides
import Derived.WalkSpells
import Derived.BigQuiet
import Derived.BigCall
import Derived.Deep.QuietTactic
import Derived.Deep.Light
import Derived.Deep.OwnRows
import Derived.Laws.AppendOwnNone
import Derived.Laws.Strings3
import Derived.Laws.RangeAny
import Derived.Deep.RegionWith
import Derived.Lib.BitFns
import Derived.Lib.Walk
import Derived.Lib.Strings
import Derived.Lib.OthersKept
import Derived.Deep.CutBlock
import Derived.Deep.DeepCutAuto
import Derived.Deep.LoopGhost
import Derived.Deep.RegionHeld3
import Derived.Lib.SmallJoins
import Derived.Maps.AppendAt
import Derived.Laws.IdiomStrings
import Derived.Lib.AppendZeros
import Derived.Deep.WholeRow
import Derived.Laws.BitsAllLaws
import Derived.Lib.ConvBytes
import Derived.Deep.RegionLaw
import Derived.Maps.OwnSet
import Derived.Maps.OwnOps
import Derived.Maps.RangeWalk
import Derived.Maps.Ext
import Derived.DeepKeys4
import Derived.Laws.StructEq
import Derived.Deep.MidRow
import Derived.Lib.Bytealg
import Derived.Lib.Overlaps
import Derived.Lib.AppendZerosOnto
import Derived.Laws.MakeOwn
namespace Go.Proofs.Ytbgdmpaghkmadaa
open Go.RowKit
set_option linter.unusedVariables false
set_option linter.unusedSimpArgs false
open Num
set_option maxRecDepth 20000
theorem acs_len7 (x : Ac) : x.cs.toList.length = 7 := rfl
/-- handed calls -/
structure Acs (w : World) (a : Option Addr) (xs : List Ac) : Prop where
  r : Rw 7 (fun x : Ac => x.cs.toList) w a xs
  w : ∀ x ∈ xs, Aw w x
  n : xs.length ≤ 140737488355328
theorem ds_new (w : World) : Calls Try.prog 9 #[] w fun e w1 => e = .returned (.pointer (some ⟨w.heap.size, 0, none⟩)) ∧ Hid (w1.heap.size = w.heap.size + 1 ∧ Ds w (w1.alloc (.cells #[.slice none 0 0] 25)) w.heap.size (.slice none 0 0) w1.heap.size [] [] none 0) := (xnew w).mono fun e w1 hh => by
  obtain ⟨rfl, rfl⟩ := hh
  have hb : Below w.heap.size w (w.alloc (.cells #[.bool true, .slice none 0 0] 70)) := (Below.refl _ w).alloc (Nat.le_refl _) _
  exact ⟨rfl, by simp, hb.alloc hb.size _, (Bk.new w (Nat.le_refl _)).below ((Below.refl _ _).alloc (Nat.le_refl _) _), Bx.new _ _ _, World.ownsRow_nil _ _ _ _, hb.size⟩
theorem Ds.rw {w0 W : World} {q : Nat} {v : Value} {lp : Nat} {L M : List Kn} {al : Option Addr} {cl : Nat} (h : Ds w0 W q v lp L M al cl) : Rw 6 kcs W al M := by
  obtain ⟨a, c, e, _, hr⟩ := own_rw kcs_len h.r rfl
  injection e with e1 e2 e3
  rw [e1]
  exact hr
/-- one round's cells -/
theorem Acs.at7 {w wr : World} {blk off : Nat} {xs : List Ac} (h : ∀ i (h : i < xs.length), ∀ j, j < 7 → w.cell? ⟨blk, off + i * 7 + j, none⟩ = ((fun x : Ac => x.cs.toList) xs[i])[j]?) (hb : Below w.heap.size w wr) (hl : blk < w.heap.size) {k : Nat} (hk : k < xs.length) :
    wr.cell? ⟨blk, off + k * 7, none⟩ = some (.int .i64 xs[k].k) ∧ wr.cell? ⟨blk, off + k * 7 + 1, none⟩ = some (.string xs[k].a.i) ∧ wr.cell? ⟨blk, off + k * 7 + 2, none⟩ = some (.int .i64 xs[k].a.iss) ∧ wr.cell? ⟨blk, off + k * 7 + 3, none⟩ = some (.int .i64 xs[k].a.rat) ∧ wr.cell? ⟨blk, off + k * 7 + 4, none⟩ = some (.int .i64 xs[k].a.mat) ∧ wr.cell? ⟨blk, off + k * 7 + 5, none⟩ = some (.string xs[k].a.c) ∧ wr.cell? ⟨blk, off + k * 7 + 6, none⟩ = some (.slice xs[k].pa xs[k].ps.length xs[k].pc) := by
  have hcc (i : Nat) (hi : i < 7) : wr.cell? ⟨blk, off + k * 7 + i, none⟩ = (xs[k].cs.toList)[i]? := (hb.cell (p := ⟨blk, off + k * 7 + i, none⟩) hl).trans (h k hk i hi)
  exact ⟨hcc 0 (by omega), hcc 1 (by omega), hcc 2 (by omega), hcc 3 (by omega), hcc 4 (by omega), hcc 5 (by omega), hcc 6 (by omega)⟩
def FiP (w : World) (e : Ending) (W : World) : Prop := ∃ (L : List Kn) (v : Value) (lp : Nat) (al : Option Addr) (cl : Nat), e = .returned (.tuple #[.pointer (some ⟨w.heap.size, 0, none⟩), .slice al L.length cl, .bool true]) ∧ Hid (Num.Good L ∧ Ds w W w.heap.size v lp L L al cl)
set_option maxHeartbeats 16000000 in
theorem xfilled (xs : List Ac) (a0 : Option Addr) (cap : Nat) (w : World) (h : Acs w a0 xs) : Calls Try.prog 13 #[.slice a0 xs.length cap] w (FiP w) := by
  have HA : Hid (Acs w a0 xs) := h
  have HN : Hid (Calls Try.prog 9 #[] w fun e w1 => e = .returned (.pointer (some ⟨w.heap.size, 0, none⟩)) ∧ Hid (w1.heap.size = w.heap.size + 1 ∧ Ds w (w1.alloc (.cells #[.slice none 0 0] 25)) w.heap.size (.slice none 0 0) w1.heap.size [] [] none 0)) := ds_new w
  clear h
  go_enter Try.func13, Try.ntmps13
  go_wp2_with (go_at_call 9; refine HN.out.mono ?_; clear HN; rintro e w1 ⟨rfl, HD1⟩)
  have HD2 : Hid (Ds w (w1.alloc (.cells #[.slice none 0 0] 25)) w.heap.size (.slice none 0 0) w1.heap.size [] [] none 0) := HD1.out.2
  generalize w1.heap.size = lp at *
  clear HD1
  go_loopw [7] (fun i wr => ∃ (k : Nat) (L : List Kn) (v : Value) (al : Option Addr) (cl : Nat), k ≤ xs.length ∧ k ≤ 90 ∧ i = .int .i64 k ∧ Hid (Num.Good L ∧ Ds w wr w.heap.size v lp L L al cl))
    (fun i _ => xs.length - (intOf i).toNat)
  case atStart => exact ⟨0, [], _, none, 0, Nat.zero_le _, by omega, rfl, Num.Good.nil, HD2.out⟩
  case round =>
    obtain ⟨k, L, v, al, cl, hk, hk90, rfl, HR⟩ := hrel
    clear HD2
    by_cases hkn : k < xs.length
    · have hkz : (k : Int) < (xs.length : Int) := by omega
      by_cases hk9 : k < 90
      · have hk9z : (k : Int) < 90 := by omega
        obtain ⟨blk, off, rfl, hbl, hcs⟩ := HA.out.r (by omega)
        obtain ⟨c0, c1, c2, c3, c4, c5, c6⟩ := Acs.at7 hcs HR.out.2.b hbl hkn
        have hw := HA.out.w xs[k] (List.getElem_mem hkn)
        have HG2 : Hid (Num.Good (Ac.L L xs[k])) := Ac.good HR.out.1 _
        clear hcs hbl
        by_cases hps : xs[k].ps.length ≤ 100
        · have hpz : (xs[k].ps.length : Int) ≤ 100 := by omega
          have HDo : Hid (Calls Try.prog 10 #[.pointer (some ⟨w.heap.size, 0, none⟩), .pointer (some ⟨lp, 0, none⟩), .agg #[.int .i64 xs[k].k, .string xs[k].a.i, .int .i64 xs[k].a.iss, .int .i64 xs[k].a.rat, .int .i64 xs[k].a.mat, .string xs[k].a.c, .slice xs[k].pa xs[k].ps.length xs[k].pc]] wr (DoP w w.heap.size lp (Ac.L L xs[k]))) := xdoes HR.out.2 HR.out.1 xs[k] hw (by omega)
          clear hw HR hps
          generalize xs[k] = x at *
          obtain ⟨k9, xa, ps, pa, pc⟩ := x
          obtain ⟨xi, x1, x2, x3, xc⟩ := xa
          simp only at *
          obtain ⟨M, hM⟩ : ∃ M, M = Ac.L L ⟨k9, ⟨xi, x1, x2, x3, xc⟩, ps, pa, pc⟩ := ⟨_, rfl⟩
          rw [← hM] at HG2 HDo
          clear hM
          skip
          go_wp2_with (go_at_call 10; refine HDo.out.mono ?_; clear HDo; rintro e w4 ⟨rfl, HZ⟩; obtain ⟨v4, al4, cl4, hd4⟩ := HZ.out; have HD4 : Hid (Ds w w4 w.heap.size v4 lp M M al4 cl4) := hd4; have k4 : w4.cell? ⟨lp, 0, none⟩ = some (.slice al4 M.length cl4) := hd4.p.cell 0; clear hd4 HZ)
          go_roundw
          case rel => exact ⟨k + 1, M, _, _, _, by omega, by omega, by simp, HG2.out, HD4.out⟩
          case measure => simp [intOf]; omega
        · have hpz : ¬ (xs[k].ps.length : Int) ≤ 100 := by omega
          clear hw HG2 hps
          generalize xs[k] = x at *
          obtain ⟨k9, xa, ps, pa, pc⟩ := x
          simp only at *
          go_wp2_with fail
          go_roundw
          case rel => exact ⟨k + 1, L, v, al, cl, by omega, by omega, by simp, HR.out⟩
          case measure => simp [intOf]; omega
      · have hk9z : ¬ (k : Int) < 90 := by omega
        have l0 : wr.cell? ⟨lp, 0, none⟩ = some (.slice al L.length cl) := HR.out.2.p.cell 0
        have HF : Hid (∀ n, FiP w (.returned (.tuple #[.pointer (some ⟨w.heap.size, 0, none⟩), .slice al L.length cl, .bool true])) (wr.drewN n)) := fun n => ⟨L, v, lp, al, cl, rfl, HR.out.1, HR.out.2.below (N1.below_drewN (Below.refl _ _))⟩
        clear HR
        go_wp2_with fail
        go_quiet (fail)
        go_wp2_with fail
        go_ret3
        exact HF.out _
    · have hkz : ¬ (k : Int) < (xs.length : Int) := by omega
      have l0 : wr.cell? ⟨lp, 0, none⟩ = some (.slice al L.length cl) := HR.out.2.p.cell 0
      have HF : Hid (∀ n, FiP w (.returned (.tuple #[.pointer (some ⟨w.heap.size, 0, none⟩), .slice al L.length cl, .bool true])) (wr.drewN n)) := fun n => ⟨L, v, lp, al, cl, rfl, HR.out.1, HR.out.2.below (N1.below_drewN (Below.refl _ _))⟩
      clear HR
      go_wp2_with fail
      go_quiet (fail)
      go_wp2_with fail
      go_ret3
      exact HF.out _
set_option maxHeartbeats 16000000 in
theorem lplays (xs : List Ac) (a0 : Option Addr) (cap : Nat) (w : World) (h : Acs w a0 xs) : Calls Try.prog 3 #[.slice a0 xs.length cap] w (OkP w) := by
  have HA : Hid (Acs w a0 xs) := h
  have HN : Hid (Calls Try.prog 9 #[] w fun e w1 => e = .returned (.pointer (some ⟨w.heap.size, 0, none⟩)) ∧ Hid (w1.heap.size = w.heap.size + 1 ∧ Ds w (w1.alloc (.cells #[.slice none 0 0] 25)) w.heap.size (.slice none 0 0) w1.heap.size [] [] none 0)) := ds_new w
  clear h
  go_enter Try.func3, Try.ntmps3
  go_wp2_with (go_at_call 9; refine HN.out.mono ?_; clear HN; rintro e w1 ⟨rfl, HD1⟩)
  have HD2 : Hid (Ds w (w1.alloc (.cells #[.slice none 0 0] 25)) w.heap.size (.slice none 0 0) w1.heap.size [] [] none 0) := HD1.out.2
  generalize w1.heap.size = lp at *
  clear HD1
  go_loopw [5] (fun i wr => ∃ (k : Nat) (L : List Kn) (v : Value) (al : Option Addr) (cl : Nat), k ≤ xs.length ∧ k ≤ 90 ∧ i = .int .i64 k ∧ Hid (Num.Good L ∧ Ds w wr w.heap.size v lp L L al cl))
    (fun i _ => xs.length - (intOf i).toNat)
  case atStart => exact ⟨0, [], _, none, 0, Nat.zero_le _, by omega, rfl, Num.Good.nil, HD2.out⟩
  case round =>
    obtain ⟨k, L, v, al, cl, hk, hk90, rfl, HR⟩ := hrel
    clear HD2
    by_cases hkn : k < xs.length
    · have hkz : (k : Int) < (xs.length : Int) := by omega
      by_cases hk9 : k < 90
      · have hk9z : (k : Int) < 90 := by omega
        obtain ⟨blk, off, rfl, hbl, hcs⟩ := HA.out.r (by omega)
        obtain ⟨c0, c1, c2, c3, c4, c5, c6⟩ := Acs.at7 hcs HR.out.2.b hbl hkn
        have hw := HA.out.w xs[k] (List.getElem_mem hkn)
        have HG2 : Hid (Num.Good (Ac.L L xs[k])) := Ac.good HR.out.1 _
        clear hcs hbl
        by_cases hps : xs[k].ps.length ≤ 100
        · have hpz : (xs[k].ps.length : Int) ≤ 100 := by omega
          have HDo : Hid (Calls Try.prog 10 #[.pointer (some ⟨w.heap.size, 0, none⟩), .pointer (some ⟨lp, 0, none⟩), .agg #[.int .i64 xs[k].k, .string xs[k].a.i, .int .i64 xs[k].a.iss, .int .i64 xs[k].a.rat, .int .i64 xs[k].a.mat, .string xs[k].a.c, .slice xs[k].pa xs[k].ps.length xs[k].pc]] wr (DoP w w.heap.size lp (Ac.L L xs[k]))) := xdoes HR.out.2 HR.out.1 xs[k] hw (by omega)
          clear hw HR hps
          generalize xs[k] = x at *
          obtain ⟨k9, xa, ps, pa, pc⟩ := x
          obtain ⟨xi, x1, x2, x3, xc⟩ := xa
          simp only at *
          obtain ⟨M, hM⟩ : ∃ M, M = Ac.L L ⟨k9, ⟨xi, x1, x2, x3, xc⟩, ps, pa, pc⟩ := ⟨_, rfl⟩
          rw [← hM] at HG2 HDo
          clear hM
          have HSh : Hid (∀ W v al cl, Ds w W w.heap.size v lp M M al cl → Calls Try.prog 11 #[.pointer (some ⟨w.heap.size, 0, none⟩), .slice al M.length cl] W fun e W1 => e = .returned (.bool true) ∧ Hid (Ds w W1 w.heap.size v lp M M al cl)) := fun W v al cl hd => (xshows (B' := 0) hd.x HG2.out al cl hd.rw).mono fun e W1 hh => ⟨hh.1, hd.below hh.2⟩
          go_wp2_with (first | (go_at_call 10; refine HDo.out.mono ?_; clear HDo; rintro e w4 ⟨rfl, HZ⟩; obtain ⟨v4, al4, cl4, hd4⟩ := HZ.out; have HD4 : Hid (Ds w w4 w.heap.size v4 lp M M al4 cl4) := hd4; have k4 : w4.cell? ⟨lp, 0, none⟩ = some (.slice al4 M.length cl4) := hd4.p.cell 0; clear hd4 HZ) | (go_at_call 11; refine (HSh.out _ _ _ _ HD4.out).mono ?_; clear HSh; rintro e w5 ⟨rfl, HZ5⟩))
          go_roundw
          case rel => exact ⟨k + 1, M, _, _, _, by omega, by omega, by simp, HG2.out, HZ5.out⟩
          case measure => simp [intOf]; omega
        · have hpz : ¬ (xs[k].ps.length : Int) ≤ 100 := by omega
          clear hw HG2 hps
          generalize xs[k] = x at *
          obtain ⟨k9, xa, ps, pa, pc⟩ := x
          simp only at *
          go_wp2_with fail
          go_roundw
          case rel => exact ⟨k + 1, L, v, al, cl, by omega, by omega, by simp, HR.out⟩
          case measure => simp [intOf]; omega
      · have hk9z : ¬ (k : Int) < 90 := by omega
        have HAw : Hid (∀ w, Calls Try.prog 12 #[] w (OkP w)) := fun w => xawake w
        go_wp2_with (go_at_call 12; refine (HAw.out _).mono ?_; rintro e w9 ⟨rfl, HB9⟩)
        go_ret
        exact ⟨rfl, HR.out.2.b.trans (HB9.mono HR.out.2.b.size)⟩
    · have hkz : ¬ (k : Int) < (xs.length : Int) := by omega
      have HAw : Hid (∀ w, Calls Try.prog 12 #[] w (OkP w)) := fun w => xawake w
      go_wp2_with (go_at_call 12; refine (HAw.out _).mono ?_; rintro e w9 ⟨rfl, HB9⟩)
      go_ret
      exact ⟨rfl, HR.out.2.b.trans (HB9.mono HR.out.2.b.size)⟩
end Go.Proofs.Ytbgdmpaghkmadaa
