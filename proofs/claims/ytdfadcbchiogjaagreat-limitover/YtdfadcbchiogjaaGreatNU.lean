/- layer 16: the document's OfIssuer, OfAsset, Sum -/
import Derived.Test.YtdfadcbchiogjaaGreatNO
import Derived.WalkKit
import Derived.ProofKit
import Derived.Handy
import Derived.WalkLawsBesides
import Derived.WalkSpells
import Derived.BigQuiet
import Derived.BigCall
import Derived.Deep.QuietTactic
import Derived.Deep.Light
import Derived.Deep.OwnRows
import Derived.Laws.AppendOwnNone
import Derived.Laws.Strings3
import Derived.Laws.RangeAny
import Derived.Deep.RegionWith
import Derived.Lib.BitFns
import Derived.Lib.Walk
import Derived.Lib.Strings
import Derived.Lib.OthersKept
import Derived.Deep.CutBlock
import Derived.Deep.DeepCutAuto
import Derived.Deep.LoopGhost
import Derived.Deep.RegionHeld3
import Derived.Lib.SmallJoins
import Derived.Maps.AppendAt
import Derived.Laws.IdiomStrings
import Derived.Lib.AppendZeros
import Derived.Deep.WholeRow
import Derived.Laws.BitsAllLaws
import Derived.Lib.ConvBytes
import Derived.Deep.RegionLaw
import Derived.Maps.OwnSet
import Derived.Maps.OwnOps
import Derived.Maps.RangeWalk
import Derived.Maps.Ext
import Derived.DeepKeys4
import Derived.Laws.StructEq
import Derived.Deep.MidRow
import Derived.Lib.Bytealg
import Derived.Lib.AppendZerosOnto
import Derived.Laws.MakeOwn
import Derived.Deep.Upon
import Derived.Sort.KeysCollected
namespace Go.Proofs.YtdfadcbchiogjaaGreat
open Go.RowKit
set_option linter.unusedVariables false
set_option linter.unusedSimpArgs false
set_option maxRecDepth 20000
def pcs (q : Pt) : List Value := [.int .i64 q.i, .string ⟨q.s.toArray⟩, .int .i64 q.c]
theorem pcs_len (q : Pt) : (pcs q).length = 3 := rfl
theorem pcs_one (x : Pt) : ∀ u ∈ pcs x, u.oneCell' = true := by
  intro u hu
  unfold pcs at hu
  simp at hu
  rcases hu with rfl | rfl | rfl <;> rfl
theorem info70 : (Tryz.prog.info? 100).map (fun i => (i.zero, i.size, i.bytes)) = some (some (.agg #[.int .i64 0, .string ⟨#[]⟩, .int .i64 0]), 3, 32) := by kernel_rfl
theorem pcs_at {wr w : World} {blk off : Nat} {l : List Pt} {k : Nat} (hcs : ∀ i (h : i < l.length), ∀ j, j < 3 → w.cell? ⟨blk, off + i * 3 + j, none⟩ = (pcs l[i])[j]?) (hb : Below w.heap.size w wr) (hbl : blk < w.heap.size) (hk : k < l.length) :
    wr.cell? ⟨blk, off + k * 3, none⟩ = some (.int .i64 l[k].i) ∧ wr.cell? ⟨blk, off + k * 3 + 1, none⟩ = some (.string ⟨l[k].s.toArray⟩) ∧ wr.cell? ⟨blk, off + k * 3 + 2, none⟩ = some (.int .i64 l[k].c) := by
  have h := hcs k hk
  exact ⟨(hb.cell (p := ⟨blk, off + k * 3 + 0, none⟩) hbl).trans (h 0 (by omega)), (hb.cell (p := ⟨blk, off + k * 3 + 1, none⟩) hbl).trans (h 1 (by omega)), (hb.cell (p := ⟨blk, off + k * 3 + 2, none⟩) hbl).trans (h 2 (by omega))⟩
/-- a list of covers as the document's table holds it -/
abbrev Lo (w : World) (v : Value) (L : List Pt) : Prop := w.ownsRow 0 100 3 v L.length (rcs pcs L)
theorem Lo.read {w : World} {v : Value} {L : List Pt} (h : Lo w v L) : ∃ a cap, v = .slice a L.length cap ∧ Rw 3 pcs w a L := by
  obtain ⟨a, cap, hv, hc, hr⟩ := own_rw pcs_len h rfl
  exact ⟨a, cap, hv, hr⟩
theorem rng_wrap {n : Int} (h : Rng n) : wrap64 n = n := by unfold Rng at h; unfold wrap64; omega
set_option maxHeartbeats 4000000 in
theorem rissuer {w : World} {v : Value} {L : List Pt} (h : Lo w v L) (c1 c2 c3 n : Int) (hb : ∀ j, Rng (smI (L.take j) n)) (hl : L.length ≤ 1000000) :
    Calls Tryz.prog 30 #[.agg #[.int .i64 c1, .int .i64 c2, .int .i64 c3, v], .int .i64 n] w (RmP (smI L n) w) := by
  obtain ⟨a, cap, rfl, hr⟩ := h.read
  obtain ⟨w1, hw1⟩ : ∃ w1, w.alloc (.cells #[.int .i64 c1, .int .i64 c2, .int .i64 c3, .slice a L.length cap] 65) = w1 := ⟨_, rfl⟩
  have hX : Bx w1 w.heap.size #[.int .i64 c1, .int .i64 c2, .int .i64 c3, .slice a L.length cap] 65 := by rw [← hw1]; exact Bx.new w _ _
  have HB : Hid (Below w.heap.size w w1) := by rw [← hw1]; exact below_a w _
  have HR : Hid (Rw 3 pcs w a L) := hr
  have HN : Hid (∀ j, Rng (smI (L.take j) n)) := hb
  have x3 : w1.cell? ⟨w.heap.size, 3, none⟩ = some (.slice a L.length cap) := hX.cell 3
  clear h hr hb hX
  go_enter Tryz.func30, Tryz.ntmps30
  go_wp2_with fail
  go_loopw [5, 6] (fun v i wr => ∃ k : Nat, k ≤ L.length ∧ i = .int .i64 k ∧ v = .int .i64 (smI (L.take k) n) ∧ wr = w1)
    (fun _ i _ => L.length - (intOf i).toNat)
  case atStart => exact ⟨0, Nat.zero_le _, rfl, by simp [smI], rfl⟩
  case round =>
    obtain ⟨k, hk, rfl, rfl, rfl⟩ := hrel
    by_cases hkn : k < L.length
    · have hkz : (k : Int) < (L.length : Int) := by omega
      obtain ⟨blk, off, rfl, hbl, hcs⟩ := HR.out (by omega)
      obtain ⟨d0, d1, d2⟩ := pcs_at hcs HB.out hbl hkn
      have hs := smI_take hkn n
      have hw := rng_wrap (HN.out (k + 1))
      clear hcs hbl
      generalize L[k] = y at *
      obtain ⟨yi, ys, yc⟩ := y
      simp only at *
      by_cases he : yi = n
      · have hez : (yi == n) = true := by simp [he]
        rw [if_pos he] at hs
        have HS : Hid (smI (L.take k) n + yc = smI (L.take (k + 1)) n) := hs.symm
        rw [hs] at hw
        generalize smI (L.take k) n = z at *
        clear he hs
        go_wp2_with fail
        go_roundw
        case rel => exact ⟨k + 1, by omega, by simp, (by first | (rw [hw, HS.out]; done) | (rw [HS.out]; done)), trivial⟩
        case measure => simp [intOf]; omega
      · have hez : (yi == n) = false := by simp [he]
        rw [if_neg he] at hs
        have HS : Hid (smI (L.take k) n = smI (L.take (k + 1)) n) := by unfold Hid; omega
        generalize smI (L.take k) n = z at *
        clear he hs hw
        go_wp2_with fail
        go_roundw
        case rel => exact ⟨k + 1, by omega, by simp, (by first | (rw [hw, HS.out]; done) | (rw [HS.out]; done)), trivial⟩
        case measure => simp [intOf]; omega
    · have hkz : ¬ (k : Int) < (L.length : Int) := by omega
      have HF : Hid (RmP (smI L n) w (.returned (.int .i64 (smI (L.take k) n))) wr) := by
        rw [show k = L.length by omega, List.take_length]
        exact ⟨rfl, HB.out⟩
      generalize smI (L.take k) n = z at *
      go_wp2_with fail
      go_ret
      exact HF.out
set_option maxHeartbeats 4000000 in
theorem rasset {w : World} {v : Value} {L : List Pt} (h : Lo w v L) (c1 c2 c3 : Int) (n : ByteArray) (hb : ∀ j, Rng (smA (L.take j) n.data.toList)) (hl : L.length ≤ 1000000) :
    Calls Tryz.prog 73 #[.agg #[.int .i64 c1, .int .i64 c2, .int .i64 c3, v], .string n] w (RmP (smA L n.data.toList) w) := by
  obtain ⟨a, cap, rfl, hr⟩ := h.read
  obtain ⟨w1, hw1⟩ : ∃ w1, w.alloc (.cells #[.int .i64 c1, .int .i64 c2, .int .i64 c3, .slice a L.length cap] 65) = w1 := ⟨_, rfl⟩
  have hX : Bx w1 w.heap.size #[.int .i64 c1, .int .i64 c2, .int .i64 c3, .slice a L.length cap] 65 := by rw [← hw1]; exact Bx.new w _ _
  have HB : Hid (Below w.heap.size w w1) := by rw [← hw1]; exact below_a w _
  have HR : Hid (Rw 3 pcs w a L) := hr
  have HN : Hid (∀ j, Rng (smA (L.take j) n.data.toList)) := hb
  have x3 : w1.cell? ⟨w.heap.size, 3, none⟩ = some (.slice a L.length cap) := hX.cell 3
  clear h hr hb hX
  go_enter Tryz.func73, Tryz.ntmps73
  go_wp2_with fail
  go_loopw [5, 6] (fun v i wr => ∃ k : Nat, k ≤ L.length ∧ i = .int .i64 k ∧ v = .int .i64 (smA (L.take k) n.data.toList) ∧ wr = w1)
    (fun _ i _ => L.length - (intOf i).toNat)
  case atStart => exact ⟨0, Nat.zero_le _, rfl, by simp [smA], rfl⟩
  case round =>
    obtain ⟨k, hk, rfl, rfl, rfl⟩ := hrel
    by_cases hkn : k < L.length
    · have hkz : (k : Int) < (L.length : Int) := by omega
      obtain ⟨blk, off, rfl, hbl, hcs⟩ := HR.out (by omega)
      obtain ⟨d0, d1, d2⟩ := pcs_at hcs HB.out hbl hkn
      have hs := smA_take hkn n.data.toList
      have hw := rng_wrap (HN.out (k + 1))
      clear hcs hbl
      generalize L[k] = y at *
      obtain ⟨yi, ys, yc⟩ := y
      simp only at *
      obtain ⟨S, hS⟩ : ∃ S : ByteArray, (⟨ys.toArray⟩ : ByteArray) = S := ⟨_, rfl⟩
      have hSn : ys = n.data.toList ↔ S = n := by
        rw [← hS]
        constructor
        · rintro rfl; simp
        · rintro rfl; simp
      rw [hS] at d1
      by_cases he : ys = n.data.toList
      · have hez0 : S = n := hSn.1 he
        have hez : (S.toList == n.toList) = true := by simp [hez0]
        rw [if_pos he] at hs
        have HS : Hid (smA (L.take k) n.data.toList + yc = smA (L.take (k + 1)) n.data.toList) := hs.symm
        rw [hs] at hw
        generalize smA (L.take k) n.data.toList = z at *
        clear he hs hSn hS
        go_wp2_with fail
        go_roundw
        case rel => exact ⟨k + 1, by omega, by simp, (by first | (rw [hw, HS.out]; done) | (rw [HS.out]; done)), trivial⟩
        case measure => simp [intOf]; omega
      · have hez0 : ¬ S = n := fun k => he (hSn.2 k)
        have hez : (S.toList == n.toList) = false := by
          have : ¬ S.toList = n.toList := fun k => hez0 (by rw [ByteArray.toList_eq, ByteArray.toList_eq] at k; exact ByteArray.ext (Array.toList_inj.1 k))
          simpa using this
        rw [if_neg he] at hs
        have HS : Hid (smA (L.take k) n.data.toList = smA (L.take (k + 1)) n.data.toList) := by unfold Hid; omega
        generalize smA (L.take k) n.data.toList = z at *
        clear he hs hw hSn hS
        go_wp2_with fail
        go_roundw
        case rel => exact ⟨k + 1, by omega, by simp, (by first | (rw [hw, HS.out]; done) | (rw [HS.out]; done)), trivial⟩
        case measure => simp [intOf]; omega
    · have hkz : ¬ (k : Int) < (L.length : Int) := by omega
      have HF : Hid (RmP (smA L n.data.toList) w (.returned (.int .i64 (smA (L.take k) n.data.toList))) wr) := by
        rw [show k = L.length by omega, List.take_length]
        exact ⟨rfl, HB.out⟩
      generalize smA (L.take k) n.data.toList = z at *
      go_wp2_with fail
      go_ret
      exact HF.out
end Go.Proofs.YtdfadcbchiogjaaGreat
