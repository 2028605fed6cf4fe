/- layer 17: lots put together, by the document, one by one -/
import Derived.Test.YtheikjjehidagaaNJ
import Derived.WalkKit
import Derived.ProofKit
import Derived.Handy
import Derived.WalkLawsBesides
import Derived.WalkSpells
import Derived.BigQuiet
import Derived.BigCall
import Derived.Deep.QuietTactic
import Derived.Deep.Light
import Derived.Deep.OwnRows
import Derived.Laws.AppendOwnNone
import Derived.Laws.Strings3
import Derived.Laws.RangeAny
import Derived.Deep.RegionWith
import Derived.Lib.BitFns
import Derived.Lib.Walk
import Derived.Lib.Strings
import Derived.Lib.OthersKept
import Derived.Deep.CutBlock
import Derived.Deep.DeepCutAuto
import Derived.Deep.LoopGhost
import Derived.Deep.RegionHeld3
import Derived.Lib.SmallJoins
import Derived.Maps.AppendAt
import Derived.Laws.IdiomStrings
import Derived.Lib.AppendZeros
import Derived.Deep.WholeRow
import Derived.Laws.BitsAllLaws
import Derived.Lib.ConvBytes
import Derived.Deep.RegionLaw
import Derived.Maps.OwnSet
import Derived.Maps.OwnOps
import Derived.Maps.RangeWalk
import Derived.Maps.Ext
import Derived.DeepKeys4
import Derived.Laws.StructEq
import Derived.Deep.MidRow
import Derived.Lib.Bytealg
import Derived.Lib.AppendZerosOnto
import Derived.Laws.MakeOwn
import Derived.Deep.Upon
import Derived.Sort.KeysCollected
namespace Go.Proofs.Ytheikjjehidagaa
open Go.RowKit
set_option linter.unusedVariables false
set_option linter.unusedSimpArgs false
set_option maxRecDepth 20000
theorem Rw.one {w : World} {blk off : Nat} {L : List Lt} (h : ∀ i (h : i < L.length), ∀ j, j < 2 → w.cell? ⟨blk, off + i * 2 + j, none⟩ = (lcs L[i])[j]?) {k : Nat} (hk : k < L.length) (hl : blk < w.heap.size) : Rw 2 lcs w (some ⟨blk, off + k * 2, none⟩) [L[k]] := by
  intro _
  refine ⟨blk, off + k * 2, rfl, hl, fun i hi j hj => ?_⟩
  obtain rfl : i = 0 := by simp at hi; omega
  have := h k hk j hj
  simpa using this
theorem mrg_one (M : List Lt) (x : Lt) : mrg M [x] = if addE M x = 0 then (addL M x, 0) else ([], addE M x) := by
  rw [mrg_cons]
  split <;> rfl
theorem addE_bad {M : List Lt} {x : Lt} (h : ¬ okq x.n) : addE M x = 1 := by unfold addE; rw [if_neg h]
set_option maxHeartbeats 16000000 in
theorem rmerge (l : List Lt) (hl : l.length ≤ 1000000) (a : Option Addr) (cap : Nat) (hc : l.length ≤ cap) (w : World) (h : Rw 2 lcs w a l) : Calls Try.prog 12 #[.slice a l.length cap] w (MgP [] l w) := by
  have HE : Hid (Rw 2 lcs w a l) := h
  have hlz : (l.length : Int) ≤ 1000000 := by omega
  clear h
  go_enter Try.func12, Try.ntmps12
  go_wp2_with fail
  go_loopw [4, 5] (fun s i wr => ∃ (k : Nat) (a : Option Addr) (M : List Lt) (cap : Nat), k ≤ l.length ∧ Value.slice a M.length cap = s ∧ i = .int .i64 k ∧ Hid (PlR [] l w wr k a M))
    (fun _ i _ => l.length - (intOf i).toNat)
  case atStart => exact ⟨0, none, [], 0, Nat.zero_le _, rfl, rfl, Rw.nil, Good.nil, rfl, Below.refl _ _⟩
  case round =>
    obtain ⟨k, a1, M, cap1, hk, rfl, rfl, HR⟩ := hrel
    by_cases hkn : k < l.length
    · have hkz : (k : Int) < (l.length : Int) := by omega
      have hk1 : (k : Int) + 1 ≤ (cap : Int) := by omega
      have hk2 : (k : Int) + 1 ≤ 9223372036854775807 := by omega
      have hk3 : (k : Int) ≤ (cap : Int) := by omega
      have hkc : k < cap := by omega
      obtain ⟨blk, off, rfl, hbl, hcs⟩ := HE.out (by omega)
      obtain ⟨c0, c1⟩ := Rw.at2 hcs HR.out.b hbl hkn
      have HG : Hid (∀ w, Calls Try.prog 40 #[.int .i64 l[k].n] w (BoP (decide (okq l[k].n)) w)) := fun w => rgoodq _ w
      have h1 : Rw 2 lcs wr (some ⟨blk, off + k * 2, none⟩) [l[k]] := (Rw.one hcs hkn hbl).below HR.out.b
      have hM64 := HR.out.g.len
      by_cases hq : okq l[k].n
      · rw [decide_eq_true hq] at HG
        have HC : Hid (∀ c2, Calls Try.prog 16 #[.slice a1 M.length cap1, .slice (some ⟨blk, off + k * 2, none⟩) 1 c2] wr (MgP M [l[k]] wr)) := fun c2 => rplus M [l[k]] HR.out.g (by simp) (by simpa using hq) a1 cap1 _ c2 wr HR.out.r h1
        by_cases he : addE M l[k] = 0
        · have HC2 : Hid (∀ c2, Calls Try.prog 16 #[.slice a1 M.length cap1, .slice (some ⟨blk, off + k * 2, none⟩) 1 c2] wr fun e w' => ∃ a' cap', e = .returned (.tuple #[.slice a' (addL M l[k]).length cap', .int .i64 0]) ∧ Hid (PlR [] l w w' (k + 1) a' (addL M l[k]))) := fun c2 => by
            refine (HC.out c2).mono ?_
            rintro e w' ⟨a', cap', rfl, HZ⟩
            have e1 : mrg M [l[k]] = (addL M l[k], 0) := by rw [mrg_one, if_pos he]
            rw [e1] at HZ ⊢
            exact ⟨a', cap', rfl, HR.out.next hkn he HZ.out.2 HZ.out.1⟩
          clear HC HR hcs h1 hq he hM64
          generalize addL M l[k] = M2 at *
          generalize l[k] = x at *
          obtain ⟨xi, xn⟩ := x
          simp only at *
          go_wp2_with (first | (go_at_call 40; refine (HG.out _).mono ?_; rintro e w3 ⟨rfl, rfl⟩) | (go_at_call 16; refine (HC2.out _).mono ?_; clear HC2; rintro e w2 ⟨a2, cap2, rfl, HZ⟩))
          go_roundw
          case rel => exact ⟨k + 1, a2, M2, cap2, by omega, rfl, by simp, HZ.out⟩
          case measure => simp [intOf]; omega
        · have HC2 : Hid (∀ c2, Calls Try.prog 16 #[.slice a1 M.length cap1, .slice (some ⟨blk, off + k * 2, none⟩) 1 c2] wr fun e w' => ∃ a' cap', e = .returned (.tuple #[.slice a' 0 cap', .int .i64 (addE M l[k])]) ∧ Hid (MgP [] l w (.returned (.tuple #[.slice none 0 0, .int .i64 (addE M l[k])])) w')) := fun c2 => by
            refine (HC.out c2).mono ?_
            rintro e w' ⟨a', cap', rfl, HZ⟩
            have e1 : mrg M [l[k]] = ([], addE M l[k]) := by rw [mrg_one, if_neg he]
            rw [e1] at HZ ⊢
            exact ⟨a', cap', rfl, (HR.out.below HZ.out.2).bad hkn rfl he⟩
          have hez : ((addE M l[k] : Nat) : Int) ≠ 0 := by omega
          clear HC HR hcs h1 hq he hM64
          generalize addE M l[k] = E at *
          generalize l[k] = x at *
          obtain ⟨xi, xn⟩ := x
          simp only at *
          have hez2 : (((E : Int)) != 0) = true := by simpa using hez
          go_wp2_with (first | (go_at_call 40; refine (HG.out _).mono ?_; rintro e w3 ⟨rfl, rfl⟩) | (go_at_call 16; refine (HC2.out _).mono ?_; clear HC2; rintro e w2 ⟨a2, cap2, rfl, HZ⟩))
          go_ret2
          exact HZ.out
      · rw [decide_eq_false hq] at HG
        have HF : Hid (MgP [] l w (.returned (.tuple #[.slice none 0 0, .int .i64 1])) wr) := HR.out.bad hkn (addE_bad hq) (by decide)
        clear HR hcs h1 hq hM64
        generalize l[k] = x at *
        obtain ⟨xi, xn⟩ := x
        simp only at *
        go_wp2_with (go_at_call 40; refine (HG.out _).mono ?_; rintro e w3 ⟨rfl, rfl⟩)
        go_ret2
        exact HF.out
    · have hkz : ¬ (k : Int) < (l.length : Int) := by omega
      have HF : Hid (MgP [] l w (.returned (.tuple #[.slice a1 M.length cap1, .int .i64 0])) wr) := MgP.done (by have := HR.out.e; rwa [List.drop_eq_nil_of_le (by omega)] at this) HR.out.r HR.out.b
      clear HR
      go_wp2_with fail
      go_ret2
      exact HF.out
end Go.Proofs.Ytheikjjehidagaa
