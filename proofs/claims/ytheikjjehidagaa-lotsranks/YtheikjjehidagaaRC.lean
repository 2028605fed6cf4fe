/- layer 17: the stable sort's turns, by the program -/
import Derived.Test.YtheikjjehidagaaRB
import Derived.WalkKit
import Derived.ProofKit
import Derived.Handy
import Derived.WalkLawsBesides
import Derived.WalkSpells
import Derived.BigQuiet
import Derived.BigCall
import Derived.Deep.QuietTactic
import Derived.Deep.Light
import Derived.Deep.OwnRows
import Derived.Laws.AppendOwnNone
import Derived.Laws.Strings3
import Derived.Laws.RangeAny
import Derived.Deep.RegionWith
import Derived.Lib.BitFns
import Derived.Lib.Walk
import Derived.Lib.Strings
import Derived.Lib.OthersKept
import Derived.Deep.CutBlock
import Derived.Deep.DeepCutAuto
import Derived.Deep.LoopGhost
import Derived.Deep.RegionHeld3
import Derived.Lib.SmallJoins
import Derived.Maps.AppendAt
import Derived.Laws.IdiomStrings
import Derived.Lib.AppendZeros
import Derived.Deep.WholeRow
import Derived.Laws.BitsAllLaws
import Derived.Lib.ConvBytes
import Derived.Deep.RegionLaw
import Derived.Maps.OwnSet
import Derived.Maps.OwnOps
import Derived.Maps.RangeWalk
import Derived.Maps.Ext
import Derived.DeepKeys4
import Derived.Laws.StructEq
import Derived.Deep.MidRow
import Derived.Lib.Bytealg
import Derived.Lib.AppendZerosOnto
import Derived.Laws.MakeOwn
import Derived.Deep.Upon
import Derived.Sort.KeysCollected
import Derived.Shelf.SlSortCmp.KitK
namespace Go.Proofs.Ytheikjjehidagaa
open Go.RowKit
set_option linter.unusedVariables false
set_option linter.unusedSimpArgs false
open Go.Sort (grow SWO PermIn SortedIn HoldsK swp permIn_refl permIn_trans permIn_all swp_permIn)
open H5 (It its its_len its_one)
set_option maxRecDepth 20000
set_option linter.unusedSectionVars false
theorem wN {n : Nat} (h : n ≤ 4000000) : wrap64 (n : Int) = n := by unfold wrap64; omega
theorem wK {n : Nat} (h : n ≤ 4000000) : IntKind.i64.wrap (n : Int) = n := by rw [IntKind.wrap_i64]; omega
theorem sub_z {i j k : Nat} (h : k = j - i) (hl : i ≤ j) : (j : Int) - (i : Int) = (k : Int) := by omega
theorem rot_z {m i j B : Nat} (h : B = m + j - i) (hl : i ≤ j) : B + i = m + j ∧ m ≤ B ∧ (m : Int) + (j : Int) - (i : Int) = (B : Int) := by omega
theorem sub_lt' {i j k : Nat} (h : k = j - i) (hl : i < j) (h0 : 0 < i) : i + k < i + j := by omega
theorem rot_a {s m i A : Nat} (h : s + i ≤ m) (hA : A = m - i) : s ≤ A := by omega
theorem rot_b {m i A : Nat} (h : A + i = m) (j : Nat) : A ≤ m + j := by omega
theorem rot_c {m i j e : Nat} (h : m + j ≤ e) (hij : i = j) : m + i ≤ e := by omega
theorem rot_d {m i j A B : Nat} (h : A + i = m) (hB : B + i = m + j) : A ≤ B + i := by omega
section
variable [Inhabited It]
set_option maxHeartbeats 8000000 in
theorem xrot {w0 W : World} {blk off cap n : Nat} {d0 d : Array Ei} (R : Ro w0 blk off d0) (hd : d.size = d0.size) (hn : d.size = n) (hW : Sv w0 blk off d W) {s m e : Nat} (h1 : s < m) (h2 : m < e) (h3 : e ≤ d.size) :
    Calls Try.prog 109 #[.slice (some ⟨blk, off, none⟩) n cap, .int .i64 s, .int .i64 m, .int .i64 e, .func (.func 49) #[] #[]] W (SrP w0 blk off (fun f => SS.Rot s m e d f ∧ PermIn s e d f)) := by
  have hds : d.size ≤ 1000000 := by rw [hd]; exact R.s
  have HR : Hid (Ro w0 blk off d0) := R
  have HH0 : Hid (Sv w0 blk off d W ∧ d.size = d0.size ∧ d.size = n) := ⟨hW, hd, hn⟩
  have hms : (m : Int) - (s : Int) = ((m - s : Nat) : Int) := by omega
  have hem : (e : Int) - (m : Int) = ((e - m : Nat) : Int) := by omega
  have HI0 : Hid (SS.RotI s m e (m - s) (e - m) d d) := SS.RotI.start d h1 h2
  have hI0 : m - s ≤ 1000000 := by omega
  have hJ0 : e - m ≤ 1000000 := by omega
  have hmz : m ≤ 1000000 := by omega
  have he3 : e ≤ d.size := h3
  clear hW hd R hn h1 h2 h3
  generalize m - s = I0 at *
  generalize e - m = J0 at *
  go_enter Try.func109, Try.ntmps109
  go_wp2_with fail
  go_loopw [10, 11] (fun x y wr => ∃ (i j : Nat) (f : Array Ei), x = .int .i64 i ∧ y = .int .i64 j ∧ i ≤ 1000000 ∧ j ≤ 1000000 ∧ Hid (Sv w0 blk off f wr ∧ SS.RotI s m e i j d f ∧ PermIn s e d f))
    (fun x y _ => (Lib.intOf x).toNat + (Lib.intOf y).toNat)
  case atStart => exact ⟨I0, J0, d, by first | rfl | go_num | (congr 1; omega), by first | rfl | go_num | (congr 1; omega), hI0, hJ0, HH0.out.1, HI0.out, permIn_refl d s e⟩
  case round =>
    clear HI0 hms hem hI0 hJ0
    obtain ⟨i, j, f, rfl, rfl, hi, hj, HS⟩ := hrel
    have hf0 : f.size = d0.size := by rw [HS.out.2.1.1]; exact HH0.out.2.1
    have hfn : f.size = n := by rw [HS.out.2.1.1]; exact HH0.out.2.2
    have hfd : f.size = d.size := HS.out.2.1.1
    obtain ⟨b1, b2, b3, b4⟩ := HS.out.2.1.2.1
    have HIJ : Hid (i ≤ 1000000 ∧ j ≤ 1000000) := ⟨hi, hj⟩
    obtain ⟨A, hA⟩ : ∃ A, A = m - i := ⟨_, rfl⟩
    have hiA : A + i = m := by omega
    have hmj1 : m + j ≤ f.size := by rw [hfd]; exact Nat.le_trans b2 he3
    have hAz : (m : Int) - (i : Int) = (A : Int) := by omega
    have hAw : wrap64 (A : Int) = (A : Int) := wN (Nat.le_trans (by rw [← hiA]; exact Nat.le_add_right A i) (Nat.le_trans hmz (by decide)))
    by_cases hij : i = j
    · have hijz : ((i : Int) != (j : Int)) = false := by simp [hij]
      have HC : Hid (Calls Try.prog 117 #[.slice (some ⟨blk, off, none⟩) n cap, .int .i64 A, .int .i64 m, .int .i64 i, .func (.func 49) #[] #[]] wr fun x w' => x = .returned (.tuple #[]) ∧ Hid (SrP w0 blk off (fun f => SS.Rot s m e d f ∧ PermIn s e d f) (.returned (.tuple #[])) w')) := (xswapsn HR.out hf0 hfn HS.out.1 (a := A) (b := m) (m := i) (Nat.le_of_eq hiA) (by rw [hij]; exact hmj1)).mono fun x w' hh => by
        obtain ⟨rfl, g, hg, hsw, hpm⟩ := hh
        refine ⟨rfl, rfl, g, hg, ?_, permIn_trans d f g s e HS.out.2.2 (SS.permIn_wide (rot_a b1 hA) (rot_b hiA i) (rot_c b2 hij) (by rw [hfd]; exact he3) hpm)⟩
        have h1 := HS.out.2.1
        rw [← hij] at h1
        rw [hA] at hsw
        exact h1.done hsw
      clear HS hf0 hfn hfd hA hiA hmj1 b1 b2 b3 b4 hij hi hj hmz he3 hds
      go_wp2_with (go_at_call 117; refine HC.out.mono ?_; clear HC; rintro x w2 ⟨rfl, HZ⟩)
      refine bodyPost_ret (results_none rfl _ _ _) rfl ?_
      exact HZ.out
    · have hijz : ((i : Int) != (j : Int)) = true := by simp; omega
      by_cases hgt : j < i
      · have hgtz : (j : Int) < (i : Int) := by omega
        obtain ⟨i2, hi2⟩ : ∃ i2, i2 = i - j := ⟨_, rfl⟩
        have hi2z : (i : Int) - (j : Int) = (i2 : Int) := by omega
        have hi2b : i2 ≤ 1000000 := by rw [hi2]; exact Nat.le_trans (Nat.sub_le i j) hi
        have hi2w : wrap64 (i2 : Int) = (i2 : Int) := wN (Nat.le_trans hi2b (by decide))
        have HC : Hid (Calls Try.prog 117 #[.slice (some ⟨blk, off, none⟩) n cap, .int .i64 A, .int .i64 m, .int .i64 j, .func (.func 49) #[] #[]] wr fun x w' => x = .returned (.tuple #[]) ∧ ∃ g, Hid (Sv w0 blk off g w' ∧ SS.RotI s m e i2 j d g ∧ PermIn s e d g)) := by
          have q1 : A + j ≤ m := by rw [← hiA]; exact Nat.add_le_add_left (Nat.le_of_lt hgt) A
          refine (xswapsn (cap := cap) HR.out hf0 hfn HS.out.1 q1 hmj1).mono ?_
          rintro x w' ⟨rfl, g, hg, hsw, hpm⟩
          have hp2 := permIn_trans d f g s e HS.out.2.2 (SS.permIn_wide (rot_a b1 hA) (rot_b hiA j) b2 (by rw [hfd]; exact he3) hpm)
          rw [hA] at hsw
          have h1 := HS.out.2.1.left hgt hsw
          rw [← hi2] at h1
          exact ⟨rfl, g, hg, h1, hp2⟩
        have HBd : Hid (i2 ≤ 1000000) := hi2b
        have HLT : Hid (i2 + j < i + j) := by unfold Hid; omega
        clear HS hf0 hfn hfd hA hiA hmj1 b1 b2 b3 b4 hi2 hij hgt hi2b hi hj hmz he3 hds
        go_wp2_with (go_at_call 117; refine HC.out.mono ?_; clear HC; rintro x w2 ⟨rfl, g, HZ⟩)
        go_roundw
        case rel => exact ⟨i2, j, g, congrArg _ hi2w, rfl, HBd.out, HIJ.out.2, HZ.out⟩
        case measure => rw [hi2w]; exact HLT.out
      · have hle : i ≤ j := Nat.le_of_not_lt hgt
        have hlt : i < j := Nat.lt_of_le_of_ne hle hij
        have hgtz : ¬ (j : Int) < (i : Int) := fun h => hgt (Int.ofNat_lt.1 h)
        obtain ⟨j2, hj2⟩ : ∃ j2, j2 = j - i := ⟨_, rfl⟩
        have hj2z : (j : Int) - (i : Int) = (j2 : Int) := sub_z hj2 hle
        have hj2b : j2 ≤ 1000000 := by rw [hj2]; exact Nat.le_trans (Nat.sub_le j i) hj
        have hj2w : wrap64 (j2 : Int) = (j2 : Int) := wN (Nat.le_trans hj2b (by decide))
        obtain ⟨B, hB⟩ : ∃ B, B = m + j - i := ⟨_, rfl⟩
        obtain ⟨hBi, hmB, hBz⟩ := rot_z hB hle
        have hBb : B ≤ 2000000 := by rw [hB]; exact Nat.le_trans (Nat.sub_le (m + j) i) (Nat.add_le_add hmz hj)
        have hBw : wrap64 (B : Int) = (B : Int) := wN (Nat.le_trans hBb (by decide))
        have hmj : wrap64 ((m : Int) + (j : Int)) = (m : Int) + (j : Int) := by
          have := wN (n := m + j) (Nat.le_trans (Nat.add_le_add hmz hj) (by decide))
          rwa [Int.natCast_add] at this
        have HC : Hid (Calls Try.prog 117 #[.slice (some ⟨blk, off, none⟩) n cap, .int .i64 A, .int .i64 B, .int .i64 i, .func (.func 49) #[] #[]] wr fun x w' => x = .returned (.tuple #[]) ∧ ∃ g, Hid (Sv w0 blk off g w' ∧ SS.RotI s m e i j2 d g ∧ PermIn s e d g)) := (xswapsn HR.out hf0 hfn HS.out.1 (a := A) (b := B) (m := i) (by rw [hiA]; exact hmB) (by rw [hBi]; exact hmj1)).mono fun x w' hh => by
          obtain ⟨rfl, g, hg, hsw, hpm⟩ := hh
          have hp2 := permIn_trans d f g s e HS.out.2.2 (SS.permIn_wide (rot_a b1 hA) (rot_d hiA hBi) (by rw [hBi]; exact b2) (by rw [hfd]; exact he3) hpm)
          rw [hA, hB] at hsw
          rw [hj2]
          exact ⟨rfl, g, hg, HS.out.2.1.right hlt hsw, hp2⟩
        have HBd : Hid (j2 ≤ 1000000) := hj2b
        have HLT : Hid (i + j2 < i + j) := sub_lt' hj2 hlt b3
        clear HS hf0 hfn hfd hA hiA hmj1 b1 b2 b3 b4 hj2 hB hle hlt hij hgt hBi hmB hj2b hi hj hmz he3 hds hBb
        go_wp2_with (go_at_call 117; refine HC.out.mono ?_; clear HC; rintro x w2 ⟨rfl, g, HZ⟩)
        go_roundw
        case rel => exact ⟨i, j2, g, rfl, congrArg _ hj2w, HIJ.out.1, HBd.out, HZ.out⟩
        case measure => rw [hj2w]; exact HLT.out
end
end Go.Proofs.Ytheikjjehidagaa
