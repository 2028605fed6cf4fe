/- The chapter's example. -/
import Derived.Test.YtfdebooimbbdbaaF
import Derived.WalkKit
import Derived.ProofKit
import Derived.Handy
import Derived.WalkLawsBesides
import Derived.WalkSpells
import Derived.BigQuiet
import Derived.BigCall
import Derived.Deep.QuietTactic
import Derived.Deep.Light
import Derived.Deep.OwnRows
import Derived.Laws.AppendOwnNone
import Derived.Laws.Strings3
import Derived.Laws.RangeAny
import Derived.Deep.RegionWith
import Derived.Lib.BitFns
import Derived.Lib.Walk
import Derived.Lib.Strings
import Derived.Lib.OthersKept
import Derived.Deep.CutBlock
import Derived.Deep.DeepCutAuto
import Derived.Deep.LoopGhost
import Derived.Deep.RegionHeld3
import Derived.Lib.SmallJoins
import Derived.Maps.AppendAt
import Derived.Laws.IdiomStrings
import Derived.Lib.AppendZeros
namespace Go.Proofs.Ytfdebooimbbdbaa
open Go.RowKit
set_option linter.unusedVariables false
set_option linter.unusedSimpArgs false
theorem chk_free {S : St} {i : Nat} (h : S.gone = false) (hi : i < 4) : chk S i = 0 := by
  unfold chk
  rw [if_neg (by simp [h]), if_neg (by omega)]
theorem spd_free {S : St} (h : S.lim < 0) : spd S = (S, 0) := by
  unfold spd
  rw [if_neg (by omega), if_neg (by omega)]
theorem app_free {S : St} {i : Nat} (h : S.gone = false) (hl : S.lim < 0) (hi : i < 4) (t : ByteArray) (ht : (S.f i).size + t.size ≤ 1048576) : app S i t = ({ S with f := put S.f i (S.f i ++ t) }, 0) := by
  unfold app full
  rw [chk_free h hi, if_neg (by simp), if_neg (by simp; omega), chg_0 _ _ (by rw [spd_free hl]), spd_free hl]
  rfl
theorem syn_free {S : St} {i : Nat} (h : S.gone = false) (hl : S.lim < 0) (hi : i < 4) : syn S i = ({ S with s := put S.s i (S.f i).size }, 0) := by
  unfold syn
  rw [chk_free h hi, chg_0 _ _ (by rw [spd_free hl]), spd_free hl]
  rfl
def st1 : St := { new with f := put new.f 0 (new.f 0 ++ ⟨#[97, 98, 99]⟩) }
def st2 : St := { st1 with s := put st1.s 0 (st1.f 0).size }
def st3 : St := { st2 with f := put st2.f 0 (st2.f 0 ++ ⟨#[100, 101, 102]⟩) }
def kp2 : Nat → Int := fun j => if j = 0 then 2 else 0
theorem st1_is : app new 0 ⟨#[97, 98, 99]⟩ = (st1, 0) := app_free (i := 0) rfl (by decide) (by omega) _ (by decide)
theorem st2_is : syn st1 0 = (st2, 0) := syn_free (i := 0) rfl (by decide) (by omega)
theorem st3_is : app st2 0 ⟨#[100, 101, 102]⟩ = (st3, 0) := app_free (i := 0) rfl (by decide) (by omega) _ (by decide)
theorem st1_ok : Ok st1 := by have := app_ok new_ok 0 ⟨#[97, 98, 99]⟩; rw [st1_is] at this; exact this
theorem st2_ok : Ok st2 := by have := syn_ok st1_ok 0; rw [st2_is] at this; exact this
theorem st3_ok : Ok st3 := by have := app_ok st2_ok 0 ⟨#[100, 101, 102]⟩; rw [st3_is] at this; exact this
theorem st4_rd : rd (crs st3 kp2) 0 = ⟨#[97, 98, 99, 100, 101]⟩ := by
  have h : chk (crs st3 kp2) 0 = 0 := chk_free (i := 0) rfl (by omega)
  unfold rd
  rw [if_pos h]
  decide
theorem st4_chk : chk (crs st3 kp2) 0 = 0 := chk_free (i := 0) rfl (by omega)
theorem below_of_fr {p : Nat} {w w1 w2 : World} (h : Below w.heap.size w w1) (k : Fr w.heap.size p w1 w2) : Below w.heap.size w w2 := h.trans k.1
set_option maxHeartbeats 1000000 in
theorem xawake (w : World) : Calls Try.prog 12 #[] w fun e w' => e = .returned (.bool true) ∧ Below w.heap.size w w' := by
  go_enter Try.func12, Try.ntmps12
  go_wp2_with fail
  refine (xnew w.heap.size _ (Nat.le_refl _)).mono ?_
  rintro e w1 ⟨rfl, ⟨V1, hd1⟩, hb1⟩
  have D1 : Hid (Dk w.heap.size w1 w.heap.size new V1) := hd1
  have B1 : Hid (Below w.heap.size w w1) := hb1
  clear hd1 hb1
  generalize hp : w.heap.size = p at *
  have HP : Hid (w.heap.size = p) := hp
  clear hp
  go_wp2_with fail
  refine (xappend p p new V1 _ D1.out new_ok 0 _ (by unfold maxLen; decide)).mono ?_
  rw [st1_is]
  rintro e w2 ⟨rfl, V2, hd2⟩
  have D2 : Hid (Dk p w2 p st1 V2) := hd2.1
  have B2 : Hid (Below p w w2) := B1.out.trans hd2.2.1
  clear hd2 D1 B1
  go_wp2_with fail
  refine (xsyncD p p st1 V2 _ D2.out st1_ok 0).mono ?_
  rw [st2_is]
  rintro e w3 ⟨rfl, hd3⟩
  have D3 : Hid (Dk p w3 p st2 V2) := hd3.1
  have B3 : Hid (Below p w w3) := B2.out.trans hd3.2.1
  clear hd3 D2 B2
  go_wp2_with fail
  refine (xappend p p st2 V2 _ D3.out st2_ok 0 _ (by unfold maxLen; decide)).mono ?_
  rw [st3_is]
  rintro e w4 ⟨rfl, V4, hd4⟩
  have D4 : Hid (Dk p w4 p st3 V4) := hd4.1
  have B4 : Hid (Below p w w4) := B3.out.trans hd4.2.1
  clear hd4 D3 B3
  go_wp2_with fail
  refine (xcrash p p st3 V4 _ D4.out st3_ok kp2 (by intro j; unfold kp2; split <;> omega)).mono ?_
  rintro e w5 ⟨rfl, V5, hd5⟩
  have D5 : Hid (Dk p w5 p (crs st3 kp2) V5) := hd5.1
  have B5 : Hid (Below p w w5) := B4.out.trans hd5.2.1
  clear hd5 D4 B4
  go_wp2_with fail
  refine (xread p p (crs st3 kp2) V5 _ D5.out 0).mono ?_
  rw [st4_rd, st4_chk]
  rintro e w6 ⟨rfl, rfl⟩
  go_wp2_with fail
  go_ret
  exact ⟨rfl, by rw [HP.out]; exact B5.out⟩
end Go.Proofs.Ytfdebooimbbdbaa
