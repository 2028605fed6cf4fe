/- layer 15, numbers: how much so many cover, how few cover an amount, and how many cover at most one -/
import Derived.Test.YtdfadcbchiogjaaGreatWA
import Derived.WalkKit
import Derived.ProofKit
import Derived.Handy
import Derived.WalkLawsBesides
import Derived.WalkSpells
import Derived.BigQuiet
import Derived.BigCall
import Derived.Deep.QuietTactic
import Derived.Deep.Light
import Derived.Deep.OwnRows
import Derived.Laws.AppendOwnNone
import Derived.Laws.Strings3
import Derived.Laws.RangeAny
import Derived.Deep.RegionWith
import Derived.Lib.BitFns
import Derived.Lib.Walk
import Derived.Lib.Strings
import Derived.Lib.OthersKept
import Derived.Deep.CutBlock
import Derived.Deep.DeepCutAuto
import Derived.Deep.LoopGhost
import Derived.Deep.RegionHeld3
import Derived.Lib.SmallJoins
import Derived.Maps.AppendAt
import Derived.Laws.IdiomStrings
import Derived.Lib.AppendZeros
import Derived.Deep.WholeRow
import Derived.Laws.BitsAllLaws
import Derived.Lib.ConvBytes
import Derived.Deep.RegionLaw
namespace Go.Proofs.YtdfadcbchiogjaaGreat.H5
open Go.RowKit
set_option linter.unusedVariables false
set_option linter.unusedSimpArgs false
set_option maxRecDepth 20000
open N1
abbrev Gd (p c : Int) : Prop := (1 ≤ p ∧ p ≤ 4294967296) ∧ (0 ≤ c ∧ c < 1000000)
abbrev Qk (q : Int) : Prop := 0 ≤ q ∧ q ≤ 1125899906842624
def gdB (p c : Int) : Bool := decide (Gd p c)
def qkB (q : Int) : Bool := decide (Qk q)
def cv (q p c : Int) : Int := q * p / 1000000 * (1000000 - c) / 1000000
def coS (q p c : Int) : Int := if Gd p c ∧ Qk q then cv q p c else 0
def coE (q p c : Int) : Int := if Gd p c ∧ Qk q then 0 else 1
theorem co_yes {q p c : Int} (h : Gd p c) (k : Qk q) : coS q p c = cv q p c ∧ coE q p c = 0 := ⟨if_pos ⟨h, k⟩, if_pos ⟨h, k⟩⟩
theorem co_no {q p c : Int} (h : ¬ (Gd p c ∧ Qk q)) : coS q p c = 0 ∧ coE q p c = 1 := ⟨if_neg h, if_neg h⟩
def up (a b : Int) : Int := -(-a / b)
theorem up_le {a b : Int} (hb : 0 < b) (q : Int) : up a b ≤ q ↔ a ≤ q * b := by
  unfold up
  have h := Int.le_ediv_iff_mul_le (a := -q) (b := -a) hb
  rw [Int.neg_mul] at h
  omega
def lq (need p c : Int) : Int := up (up (need * 1000000) (1000000 - c) * 1000000) p
theorem cv_iff {p c : Int} (hg : Gd p c) (need q : Int) : need ≤ cv q p c ↔ lq need p c ≤ q := by
  unfold cv lq
  rw [up_le (by omega), Int.le_ediv_iff_mul_le (by omega), ← up_le (by omega), Int.le_ediv_iff_mul_le (by omega)]
theorem cv_mono {p c : Int} (hg : Gd p c) {a b : Int} (h : a ≤ b) : cv a p c ≤ cv b p c :=
  (cv_iff hg _ _).2 (Int.le_trans ((cv_iff hg _ _).1 (Int.le_refl _)) h)
theorem cv_bounds {q p c : Int} (hg : Gd p c) (hq : Qk q) : 0 ≤ cv q p c ∧ cv q p c ≤ 4835703278458516698 := by
  have hf := wo_fits (q := q) (p := p) ⟨hq, hg.1⟩
  unfold cv
  generalize q * p / 1000000 = x at *
  have h1 : 0 ≤ x * (1000000 - c) := Int.mul_nonneg hf.1 (by omega)
  have h2 : x * (1000000 - c) ≤ x * 1000000 := Int.mul_le_mul_of_nonneg_left (by omega) hf.1
  generalize x * (1000000 - c) = y at *
  omega
theorem cv_cut {q p c d : Int} (hg : 1 ≤ p) (hq : 0 ≤ q) (h : c ≤ d) : cv q p d ≤ cv q p c := by
  unfold cv
  have h0 : 0 ≤ q * p / 1000000 := Int.ediv_nonneg (Int.mul_nonneg hq (by omega)) (by omega)
  generalize q * p / 1000000 = x at *
  have h2 : x * (1000000 - d) ≤ x * (1000000 - c) := Int.mul_le_mul_of_nonneg_left (by omega) h0
  generalize x * (1000000 - d) = y at *
  generalize x * (1000000 - c) = z at *
  omega
theorem cv_zero (p c : Int) : cv 0 p c = 0 := by unfold cv; simp
theorem lq_nonneg {need p c : Int} (hg : Gd p c) (hn : 0 ≤ need) : 0 ≤ lq need p c := by
  rcases (by omega : lq need p c < 0 ∨ 0 ≤ lq need p c) with h | h
  · have h1 := (cv_iff hg need (-1)).2 (by omega)
    have h2 : cv (-1) p c < 0 := by
      unfold cv
      have h3 : -1 * p / 1000000 < 0 := by omega
      generalize -1 * p / 1000000 = x at *
      have h4 : x * (1000000 - c) < 0 := Int.mul_neg_of_neg_of_pos h3 (by omega)
      generalize x * (1000000 - c) = y at *
      omega
    omega
  · exact h
theorem lq_least {need p c : Int} (hg : Gd p c) : need ≤ cv (lq need p c) p c := (cv_iff hg _ _).2 (Int.le_refl _)
/-- beyond what any may cover -/
theorem lq_far {need p c : Int} (hg : Gd p c) (h : 4835703278458516698 < need) : 1125899906842624 < lq need p c := by
  rcases (by omega : 1125899906842624 < lq need p c ∨ lq need p c ≤ 1125899906842624) with k | k
  · exact k
  · have := (cv_iff hg need 1125899906842624).2 k
    have := (cv_bounds (q := 1125899906842624) hg (by omega)).2
    omega
abbrev LeY (need p c : Int) : Prop := Gd p c ∧ 0 ≤ need ∧ lq need p c ≤ 1125899906842624
def leS (need p c : Int) : Int := if LeY need p c then lq need p c else 0
def leB (need p c : Int) : Bool := decide (LeY need p c)
def wiN (limit p c qty : Int) : Int := min (lq (limit + 1) p c) (qty + 1)
def moS (limit p c qty : Int) : Int := if 0 ≤ limit ∧ Qk qty ∧ Gd p c then wiN limit p c qty - 1 else -1
theorem wi_bounds {limit p c qty : Int} (hg : Gd p c) (hl : -1 ≤ limit) (hq : Qk qty) : 0 ≤ wiN limit p c qty ∧ wiN limit p c qty ≤ qty + 1 := by
  have := lq_nonneg (need := limit + 1) hg (by omega)
  unfold wiN
  omega
/-- the middle covers no more than the limit just if it is below the number sought -/
theorem wi_iff {limit p c qty : Int} (hg : Gd p c) {m : Int} (hm : m ≤ qty) : cv m p c ≤ limit ↔ m < wiN limit p c qty := by
  have := cv_iff hg (limit + 1) m
  unfold wiN
  omega
/-- reckoned back: the document's way -/
theorem md_ceil (a b c : Int) (hc : 0 < c) (ha : 0 ≤ a) (hb : 0 ≤ b) : mdN a b c 2 = up (a * b) c := by
  have hcn : (c.natAbs : Int) = c := by omega
  have hneg : negB a b c = false := by simp [negB, show ¬ c < 0 by omega, show ¬ a < 0 by omega, show ¬ b < 0 by omega]
  have h0 : 0 ≤ a * b := Int.mul_nonneg ha hb
  rw [mdN, mdQ, hcn, hneg, show (a.natAbs : Int) = a by omega, show (b.natAbs : Int) = b by omega]
  unfold up
  generalize a * b = x at *
  have h1 := Int.mul_ediv_add_emod x c
  have h2 := Int.emod_nonneg x (show c ≠ 0 by omega)
  have h3 := Int.emod_lt_of_pos x hc
  by_cases hr : x % c = 0
  · have : awayB 2 (x % c) c (x / c) false = false := by simp [awayB, hr]
    rw [this]
    simp only [sgnd, if_false, Bool.false_eq_true]
    have : -x / c = -(x / c) := by
      refine (Int.ediv_eq_iff_of_pos hc).2 ?_
      have e1 : -(x / c) * c = -(c * (x / c)) := by rw [Int.neg_mul, Int.mul_comm]
      omega
    omega
  · have : awayB 2 (x % c) c (x / c) false = true := by simp [awayB, hr]
    rw [this]
    simp only [sgnd, if_true, if_false, Bool.false_eq_true]
    have : -x / c = -(x / c + 1) := by
      refine (Int.ediv_eq_iff_of_pos hc).2 ?_
      have e1 : -(x / c + 1) * c = -(c * (x / c)) - c := by rw [Int.neg_mul, Int.add_mul, Int.mul_comm]; omega
      omega
    omega
theorem up_nonneg {a b : Int} (ha : 0 ≤ a) (hb : 0 < b) : 0 ≤ up a b := by
  rcases (by omega : up a b ≤ -1 ∨ 0 ≤ up a b) with h | h
  · have := (up_le hb (-1)).1 h
    omega
  · exact h
theorem md_up {a b c : Int} (hc : 0 < c) (ha : 0 ≤ a) (hb : 0 ≤ b) : mdS a b c 2 = fitS (up (a * b) c) ∧ mdE a b c 2 = fitE (up (a * b) c) := by
  rw [mdS, mdE, if_neg (by omega), if_neg (by omega), md_ceil a b c hc ha hb]
  exact ⟨rfl, rfl⟩
/-- the worth that covers enough, and the quantity that is worth it, are small enough, or there is none -/
theorem le_worth {need p c : Int} (hg : Gd p c) (hn : 0 ≤ need) (h : ¬ up (need * 1000000) (1000000 - c) ≤ 9223372036854775807) : ¬ LeY need p c := by
  rintro ⟨_, _, h1⟩
  have h2 := (cv_iff hg need 1125899906842624).2 h1
  have h3 := wo_fits (q := 1125899906842624) (p := p) ⟨by omega, hg.1⟩
  unfold cv at h2
  rw [Int.le_ediv_iff_mul_le (by omega), ← up_le (by omega)] at h2
  omega
end Go.Proofs.YtdfadcbchiogjaaGreat.H5
