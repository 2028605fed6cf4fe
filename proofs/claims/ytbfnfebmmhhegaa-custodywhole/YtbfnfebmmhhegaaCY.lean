/- layer 12, numbers: what all members have is what came from outside -/
import Derived.Test.YtbfnfebmmhhegaaCU
import Derived.WalkKit
import Derived.ProofKit
import Derived.Handy
import Derived.WalkLawsBesides
import Derived.WalkSpells
import Derived.BigQuiet
import Derived.BigCall
import Derived.Deep.QuietTactic
import Derived.Deep.Light
import Derived.Deep.OwnRows
import Derived.Laws.AppendOwnNone
import Derived.Laws.Strings3
import Derived.Laws.RangeAny
import Derived.Deep.RegionWith
import Derived.Lib.BitFns
import Derived.Lib.Walk
import Derived.Lib.Strings
import Derived.Lib.OthersKept
import Derived.Deep.CutBlock
import Derived.Deep.DeepCutAuto
import Derived.Deep.LoopGhost
import Derived.Deep.RegionHeld3
import Derived.Lib.SmallJoins
import Derived.Maps.AppendAt
import Derived.Laws.IdiomStrings
import Derived.Lib.AppendZeros
import Derived.Deep.WholeRow
import Derived.Laws.BitsAllLaws
import Derived.Lib.ConvBytes
import Derived.Deep.RegionLaw
import Derived.Maps.OwnSet
import Derived.Maps.OwnOps
import Derived.Maps.RangeWalk
import Derived.Maps.Ext
import Derived.DeepKeys4
import Derived.Laws.StructEq
import Derived.Shelf.SlSortCmp.NoneTotal
import Derived.Deep.MidRow
import Derived.Laws.MakeOwn
import Derived.Sort.OwnSorted
import Derived.Lib.SlicesCompact
import Derived.Lib.RowBridge
namespace Go.Proofs.Ytbfnfebmmhhegaa
open Go.RowKit
set_option linter.unusedVariables false
set_option linter.unusedSimpArgs false
/-- members' books, and the world's, alone -/
def Mem (L : List Num.Bal) : Prop := ∀ p ∈ L, (p.1.1 = 0 ∧ p.1.2.1 = 0) ∨ wrm p.1.1 p.1.2.1 = false
def okA (a : Num.Acc) : Prop := (a.1 = 0 ∧ a.2.1 = 0) ∨ wrm a.1 a.2.1 = false
theorem Mem.nil : Mem [] := fun p hp => (List.not_mem_nil hp).elim
theorem Mem.set {L : List Num.Bal} (h : Mem L) {a : Num.Acc} (ha : okA a) (n : Int) : Mem (Num.set L a n) := fun p hp => by
  rcases Num.mem_setF hp with ⟨h1, _⟩ | ⟨rfl, _⟩
  · exact h p h1
  · exact ha
theorem Mem.run : ∀ {L : List Num.Bal} (h : Mem L) (es : List Num.Ent), (∀ e ∈ es, okA e.1 ∧ okA e.2.1) → Mem (Num.run L es)
  | _, h, [], _ => h
  | L, h, e :: r, he => by
    unfold Num.run
    split
    · refine Mem.run ?_ r (fun x hx => he x (by simp [hx]))
      unfold Num.mv
      exact (h.set (he e (by simp)).1 _).set (he e (by simp)).2 _
    · exact h
theorem Mem.post {L : List Num.Bal} (h : Mem L) {es : List Num.Ent} (he : ∀ e ∈ es, okA e.1 ∧ okA e.2.1) : Mem (Num.post L es) := by
  unfold Num.post
  split
  · exact h.run es he
  · exact h
theorem Mem.mvL {L : List Num.Bal} (h : Mem L) (xs : List Ln) : Mem (mvL L xs) := by
  unfold Ytbfnfebmmhhegaa.mvL
  split
  · exact h
  · rename_i hf
    refine h.post (fun e he => ?_)
    obtain ⟨x, hx, rfl⟩ := List.mem_map.1 he
    have := List.findIdx?_eq_none_iff.1 hf x hx
    unfold Ln.st at this
    simp only [Bool.or_eq_false_iff] at this
    exact ⟨.inr this.1, .inr this.2⟩
theorem Mem.brL {L : List Num.Bal} (h : Mem L) (m : Int) (s : List UInt8) (n : Int) : Mem (brL L m s n) := by
  unfold Ytbfnfebmmhhegaa.brL
  split
  · exact h
  · rename_i hf
    have hf' : wrm m 1 = false := by simpa using hf
    refine h.post (fun e he => ?_)
    rw [List.mem_singleton.1 he]
    unfold brEnt
    split
    · exact ⟨.inr hf', .inl ⟨rfl, rfl⟩⟩
    · exact ⟨.inl ⟨rfl, rfl⟩, .inr hf'⟩
theorem Mem.ac {L : List Num.Bal} (h : Mem L) (x : Ac) : Mem (Ac.L L x) := by
  unfold Ac.L
  split
  · exact h.brL _ _ _
  split
  · exact h.mvL _
  split
  · exact h.mvL _
  · exact h.mvL _
theorem tot_mvL {L : List Num.Bal} (g : Num.Good L) (xs : List Ln) (t : List UInt8) : Num.tot t (mvL L xs) = Num.tot t L := by
  unfold mvL
  split
  · rfl
  · exact Num.tot_post t g _
theorem tot_brL {L : List Num.Bal} (g : Num.Good L) (m : Int) (s : List UInt8) (n : Int) (t : List UInt8) : Num.tot t (brL L m s n) = Num.tot t L := by
  unfold brL
  split
  · rfl
  · exact Num.tot_post t g _
theorem tot_ac {L : List Num.Bal} (g : Num.Good L) (x : Ac) (t : List UInt8) : Num.tot t (Ac.L L x) = Num.tot t L := by
  unfold Ac.L
  split
  · exact tot_brL g _ _ _ t
  split
  · exact tot_mvL g _ t
  split
  · exact tot_mvL g _ t
  · exact tot_mvL g _ t
/-- what a member has of a thing -/
def pos (L : List Num.Bal) (t : List UInt8) (m : Int) : Int := Num.get L (m, 1, t) + Num.get L (m, 2, t) + Num.get L (m, 3, t) + Num.get L (m, 4, t)
/-- what the first members have -/
def psum (L : List Num.Bal) (t : List UInt8) : Nat → Int
  | 0 => 0
  | n + 1 => psum L t n + pos L t ((n : Int) + 1)
def ind (p : Num.Bal) (t : List UInt8) (m : Int) : Int := if p.1.2.2 = t ∧ p.1.1 = m ∧ 1 ≤ p.1.2.1 ∧ p.1.2.1 ≤ 4 then p.2 else 0
theorem acc_eq {p : Num.Bal} {m b : Int} {t : List UInt8} : p.1 = (m, b, t) ↔ p.1.1 = m ∧ p.1.2.1 = b ∧ p.1.2.2 = t := by
  obtain ⟨⟨o, k, s⟩, n⟩ := p
  simp
theorem pos_cons {p : Num.Bal} {r : List Num.Bal} (h : Num.get r p.1 = 0) (t : List UInt8) (m : Int) : pos (p :: r) t m = pos r t m + ind p t m := by
  have hg : ∀ b : Int, Num.get (p :: r) (m, b, t) = Num.get r (m, b, t) + (if p.1.1 = m ∧ p.1.2.1 = b ∧ p.1.2.2 = t then p.2 else 0) := fun b => by
    by_cases e : p.1 = (m, b, t)
    · have e2 := acc_eq.1 e
      rw [if_pos e2]
      simp only [Num.get, if_pos e]
      rw [← e, h]
      omega
    · rw [if_neg (fun e2 => e (acc_eq.2 e2))]
      simp only [Num.get, if_neg e]
      omega
  unfold pos ind
  rw [hg 1, hg 2, hg 3, hg 4]
  by_cases h1 : p.1.1 = m
  · by_cases h2 : p.1.2.2 = t
    · simp only [h1, h2, true_and, and_true]
      split <;> split <;> split <;> split <;> split <;> omega
    · simp only [h2, false_and, and_false, if_false]; omega
  · simp only [h1, false_and, and_false, if_false]; omega
theorem psum_nil (t : List UInt8) : ∀ n, psum [] t n = 0
  | 0 => rfl
  | n + 1 => by simp [psum, psum_nil t n, pos, Num.get]
theorem psum_cons {p : Num.Bal} {r : List Num.Bal} (h : Num.get r p.1 = 0) (t : List UInt8) : ∀ n : Nat, psum (p :: r) t n = psum r t n + (if p.1.2.2 = t ∧ 1 ≤ p.1.1 ∧ p.1.1 ≤ n ∧ 1 ≤ p.1.2.1 ∧ p.1.2.1 ≤ 4 then p.2 else 0)
  | 0 => by
    simp only [psum]
    rw [if_neg (by omega)]
    omega
  | n + 1 => by
    simp only [psum]
    rw [psum_cons h t n, pos_cons h]
    unfold ind
    by_cases h2 : p.1.2.2 = t
    · simp only [h2, true_and]
      split <;> split <;> split <;> omega
    · simp only [h2, false_and, if_false]; omega
theorem psum_tot (t : List UInt8) : ∀ {L : List Num.Bal}, Num.Srt L → Mem L → psum L t 32 + Num.hld 0 t L = Num.tot t L
  | [], _, _ => by simp [psum_nil, Num.hld, Num.tot]
  | p :: r, hs, hm => by
    obtain ⟨h1, h2⟩ := List.pairwise_cons.1 hs
    have h0 : Num.get r p.1 = 0 := Num.get_none (fun q hq e => Num.ahead_ne (h1 q hq) e.symm)
    have ih := psum_tot t h2 (fun q hq => hm q (by simp [hq]))
    rw [psum_cons h0]
    simp only [Num.hld, Num.tot]
    by_cases c : p.1.2.2 = t
    · rcases hm p (by simp) with ⟨e1, e2⟩ | e
      · rw [if_neg (by omega), if_pos ⟨e1, c⟩, if_pos c]; omega
      · have := wrm_ok e
        rw [if_pos ⟨c, by omega, by omega, by omega, by omega⟩, if_neg (fun h => by have := h.1; omega), if_pos c]; omega
    · rw [if_neg (fun h => c h.1), if_neg (fun h => c h.2), if_neg c]; omega
theorem out_sum {L : List Num.Bal} (g : Num.Good L) (h : Mem L) {t : List UInt8} (h0 : Num.tot t L = 0) : wrap64 (-(wrap64 (Num.hld 0 t L))) = wrap64 (psum L t 32) := by
  have := psum_tot t g.srt h
  have e : psum L t 32 = -(Num.hld 0 t L) := by omega
  rw [e]
  unfold wrap64
  omega
theorem wrap_pos (a b c d : Int) : wrap64 (wrap64 (wrap64 (a + b) + c) + d) = wrap64 (a + b + c + d) := by unfold wrap64; omega
theorem wrap_sum (x y : Int) : wrap64 (wrap64 x + wrap64 y) = wrap64 (x + y) := by unfold wrap64; omega
theorem cmp_mem {L : List Num.Bal} {t : List UInt8} (h : t ∈ cmp L) : ∃ p ∈ L, p.1.2.2 = t := by
  unfold cmp Lib.compact Lib.compactUpTo at h
  obtain ⟨j, hj, rfl⟩ := List.mem_map.1 h
  have hj' : j < (tg L).length := by simpa using (List.mem_filter.1 hj).1
  have hjl : j < L.length := by rw [tg_len] at hj'; exact hj'
  refine ⟨L[j], List.getElem_mem hjl, ?_⟩
  rw [getElem!_pos _ _ (by simpa using hj')]
  simp [tg]
end Go.Proofs.Ytbfnfebmmhhegaa
