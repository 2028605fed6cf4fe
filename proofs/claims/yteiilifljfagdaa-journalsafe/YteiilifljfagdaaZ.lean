/- Opening in the midst: what is kept stays kept; commands told again. -/
import Derived.Test.YteiilifljfagdaaW
import Derived.WalkKit
import Derived.ProofKit
import Derived.Handy
import Derived.WalkLawsBesides
import Derived.WalkSpells
import Derived.BigQuiet
import Derived.BigCall
import Derived.Deep.QuietTactic
import Derived.Deep.Light
import Derived.Deep.OwnRows
import Derived.Laws.AppendOwnNone
import Derived.Laws.Strings3
import Derived.Laws.RangeAny
import Derived.Deep.RegionWith
import Derived.Lib.BitFns
import Derived.Lib.Walk
import Derived.Lib.Strings
import Derived.Lib.OthersKept
import Derived.Deep.CutBlock
import Derived.Deep.DeepCutAuto
import Derived.Deep.LoopGhost
import Derived.Deep.RegionHeld3
import Derived.Lib.SmallJoins
import Derived.Maps.AppendAt
import Derived.Laws.IdiomStrings
import Derived.Lib.AppendZeros
import Derived.Deep.WholeRow
import Derived.Laws.BitsAllLaws
import Derived.Lib.ConvBytes
import Derived.Deep.RegionLaw
namespace Go.Proofs.Yteiilifljfagdaa
open Go.RowKit
set_option linter.unusedVariables false
set_option linter.unusedSimpArgs false
theorem Kept.reopened {S : St} {f g a : Nat} {s : List UInt8} {cs : List (List UInt8)} {c : List UInt8} {N : Nat} {t : List UInt8} (h : Kept S f g a s cs c N t) (hr : ∀ j, S.s j = (S.f j).size) (hg : S.gone = false) : Kept (opn S).1 f g a s cs c N t := by
  obtain ⟨ds, hds, hl, hfin, htk⟩ := h.look
  have hne := ne_other h.f1
  have hle : (lay g a s ++ flat cs).length ≤ (lay g a s ++ flat ds).length := by
    rcases hds with rfl | rfl
    · exact Nat.le_refl _
    · rw [flat_snoc, ← List.append_assoc, @List.length_append _ (lay g a s ++ flat cs) _]; omega
  have hall : ∀ {D : St}, (fl D f = fl S f ∨ fl D f = (fl S f).take (lay g a s ++ flat ds).length) → ∃ k, k ≤ (lay g a s ++ flat (cs ++ [c])).length ∧ fl D f = (lay g a s ++ flat (cs ++ [c])).take k := by
    rintro D (e | e)
    · rw [e]; exact h.all
    · obtain ⟨k, hk, he⟩ := h.all
      refine ⟨min (lay g a s ++ flat ds).length k, by omega, ?_⟩
      rw [e, he, List.take_take]
  have one : Old S (1 - f) g → Kept (opn S).1 f g a s cs c N t := fun ho => by
    have hp : pick S = some (f, ⟨g, a, s, ds, (lay g a s ++ flat ds).length⟩) := pick_f h.f1 hl fun i hi => ho (fl S (1 - f)).length (by rw [hr, fl_len]; exact Nat.le_refl _) (Nat.le_refl _) i (by rw [take_len]; exact hi)
    rcases opn_do hg h.disk h.f1 hp hfin with ⟨o1, o2, o3, o4, o5, o6, o7⟩ | ⟨o1, o2, o3, o4, o5⟩
    · refine ⟨h.f1, h.fit, h.fit2, h.ok, hall (.inr o2), ?_, .inl (ho.same (o4 _ hne).1 (o4 _ hne).2), o6⟩
      rw [o3, ← fl_len, o2]
      show _ ≤ ((fl S f).take (lay g a s ++ flat ds).length).length
      rw [htk]
      exact hle
    · refine ⟨h.f1, h.fit, h.fit2, h.ok, hall (by rcases o4 with ⟨p1, _⟩ | ⟨p1, _⟩; exact .inl p1; exact .inr p1), ?_, .inl (ho.same (o5 _ hne).1 (o5 _ hne).2), o3⟩
      rcases o4 with ⟨_, p2⟩ | ⟨_, p2⟩
      · rw [p2]; exact h.safe
      · rw [p2]
        have hs := h.safe
        show _ ≤ min _ (lay g a s ++ flat ds).length
        omega
  rcases h.other with ho | ⟨k, hk, he⟩
  · exact one ho
  · have hk' : k ≤ (lay (g + 1) N t ++ flat []).length := by rw [List.length_append]; omega
    have he' : fl S (1 - f) = (lay (g + 1) N t ++ flat []).take k := by
      rw [he]
      show _ = (lay (g + 1) N t ++ []).take k
      rw [List.append_nil]
    obtain ⟨t1, t2⟩ := look_torn h.fit2 (ds := []) rfl k hk'
    rw [← he'] at t1 t2
    rcases Nat.lt_or_ge k (lay (g + 1) N t).length with hc | hc
    · exact one (Old.rest (hr _) fun j hj => by rw [t1 hc] at hj; cases hj)
    · obtain ⟨m, m1, m2, _, m4⟩ := t2 hc
      have hm : m = 0 := by simpa using m1
      subst hm
      have hno : 1 - (1 - f) = f := by have := h.f1; omega
      have hfull : fl S (1 - f) = lay (g + 1) N t := by rw [he, List.take_of_length_le hc]
      have hnil : lay (g + 1) N t ++ flat (([] : List (List UInt8)).take 0) = lay (g + 1) N t := by
        show lay (g + 1) N t ++ [] = _
        rw [List.append_nil]
      rw [hnil, List.take_zero] at m4
      have hp : pick S = some (1 - f, ⟨g + 1, N, t, [], (lay (g + 1) N t).length⟩) := pick_f (by omega) m4 fun i hi => by
        rw [hno, hl] at hi
        injection hi with hi
        rw [← hi]
        exact Nat.lt_succ_self g
      have hother : ∀ {D : St}, (fl D (1 - f) = fl S (1 - f) ∨ fl D (1 - f) = (fl S (1 - f)).take (lay (g + 1) N t).length) → ∃ k, k ≤ (lay (g + 1) N t).length ∧ fl D (1 - f) = (lay (g + 1) N t).take k := by
        rintro D (e | e)
        · exact ⟨_, Nat.le_refl _, by rw [e, hfull, take_len]⟩
        · exact ⟨_, Nat.le_refl _, by rw [e, hfull]⟩
      rcases opn_do hg h.disk (by omega) hp (by rw [← fl_len, hfull]; exact Nat.le_refl _) with ⟨o1, o2, o3, o4, o5, o6, o7⟩ | ⟨o1, o2, o3, o4, o5⟩
      · have of := o4 f (fun q => hne q.symm)
        exact ⟨h.f1, h.fit, h.fit2, h.ok, hall (.inl of.1), by rw [of.2]; exact h.safe, .inr (hother (.inr o2)), o6⟩
      · have of := o5 f (fun q => hne q.symm)
        exact ⟨h.f1, h.fit, h.fit2, h.ok, hall (.inl of.1), by rw [of.2]; exact h.safe, .inr (hother (by rcases o4 with ⟨p1, _⟩ | ⟨p1, _⟩; exact .inl p1; exact .inr p1)), o3⟩
theorem Sm.lim (S : St) (n : Int) : Sm S { S with lim := n } := ⟨rfl, rfl⟩
/-- a command of a journal: short, and without a byte 0 -/
def Good (l : List ByteArray) : Prop := ∀ c ∈ l, c.size ≤ 4096 ∧ noZero c.data.toList
theorem Good.snoc {l : List ByteArray} (h : Good l) {c : ByteArray} (h1 : c.size ≤ 4096) (h2 : noZero c.data.toList) : Good (l ++ [c]) := by
  intro x hx
  rcases List.mem_append.1 hx with h' | h'
  · exact h x h'
  · rw [List.mem_singleton] at h'
    subst h'
    exact ⟨h1, h2⟩
theorem tot_good {l : List ByteArray} (h : Good l) : tot l ≤ 4096 * l.length := by
  induction l with
  | nil => exact Nat.le_refl _
  | cons a l ih =>
    have h1 := (h a (List.mem_cons_self ..)).1
    have h2 := ih fun x hx => h x (List.mem_cons_of_mem _ hx)
    show a.size + tot l ≤ 4096 * (l.length + 1)
    omega
theorem joined_good {l : List ByteArray} (h : Good l) : (joined (ls l)).length ≤ 4097 * l.length := by
  have := joined_len (ls l) (fun c hc => by
    obtain ⟨x, hx, rfl⟩ := List.mem_map.1 hc
    exact (h x hx).1)
  rw [ls_len] at this
  exact this
theorem Good.take {l : List ByteArray} (h : Good l) (k : Nat) : Good (l.take k) := fun c hc => h c (List.mem_of_mem_take hc)
theorem Good.drop {l : List ByteArray} (h : Good l) (k : Nat) : Good (l.drop k) := fun c hc => h c (List.mem_of_mem_drop hc)
/-- how great a journal's file is, where few commands were told -/
theorem Tells.small {a : Nat} {s : ByteArray} {cs all : List ByteArray} (h : Tells a s.data.toList (ls cs) (ls all)) (hg : Good all) (hn : all.length ≤ 30) : a ≤ 30 ∧ cs.length ≤ 30 ∧ s.size ≤ 122910 ∧ tot cs ≤ 122880 := by
  have h1 := h.le
  have h2 := h.seq
  rw [ls_len] at h1 h2
  rw [ls_len] at h2
  have h3 : s.size = (joined (ls (all.take a))).length := by
    have : s.data.toList.length = s.size := rfl
    rw [← this, h.st, ls_takeN]
  have h4 := joined_good (hg.take a)
  rw [List.length_take] at h4
  have h5 : cs = all.drop a := ls_inj (by rw [h.cs, ls_dropN])
  have h6 := tot_good (hg.drop a)
  rw [List.length_drop] at h6
  rw [← h5] at h6
  omega
theorem lay_small (g a : Nat) {s : ByteArray} (h : s.size ≤ 122910) : (lay g a s.data.toList).length ≤ 124000 := by
  have := lay_le g a s.data.toList
  have e : s.data.toList.length = s.size := rfl
  omega
end Go.Proofs.Yteiilifljfagdaa
