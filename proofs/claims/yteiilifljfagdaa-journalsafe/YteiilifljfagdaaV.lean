/- Crash and Open of a journal that ran; a row of texts beside it. -/
import Derived.Test.YteiilifljfagdaaS
import Derived.WalkKit
import Derived.ProofKit
import Derived.Handy
import Derived.WalkLawsBesides
import Derived.WalkSpells
import Derived.BigQuiet
import Derived.BigCall
import Derived.Deep.QuietTactic
import Derived.Deep.Light
import Derived.Deep.OwnRows
import Derived.Laws.AppendOwnNone
import Derived.Laws.Strings3
import Derived.Laws.RangeAny
import Derived.Deep.RegionWith
import Derived.Lib.BitFns
import Derived.Lib.Walk
import Derived.Lib.Strings
import Derived.Lib.OthersKept
import Derived.Deep.CutBlock
import Derived.Deep.DeepCutAuto
import Derived.Deep.LoopGhost
import Derived.Deep.RegionHeld3
import Derived.Lib.SmallJoins
import Derived.Maps.AppendAt
import Derived.Laws.IdiomStrings
import Derived.Lib.AppendZeros
import Derived.Deep.WholeRow
import Derived.Laws.BitsAllLaws
import Derived.Lib.ConvBytes
import Derived.Deep.RegionLaw
namespace Go.Proofs.Yteiilifljfagdaa
open Go.RowKit
set_option linter.unusedVariables false
set_option linter.unusedSimpArgs false
theorem ba_ext {a b : ByteArray} (h : a.data.toList = b.data.toList) : a = b := by
  obtain ⟨⟨a⟩⟩ := a
  obtain ⟨⟨b⟩⟩ := b
  simp only at h
  rw [h]
theorem ls_inj : ∀ {a b : List ByteArray}, ls a = ls b → a = b := by
  intro a
  induction a with
  | nil =>
    intro b h
    cases b with
    | nil => rfl
    | cons x l => cases h
  | cons x l ih =>
    intro b h
    cases b with
    | nil => cases h
    | cons y m =>
      have h' : x.data.toList :: ls l = y.data.toList :: ls m := h
      injection h' with h1 h2
      rw [ba_ext h1, ih h2]
/-- Open of a journal that ran -/
def FoP (B p : Nat) (S : St) (f g a : Nat) (s : ByteArray) (cs : List ByteArray) (w : World) (e : Ending) (w' : World) : Prop :=
  ∃ (q : Nat) (S' : St) (V' : Nat → Value) (v : Value), e = .returned (.tuple #[.pointer (some ⟨q, 0, none⟩), .int .i64 0]) ∧ Hid (Lv B w' q p S' V' f g a s v cs) ∧ Hid (S'.lim < 0) ∧ Hid (Fr B p w w') ∧ Hid (∀ i, S'.f i = S.f i) ∧ Hid (∀ k, v.ownBlock = some k → w.heap.size ≤ k) ∧ Hid (w.heap.size ≤ q)
theorem fopen {B p f g a : Nat} {w : World} {S : St} {V : Nat → Value} {s : ByteArray} {cs : List ByteArray} (hd : Dk B w p S V) (hr : Run S f g a s.data.toList (ls cs)) (hl : S.lim < 0) : Calls Try.prog 28 #[.pointer (some ⟨p, 0, none⟩)] w (FoP B p S f g a s cs w) := by
  refine (xopen B p S V w hd hr.disk hr.on).mono ?_
  rintro e w' ⟨⟨V', hd'⟩, hf, h⟩
  obtain ⟨o1, ⟨fin, o2⟩, o3, o4, o5⟩ := hr.opened hl
  rcases h with ⟨_, f', j, q, s', u, ys, h2, rfl, h4, h5, h6⟩ | ⟨h1, _⟩
  · rw [o2] at h2
    injection h2 with h2
    injection h2 with e1 e2
    subst e1; subst e2
    obtain rfl : s' = s := ba_ext h5
    obtain rfl : ys = cs := ls_inj h6
    exact ⟨q, _, V', u, rfl, ⟨h4.out.below hd.bw, hd'.out, o3⟩, o5, hf, fun i => ba_ext (o4 i), fun k hk => (h4.out.own.lt k hk).1, h4.out.base⟩
  · exact absurd o1 h1
/-- Crash -/
theorem fcrash {B p : Nat} {w : World} {S : St} {V : Nat → Value} (hd : Dk B w p S V) (ok : Ok S) (K : Nat → Int) (hK : ∀ j, -9223372036854775808 ≤ K j ∧ K j ≤ 9223372036854775807) : Calls Try.prog 27 #[.pointer (some ⟨p, 0, none⟩), .agg (kcells K)] w fun e w' => e = .returned (.tuple #[]) ∧ ∃ V', Hid (Dk B w' p (crs S K) V') ∧ Hid (Fr B p w w') :=
  (xcrash B p S V w hd ok K hK).mono fun e w' ⟨h1, V', h2⟩ => ⟨h1, V', h2.1, h2.2⟩
/-- a row of texts beside a journal -/
theorem own_jf {B B2 p q f g a n : Nat} {w w' : World} {S : St} {V : Nat → Value} {s : ByteArray} {v u : Value} {cs : List ByteArray} {xs : List Value} (h : Lv B w q p S V f g a s v cs) (ho : w.ownsRow B2 9 1 u n xs) (hne : ∀ k, u.ownBlock = some k → v.ownBlock ≠ some k) (hf : Jf B p q v.ownBlock w w') : w'.ownsRow B2 9 1 u n xs := by
  refine ⟨ho.1, ?_⟩
  rcases ho.2 with z | ⟨k, cap, cur, hv, hb, hk, z⟩
  · exact .inl z
  · refine .inr ⟨k, cap, cur, hv, hb, hf.2 k _ hk (blk_ne hk h.d.blk (by decide)) (blk_ne hk h.j.blk (by decide)) (fun e => hne k (by rw [hv]; rfl) e.symm) ?_, z⟩
    intro cs f e
    injection e with _ e2 _
    exact absurd e2 (by decide)
/-- a row of texts through a change of the disk -/
theorem own_fr {B B2 p n : Nat} {w w' : World} {S : St} {V : Nat → Value} {u : Value} {xs : List Value} (hd : Dk B w p S V) (ho : w.ownsRow B2 9 1 u n xs) (hf : Fr B p w w') : w'.ownsRow B2 9 1 u n xs := by
  refine ⟨ho.1, ?_⟩
  rcases ho.2 with z | ⟨k, cap, cur, hv, hb, hk, z⟩
  · exact .inl z
  · exact .inr ⟨k, cap, cur, hv, hb, hf.keep hk (by decide) (blk_ne hk hd.blk (by decide)), z⟩
/-- a disk, and a journal, through an append to a row of texts beside them -/
theorem Dk.grown9 {B B2 p n : Nat} {w w' : World} {S : St} {V : Nat → Value} {u : Value} {xs : List Value} (hd : Dk B w p S V) (ho : w.ownsRow B2 9 1 u n xs) (hg : w.grownBy w' u.ownBlock) : Dk B w' p S V := by
  refine hd.same ?_ (fun i k hi hk => ?_)
  · exact hg.block p hd.lt (fun e => own_ne9 ho hd.blk (by decide) e.symm)
  · refine hg.block k ((hd.own i hi).lt k hk).2 ?_
    intro e
    rcases (hd.own i hi).2 with ⟨hv, _⟩ | ⟨k2, cap, cur, hv, _, hk2, _⟩
    · rw [hv] at hk; cases hk
    · rw [hv] at hk
      obtain rfl : k2 = k := Option.some.inj hk
      exact own_ne9 ho hk2 (by decide) e.symm
theorem Lv.grown9 {B B2 p q f g a n : Nat} {w w' : World} {S : St} {V : Nat → Value} {s : ByteArray} {v u : Value} {cs : List ByteArray} {xs : List Value} (h : Lv B w q p S V f g a s v cs) (ho : w.ownsRow B2 9 1 u n xs) (hne : ∀ k, u.ownBlock = some k → v.ownBlock ≠ some k) (hg : w.grownBy w' u.ownBlock) : Lv B w' q p S V f g a s v cs := by
  refine ⟨⟨h.j.base, ?_, own_blk h.j.own fun k hk => ?_⟩, h.d.grown9 ho hg, h.r⟩
  · exact (hg.block q h.j.lt (fun e => own_ne9 ho h.j.blk (by decide) e.symm)).trans h.j.blk
  · exact hg.block k (h.j.own.lt k hk).2 (fun e => hne k e.symm hk)
/-- the commands that are taken -/
def tk (l : List ByteArray) : List ByteArray := l.filter fun c => decide (c.size ≤ 4096)
theorem tk_yes {l : List ByteArray} {k : Nat} (h : k < l.length) (hc : l[k].size ≤ 4096) : tk (l.take (k + 1)) = tk (l.take k) ++ [l[k]] := by
  unfold tk
  rw [take_get h, List.filter_append]
  simp [hc]
theorem tk_no {l : List ByteArray} {k : Nat} (h : k < l.length) (hc : ¬ l[k].size ≤ 4096) : tk (l.take (k + 1)) = tk (l.take k) := by
  unfold tk
  rw [take_get h, List.filter_append]
  simp [hc]
theorem tk_len (l : List ByteArray) : (tk l).length ≤ l.length := List.length_filter_le ..
theorem tk_tot (l : List ByteArray) : tot (tk l) ≤ tot l := by
  induction l with
  | nil => exact Nat.le_refl _
  | cons a l ih =>
    unfold tk
    by_cases h : a.size ≤ 4096
    · rw [List.filter_cons_of_pos (by simpa using h)]
      show a.size + tot (tk l) ≤ a.size + tot l
      omega
    · rw [List.filter_cons_of_neg (by simpa using h)]
      show tot (tk l) ≤ a.size + tot l
      omega
end Go.Proofs.Yteiilifljfagdaa
