/- Rows of pairs of numbers in memory: a slice of structs of two ints, as it is handed in. No condition. -/
import Derived.Test.YtdkhpoepdimniaaNg
import Derived.WalkKit
import Derived.ProofKit
import Derived.Handy
import Derived.WalkLawsBesides
import Derived.WalkSpells
import Derived.BigQuiet
import Derived.Deep.QuietTactic
import Derived.Deep.Light
import Derived.Deep.OwnRows
import Derived.Laws.AppendOwnNone
import Derived.Deep.RegionWith
import Derived.Lib.BitFns
import Derived.Lib.Walk
import Derived.Deep.CutBlock
import Derived.Deep.DeepCutAuto
import Derived.Deep.LoopGhost
import Derived.Deep.RegionHeld3
import Derived.Lib.SmallJoins
namespace Go.Proofs.Ytdkhpoepdimniaa
open Go.RowKit
set_option linter.unusedVariables false
set_option linter.unusedSimpArgs false
/-- a slice whose elements read as these pairs -/
def PSeg (w : World) (v : Value) (l : Pairs) : Prop :=
  ∃ a cap, v = .slice a l.length cap ∧ (l ≠ [] → ∃ b off, a = some ⟨b, off, none⟩ ∧ b < w.heap.size ∧ ∀ j, j < l.length → w.cell? ⟨b, off + j * 2, none⟩ = some (.int .i64 (l.at j).1) ∧ w.cell? ⟨b, off + j * 2 + 1, none⟩ = some (.int .i64 (l.at j).2))
def PInts (l : Pairs) : Prop := (∀ j, I64 (l.at j).1 ∧ I64 (l.at j).2) ∧ l.length ≤ 9223372036854775807
theorem PSeg.below {w w' : World} {v : Value} {l : Pairs} (h : PSeg w v l) (hb : Below w.heap.size w w') : PSeg w' v l := by
  obtain ⟨a, cap, rfl, h1⟩ := h
  refine ⟨a, cap, rfl, fun hx => ?_⟩
  obtain ⟨b, off, rfl, hlt, hc⟩ := h1 hx
  exact ⟨b, off, rfl, Nat.lt_of_lt_of_le hlt hb.size, fun j hj => ⟨(hb.cell (by exact hlt)).trans (hc j hj).1, (hb.cell (by exact hlt)).trans (hc j hj).2⟩⟩

/-- one for each, in a row -/
theorem collect {Q : Nat → Int × Int → Prop} (n : Nat) : (∀ i, i < n → ∃ p, Q i p) → ∃ l : Pairs, l.length = n ∧ ∀ i, i < n → Q i (l.at i) := by
  induction n with
  | zero => intro _; exact ⟨[], rfl, fun i hi => by omega⟩
  | succ n ih =>
    intro h
    obtain ⟨l, hl, hq⟩ := ih (fun i hi => h i (by omega))
    obtain ⟨p, hp⟩ := h n (by omega)
    refine ⟨l ++ [p], by simp [hl], fun i hi => ?_⟩
    by_cases e : i = n
    · subst e
      have : Pairs.at (l ++ [p]) i = p := by rw [Pairs.at, List.getD_eq_getElem?_getD, ← hl]; simp
      rw [this]
      exact hp
    · have : Pairs.at (l ++ [p]) i = l.at i := by
        rw [Pairs.at, Pairs.at, List.getD_eq_getElem?_getD, List.getD_eq_getElem?_getD, List.getElem?_append_left (by omega)]
      rw [this]
      exact hq i (by omega)

section
variable {H : Type} {enc : TypeId × Value → H} {P : Program} {w : World} {base : Nat} {spare : Nat → Bool} {held : Bool}
open Go.ChangeShapes Go.WideShapes
theorem add_zero' (a : Addr) : a.add 0 = a := by simp [Addr.add]
theorem open_pairs {t e : TypeId} {f0 f1 : Field} {fuel : Nat} {a : Option Addr} {len cap : Nat} {x : DataW H × List MemPlace} (ht : P.underlying t = some (.slice e)) (he : P.underlying e = some (.struct #[f0, f1])) (h2 : P.cellsOf e = 2)
    (o0 : f0.offset = 0) (o1 : f1.offset = 1) (t0 : P.underlying f0.type = some (.int .i64)) (t1 : P.underlying f1.type = some (.int .i64)) (c0 : P.cellsOf f0.type = 1) (c1 : P.cellsOf f1.type = 1)
    (h : DataW.trod enc P w base spare held fuel t [.slice a len cap] = some x) :
    ∃ l : Pairs, PSeg w (.slice a len cap) l ∧ PInts l := by
  rcases DataW.trod_slice ht h with ⟨h0, -⟩ | ⟨ad, len', cap', elems, rest, n, -, hcs, -, hb, hl, hm, hlen, hel, -, -⟩
  · simp only [List.cons.injEq, Value.slice.injEq, and_true] at h0
    obtain ⟨rfl, rfl, rfl⟩ := h0
    exact ⟨[], ⟨none, 0, rfl, fun h => absurd rfl h⟩, fun j => ⟨by simp [Pairs.at]; decide, by simp [Pairs.at]; decide⟩, by simp⟩
  · simp only [List.cons.injEq, Value.slice.injEq, and_true] at hcs
    obtain ⟨rfl, rfl, rfl⟩ := hcs
    have each : ∀ i, i < len → ∃ p q : Int, w.cell? (ad.add (i * 2)) = some (.int .i64 p) ∧ w.cell? ((ad.add (i * 2)).add 1) = some (.int .i64 q) ∧ (Lit.int .i64 p).wf = true ∧ (Lit.int .i64 q).wf = true := by
      intro i hi
      have h3 := hel i hi
      rw [List.getElem?_eq_getElem (by omega), h2, Option.bind_eq_some_iff] at h3
      obtain ⟨cs, hcs, hy⟩ := h3
      obtain ⟨-, hl2, hcell⟩ := World.cells?_some hcs
      obtain ⟨y0, y1, m, -, -, r0, r1⟩ := trod_struct2 he hy
      rw [o0, c0] at r0
      rw [o1, c1] at r1
      match cs, hl2 with
      | [p, q], _ =>
        obtain ⟨p', hp, -, wp⟩ := DataW.trod_int t0 r0
        obtain ⟨q', hq, -, wq⟩ := DataW.trod_int t1 r1
        simp only [List.drop_zero, List.take_succ_cons, List.take_zero, List.cons.injEq, and_true, List.drop_succ_cons] at hp hq
        subst hp hq
        have e0 := hcell 0 (by omega)
        have e1 := hcell 1 (by omega)
        rw [add_zero'] at e0
        exact ⟨p', q', e0, e1, wp, wq⟩
    obtain ⟨l, hlen2, hf⟩ := collect (Q := fun i p => w.cell? (ad.add (i * 2)) = some (.int .i64 p.1) ∧ w.cell? ((ad.add (i * 2)).add 1) = some (.int .i64 p.2) ∧ (Lit.int .i64 p.1).wf = true ∧ (Lit.int .i64 p.2).wf = true) len (fun i hi => by
      obtain ⟨p, q, h⟩ := each i hi
      exact ⟨(p, q), h⟩)
    refine ⟨l, ?_, ?_⟩
    · refine ⟨some ad, cap, by rw [hlen2], fun hne => ?_⟩
      have h0 : 0 < len := by
        rcases Nat.eq_zero_or_pos len with h | h
        · exact absurd (List.eq_nil_of_length_eq_zero (hlen2.trans h)) hne
        · exact h
      have hs := hf 0 h0
      obtain ⟨b, off, spot⟩ := ad
      have hspot : spot = none := by simpa [Addr.add] using World.cell?_spot hs.1
      subst hspot
      refine ⟨b, off, rfl, World.block_lt_of_cell? w _ hs.1, fun j hj => ?_⟩
      rw [hlen2] at hj
      have hs := hf j hj
      rw [add_plain, add_plain] at hs
      exact ⟨hs.1, hs.2.1⟩
    · refine ⟨fun j => ?_, by rw [hlen2]; simp only [maxLen] at hm; omega⟩
      by_cases hj : j < len
      · exact ⟨wf_i64 (hf j hj).2.2.1, wf_i64 (hf j hj).2.2.2⟩
      · rw [Pairs.at, List.getD_eq_getElem?_getD, List.getElem?_eq_none (by omega)]
        exact ⟨by decide, by decide⟩
end
end Go.Proofs.Ytdkhpoepdimniaa
