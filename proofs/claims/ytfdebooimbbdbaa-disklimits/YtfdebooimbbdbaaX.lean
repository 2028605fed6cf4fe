/- Acts, and four numbers, as they are handed in. -/
import Derived.Test.YtfdebooimbbdbaaR
import Derived.WalkKit
import Derived.ProofKit
import Derived.Handy
import Derived.WalkLawsBesides
import Derived.WalkSpells
import Derived.BigQuiet
import Derived.BigCall
import Derived.Deep.QuietTactic
import Derived.Deep.Light
import Derived.Deep.OwnRows
import Derived.Laws.AppendOwnNone
import Derived.Laws.Strings3
import Derived.Laws.RangeAny
import Derived.Deep.RegionWith
import Derived.Lib.BitFns
import Derived.Lib.Walk
import Derived.Lib.Strings
import Derived.Lib.OthersKept
import Derived.Deep.CutBlock
import Derived.Deep.DeepCutAuto
import Derived.Deep.LoopGhost
import Derived.Deep.RegionHeld3
import Derived.Lib.SmallJoins
import Derived.Maps.AppendAt
import Derived.Laws.IdiomStrings
import Derived.Lib.AppendZeros
import Derived.Deep.WholeRow
namespace Go.Proofs.Ytfdebooimbbdbaa
open Go.RowKit
set_option linter.unusedVariables false
set_option linter.unusedSimpArgs false
open Go.ChangeShapes Go.WideShapes
def kOf (a b c d : Int) : Nat → Int := fun j => if j = 0 then a else if j = 1 then b else if j = 2 then c else if j = 3 then d else 0
theorem wf_i64 {a : Int} (h : (Lit.int .i64 a).wf = true) : -9223372036854775808 ≤ a ∧ a ≤ 9223372036854775807 := by
  simpa [Lit.wf, IntKind.min, IntKind.max, IntKind.signed, IntKind.bits] using h
theorem kOf_good {a b c d : Int} (ha : (Lit.int .i64 a).wf = true) (hb : (Lit.int .i64 b).wf = true) (hc : (Lit.int .i64 c).wf = true) (hd : (Lit.int .i64 d).wf = true) : ∀ j, -9223372036854775808 ≤ kOf a b c d j ∧ kOf a b c d j ≤ 9223372036854775807 := by
  intro j
  unfold kOf
  repeat' split
  · exact wf_i64 ha
  · exact wf_i64 hb
  · exact wf_i64 hc
  · exact wf_i64 hd
  · omega
theorem Try.cells3 : Try.prog.cellsOf 3 = 1 := by kernel_rfl
theorem Try.cells9 : Try.prog.cellsOf 9 = 1 := by kernel_rfl
theorem Try.cells31 : Try.prog.cellsOf 31 = 4 := by kernel_rfl
theorem Try.cells33 : Try.prog.cellsOf 33 = 8 := by kernel_rfl
theorem Try.bytes33 : Try.prog.bytesOf 33 = 72 := by kernel_rfl
section
variable {H : Type} {enc : TypeId × Value → H} {w : World} {base : Nat} {spare : Nat → Bool} {held : Bool}
theorem open_four {fuel : Nat} {cs : List Value} {x : DataW H × List MemPlace} (h : DataW.trod enc Try.prog w base spare held fuel 31 cs = some x) :
    ∃ a b c d : Int, cs = [.int .i64 a, .int .i64 b, .int .i64 c, .int .i64 d] ∧ ∀ j, -9223372036854775808 ≤ kOf a b c d j ∧ kOf a b c d j ≤ 9223372036854775807 := by
  obtain ⟨xs, m, -, -, hl, hxl, hx⟩ := DataW.trod_array (P := Try.prog) Try.underlying31 h
  rw [Try.cells31] at hl
  rw [Try.cells3] at hx
  match cs, hl with
  | [c0, c1, c2, c3], _ =>
    match xs, hxl with
    | [y0, y1, y2, y3], _ =>
      obtain ⟨a, e0, -, w0⟩ := DataW.trod_int Try.underlying3 (hx 0 (by omega))
      obtain ⟨b, e1, -, w1⟩ := DataW.trod_int Try.underlying3 (hx 1 (by omega))
      obtain ⟨c, e2, -, w2⟩ := DataW.trod_int Try.underlying3 (hx 2 (by omega))
      obtain ⟨d, e3, -, w3⟩ := DataW.trod_int Try.underlying3 (hx 3 (by omega))
      simp at e0 e1 e2 e3
      subst e0 e1 e2 e3
      exact ⟨a, b, c, d, rfl, kOf_good w0 w1 w2 w3⟩
theorem open_act {fuel : Nat} {cs : List Value} {x : DataW H × List MemPlace} (h : DataW.trod enc Try.prog w base spare held fuel 33 cs = some x) :
    ∃ A : ActD, cs = A.cells.toList ∧ A.Good := by
  obtain ⟨xs, m, -, -, hl, hxl, hx⟩ := DataW.trod_struct (P := Try.prog) Try.underlying33 h
  rw [Try.cells33] at hl
  match cs, hl with
  | [c0, c1, c2, c3, c4, c5, c6, c7], _ =>
    match xs, hxl with
    | [y0, y1, y2, y3, y4], _ =>
      have h0 : DataW.trod enc Try.prog w base spare held m 3 (([c0, c1, c2, c3, c4, c5, c6, c7].drop 0).take (Try.prog.cellsOf 3)) = some y0 := hx 0 _ rfl
      rw [Try.cells3] at h0
      have h1 : DataW.trod enc Try.prog w base spare held m 3 (([c0, c1, c2, c3, c4, c5, c6, c7].drop 1).take (Try.prog.cellsOf 3)) = some y1 := hx 1 _ rfl
      rw [Try.cells3] at h1
      have h2 : DataW.trod enc Try.prog w base spare held m 9 (([c0, c1, c2, c3, c4, c5, c6, c7].drop 2).take (Try.prog.cellsOf 9)) = some y2 := hx 2 _ rfl
      rw [Try.cells9] at h2
      have h3 : DataW.trod enc Try.prog w base spare held m 3 (([c0, c1, c2, c3, c4, c5, c6, c7].drop 3).take (Try.prog.cellsOf 3)) = some y3 := hx 3 _ rfl
      rw [Try.cells3] at h3
      have h4 : DataW.trod enc Try.prog w base spare held m 31 (([c0, c1, c2, c3, c4, c5, c6, c7].drop 4).take (Try.prog.cellsOf 31)) = some y4 := hx 4 _ rfl
      rw [Try.cells31] at h4
      obtain ⟨a, e0, -, w0⟩ := DataW.trod_int Try.underlying3 h0
      obtain ⟨b, e1, -, w1⟩ := DataW.trod_int Try.underlying3 h1
      obtain ⟨t, e2, -, w2⟩ := DataW.trod_string Try.underlying9 h2
      obtain ⟨n, e3, -, w3⟩ := DataW.trod_int Try.underlying3 h3
      obtain ⟨p, q, r, s, e4, w4⟩ := open_four h4
      simp at e0 e1 e2 e3 e4
      obtain ⟨f0, f1, f2, f3⟩ := e4
      subst e0 e1 e2 e3 f0 f1 f2 f3
      exact ⟨⟨a, b, t, n, kOf p q r s⟩, rfl, ⟨wf_i64 w0, wf_i64 w1, wf_i64 w3, w4, w2⟩⟩
/-- one for each, in a row -/
theorem collectA {Q : Nat → ActD → Prop} (n : Nat) : (∀ i, i < n → ∃ p, Q i p) → ∃ l : List ActD, l.length = n ∧ ∀ i (hi : i < l.length), Q i l[i] := by
  induction n with
  | zero => intro _; exact ⟨[], rfl, fun i hi => absurd hi (Nat.not_lt_zero i)⟩
  | succ n ih =>
    intro h
    obtain ⟨l, hl, hq⟩ := ih (fun i hi => h i (by omega))
    obtain ⟨p, hp⟩ := h n (by omega)
    refine ⟨l ++ [p], by simp [hl], fun i hi => ?_⟩
    by_cases e : i < l.length
    · rw [List.getElem_append_left e]; exact hq i e
    · have : i = n := by simp at hi; omega
      subst this
      rw [List.getElem_append_right (by omega)]
      simpa using hp
theorem open_acts {fuel : Nat} {a : Option Addr} {len cap : Nat} {x : DataW H × List MemPlace} (h : DataW.trod enc Try.prog w base spare held fuel 22 [.slice a len cap] = some x) (hz : ∀ es rs, x.1 = .slice es rs → (es.length + rs.length) * 72 ≤ 140737488351232) :
    ∃ A : List ActD, A.length = len ∧ Acts w a A := by
  rcases DataW.trod_slice Try.underlying22 h with ⟨h0, -⟩ | ⟨ad, len', cap', elems, rest, n, -, hcs, hx, hb, hl, hm, hlen, hel, -, -⟩
  · simp only [List.cons.injEq, Value.slice.injEq, and_true] at h0
    obtain ⟨rfl, rfl, rfl⟩ := h0
    exact ⟨[], rfl, fun h => absurd h (by simp), fun x hx => absurd hx (by simp), by simp⟩
  · simp only [List.cons.injEq, Value.slice.injEq, and_true] at hcs
    obtain ⟨rfl, rfl, rfl⟩ := hcs
    have each : ∀ i, i < len → ∃ A : ActD, (∀ o, o < 8 → w.cell? ((ad.add (i * 8)).add o) = A.cells[o]?) ∧ A.Good := by
      intro i hi
      have h3 := hel i hi
      rw [List.getElem?_eq_getElem (by omega), Try.cells33, Option.bind_eq_some_iff] at h3
      obtain ⟨cs, hcs, hy⟩ := h3
      obtain ⟨-, hl2, hcell⟩ := World.cells?_some hcs
      obtain ⟨A, rfl, hA⟩ := open_act hy
      refine ⟨A, fun o ho => ?_, hA⟩
      have := hcell o (by omega)
      rw [this]
      simp
    obtain ⟨l, hlen2, hf⟩ := collectA (Q := fun i A => (∀ o, o < 8 → w.cell? ((ad.add (i * 8)).add o) = A.cells[o]?) ∧ A.Good) len each
    have hzz := hz _ _ (by rw [hx])
    simp only [List.length_map] at hzz
    refine ⟨l, hlen2, fun h0 => ?_, fun X hX => ?_, by omega⟩
    · have hs := (hf 0 h0).1 0 (by omega)
      obtain ⟨b, off, spot⟩ := ad
      have hs' : w.cell? (((⟨b, off, spot⟩ : Addr).add (0 * 8)).add 0) = some (.int .i64 l[0].c) := hs
      have hspot : spot = none := by simpa [Addr.add] using World.cell?_spot hs'
      subst hspot
      refine ⟨b, off, rfl, World.block_lt_of_cell? w _ hs', fun j hj o ho => ?_⟩
      have := (hf j hj).1 o ho
      rw [add_plain, add_plain] at this
      exact this
    · obtain ⟨i, hi, rfl⟩ := List.mem_iff_getElem.1 hX
      exact (hf i hi).2
end
end Go.Proofs.Ytfdebooimbbdbaa
