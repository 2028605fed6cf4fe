/- layer 16: rows put together; the document's table, one cover more -/
import Derived.Test.YtdfadcbchiogjaaGreatNV
import Derived.WalkKit
import Derived.ProofKit
import Derived.Handy
import Derived.WalkLawsBesides
import Derived.WalkSpells
import Derived.BigQuiet
import Derived.BigCall
import Derived.Deep.QuietTactic
import Derived.Deep.Light
import Derived.Deep.OwnRows
import Derived.Laws.AppendOwnNone
import Derived.Laws.Strings3
import Derived.Laws.RangeAny
import Derived.Deep.RegionWith
import Derived.Lib.BitFns
import Derived.Lib.Walk
import Derived.Lib.Strings
import Derived.Lib.OthersKept
import Derived.Deep.CutBlock
import Derived.Deep.DeepCutAuto
import Derived.Deep.LoopGhost
import Derived.Deep.RegionHeld3
import Derived.Lib.SmallJoins
import Derived.Maps.AppendAt
import Derived.Laws.IdiomStrings
import Derived.Lib.AppendZeros
import Derived.Deep.WholeRow
import Derived.Laws.BitsAllLaws
import Derived.Lib.ConvBytes
import Derived.Deep.RegionLaw
import Derived.Maps.OwnSet
import Derived.Maps.OwnOps
import Derived.Maps.RangeWalk
import Derived.Maps.Ext
import Derived.DeepKeys4
import Derived.Laws.StructEq
import Derived.Deep.MidRow
import Derived.Lib.Bytealg
import Derived.Lib.AppendZerosOnto
import Derived.Laws.MakeOwn
import Derived.Deep.Upon
import Derived.Sort.KeysCollected
namespace Go.Proofs.YtdfadcbchiogjaaGreat
open Go.RowKit
set_option linter.unusedVariables false
set_option linter.unusedSimpArgs false
set_option maxRecDepth 20000
theorem own_of {w : World} {B e k n : Nat} {g : Nat} {cs : List Value} (hb : Bx w g cs.toArray e) (hB : B ≤ g) (hl : cs.length = n * k) (hn : n ≤ maxLen) : w.ownsRow B e k (.slice (some ⟨g, 0, none⟩) n n) n cs :=
  ⟨hl, .inr ⟨g, n, cs.toArray, rfl, hB, hb, Nat.le_refl _, hn, by simpa using hl, by simp [← hl]⟩⟩
theorem app_rows {T Sl k bytes : Nat} {z : Value} (hu : Tryz.prog.underlying Sl = some (.slice T)) (hi : (Tryz.prog.info? T).map (fun i => (i.zero, i.size, i.bytes)) = some (some z, k, bytes)) (hz : z.cells.size = k) (hk : 0 < k) {w : World} {B B' n m : Nat} {v v2 : Value} {cs cs2 : List Value}
    (h : w.ownsRow B T k v n cs) (h2 : w.ownsRow B' T k v2 m cs2) (h1 : ∀ u ∈ cs2, u.oneCell' = true) (hB : B ≤ w.heap.size) (h63 : n + m ≤ maxLen) (hby : (n + m) * bytes ≤ 140737488355328) :
    ∃ v' w', (Builtin.append_ #[Sl, Sl] Sl #[v, v2]).run Tryz.prog w = .ok v' w' ∧ w'.ownsRow B T k v' (n + m) (cs ++ cs2) ∧ w.grownBy w' v.ownBlock ∧ (v'.ownBlock = v.ownBlock ∨ v'.ownBlock = some w.heap.size) := by
  obtain ⟨i0, hi, hz0, hz1, hz2⟩ := info_parts hi
  rcases h2.2 with ⟨rfl, rfl⟩ | ⟨g, cap, cur, rfl, hg, hc, hn, hm, hs, ht⟩
  · have hnil : cs2 = [] := List.eq_nil_of_length_eq_zero (by rw [h2.1, Nat.zero_mul])
    subst hnil
    refine ⟨v, w, run_append_owned_none (P := Tryz.prog) (w := w) B Sl Sl T i0 k hu hi v n cs h, by simpa using h, ?_, .inl rfl⟩
    exact ⟨rfl, rfl, rfl, Nat.le_refl _, fun _ _ _ => rfl⟩
  · obtain ⟨v', w', hr, ho, hgr, _, hob⟩ := run_append_own_at (P := Tryz.prog) (w := w) B Sl Sl T i0 _ k bytes hu hi hz0 hz1 hz2 hz hk v n cs h ⟨g, 0, none⟩ m cap cs2 h2.1 (fun j u hj => by
      rw [← ht] at hj
      have e : (⟨g, 0, none⟩ : Addr).add j = ⟨g, j, none⟩ := by simp [Addr.add]; intro h; exact h.symm
      rw [e, cell_of_row w g j _ T (0, 0) hc, ← Array.getElem?_toList]
      rw [List.getElem?_take] at hj
      split at hj
      · exact hj
      · cases hj) h1 h63 hby hB
    exact ⟨v', w', hr, ho, hgr, hob⟩
theorem rcs_one {α : Type} {f : α → List Value} (hf : ∀ x, ∀ u ∈ f x, u.oneCell' = true) (xs : List α) : ∀ u ∈ rcs f xs, u.oneCell' = true := by
  intro u hu
  obtain ⟨c, hc, hu2⟩ := List.mem_flatten.1 hu
  obtain ⟨x, _, rfl⟩ := List.mem_map.1 hc
  exact hf x u hu2
theorem rcs_app {α : Type} (f : α → List Value) (xs ys : List α) : rcs f (xs ++ ys) = rcs f xs ++ rcs f ys := by
  unfold rcs
  rw [List.map_append, List.flatten_append]
end Go.Proofs.YtdfadcbchiogjaaGreat
