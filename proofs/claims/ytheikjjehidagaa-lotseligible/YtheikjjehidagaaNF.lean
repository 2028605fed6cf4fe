/- layer 17: slices.Insert of one row -/
import Derived.Test.YtheikjjehidagaaC
import Derived.WalkKit
import Derived.ProofKit
import Derived.Handy
import Derived.WalkLawsBesides
import Derived.WalkSpells
import Derived.BigQuiet
import Derived.BigCall
import Derived.Deep.QuietTactic
import Derived.Deep.Light
import Derived.Deep.OwnRows
import Derived.Laws.AppendOwnNone
import Derived.Laws.Strings3
import Derived.Laws.RangeAny
import Derived.Deep.RegionWith
import Derived.Lib.BitFns
import Derived.Lib.Walk
import Derived.Lib.Strings
import Derived.Lib.OthersKept
import Derived.Deep.CutBlock
import Derived.Deep.DeepCutAuto
import Derived.Deep.LoopGhost
import Derived.Deep.RegionHeld3
import Derived.Lib.SmallJoins
import Derived.Maps.AppendAt
import Derived.Laws.IdiomStrings
import Derived.Lib.AppendZeros
import Derived.Deep.WholeRow
import Derived.Laws.BitsAllLaws
import Derived.Lib.ConvBytes
import Derived.Deep.RegionLaw
import Derived.Maps.OwnSet
import Derived.Maps.OwnOps
import Derived.Maps.RangeWalk
import Derived.Maps.Ext
import Derived.DeepKeys4
import Derived.Laws.StructEq
import Derived.Deep.MidRow
import Derived.Lib.Bytealg
import Derived.Lib.Overlaps
import Derived.Lib.AppendZerosOnto
import Derived.Laws.MakeOwn
import Derived.Shelf.Spec.SlicesInsert
namespace Go.Proofs.Ytheikjjehidagaa
open Go.RowKit
set_option linter.unusedVariables false
set_option linter.unusedSimpArgs false
set_option maxRecDepth 20000
theorem copyK {P : Program} (w : World) (dT sT ty elem : TypeId) (g off dLen dCap : Nat) (a : Addr) (sLen sCap : Nat) (cur : Array Value) (t : TypeId) (cs : List Value) (k m : Nat) (hu : P.underlying dT = some (.slice elem)) (hs : (P.info? elem).map (·.size) = some k)
    (hg : w.heap[g]? = some (.cells cur t (0, 0))) (hm : Nat.min sLen dLen = m) (hn : cs.length = m * k) (hsrc : ∀ j v, cs[j]? = some v → w.cell? (a.add j) = some v) (hfit : off + cs.length ≤ cur.size) (h1 : ∀ v ∈ cs, v.oneCell' = true) :
    (Builtin.copy_ #[dT, sT] ty #[.slice (some ⟨g, off, none⟩) dLen dCap, .slice (some a) sLen sCap]).run P w = .ok (goInt m) (w.setRow g (cur.toList.take off ++ cs ++ cur.toList.drop (off + cs.length)).toArray) := by
  have hl := run_loadCells_list (P := P) w a cs hsrc
  have hst := run_storeCells_at P g off t cs 0 cur w hg (by simpa using hfit) h1
  rw [Nat.add_zero] at hst
  cases hq : P.info? elem with
  | none => simp [hq] at hs
  | some i =>
    have hi : i.size = k := by simpa [hq] using hs
    rw [hn] at hl
    simp [Builtin.copy_, run_underlying hu, Builtin.lenOf, Builtin.firstCells, sizeOf, typeInfo, hq, hi, hm, hl, hst]
theorem info43 : (Try.prog.info? 43).map (fun i => (i.zero, i.size, i.bytes)) = some (some (.agg #[.string ⟨#[]⟩, .int .i64 0]), 2, 24) := by kernel_rfl
theorem size43 : (Try.prog.info? 43).map (·.size) = some 2 := by
  obtain ⟨i0, hi, h0, h1, h2⟩ := info_parts info43
  rw [hi]; simp [h1]
def InP (B n : Nat) (v : Value) (cs : List Value) (w : World) (e : Ending) (w' : World) : Prop := ∃ v', e = .returned v' ∧ Hid (w'.ownsRow B 43 2 v' (n + 1) cs ∧ w.grownBy w' v.ownBlock ∧ (v'.ownBlock = v.ownBlock ∨ v'.ownBlock = some w.heap.size))
theorem cell_bx {w : World} {vb : Nat} {f : List Value} {T : Nat} (h : Bx w vb f.toArray T) : ∀ j u, f[j]? = some u → w.cell? ((⟨vb, 0, none⟩ : Addr).add j) = some u := fun j u hj => by
  rw [Addr.add_lit, Nat.zero_add, h.cell j, List.getElem?_toArray, hj]
/-- at the end -/
theorem ins_app {B n vb : Nat} {v : Value} {cs f : List Value} {w : World} (h : w.ownsRow B 43 2 v n cs) (hf : f.length = 2) (h1 : ∀ u ∈ f, u.oneCell' = true) (hv : Bx w vb f.toArray 43) (hn : n ≤ 1000000) (hB : B ≤ w.heap.size) :
    ∃ v' w', (Builtin.append_ #[22, 22] 22 #[v, .slice (some ⟨vb, 0, none⟩) 1 1]).run Try.prog w = .ok v' w' ∧ InP B n v (cs ++ f) w (.returned v') w' := by
  obtain ⟨i0, hi, hz0, hz1, hz2⟩ := info_parts info43
  obtain ⟨v', w', hr, ho, hgr, _, hat⟩ := run_append_own_at (P := Try.prog) (w := w) B 22 22 43 i0 _ 2 24 Try.underlying22 hi hz0 hz1 hz2 rfl (by omega) v _ _ h ⟨vb, 0, none⟩ 1 1 f (by rw [hf]) (cell_bx hv) h1 (by unfold maxLen; omega) (by omega) hB
  exact ⟨v', w', hr, v', rfl, ho, hgr, hat⟩
theorem xins_nil {B vb : Nat} {cs f : List Value} {w : World} (h : w.ownsRow B 43 2 (.slice none 0 0) 0 cs) (hf : f.length = 2) (h1 : ∀ u ∈ f, u.oneCell' = true) (hv : Bx w vb f.toArray 43) (hB : B ≤ w.heap.size) :
    Calls Try.prog 68 #[.slice none 0 0, .int .i64 0, .slice (some ⟨vb, 0, none⟩) 1 1] w (InP B 0 (.slice none 0 0) (cs ++ f) w) := by
  obtain ⟨v', w', hr, HI⟩ := ins_app h hf h1 hv (by omega) hB
  have HI2 : Hid (InP B 0 (.slice none 0 0) (cs ++ f) w (.returned v') w') := HI
  clear h hf h1 hv hB HI
  go_enter Try.func68, Try.ntmps68
  go_wp2_with (at_builtin; refine Lib.wpList_append_run _ rfl _ _ 22 22 rfl _ _ rfl rfl _ w' hr ?_)
  go_ret
  exact HI2.out
theorem xins_end {B n g cap vb : Nat} {cs f : List Value} {w : World} (h : w.ownsRow B 43 2 (.slice (some ⟨g, 0, none⟩) n cap) n cs) (hnc : n ≤ cap) (hf : f.length = 2) (h1 : ∀ u ∈ f, u.oneCell' = true) (hv : Bx w vb f.toArray 43) (hn : n ≤ 1000000) (hB : B ≤ w.heap.size) :
    Calls Try.prog 68 #[.slice (some ⟨g, 0, none⟩) n cap, .int .i64 n, .slice (some ⟨vb, 0, none⟩) 1 1] w (InP B n (.slice (some ⟨g, 0, none⟩) n cap) (cs ++ f) w) := by
  obtain ⟨v', w', hr, HI⟩ := ins_app h hf h1 hv hn hB
  have HI2 : Hid (InP B n (.slice (some ⟨g, 0, none⟩) n cap) (cs ++ f) w (.returned v') w') := HI
  have hnz : (n : Int) ≤ 1000000 := by omega
  clear h hf h1 hv hB HI
  by_cases hc : cap = n
  · subst hc
    go_enter Try.func68, Try.ntmps68
    go_wp2_with (at_builtin; refine Lib.wpList_append_run _ rfl _ _ 22 22 rfl _ _ rfl rfl _ w' hr ?_)
    go_ret
    exact HI2.out
  · go_enter Try.func68, Try.ntmps68
    go_wp2_with (at_builtin; refine Lib.wpList_append_run _ rfl _ _ 22 22 rfl _ _ rfl rfl _ w' hr ?_)
    go_ret
    exact HI2.out
end Go.Proofs.Ytheikjjehidagaa
