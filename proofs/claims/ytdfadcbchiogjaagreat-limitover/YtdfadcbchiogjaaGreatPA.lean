/- layer 16: what items cover; which uses are over -/
import Derived.Test.YtdfadcbchiogjaaGreatNQ
import Derived.Test.YtdfadcbchiogjaaGreatOC
import Derived.Test.YtdfadcbchiogjaaGreatHF
import Derived.WalkKit
import Derived.ProofKit
import Derived.Handy
import Derived.WalkLawsBesides
import Derived.WalkSpells
import Derived.BigQuiet
import Derived.BigCall
import Derived.Deep.QuietTactic
import Derived.Deep.Light
import Derived.Deep.OwnRows
import Derived.Laws.AppendOwnNone
import Derived.Laws.Strings3
import Derived.Laws.RangeAny
import Derived.Deep.RegionWith
import Derived.Lib.BitFns
import Derived.Lib.Walk
import Derived.Lib.Strings
import Derived.Lib.OthersKept
import Derived.Deep.CutBlock
import Derived.Deep.DeepCutAuto
import Derived.Deep.LoopGhost
import Derived.Deep.RegionHeld3
import Derived.Lib.SmallJoins
import Derived.Maps.AppendAt
import Derived.Laws.IdiomStrings
import Derived.Lib.AppendZeros
import Derived.Deep.WholeRow
import Derived.Laws.BitsAllLaws
import Derived.Lib.ConvBytes
import Derived.Deep.RegionLaw
import Derived.Maps.OwnSet
import Derived.Maps.OwnOps
import Derived.Maps.RangeWalk
import Derived.Maps.Ext
import Derived.DeepKeys4
import Derived.Laws.StructEq
import Derived.Deep.MidRow
import Derived.Lib.Bytealg
import Derived.Lib.AppendZerosOnto
import Derived.Laws.MakeOwn
import Derived.Deep.Upon
import Derived.Sort.KeysCollected
namespace Go.Proofs.YtdfadcbchiogjaaGreat
open Go.RowKit
set_option linter.unusedVariables false
set_option linter.unusedSimpArgs false
set_option maxRecDepth 20000
def ptx (x : H5.It) : Pt := ⟨x.a.iss, x.a.i.data.toList, x.co⟩
def cov (xs : List H5.It) : List Pt := xs.map ptx
theorem cov_take {xs : List H5.It} {k : Nat} (h : k < xs.length) : cov (xs.take (k + 1)) = cov (xs.take k) ++ [ptx xs[k]] := by
  unfold cov
  rw [List.take_succ_eq_append_getElem h, List.map_append]
  rfl
theorem cov_len (xs : List H5.It) : (cov xs).length = xs.length := by simp [cov]
theorem sm_box {B : Int} (hB : 0 ≤ B) : ∀ {L : List Pt}, (∀ p ∈ L, 0 ≤ p.c ∧ p.c ≤ B) → (∀ n, 0 ≤ smI L n ∧ smI L n ≤ L.length * B) ∧ (∀ s, 0 ≤ smA L s ∧ smA L s ≤ L.length * B)
  | [], _ => ⟨fun _ => by simp [smI], fun _ => by simp [smA]⟩
  | p :: L, h => by
    obtain ⟨h1, h2⟩ := sm_box hB (L := L) (fun q hq => h q (List.mem_cons_of_mem _ hq))
    have hp := h p List.mem_cons_self
    have e : ((p :: L).length : Int) * B = L.length * B + B := by rw [List.length_cons, Int.natCast_add, Int.add_mul]; simp
    refine ⟨fun n => ?_, fun s => ?_⟩
    · have := h1 n; rw [e, smI]; generalize (L.length : Int) * B = M at *; split <;> omega
    · have := h2 s; rw [e, smA]; generalize (L.length : Int) * B = M at *; split <;> omega
abbrev Fits (xs : List H5.It) : Prop := ∀ x ∈ xs, x.co ≤ 1125899906842624
theorem fits_box {xs : List H5.It} (h : Fits xs) (hl : xs.length ≤ 64) : (∀ n, 0 ≤ smI (cov xs) n ∧ smI (cov xs) n ≤ 72057594037927936) ∧ (∀ s, 0 ≤ smA (cov xs) s ∧ smA (cov xs) s ≤ 72057594037927936) := by
  have k := sm_box (B := 1125899906842624) (by omega) (L := cov xs) (fun p hp => by
    obtain ⟨x, hx, rfl⟩ := List.mem_map.1 hp
    exact ⟨(H5.It.co_rng x).1, h x hx⟩)
  rw [cov_len] at k
  have hz : (xs.length : Int) ≤ 64 := by omega
  exact ⟨fun n => ⟨(k.1 n).1, by have := (k.1 n).2; omega⟩, fun s => ⟨(k.2 s).1, by have := (k.2 s).2; omega⟩⟩
theorem fits_take {xs : List H5.It} (h : Fits xs) (k : Nat) : Fits (xs.take k) := fun x hx => h x (List.mem_of_mem_take hx)
theorem fits_succ {xs : List H5.It} {k : Nat} (hk : k < xs.length) (h : Fits (xs.take k)) (hc : xs[k].co ≤ 1125899906842624) : Fits (xs.take (k + 1)) := fun x hx => by
  rw [List.take_succ_eq_append_getElem hk, List.mem_append, List.mem_singleton] at hx
  rcases hx with hx | rfl
  · exact h x hx
  · exact hc
def ovs (t : Tb) : List Us := t.uses.filter (fun u => decide (u.l < u.c))
def ovT (need i a : Int) (xs : List H5.It) : Tb := ⟨need, prt need i, prt need a, cov xs⟩
theorem ovT_more (need i a : Int) {xs : List H5.It} {k : Nat} (h : k < xs.length) : (ovT need i a (xs.take k)).more xs[k].a.iss xs[k].a.i.data.toList xs[k].co = ovT need i a (xs.take (k + 1)) := by
  unfold ovT Tb.more
  rw [cov_take h]
  rfl
/-- what Over tells: its uses and its error -/
def ovL (need i a : Int) (xs : List H5.It) : List Us := if OkN need i a ∧ xs.length ≤ 64 ∧ Fits xs then ovs (ovT need i a xs) else []
def ovE (need i a : Int) (xs : List H5.It) : Int := if OkN need i a then (if xs.length ≤ 64 then (if Fits xs then 0 else 9) else 2) else 1
theorem ov_good {need i a : Int} {xs : List H5.It} (h : OkN need i a) (hl : xs.length ≤ 64) (hf : Fits xs) : ovL need i a xs = ovs (ovT need i a xs) ∧ ovE need i a xs = 0 := ⟨if_pos ⟨h, hl, hf⟩, by rw [ovE, if_pos h, if_pos hl, if_pos hf]⟩
theorem ov_arg {need i a : Int} {xs : List H5.It} (h : ¬ OkN need i a) : ovL need i a xs = [] ∧ ovE need i a xs = 1 := ⟨if_neg (fun k => h k.1), if_neg h⟩
theorem ov_long {need i a : Int} {xs : List H5.It} (h : OkN need i a) (hl : ¬ xs.length ≤ 64) : ovL need i a xs = [] ∧ ovE need i a xs = 2 := ⟨if_neg (fun k => hl k.2.1), by rw [ovE, if_pos h, if_neg hl]⟩
theorem ov_over {need i a : Int} {xs : List H5.It} (h : OkN need i a) (hl : xs.length ≤ 64) (hf : ¬ Fits xs) : ovL need i a xs = [] ∧ ovE need i a xs = 9 := ⟨if_neg (fun k => hf k.2.2), by rw [ovE, if_pos h, if_pos hl, if_neg hf]⟩
structure WI (x : H5.It) : Prop where
  i : x.a.i.size ≤ 140737488351232
  n : Rng x.a.iss
  c : H5.Rng x.c
def OvP (T : Nat) (l : List Us) (E : Int) (w : World) (e : Ending) (w' : World) : Prop := ∃ v, e = .returned (.tuple #[v, .int .i64 E]) ∧ Hid (w'.ownsRow w.heap.size T 4 v l.length (rcs ucs l) ∧ Below w.heap.size w w')
theorem OvP.nil {T : Nat} {E : Int} {w w' : World} (h : Below w.heap.size w w') : OvP T [] E w (.returned (.tuple #[.slice none 0 0, .int .i64 E])) w' := ⟨_, rfl, World.ownsRow_nil _ _ _ _, h⟩
/-- what slices.DeleteFunc does with uses -/
def DfOk : Prop := ∀ (B : Nat) (w0 w : World) (v : Value) (l : List Us), w.ownsRow B 59 4 v l.length (rcs ucs l) → l.length ≤ 1000000 → B ≤ w.heap.size → Below B w0 w →
  Calls Tryz.prog 18 #[v, .func (.func 20) #[] #[]] w fun e w' => ∃ v', e = .returned v' ∧ Hid (w'.ownsRow B 59 4 v' (l.filter (fun u => decide (u.l < u.c))).length (rcs ucs (l.filter (fun u => decide (u.l < u.c)))) ∧ Below B w0 w')
theorem Wx.s {xs : List H5.It} (h : ∀ x ∈ xs, WI x) : ∀ q ∈ cov xs, q.s.length ≤ 281474976710656 := fun q hq => by
  obtain ⟨x, hx, rfl⟩ := List.mem_map.1 hq
  have := (h x hx).i
  have e : x.a.i.data.toList.length = x.a.i.size := by rw [Array.length_toList]; rfl
  show x.a.i.data.toList.length ≤ _
  omega
theorem uses_few {t : Tb} {n : Nat} (h : t.L.length ≤ n) : t.uses.length ≤ 2 * n := by
  have h1 := upsI_len t.L
  have h2 := upsA_len t.L
  unfold Tb.uses
  rw [List.length_append, List.length_map, List.length_map]
  omega
end Go.Proofs.YtdfadcbchiogjaaGreat
