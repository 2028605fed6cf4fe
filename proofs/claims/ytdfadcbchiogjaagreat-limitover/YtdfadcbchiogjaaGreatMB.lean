/- layer 16: the two maps of a table; a cover made greater, or less -/
import Derived.Test.YtdfadcbchiogjaaGreatLC
import Derived.Test.YtdfadcbchiogjaaGreatC
import Derived.WalkKit
import Derived.ProofKit
import Derived.Handy
import Derived.WalkLawsBesides
import Derived.WalkSpells
import Derived.BigQuiet
import Derived.BigCall
import Derived.Deep.QuietTactic
import Derived.Deep.Light
import Derived.Deep.OwnRows
import Derived.Laws.AppendOwnNone
import Derived.Laws.Strings3
import Derived.Laws.RangeAny
import Derived.Deep.RegionWith
import Derived.Lib.BitFns
import Derived.Lib.Walk
import Derived.Lib.Strings
import Derived.Lib.OthersKept
import Derived.Deep.CutBlock
import Derived.Deep.DeepCutAuto
import Derived.Deep.LoopGhost
import Derived.Deep.RegionHeld3
import Derived.Lib.SmallJoins
import Derived.Maps.AppendAt
import Derived.Laws.IdiomStrings
import Derived.Lib.AppendZeros
import Derived.Deep.WholeRow
import Derived.Laws.BitsAllLaws
import Derived.Lib.ConvBytes
import Derived.Deep.RegionLaw
import Derived.Maps.OwnSet
import Derived.Maps.OwnOps
import Derived.Maps.RangeWalk
import Derived.Maps.Ext
import Derived.DeepKeys4
import Derived.Laws.StructEq
import Derived.Deep.MidRow
import Derived.Lib.Bytealg
import Derived.Lib.AppendZerosOnto
import Derived.Laws.MakeOwn
import Derived.Deep.Upon
import Derived.Sort.KeysCollected
namespace Go.Proofs.YtdfadcbchiogjaaGreat
open Go.RowKit
set_option linter.unusedVariables false
set_option linter.unusedSimpArgs false
set_option maxRecDepth 20000
def KI : Ky Int := ⟨3, 73, Value.int .i64, Lit.int .i64, fun a => (Lit.int .i64 a).wf = true⟩
def KS : Ky (List UInt8) := ⟨9, 85, fun s => .string ⟨s.toArray⟩, .string, fun s => s.length ≤ maxLen⟩
theorem zero3 (w : World) : (zeroValue 3).run Tryz.prog w = .ok (.int .i64 0) w := by kernel_rfl
theorem OI : KI.Ok Tryz.prog 3 where
  keyed := Maps.int_keyed Tryz.underlying3
  und := Tryz.underlying73
  zero := zero3
  kof := fun a h => Maps.keyOf_int_mk Tryz.underlying3 h
  inv := fun v l h => by
    obtain ⟨a, rfl, rfl, ha⟩ := Maps.keyOf_int_inv Tryz.underlying3 h
    exact ⟨a, rfl, rfl, ha⟩
  inj := fun a b h => by
    have h' : Lit.int .i64 a = Lit.int .i64 b := h
    injection h'
  key := fun a => by show WideAt.IsKeyLit (Lit.int .i64 a); trivial
theorem OS : KS.Ok Tryz.prog 3 where
  keyed := Maps.string_keyed Tryz.underlying9
  und := Tryz.underlying85
  zero := zero3
  kof := fun a h => by
    have h' : a.length ≤ maxLen := h
    have := Go.WideMaps.keyOf_string_mk (P := Tryz.prog) (s := ⟨a.toArray⟩) Tryz.underlying9 (by simpa [ByteArray.size] using h')
    simpa [KS] using this
  inv := fun v l h => by
    obtain ⟨x, rfl, rfl, hx⟩ := Maps.keyOf_str Tryz.underlying9 h
    exact ⟨x, rfl, rfl, hx⟩
  inj := fun a b h => by
    have h' : Lit.string a = Lit.string b := h
    injection h'
  key := fun a => by show WideAt.IsKeyLit (Lit.string a); trivial
abbrev Ti (w : World) (m : Nat) (f : Int → Int) : Prop := Fm KI Tryz.prog w m f
abbrev Ts (w : World) (m : Nat) (f : List UInt8 → Int) : Prop := Fm KS Tryz.prog w m f
theorem kvs (s : ByteArray) : KS.kv s.data.toList = .string s := by simp [KS]
def AjP {α : Type} [DecidableEq α] (y : Ky α) (m : Nat) (f : α → Int) (w : World) (e : Ending) (w' : World) : Prop := e = .returned (.tuple #[]) ∧ Fm y Tryz.prog w' m f ∧ w.grownBy w' (some m) ∧ w'.heap.size = w.heap.size
theorem xadjI {w : World} {m : Nat} {f : Int → Int} (h : Ti w m f) {a d : Int} (ha : (Lit.int .i64 a).wf = true) (hr : -9223372036854775808 ≤ f a + d ∧ f a + d ≤ 9223372036854775807) {S : List Int} (hS : ∀ b, f b ≠ 0 → b ∈ S) (hl : S.length ≤ 1000000) :
    Calls Tryz.prog 37 #[.map (some m), .int .i64 a, .int .i64 d] w (AjP KI m (adj f a d) w) := by
  have e1 : (Instr.lookup 73 (.map (some m)) (.int .i64 a) false).run Tryz.prog w = .ok (.int .i64 (f a)) w := h.look OI (a := a) ha
  obtain ⟨w1, r1, g1, s1, e2, k1, k2⟩ := h.step OI (a := a) ha d hS (by unfold maxLen; omega)
  have r1' : (Instr.mapUpdate 73 (.map (some m)) (.int .i64 a) (.int .i64 (f a + d))).run Tryz.prog w = .ok () w1 := r1
  have e2' : (Instr.lookup 73 (.map (some m)) (.int .i64 a) false).run Tryz.prog w1 = .ok (.int .i64 (f a + d)) w1 := e2
  have hw : wrap64 (f a + d) = f a + d := by unfold wrap64; omega
  have HG : Hid (w.grownBy w1 (some m) ∧ w1.heap.size = w.heap.size) := ⟨g1, s1⟩
  clear h hS hl r1 e2 ha hr g1 s1
  by_cases hz : f a + d = 0
  · obtain ⟨w2, r2, F2, g2, s2⟩ := k2 hz 0
    have r2' : (Builtin.delete_ #[73, 3] 0 #[.map (some m), .int .i64 a]).run Tryz.prog w1 = .ok (.tuple #[]) w2 := r2
    have HF : Hid (AjP KI m (adj f a d) w (.returned (.tuple #[])) w2) := ⟨rfl, F2, grown_trans HG.out.1 g2, s2.trans HG.out.2⟩
    have hz2 : (f a + d == 0) = true := by simpa using hz
    clear k1 k2 r2 F2 g2 s2 HG hz
    generalize adj f a d = F at *
    generalize f a = v at *
    go_enter Tryz.func37, Tryz.ntmps37
    go_wp2_with fail
    refine bodyPost_ret (results_none rfl _ _ _) rfl ?_
    exact HF.out
  · have HF : Hid (AjP KI m (adj f a d) w (.returned (.tuple #[])) w1) := ⟨rfl, k1 hz, HG.out.1, HG.out.2⟩
    have hz2 : (f a + d == 0) = false := by simpa using hz
    clear k1 k2 HG hz
    generalize adj f a d = F at *
    generalize f a = v at *
    go_enter Tryz.func37, Tryz.ntmps37
    go_wp2_with fail
    refine bodyPost_ret (results_none rfl _ _ _) rfl ?_
    exact HF.out
theorem xadjS {w : World} {m : Nat} {f : List UInt8 → Int} (h : Ts w m f) {s : ByteArray} {d : Int} (ha : s.size ≤ maxLen) (hr : -9223372036854775808 ≤ f s.data.toList + d ∧ f s.data.toList + d ≤ 9223372036854775807) {S : List (List UInt8)} (hS : ∀ b, f b ≠ 0 → b ∈ S) (hl : S.length ≤ 1000000) :
    Calls Tryz.prog 38 #[.map (some m), .string s, .int .i64 d] w (AjP KS m (adj f s.data.toList d) w) := by
  have e1 : (Instr.lookup 85 (.map (some m)) (.string s) false).run Tryz.prog w = .ok (.int .i64 (f s.data.toList)) w := by have := h.look OS (a := s.data.toList) (by simpa [KS] using ha); rwa [kvs] at this
  obtain ⟨w1, r1, g1, s1, e2, k1, k2⟩ := h.step OS (a := s.data.toList) (by simpa [KS] using ha) d hS (by unfold maxLen; omega)
  have r1' : (Instr.mapUpdate 85 (.map (some m)) (.string s) (.int .i64 (f s.data.toList + d))).run Tryz.prog w = .ok () w1 := by rwa [kvs] at r1
  have e2' : (Instr.lookup 85 (.map (some m)) (.string s) false).run Tryz.prog w1 = .ok (.int .i64 (f s.data.toList + d)) w1 := by rwa [kvs] at e2
  have hw : wrap64 (f s.data.toList + d) = f s.data.toList + d := by unfold wrap64; omega
  have HG : Hid (w.grownBy w1 (some m) ∧ w1.heap.size = w.heap.size) := ⟨g1, s1⟩
  clear h hS hl r1 e2 ha hr g1 s1
  by_cases hz : f s.data.toList + d = 0
  · obtain ⟨w2, r2, F2, g2, s2⟩ := k2 hz 0
    have r2' : (Builtin.delete_ #[85, 9] 0 #[.map (some m), .string s]).run Tryz.prog w1 = .ok (.tuple #[]) w2 := by rwa [kvs] at r2
    have HF : Hid (AjP KS m (adj f s.data.toList d) w (.returned (.tuple #[])) w2) := ⟨rfl, F2, grown_trans HG.out.1 g2, s2.trans HG.out.2⟩
    have hz2 : (f s.data.toList + d == 0) = true := by simpa using hz
    clear k1 k2 r2 F2 g2 s2 HG hz
    generalize adj f s.data.toList d = F at *
    generalize f s.data.toList = v at *
    go_enter Tryz.func38, Tryz.ntmps38
    go_wp2_with fail
    refine bodyPost_ret (results_none rfl _ _ _) rfl ?_
    exact HF.out
  · have HF : Hid (AjP KS m (adj f s.data.toList d) w (.returned (.tuple #[])) w1) := ⟨rfl, k1 hz, HG.out.1, HG.out.2⟩
    have hz2 : (f s.data.toList + d == 0) = false := by simpa using hz
    clear k1 k2 HG hz
    generalize adj f s.data.toList d = F at *
    generalize f s.data.toList = v at *
    go_enter Tryz.func38, Tryz.ntmps38
    go_wp2_with fail
    refine bodyPost_ret (results_none rfl _ _ _) rfl ?_
    exact HF.out
end Go.Proofs.YtdfadcbchiogjaaGreat
