/- layer 16: a law's state: a table that calls made -/
import Derived.Test.YtdfadcbchiogjaaNL
import Derived.Test.YtdfadcbchiogjaaNB
import Derived.Test.YtdfadcbchiogjaaNM
import Derived.WalkKit
import Derived.ProofKit
import Derived.Handy
import Derived.WalkLawsBesides
import Derived.WalkSpells
import Derived.BigQuiet
import Derived.BigCall
import Derived.Deep.QuietTactic
import Derived.Deep.Light
import Derived.Deep.OwnRows
import Derived.Laws.AppendOwnNone
import Derived.Laws.Strings3
import Derived.Laws.RangeAny
import Derived.Deep.RegionWith
import Derived.Lib.BitFns
import Derived.Lib.Walk
import Derived.Lib.Strings
import Derived.Lib.OthersKept
import Derived.Deep.CutBlock
import Derived.Deep.DeepCutAuto
import Derived.Deep.LoopGhost
import Derived.Deep.RegionHeld3
import Derived.Lib.SmallJoins
import Derived.Maps.AppendAt
import Derived.Laws.IdiomStrings
import Derived.Lib.AppendZeros
import Derived.Deep.WholeRow
import Derived.Laws.BitsAllLaws
import Derived.Lib.ConvBytes
import Derived.Deep.RegionLaw
import Derived.Maps.OwnSet
import Derived.Maps.OwnOps
import Derived.Maps.RangeWalk
import Derived.Maps.Ext
import Derived.DeepKeys4
import Derived.Laws.StructEq
import Derived.Deep.MidRow
import Derived.Lib.Bytealg
import Derived.Lib.AppendZerosOnto
import Derived.Laws.MakeOwn
import Derived.Deep.Upon
import Derived.Sort.KeysCollected
namespace Go.Proofs.Ytdfadcbchiogjaa
open Go.RowKit
set_option linter.unusedVariables false
set_option linter.unusedSimpArgs false
set_option maxRecDepth 20000
structure Ls (w wr : World) (p m1 m2 : Nat) (T : Tb) (k : Nat) : Prop where
  t : Tm wr p m1 m2 T
  g : Good T k
  z : ∀ q ∈ T.L, q.s.length ≤ 281474976710656
  b : Below w.heap.size w wr
  l1 : w.heap.size ≤ m1
  l2 : w.heap.size ≤ m2
theorem Ls.below {w wr w' : World} {p m1 m2 : Nat} {T : Tb} {k : Nat} (h : Ls w wr p m1 m2 T k) (hb : Below wr.heap.size wr w') : Ls w w' p m1 m2 T k := ⟨h.t.below hb, h.g, h.z, h.b.trans (hb.mono h.b.size), h.l1, h.l2⟩
theorem Ls.mono {w wr : World} {p m1 m2 : Nat} {T : Tb} {k j : Nat} (h : Ls w wr p m1 m2 T k) (hk : k ≤ j) : Ls w wr p m1 m2 T j := { h with g := h.g.mono hk }
theorem uses_len (T : Tb) : T.uses.length ≤ 2 * T.L.length := by
  rw [uses_eq, List.length_append, List.length_map, List.length_map]
  have h1 := upsI_len T.L
  have h2 := upsA_len T.L
  omega
theorem size_dl (s : ByteArray) : s.data.toList.length = s.size := by rw [Array.length_toList]; rfl
theorem add_z {T : Tb} (hz : ∀ q ∈ T.L, q.s.length ≤ 281474976710656) {a : As} (ha : Wa a) (c : Int) : ∀ q ∈ (T.add a.iss a.i.data.toList c).L, q.s.length ≤ 281474976710656 := by
  rw [add_eq]
  split
  · intro q hq
    rcases List.mem_append.1 hq with hq | hq
    · exact hz q hq
    · simp at hq
      subst hq
      show a.i.data.toList.length ≤ _
      rw [size_dl]
      have := ha.i
      omega
  · exact hz
theorem take_z {T : Tb} (hz : ∀ q ∈ T.L, q.s.length ≤ 281474976710656) {a : As} (ha : Wa a) (c : Int) : ∀ q ∈ (T.take a.iss a.i.data.toList c).L, q.s.length ≤ 281474976710656 := by
  rw [take_eq]
  split
  · intro q hq
    rcases List.mem_append.1 hq with hq | hq
    · exact hz q hq
    · simp at hq
      subst hq
      show a.i.data.toList.length ≤ _
      rw [size_dl]
      have := ha.i
      omega
  · exact hz
section
variable {w wr : World} {p m1 m2 : Nat} {T : Tb} {k : Nat}
theorem ls_room (h : Ls w wr p m1 m2 T k) {a : As} (ha : Wa a) : Calls Try.prog 14 #[.pointer (some ⟨p, 0, none⟩), .agg (acs a).toArray] wr fun e w' => e = .returned (.int .i64 (T.room a.iss a.i.data.toList)) ∧ Hid (Ls w w' p m1 m2 T k ∧ Below wr.heap.size wr w') :=
  (xroom h.t h.g ha).mono fun e w' hh => ⟨hh.1, h.below hh.2, hh.2⟩
theorem ls_add (h : Ls w wr p m1 m2 T k) (hk : k ≤ 1000) {a : As} (ha : Wa a) {c : Int} (hc : Rng c) : Calls Try.prog 10 #[.pointer (some ⟨p, 0, none⟩), .agg (acs a).toArray, .int .i64 c] wr fun e w' => e = .returned (.int .i64 (addE T a.iss a.i.data.toList c : Nat)) ∧ Hid (Ls w w' p m1 m2 (T.add a.iss a.i.data.toList c) (k + 1) ∧ Kt m1 m2 wr w') :=
  (xadd h.t h.g hk ha hc).mono fun e w' hh => ⟨hh.1, ⟨hh.2.out.1, h.g.add _ _ _, add_z h.z ha c, h.b.trans (hh.2.out.2.below h.b.size h.l1 h.l2), h.l1, h.l2⟩, hh.2.out.2⟩
theorem ls_take (h : Ls w wr p m1 m2 T k) (hk : k ≤ 1000) {a : As} (ha : Wa a) {c : Int} (hc : Rng c) : Calls Try.prog 12 #[.pointer (some ⟨p, 0, none⟩), .agg (acs a).toArray, .int .i64 c] wr fun e w' => e = .returned (.int .i64 (tkE T a.iss a.i.data.toList c : Nat)) ∧ Hid (Ls w w' p m1 m2 (T.take a.iss a.i.data.toList c) (k + 1) ∧ Kt m1 m2 wr w') :=
  (xtake h.t h.g hk ha hc).mono fun e w' hh => ⟨hh.1, ⟨hh.2.out.1, h.g.take _ _ _, take_z h.z ha c, h.b.trans (hh.2.out.2.below h.b.size h.l1 h.l2), h.l1, h.l2⟩, hh.2.out.2⟩
theorem ls_sum (h : Ls w wr p m1 m2 T k) (hk : k ≤ 1000) : Calls Try.prog 16 #[.pointer (some ⟨p, 0, none⟩)] wr fun e w' => e = .returned (.int .i64 (sm T.L)) ∧ Hid (Ls w w' p m1 m2 T k ∧ Below wr.heap.size wr w') :=
  (xsum h.t h.g hk).mono fun e w' hh => ⟨hh.1, h.below hh.2, hh.2⟩
theorem ls_open (h : Ls w wr p m1 m2 T k) (hk : k ≤ 1000) : Calls Try.prog 17 #[.pointer (some ⟨p, 0, none⟩)] wr fun e w' => e = .returned (.int .i64 T.open) ∧ Hid (Ls w w' p m1 m2 T k ∧ Below wr.heap.size wr w') :=
  (xopen h.t h.g hk).mono fun e w' hh => ⟨hh.1, h.below hh.2, hh.2⟩
theorem ls_uses (h : Ls w wr p m1 m2 T k) (hk : k ≤ 1000) : Calls Try.prog 20 #[.pointer (some ⟨p, 0, none⟩)] wr fun e w' => ∃ a cap, e = .returned (.slice a T.uses.length cap) ∧ Hid (Rw 4 ucs w' a T.uses ∧ Ls w w' p m1 m2 T k ∧ Below wr.heap.size wr w') :=
  (xuses h.t (fun n => (h.g.i n).1) (fun s => (h.g.a s).1) (by have := h.g.l; omega) h.z).mono fun e w' hh => by
    obtain ⟨v, rfl, hz⟩ := hh
    obtain ⟨a, cap, rfl, hc, hr⟩ := own_rw ucs_len hz.out.1 rfl
    exact ⟨a, cap, rfl, hr, h.below hz.out.2, hz.out.2⟩
end
/-- a call as it is handed in -/
structure Ac where
  k : Int
  a : As
  c : Int
def ccs (x : Ac) : List Value := [.int .i64 x.k, .string x.a.i, .int .i64 x.a.iss, .int .i64 x.a.rat, .int .i64 x.a.mat, .string x.a.c, .int .i64 x.c]
theorem ccs_len (x : Ac) : (ccs x).length = 7 := rfl
structure Wc (x : Ac) : Prop where
  k : Rng x.k
  a : Wa x.a
  c : Rng x.c
theorem ccs_at {wr w : World} {blk off : Nat} {l : List Ac} {k : Nat} (hcs : ∀ i (h : i < l.length), ∀ j, j < 7 → w.cell? ⟨blk, off + i * 7 + j, none⟩ = (ccs l[i])[j]?) (hb : Below w.heap.size w wr) (hbl : blk < w.heap.size) (hk : k < l.length) :
    wr.cell? ⟨blk, off + k * 7, none⟩ = some (.int .i64 l[k].k) ∧ wr.cell? ⟨blk, off + k * 7 + 1, none⟩ = some (.string l[k].a.i) ∧ wr.cell? ⟨blk, off + k * 7 + 2, none⟩ = some (.int .i64 l[k].a.iss) ∧ wr.cell? ⟨blk, off + k * 7 + 3, none⟩ = some (.int .i64 l[k].a.rat) ∧
    wr.cell? ⟨blk, off + k * 7 + 4, none⟩ = some (.int .i64 l[k].a.mat) ∧ wr.cell? ⟨blk, off + k * 7 + 5, none⟩ = some (.string l[k].a.c) ∧ wr.cell? ⟨blk, off + k * 7 + 6, none⟩ = some (.int .i64 l[k].c) := by
  have h := hcs k hk
  exact ⟨(hb.cell (p := ⟨blk, off + k * 7 + 0, none⟩) hbl).trans (h 0 (by omega)), (hb.cell (p := ⟨blk, off + k * 7 + 1, none⟩) hbl).trans (h 1 (by omega)), (hb.cell (p := ⟨blk, off + k * 7 + 2, none⟩) hbl).trans (h 2 (by omega)), (hb.cell (p := ⟨blk, off + k * 7 + 3, none⟩) hbl).trans (h 3 (by omega)), (hb.cell (p := ⟨blk, off + k * 7 + 4, none⟩) hbl).trans (h 4 (by omega)), (hb.cell (p := ⟨blk, off + k * 7 + 5, none⟩) hbl).trans (h 5 (by omega)), (hb.cell (p := ⟨blk, off + k * 7 + 6, none⟩) hbl).trans (h 6 (by omega))⟩
end Go.Proofs.Ytdfadcbchiogjaa
