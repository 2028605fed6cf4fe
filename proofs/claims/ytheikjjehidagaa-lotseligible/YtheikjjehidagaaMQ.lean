/- layer 17: quantities by numbers, in a map -/
import Derived.Test.YtheikjjehidagaaMA
import Derived.Test.YtheikjjehidagaaNA
import Derived.WalkKit
import Derived.ProofKit
import Derived.Handy
import Derived.WalkLawsBesides
import Derived.WalkSpells
import Derived.BigQuiet
import Derived.BigCall
import Derived.Deep.QuietTactic
import Derived.Deep.Light
import Derived.Deep.OwnRows
import Derived.Laws.AppendOwnNone
import Derived.Laws.Strings3
import Derived.Laws.RangeAny
import Derived.Deep.RegionWith
import Derived.Lib.BitFns
import Derived.Lib.Walk
import Derived.Lib.Strings
import Derived.Lib.OthersKept
import Derived.Deep.CutBlock
import Derived.Deep.DeepCutAuto
import Derived.Deep.LoopGhost
import Derived.Deep.RegionHeld3
import Derived.Lib.SmallJoins
import Derived.Maps.AppendAt
import Derived.Laws.IdiomStrings
import Derived.Lib.AppendZeros
import Derived.Deep.WholeRow
import Derived.Laws.BitsAllLaws
import Derived.Lib.ConvBytes
import Derived.Deep.RegionLaw
import Derived.Maps.OwnSet
import Derived.Maps.OwnOps
import Derived.Maps.RangeWalk
import Derived.Maps.Ext
import Derived.DeepKeys4
import Derived.Laws.StructEq
import Derived.Deep.MidRow
import Derived.Lib.Bytealg
import Derived.Lib.AppendZerosOnto
import Derived.Laws.MakeOwn
import Derived.Deep.Upon
import Derived.Sort.KeysCollected
namespace Go.Proofs.Ytheikjjehidagaa
open Go.RowKit
set_option linter.unusedVariables false
set_option linter.unusedSimpArgs false
set_option maxRecDepth 20000
def KS : Ky (List UInt8) := ⟨9, 82, fun s => .string ⟨s.toArray⟩, .string, fun s => s.length ≤ maxLen⟩
theorem zero3 (w : World) : (zeroValue 3).run Try.prog w = .ok (.int .i64 0) w := by kernel_rfl
theorem OS : KS.Ok Try.prog 3 where
  keyed := Maps.string_keyed Try.underlying9
  und := Try.underlying82
  zero := zero3
  kof := fun a h => by
    have h' : a.length ≤ maxLen := h
    have := Go.WideMaps.keyOf_string_mk (P := Try.prog) (s := ⟨a.toArray⟩) Try.underlying9 (by simpa [ByteArray.size] using h')
    simpa [KS] using this
  inv := fun v l h => by
    obtain ⟨x, rfl, rfl, hx⟩ := Maps.keyOf_str Try.underlying9 h
    exact ⟨x, rfl, rfl, hx⟩
  inj := fun a b h => by
    have h' : Lit.string a = Lit.string b := h
    injection h'
  key := fun a => by show WideAt.IsKeyLit (Lit.string a); trivial
theorem kvs (s : ByteArray) : KS.kv s.toList = .string s := by simp [KS, tl]
theorem kwf {s : ByteArray} (h : s.size ≤ 281474976710656) : KS.wf s.toList := by
  show s.toList.length ≤ maxLen
  rw [size_toList]
  unfold maxLen
  omega
theorem Mp.look2 {w : World} {m : Nat} {L : List (List UInt8 × Int)} (h : Mp KS Try.prog w m L) {a : List UInt8} (ha : KS.wf a) : ∃ b, (Instr.lookup 82 (.map (some m)) (KS.kv a) true).run Try.prog w = .ok (.tuple #[.int .i64 (gt L a), .bool b]) w ∧ (b = false → gt L a = 0) := by
  obtain ⟨es, h1, h2, h3, h4⟩ := h
  obtain ⟨v, ps, hr, hc⟩ := h1.look_ok OS.keyed OS.und (OS.zero w) (zd := .held (.int .i64 0)) (zp := []) rfl (OS.kof a ha)
  rw [at_get OS h2 h4 a] at hc
  unfold Rv at hc
  simp only [Option.some.injEq, Prod.mk.injEq, DataW.held.injEq] at hc
  refine ⟨_, by rw [hc.1] at hr; exact hr, fun hb => gt_none fun p hp e => ?_⟩
  have h5 := h2.mem_iff.2 (List.mem_map.2 ⟨p, hp, rfl⟩)
  unfold Maps.has at hb
  rw [List.any_eq_false] at hb
  refine hb _ h5 ?_
  rw [← e]
  exact WideAt.sameKey_self (OS.key p.1)
def updf (f : List UInt8 → Int) (s : List UInt8) (v : Int) : List UInt8 → Int := fun t => if t = s then v else f t
/-- block m is a map that tells f -/
structure Qm (w0 W : World) (m : Nat) (f : List UInt8 → Int) (n : Nat) : Prop where
  h : ∃ L, Mp KS Try.prog W m L ∧ (∀ a, gt L a = f a) ∧ L.length ≤ n
  b : Below w0.heap.size w0 W
  m : w0.heap.size ≤ m
theorem Qm.lt {w0 W : World} {m n : Nat} {f : List UInt8 → Int} (h : Qm w0 W m f n) : m < W.heap.size := by
  obtain ⟨L, h1, _⟩ := h.h
  exact h1.lt
theorem Qm.below {w0 W W' : World} {m n : Nat} {f : List UInt8 → Int} (h : Qm w0 W m f n) (hb : Below W.heap.size W W') : Qm w0 W' m f n := by
  obtain ⟨L, h1, h2⟩ := h.h
  exact ⟨⟨L, h1.same (hb.block m h1.lt), h2⟩, h.b.trans (hb.mono h.b.size), h.m⟩
theorem Qm.grown {w0 W W' : World} {m n : Nat} {f : List UInt8 → Int} (h : Qm w0 W m f n) {row : Option Nat} (g : W.grownBy W' row) (hr : ∀ r, row = some r → r ≠ m ∧ w0.heap.size ≤ r) : Qm w0 W' m f n := by
  obtain ⟨L, h1, h2⟩ := h.h
  refine ⟨⟨L, h1.kept g (fun e => (hr m e.symm).1 rfl), h2⟩, h.b.trans ⟨g.os, g.tape, g.output, g.size, fun k hk => g.block k (Nat.lt_of_lt_of_le hk h.b.size) (fun e => ?_)⟩, h.m⟩
  have := (hr k e.symm).2
  omega
theorem Qm.ext {w0 W : World} {m n : Nat} {f g : List UInt8 → Int} (h : Qm w0 W m f n) (e : ∀ t, f t = g t) : Qm w0 W m g n := by
  obtain ⟨L, h1, h2, h3⟩ := h.h
  exact ⟨⟨L, h1, fun a => (h2 a).trans (e a), h3⟩, h.b, h.m⟩
theorem Qm.look {w0 W : World} {m n : Nat} {f : List UInt8 → Int} (h : Qm w0 W m f n) {s : ByteArray} (hs : s.size ≤ 281474976710656) : (Instr.lookup 82 (.map (some m)) (.string s) false).run Try.prog W = .ok (.int .i64 (f s.toList)) W := by
  obtain ⟨L, h1, h2, _⟩ := h.h
  have := h1.look OS (kwf hs)
  rw [kvs, h2] at this
  exact this
theorem Qm.look2 {w0 W : World} {m n : Nat} {f : List UInt8 → Int} (h : Qm w0 W m f n) {s : ByteArray} (hs : s.size ≤ 281474976710656) : ∃ b, (Instr.lookup 82 (.map (some m)) (.string s) true).run Try.prog W = .ok (.tuple #[.int .i64 (f s.toList), .bool b]) W ∧ (b = false → f s.toList = 0) := by
  obtain ⟨L, h1, h2, _⟩ := h.h
  obtain ⟨b, h3, h4⟩ := h1.look2 (kwf hs)
  rw [kvs, h2] at h3
  rw [h2] at h4
  exact ⟨b, h3, h4⟩
theorem Qm.put {w0 W : World} {m n : Nat} {f : List UInt8 → Int} (h : Qm w0 W m f n) {s : ByteArray} (hs : s.size ≤ 281474976710656) (v : Int) (hn : n ≤ 1000000) :
    ∃ W', (Instr.mapUpdate 82 (.map (some m)) (.string s) (.int .i64 v)).run Try.prog W = .ok () W' ∧ Qm w0 W' m (updf f s.toList v) (n + 1) ∧ W.grownBy W' (some m) ∧ W'.heap.size = W.heap.size := by
  obtain ⟨L, h1, h2, h3⟩ := h.h
  have hnd : Ndk L := let ⟨_, _, _, _, k⟩ := h1; k
  obtain ⟨w', r1, m1, g1, s1⟩ := h1.store OS (kwf hs) v (by unfold maxLen; omega)
  rw [kvs] at r1
  refine ⟨w', r1, ⟨⟨_, m1, fun b => ?_, ?_⟩, h.b.trans ⟨g1.os, g1.tape, g1.output, g1.size, fun k hk => g1.block k (Nat.lt_of_lt_of_le hk h.b.size) (fun e => ?_)⟩, h.m⟩, g1, s1⟩
  · rw [gt_pt hnd]
    unfold updf
    rw [h2]
  · have := List.length_filter_le (fun p : List UInt8 × Int => decide (p.1 ≠ s.toList)) L
    unfold pt dr
    rw [List.length_cons]
    omega
  · injection e with e
    have := h.m
    omega
theorem Qm.made {w0 w : World} (h : Below w0.heap.size w0 w) : Qm w0 (w.alloc (.map #[] 0)) w.heap.size (fun _ => 0) 0 := ⟨⟨[], Mp.made w, fun _ => rfl, Nat.le_refl _⟩, h.alloc h.size _, h.size⟩
/-- one more lot reckoned -/
theorem q_add {b : List Lt} (hs : Srt b) {k : Nat} (hk : k < b.length) (t : List UInt8) : updf (qty (b.take k)) (key b[k]) (qty (b.take k) (key b[k]) + b[k].n) t = qty (b.take (k + 1)) t := by
  unfold updf
  rw [qty_take hs hk t]
  by_cases e : t = key b[k]
  · rw [if_pos e, if_pos e, e]
  · rw [if_neg e, if_neg e]
    omega
theorem q_sub {b : List Lt} (hs : Srt b) {k : Nat} (hk : k < b.length) (g : List UInt8 → Int) (s : List UInt8) : updf (fun t => g t - qty (b.take k) t) (key b[k]) (g (key b[k]) - b[k].n) s = g s - qty (b.take (k + 1)) s := by
  unfold updf
  rw [qty_take hs hk s]
  by_cases e : s = key b[k]
  · rw [if_pos e, if_pos e, e, qty_take_at hs hk]
    omega
  · rw [if_neg e, if_neg e]
    show g s - _ = _
    omega
end Go.Proofs.Ytheikjjehidagaa
