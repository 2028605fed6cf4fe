/- A journal that runs, call by call. -/
import Derived.Test.YteiilifljfagdaaQ
import Derived.WalkKit
import Derived.ProofKit
import Derived.Handy
import Derived.WalkLawsBesides
import Derived.WalkSpells
import Derived.BigQuiet
import Derived.BigCall
import Derived.Deep.QuietTactic
import Derived.Deep.Light
import Derived.Deep.OwnRows
import Derived.Laws.AppendOwnNone
import Derived.Laws.Strings3
import Derived.Laws.RangeAny
import Derived.Deep.RegionWith
import Derived.Lib.BitFns
import Derived.Lib.Walk
import Derived.Lib.Strings
import Derived.Lib.OthersKept
import Derived.Deep.CutBlock
import Derived.Deep.DeepCutAuto
import Derived.Deep.LoopGhost
import Derived.Deep.RegionHeld3
import Derived.Lib.SmallJoins
import Derived.Maps.AppendAt
import Derived.Laws.IdiomStrings
import Derived.Lib.AppendZeros
import Derived.Deep.WholeRow
import Derived.Laws.BitsAllLaws
import Derived.Lib.ConvBytes
import Derived.Deep.RegionLaw
namespace Go.Proofs.Yteiilifljfagdaa
open Go.RowKit
set_option linter.unusedVariables false
set_option linter.unusedSimpArgs false
structure Lv (B : Nat) (w : World) (q p : Nat) (S : St) (V : Nat → Value) (f g a : Nat) (s : ByteArray) (v : Value) (cs : List ByteArray) : Prop where
  j : Jm B w q p false f g a s v cs
  d : Dk B w p S V
  r : Run S f g a s.data.toList (ls cs)
theorem Lv.keep {B q p f g a : Nat} {w w' : World} {S : St} {V : Nat → Value} {s : ByteArray} {v : Value} {cs : List ByteArray} (h : Lv B w q p S V f g a s v cs) (hb : Below w.heap.size w w') : Lv B w' q p S V f g a s v cs := ⟨h.j.keep hb, h.d.below hb, h.r⟩
theorem Lv.size {B q p f g a : Nat} {w : World} {S : St} {V : Nat → Value} {s : ByteArray} {v : Value} {cs : List ByteArray} (h : Lv B w q p S V f g a s v cs) : (S.f f).size = (lay g a s.data.toList).length + tot cs + 12 * cs.length := by
  rw [← fl_len, h.r.all, List.length_append, flat_len]
  omega
theorem Lv.many {B q p f g a : Nat} {w : World} {S : St} {V : Nat → Value} {s : ByteArray} {v : Value} {cs : List ByteArray} (h : Lv B w q p S V f g a s v cs) : cs.length ≤ 1048576 ∧ s.size ≤ 1048576 ∧ ∀ c ∈ cs, c.size ≤ 1048576 := by
  have h1 := h.size
  have h2 := h.r.disk.small f
  have h3 := lay_len g a s.data.toList
  have h4 : s.data.toList.length = s.size := rfl
  refine ⟨by omega, by omega, fun c hc => ?_⟩
  obtain ⟨i, hi, rfl⟩ := List.getElem_of_mem hc
  have e2 := tot_take hi
  have e3 := tot_le cs (i + 1)
  omega
/-- behind an Add that may have failed -/
def FaP (B p q f g a : Nat) (S : St) (s : ByteArray) (v : Value) (cs : List ByteArray) (c : ByteArray) (w : World) (e : Ending) (w' : World) : Prop :=
  ∃ (x : Int) (S' : St) (V' : Nat → Value), e = .returned (.int .i64 x) ∧ Hid (Dk B w' p S' V') ∧ Hid (Jf B p q v.ownBlock w w') ∧
    ((x = 0 ∧ (0 ≤ S'.lim → 0 ≤ S.lim) ∧ ∃ v', Hid (Lv B w' q p S' V' f g a s v' (cs ++ [c])) ∧ (v'.ownBlock = v.ownBlock ∨ ∃ k, v'.ownBlock = some k ∧ w.heap.size ≤ k)) ∨
     (x ≠ 0 ∧ 0 ≤ S.lim ∧ Hid (∀ N t, Fit (g + 1) N t → Kept S' f g a s.data.toList (ls cs) c.data.toList N t)))
theorem fadd {B q p f g a : Nat} {w : World} {S : St} {V : Nat → Value} {s : ByteArray} {v : Value} {cs : List ByteArray} (h : Lv B w q p S V f g a s v cs) (c : ByteArray) (hc : c.size ≤ 4096) (hz : (lay g a s.data.toList).length + tot cs + 12 * cs.length + (c.size + 12) ≤ 1048576) :
    Calls Try.prog 26 #[.pointer (some ⟨q, 0, none⟩), .string c] w (FaP B p q f g a S s v cs c w) := by
  refine (xadd_ok B q p f g a S V s v cs w h.j h.d h.r.disk c hc h.many.1).mono ?_
  rintro e w' ⟨rfl, ⟨V', hd⟩, hf, hj⟩
  have hr := h.r.add (c := c.data.toList) hc (by rw [h.size]; exact hz)
  refine ⟨_, _, V', rfl, hd, hf, ?_⟩
  rcases hr with ⟨h1, h2, h3⟩ | ⟨h1, _, h3, h4⟩
  · obtain ⟨v', hv, ho⟩ := hj h1
    refine .inl ⟨h1, h3, v', ⟨hv.out, hd.out, ?_⟩, ho⟩
    rw [ls_app]
    exact h2
  · exact .inr ⟨h1, h3, h4⟩
def FtP (B p q f g a : Nat) (S : St) (s : ByteArray) (v : Value) (cs : List ByteArray) (t : ByteArray) (w : World) (e : Ending) (w' : World) : Prop :=
  ∃ (x : Int) (S' : St) (V' : Nat → Value), e = .returned (.int .i64 x) ∧ Hid (Dk B w' p S' V') ∧ Hid (Jf B p q v.ownBlock w w') ∧
    ((x = 0 ∧ (0 ≤ S'.lim → 0 ≤ S.lim) ∧ Hid (Lv B w' q p S' V' (1 - f) (g + 1) (a + cs.length) t (.slice none 0 0) [])) ∨
     (x ≠ 0 ∧ 0 ≤ S.lim ∧ Hid (∀ c, c.length ≤ 4096 → Kept S' f g a s.data.toList (ls cs) c (a + cs.length) t.data.toList)))
theorem fturn {B q p f g a : Nat} {w : World} {S : St} {V : Nat → Value} {s : ByteArray} {v : Value} {cs : List ByteArray} (h : Lv B w q p S V f g a s v cs) (t : ByteArray) (ht : Fit (g + 1) (a + cs.length) t.data.toList) (hz : (lay (g + 1) (a + cs.length) t.data.toList).length ≤ 1048576) :
    Calls Try.prog 24 #[.pointer (some ⟨q, 0, none⟩), .string t] w (FtP B p q f g a S s v cs t w) := by
  refine (xturn B q p f g a S V s v cs w h.j h.d h.r.disk t h.r.f1 h.many.1 ht hz).mono ?_
  rintro e w' ⟨rfl, ⟨V', hd⟩, hf, hj⟩
  have hr := h.r.turn ht hz
  refine ⟨_, _, V', rfl, hd, hf, ?_⟩
  rcases hr with ⟨h1, h2, h3⟩ | ⟨h1, h3, h4⟩
  · exact .inl ⟨h1, h3, ⟨(hj h1).out, hd.out, h2⟩⟩
  · exact .inr ⟨h1, h3, h4⟩
theorem new_run : new.gone = false ∧ new.lim < 0 ∧ Ok new := ⟨rfl, by decide, new_ok⟩
/-- New and Format -/
def FfP (B p : Nat) (t : ByteArray) (w : World) (e : Ending) (w' : World) : Prop :=
  ∃ (q : Nat) (S' : St) (V' : Nat → Value), e = .returned (.tuple #[.pointer (some ⟨q, 0, none⟩), .int .i64 0]) ∧ Hid (Lv B w' q p S' V' 0 1 0 t (.slice none 0 0) []) ∧ S'.lim < 0 ∧ Hid (Fr B p w w') ∧ w.heap.size ≤ q
theorem fformat {B p : Nat} {w : World} {V : Nat → Value} (h : Dk B w p new V) (t : ByteArray) (hz : (lay 1 0 t.data.toList).length ≤ 1048576) : Calls Try.prog 10 #[.pointer (some ⟨p, 0, none⟩), .string t] w (FfP B p t w) := by
  have hl := lay_len 1 0 t.data.toList
  have ht : Fit 1 0 t.data.toList := ⟨by omega, by omega, by omega, by omega⟩
  refine (xformat B p new V w h new_ok rfl (by decide) t ht hz).mono ?_
  rintro e w' ⟨q, V', rfl, hc, hj⟩
  rcases fmt_do (S := new) rfl new_ok ht hz with ⟨_, h2, h3⟩ | ⟨_, h2⟩
  · refine ⟨q, _, V', rfl, ⟨hj.out.below h.bw, hc.out.1, h2⟩, ?_, hc.out.2, hj.out.base⟩
    have : ¬ (0 : Int) ≤ new.lim := by decide
    omega
  · exact absurd h2 (by decide)
theorem Jf.dk {B p q : Nat} {c : Option Nat} {w w' : World} (h : Jf B p q c w w') : Below B w w' := h.1
end Go.Proofs.Yteiilifljfagdaa
