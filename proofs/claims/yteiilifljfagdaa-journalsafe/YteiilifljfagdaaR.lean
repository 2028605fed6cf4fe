/- A journal that runs, call by call. -/
import Derived.Test.YteiilifljfagdaaQ
import Derived.WalkKit
import Derived.ProofKit
import Derived.Handy
import Derived.WalkLawsBesides
import Derived.WalkSpells
import Derived.BigQuiet
import Derived.BigCall
import Derived.Deep.QuietTactic
import Derived.Deep.Light
import Derived.Deep.OwnRows
import Derived.Laws.AppendOwnNone
import Derived.Laws.Strings3
import Derived.Laws.RangeAny
import Derived.Deep.RegionWith
import Derived.Lib.BitFns
import Derived.Lib.Walk
import Derived.Lib.Strings
import Derived.Lib.OthersKept
import Derived.Deep.CutBlock
import Derived.Deep.DeepCutAuto
import Derived.Deep.LoopGhost
import Derived.Deep.RegionHeld3
import Derived.Lib.SmallJoins
import Derived.Maps.AppendAt
import Derived.Laws.IdiomStrings
import Derived.Lib.AppendZeros
import Derived.Deep.WholeRow
import Derived.Laws.BitsAllLaws
import Derived.Lib.ConvBytes
import Derived.Deep.RegionLaw
namespace Go.Proofs.Yteiilifljfagdaa
open Go.RowKit
set_option linter.unusedVariables false
set_option linter.unusedSimpArgs false
theorem chg_other (S : St) (e : Int) (g : St → St) (o : Nat) (hg : ∀ D, fl (g D) o = fl D o) : fl (chg S e g).1 o = fl S o := by
  rcases chg_cases S e g with ⟨_, h⟩ | ⟨_, _, _, h⟩ | ⟨_, D, hD, _, _, h⟩
  · rw [h]
  · exact fl_same h.f o
  · rw [h]
    exact (hg D).trans (fl_same hD.f o)
theorem put_fl (D : St) (i : Nat) (b : ByteArray) (o : Nat) (h : o ≠ i) : fl { D with f := put D.f i b } o = fl D o := by
  unfold fl
  show (put D.f i b o).data.toList = _
  rw [put_ne _ _ _ _ h]
theorem app_other (S : St) (i : Nat) (t : ByteArray) (o : Nat) (h : o ≠ i) : fl (app S i t).1 o = fl S o := chg_other S _ _ o fun D => put_fl D _ _ o (by simpa using h)
theorem syn_other (S : St) (i : Int) (o : Nat) : fl (syn S i).1 o = fl S o := chg_other S _ _ o fun D => rfl
theorem ctf_other (S : St) (i : Nat) (n : Int) (o : Nat) (h : o ≠ i) : fl (ctf S i n).1 o = fl S o := chg_other S _ _ o fun D => put_fl _ _ _ o (by simpa using h)
theorem thn_fl (r : St × Int) (g : St → St × Int) (o : Nat) (h : ∀ D, fl (g D).1 o = fl D o) : fl (thn r g).1 o = fl r.1 o := by
  unfold thn
  by_cases hr : r.2 = 0
  · rw [if_pos hr]; exact h _
  · rw [if_neg hr]
theorem adR_other (S : St) (f : Nat) (c : List UInt8) (o : Nat) (h : o ≠ f) : fl (adR S f c).1 o = fl S o := (thn_fl _ _ o fun D => syn_other D f o).trans (app_other S f _ o h)
theorem new_fl (o : Nat) : fl new o = [] := rfl
/-- Format of a new disk leaves file 1 empty -/
theorem fmt_other (t : List UInt8) : fl (fmt new t).1 1 = [] := by
  unfold fmt
  rw [thn_fl _ _ 1 fun D => syn_other D 0 1]
  refine (thn_fl _ (fun D => app D 0 (ba (lay 1 0 t))) 1 fun D => app_other D 0 _ 1 (by omega)).trans ?_
  have h1 := ctf_yes (S := new) (i := 0) (n := 0) rfl (by decide) (by omega) (Nat.zero_le _)
  have h1' : (ctf new 0 0).2 = 0 := h1.1
  rw [thn_ok (r := ctf new 0 0) h1']
  have hf : fl (ctf new 0 0).1 1 = [] := (ctf_other new 0 0 1 (by omega)).trans rfl
  rcases ctf_do (S := (ctf new 0 0).1) (i := 1) (n := 0) h1.2.1 (by omega) (Nat.zero_le _) with ⟨h2, _⟩ | ⟨_, h2, _⟩
  · have := h1.2.2
    exact absurd h2 (by show ¬ (0 : Int) ≤ (ctf new ((0 : Nat) : Int) ((0 : Nat) : Int)).1.lim; omega)
  · obtain ⟨e1, _⟩ := fl_put _ _ 1 _ h2
    rw [nil_take (α := Nat)] at e1
    exact e1
structure Lv (B : Nat) (w : World) (q p : Nat) (S : St) (V : Nat → Value) (f g a : Nat) (s : ByteArray) (v : Value) (cs : List ByteArray) : Prop where
  j : Jm B w q p false f g a s v cs
  d : Dk B w p S V
  r : Run S f g a s.data.toList (ls cs)
theorem Lv.keep {B q p f g a : Nat} {w w' : World} {S : St} {V : Nat → Value} {s : ByteArray} {v : Value} {cs : List ByteArray} (h : Lv B w q p S V f g a s v cs) (hb : Below w.heap.size w w') : Lv B w' q p S V f g a s v cs := ⟨h.j.keep hb, h.d.below hb, h.r⟩
theorem Lv.size {B q p f g a : Nat} {w : World} {S : St} {V : Nat → Value} {s : ByteArray} {v : Value} {cs : List ByteArray} (h : Lv B w q p S V f g a s v cs) : (S.f f).size = (lay g a s.data.toList).length + tot cs + 12 * cs.length := by
  rw [← fl_len, h.r.all, List.length_append, flat_len]
  omega
theorem Lv.many {B q p f g a : Nat} {w : World} {S : St} {V : Nat → Value} {s : ByteArray} {v : Value} {cs : List ByteArray} (h : Lv B w q p S V f g a s v cs) : cs.length ≤ 1048576 ∧ s.size ≤ 1048576 ∧ ∀ c ∈ cs, c.size ≤ 1048576 := by
  have h1 := h.size
  have h2 := h.r.disk.small f
  have h3 := lay_len g a s.data.toList
  have h4 : s.data.toList.length = s.size := rfl
  refine ⟨by omega, by omega, fun c hc => ?_⟩
  obtain ⟨i, hi, rfl⟩ := List.getElem_of_mem hc
  have e2 := tot_take hi
  have e3 := tot_le cs (i + 1)
  omega
/-- behind an Add that may have failed -/
def FaP (B p q f g a : Nat) (S : St) (s : ByteArray) (v : Value) (cs : List ByteArray) (c : ByteArray) (w : World) (e : Ending) (w' : World) : Prop :=
  ∃ (x : Int) (S' : St) (V' : Nat → Value), e = .returned (.int .i64 x) ∧ Hid (Dk B w' p S' V') ∧ Hid (Jf B p q v.ownBlock w w') ∧
    ((x = 0 ∧ (0 ≤ S'.lim → 0 ≤ S.lim) ∧ Hid (∀ o, o ≠ f → fl S' o = fl S o) ∧ ∃ v', Hid (Lv B w' q p S' V' f g a s v' (cs ++ [c])) ∧ (v'.ownBlock = v.ownBlock ∨ ∃ k, v'.ownBlock = some k ∧ w.heap.size ≤ k)) ∨
     (x ≠ 0 ∧ 0 ≤ S.lim ∧ Hid (∀ N t, Fit (g + 1) N t → Kept S' f g a s.data.toList (ls cs) c.data.toList N t)))
theorem fadd {B q p f g a : Nat} {w : World} {S : St} {V : Nat → Value} {s : ByteArray} {v : Value} {cs : List ByteArray} (h : Lv B w q p S V f g a s v cs) (c : ByteArray) (hc : c.size ≤ 4096) (hz : (lay g a s.data.toList).length + tot cs + 12 * cs.length + (c.size + 12) ≤ 1048576) :
    Calls Try.prog 26 #[.pointer (some ⟨q, 0, none⟩), .string c] w (FaP B p q f g a S s v cs c w) := by
  refine (xadd_ok B q p f g a S V s v cs w h.j h.d h.r.disk c hc h.many.1).mono ?_
  rintro e w' ⟨rfl, ⟨V', hd⟩, hf, hj⟩
  have hr := h.r.add (c := c.data.toList) hc (by rw [h.size]; exact hz)
  refine ⟨_, _, V', rfl, hd, hf, ?_⟩
  rcases hr with ⟨h1, h2, h3⟩ | ⟨h1, _, h3, h4⟩
  · obtain ⟨v', hv, ho⟩ := hj h1
    refine .inl ⟨h1, h3, fun o ho => adR_other S f _ o ho, v', ⟨hv.out, hd.out, ?_⟩, ho⟩
    rw [ls_app]
    exact h2
  · exact .inr ⟨h1, h3, h4⟩
def FtP (B p q f g a : Nat) (S : St) (s : ByteArray) (v : Value) (cs : List ByteArray) (t : ByteArray) (w : World) (e : Ending) (w' : World) : Prop :=
  ∃ (x : Int) (S' : St) (V' : Nat → Value), e = .returned (.int .i64 x) ∧ Hid (Dk B w' p S' V') ∧ Hid (Jf B p q v.ownBlock w w') ∧
    ((x = 0 ∧ (0 ≤ S'.lim → 0 ≤ S.lim) ∧ Hid (Lv B w' q p S' V' (1 - f) (g + 1) (a + cs.length) t (.slice none 0 0) [])) ∨
     (x ≠ 0 ∧ 0 ≤ S.lim ∧ Hid (∀ c, c.length ≤ 4096 → Kept S' f g a s.data.toList (ls cs) c (a + cs.length) t.data.toList)))
theorem fturn {B q p f g a : Nat} {w : World} {S : St} {V : Nat → Value} {s : ByteArray} {v : Value} {cs : List ByteArray} (h : Lv B w q p S V f g a s v cs) (t : ByteArray) (ht : Fit (g + 1) (a + cs.length) t.data.toList) (hz : (lay (g + 1) (a + cs.length) t.data.toList).length ≤ 1048576) :
    Calls Try.prog 24 #[.pointer (some ⟨q, 0, none⟩), .string t] w (FtP B p q f g a S s v cs t w) := by
  refine (xturn B q p f g a S V s v cs w h.j h.d h.r.disk t h.r.f1 h.many.1 ht hz).mono ?_
  rintro e w' ⟨rfl, ⟨V', hd⟩, hf, hj⟩
  have hr := h.r.turn ht hz
  refine ⟨_, _, V', rfl, hd, hf, ?_⟩
  rcases hr with ⟨h1, h2, h3⟩ | ⟨h1, h3, h4⟩
  · exact .inl ⟨h1, h3, ⟨(hj h1).out, hd.out, h2⟩⟩
  · exact .inr ⟨h1, h3, h4⟩
theorem new_run : new.gone = false ∧ new.lim < 0 ∧ Ok new := ⟨rfl, by decide, new_ok⟩
/-- New and Format -/
def FfP (B p : Nat) (t : ByteArray) (w : World) (e : Ending) (w' : World) : Prop :=
  ∃ (q : Nat) (S' : St) (V' : Nat → Value), e = .returned (.tuple #[.pointer (some ⟨q, 0, none⟩), .int .i64 0]) ∧ Hid (Lv B w' q p S' V' 0 1 0 t (.slice none 0 0) []) ∧ S'.lim < 0 ∧ Hid (Fr B p w w') ∧ w.heap.size ≤ q ∧ Hid (fl S' 1 = [])
theorem fformat {B p : Nat} {w : World} {V : Nat → Value} (h : Dk B w p new V) (t : ByteArray) (hz : (lay 1 0 t.data.toList).length ≤ 1048576) : Calls Try.prog 10 #[.pointer (some ⟨p, 0, none⟩), .string t] w (FfP B p t w) := by
  have hl := lay_len 1 0 t.data.toList
  have ht : Fit 1 0 t.data.toList := ⟨by omega, by omega, by omega, by omega⟩
  refine (xformat B p new V w h new_ok rfl (by decide) t ht hz).mono ?_
  rintro e w' ⟨q, V', rfl, hc, hj⟩
  rcases fmt_do (S := new) rfl new_ok ht hz with ⟨_, h2, h3⟩ | ⟨_, h2⟩
  · refine ⟨q, _, V', rfl, ⟨hj.out.below h.bw, hc.out.1, h2⟩, ?_, hc.out.2, hj.out.base, fmt_other _⟩
    have : ¬ (0 : Int) ≤ new.lim := by decide
    omega
  · exact absurd h2 (by decide)
theorem Jf.dk {B p q : Nat} {c : Option Nat} {w w' : World} (h : Jf B p q c w w') : Below B w w' := h.1
end Go.Proofs.Yteiilifljfagdaa
