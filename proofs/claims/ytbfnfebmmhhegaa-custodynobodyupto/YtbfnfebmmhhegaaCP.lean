/- layer 12: the chapter's example -/
import Derived.Test.YtbfnfebmmhhegaaCO
import Derived.Test.YtbfnfebmmhhegaaCN
import Derived.Test.YtbfnfebmmhhegaaCM
import Derived.WalkKit
import Derived.ProofKit
import Derived.Handy
import Derived.WalkLawsBesides
import Derived.WalkSpells
import Derived.BigQuiet
import Derived.BigCall
import Derived.Deep.QuietTactic
import Derived.Deep.Light
import Derived.Deep.OwnRows
import Derived.Laws.AppendOwnNone
import Derived.Laws.Strings3
import Derived.Laws.RangeAny
import Derived.Deep.RegionWith
import Derived.Lib.BitFns
import Derived.Lib.Walk
import Derived.Lib.Strings
import Derived.Lib.OthersKept
import Derived.Deep.CutBlock
import Derived.Deep.DeepCutAuto
import Derived.Deep.LoopGhost
import Derived.Deep.RegionHeld3
import Derived.Lib.SmallJoins
import Derived.Maps.AppendAt
import Derived.Laws.IdiomStrings
import Derived.Lib.AppendZeros
import Derived.Deep.WholeRow
import Derived.Laws.BitsAllLaws
import Derived.Lib.ConvBytes
import Derived.Deep.RegionLaw
import Derived.Maps.OwnSet
import Derived.Maps.OwnOps
import Derived.Maps.RangeWalk
import Derived.Maps.Ext
import Derived.DeepKeys4
import Derived.Laws.StructEq
import Derived.Shelf.SlSortCmp.NoneTotal
import Derived.Deep.MidRow
import Derived.Laws.MakeOwn
namespace Go.Proofs.Ytbfnfebmmhhegaa
open Go.RowKit
set_option linter.unusedVariables false
set_option linter.unusedSimpArgs false
set_option maxRecDepth 20000
abbrev XB : ByteArray := ⟨#[88, 49, 50, 51, 52]⟩
abbrev EB : ByteArray := ⟨#[69, 85, 82]⟩
theorem tX : XB.toList = [88, 49, 50, 51, 52] := by rw [ByteArray.toList_eq]
theorem tE : EB.toList = [69, 85, 82] := by rw [ByteArray.toList_eq]
abbrev XL : List UInt8 := [88, 49, 50, 51, 52]
abbrev EL : List UInt8 := [69, 85, 82]
def A1 : List Num.Bal := brL [] 1 XL 9
def A2 : List Num.Bal := brL A1 2 EL 50
def AT : List Num.Ent := [((1, 1, XL), (2, 1, XL), 9), ((2, 1, EL), (1, 1, EL), 50)]
def A3 : List Num.Bal := Num.post A2 AT
theorem a1 : brE [] 1 XL 9 = 0 := by decide +kernel
theorem a2 : brE A1 2 EL 50 = 0 := by decide +kernel
theorem a3 : Num.howf A2 AT = 2 ∧ Num.whyf A2 AT = 0 := by decide +kernel
theorem a4 : Num.howf A3 AT = 0 ∧ Num.whyf A3 AT = 20 ∧ Num.post A3 AT = A3 := by decide +kernel
theorem a5 : Num.get A3 (2, 1, XL) = 9 := by decide +kernel
theorem a6 : Num.get A3 (1, 1, EL) = 50 ∧ Num.get A3 (1, 2, EL) = 0 ∧ Num.get A3 (1, 3, EL) = 0 ∧ Num.get A3 (1, 4, EL) = 0 := by decide +kernel
theorem a7 : A1.length ≤ 1000 ∧ A2.length ≤ 1000 ∧ A3.length ≤ 1000 := by decide +kernel
theorem g1 : Num.Good A1 := brL_good Num.Good.nil _ _ _
theorem g2 : Num.Good A2 := brL_good g1 _ _ _
theorem g3 : Num.Good A3 := g2.post _
theorem at_ent : (trl 1 2 [(XB, 9)] EB 50).map Ln.ent = AT := by simp [trl, way, Ln.ent, Ln.ex, Ex.ent, tX, tE, AT]
theorem at_st : (trl 1 2 [(XB, 9)] EB 50).findIdx? Ln.st = none := by
  have h : ∀ x ∈ trl 1 2 [(XB, 9)] EB 50, Ln.st x = false := by
    intro x hx
    simp only [trl, List.map_cons, List.map_nil, List.cons_append, List.nil_append, List.mem_cons, List.not_mem_nil, or_false] at hx
    rcases hx with rfl | rfl <;> rfl
  rw [List.findIdx?_eq_none_iff]
  exact h
theorem at_mv (L : List Num.Bal) : mvL L (trl 1 2 [(XB, 9)] EB 50) = Num.post L AT ∧ mvN L (trl 1 2 [(XB, 9)] EB 50) = (Num.howf L AT : Int) ∧ mvE L (trl 1 2 [(XB, 9)] EB 50) = Num.whyf L AT := by
  unfold mvL mvN mvE
  rw [at_st, at_ent]
  exact ⟨rfl, rfl, rfl⟩
structure St (w0 W : World) (c q m lb : Nat) (L : List Num.Bal) : Prop where
  b : Below w0.heap.size w0 W
  x : Cu W c q m L
  l : Bx W lb #[.string XB, .int .i64 9] 64
  m0 : w0.heap.size ≤ m
theorem St.step {w0 W W' : World} {c q m lb : Nat} {L L' : List Num.Bal} (h : St w0 W c q m lb L) (hx : Cu W' c q m L') (g : W.grownBy W' (some m)) : St w0 W' c q m lb L' := by
  have hne : lb ≠ m := by
    intro e
    have h1 := mp_nocell h.x.l.m 0
    have h2 := h.l.cell 0
    rw [e, h1] at h2
    cases h2
  exact ⟨h.b.grown g h.b.size (fun k e => by cases e; exact h.m0), hx, h.l.kept g (by simp [hne]), h.m0⟩
theorem St.below {w0 W W' : World} {c q m lb : Nat} {L : List Num.Bal} (h : St w0 W c q m lb L) (hb : Below W.heap.size W W') : St w0 W' c q m lb L := ⟨h.b.trans (hb.mono h.b.size), h.x.below hb, h.l.below hb h.l.lt, h.m0⟩
theorem St.lots {w0 W : World} {c q m lb : Nat} {L : List Num.Bal} (h : St w0 W c q m lb L) : Lts W (some ⟨lb, 0, none⟩) [(XB, 9)] := fun _ => ⟨lb, 0, rfl, h.l.lt, fun i hi j hj => by
  obtain rfl : i = 0 := by simpa using hi
  rw [Nat.zero_mul, Nat.add_zero, Nat.zero_add, h.l.cell j]
  rcases j with _ | _ | j
  · rfl
  · rfl
  · omega⟩
theorem waX (m b : Int) (h : Rng m) (h2 : Rng b) : Wa (m, b, XL) := ⟨h.wf, h2.wf, by unfold maxLen; simp⟩
theorem waE (m b : Int) (h : Rng m) (h2 : Rng b) : Wa (m, b, EL) := ⟨h.wf, h2.wf, by unfold maxLen; simp⟩
theorem fld42 (W : World) (a b c d : Int) : (Instr.field 42 (.agg #[.int .i64 a, .int .i64 b, .int .i64 c, .int .i64 d]) 0).run Try.prog W = .ok (.int .i64 a) W := by kernel_rfl
def OkP (w : World) (e : Ending) (w' : World) : Prop := e = .returned (.bool true) ∧ Below w.heap.size w w'
set_option maxHeartbeats 8000000 in
theorem xcawake (w : World) : Calls Try.prog 14 #[] w (OkP w) := by
  have HN : Hid (Calls Try.prog 9 #[] w fun e w' => ∃ c q m, e = .returned (.pointer (some ⟨c, 0, none⟩)) ∧ Hid (St w (w'.alloc (.cells #[.string XB, .int .i64 9] 64)) c q m w'.heap.size [])) := (xcnew w).mono fun e w' hh => by
    obtain ⟨c, q, m, rfl, _, _, hm, hz⟩ := hh
    have hb := hz.out.2
    exact ⟨c, q, m, rfl, hb.alloc hb.size _, hz.out.1.below ((Below.refl _ w').alloc (Nat.le_refl _) _), Bx.new w' _ _, hm⟩
  have HB1 : Hid (∀ W c q m lb, St w W c q m lb [] → Calls Try.prog 26 #[.pointer (some ⟨c, 0, none⟩), .int .i64 1, .string XB, .int .i64 9] W fun e W' => e = .returned (.int .i64 0) ∧ Hid (St w W' c q m lb A1)) := fun W c q m lb hS => (xbring c q m [] Num.Good.nil (by simp) 1 XB 9 W hS.x).mono fun e W' k => by
    have k1 := k.1
    have k2 := k.2.1
    rw [tX] at k1 k2
    rw [a1] at k1
    exact ⟨k1, hS.step k2 k.2.2⟩
  have HB2 : Hid (∀ W c q m lb, St w W c q m lb A1 → Calls Try.prog 26 #[.pointer (some ⟨c, 0, none⟩), .int .i64 2, .string EB, .int .i64 50] W fun e W' => e = .returned (.int .i64 0) ∧ Hid (St w W' c q m lb A2)) := fun W c q m lb hS => (xbring c q m A1 g1 (by have := a7; omega) 2 EB 50 W hS.x).mono fun e W' k => by
    have k1 := k.1
    have k2 := k.2.1
    rw [tE] at k1 k2
    rw [a2] at k1
    exact ⟨k1, hS.step k2 k.2.2⟩
  have HT1 : Hid (∀ W c q m lb, St w W c q m lb A2 → Calls Try.prog 30 #[.pointer (some ⟨c, 0, none⟩), .int .i64 1, .int .i64 2, .slice (some ⟨lb, 0, none⟩) 1 1, .string EB, .int .i64 50] W fun e W' => e = .returned (.tuple #[.int .i64 2, .int .i64 0]) ∧ Hid (St w W' c q m lb A3)) := fun W c q m lb hS => (xtrade c q m A2 g2 (by have := a7; omega) 1 2 [(XB, 9)] (by simp) EB 50 _ 1 W hS.x hS.lots).mono fun e W' k => by
    have k1 := k.1
    have k2 := k.2.1
    rw [(at_mv A2).1] at k2
    rw [(at_mv A2).2.1, (at_mv A2).2.2, a3.1, a3.2] at k1
    exact ⟨k1, hS.step k2 k.2.2⟩
  have HT2 : Hid (∀ W c q m lb, St w W c q m lb A3 → Calls Try.prog 30 #[.pointer (some ⟨c, 0, none⟩), .int .i64 1, .int .i64 2, .slice (some ⟨lb, 0, none⟩) 1 1, .string EB, .int .i64 50] W fun e W' => e = .returned (.tuple #[.int .i64 0, .int .i64 20]) ∧ Hid (St w W' c q m lb A3)) := fun W c q m lb hS => (xtrade c q m A3 g3 (by have := a7; omega) 1 2 [(XB, 9)] (by simp) EB 50 _ 1 W hS.x hS.lots).mono fun e W' k => by
    have k1 := k.1
    have k2 := k.2.1
    rw [(at_mv A3).1, a4.2.2] at k2
    rw [(at_mv A3).2.1, (at_mv A3).2.2, a4.1, a4.2.1] at k1
    exact ⟨k1, hS.step k2 k.2.2⟩
  have HP1 : Hid (∀ W c q m lb, St w W c q m lb A3 → Calls Try.prog 16 #[.pointer (some ⟨c, 0, none⟩), .int .i64 2, .string XB] W fun e W' => ∃ x y z : Int, e = .returned (.agg #[.int .i64 9, .int .i64 x, .int .i64 y, .int .i64 z]) ∧ Hid (St w W' c q m lb A3)) := fun W c q m lb hS => (xpos c q m A3 2 XB (fun b h1 h2 => by rw [tX]; exact waX 2 b (by unfold Rng; omega) (by unfold Rng; omega)) W hS.x).mono fun e W' k => by
    have k1 := k.1
    rw [tX, a5] at k1
    exact ⟨_, _, _, k1, hS.below k.2⟩
  have HP2 : Hid (∀ W c q m lb, St w W c q m lb A3 → Calls Try.prog 16 #[.pointer (some ⟨c, 0, none⟩), .int .i64 1, .string EB] W fun e W' => e = .returned (.agg #[.int .i64 50, .int .i64 0, .int .i64 0, .int .i64 0]) ∧ Hid (St w W' c q m lb A3)) := fun W c q m lb hS => (xpos c q m A3 1 EB (fun b h1 h2 => by rw [tE]; exact waE 1 b (by unfold Rng; omega) (by unfold Rng; omega)) W hS.x).mono fun e W' k => by
    have k1 := k.1
    rw [tE, a6.1, a6.2.1, a6.2.2.1, a6.2.2.2] at k1
    exact ⟨k1, hS.below k.2⟩
  have HPA : Hid (∀ W c q m lb, St w W c q m lb A3 → Calls Try.prog 17 #[.agg #[.int .i64 50, .int .i64 0, .int .i64 0, .int .i64 0]] W fun e W' => e = .returned (.int .i64 50) ∧ Hid (OkP w (.returned (.bool true)) W')) := fun W c q m lb hS => (xpall 50 0 0 0 W).mono fun e W' k => ⟨by rw [k.1, show wrap64 (wrap64 (wrap64 (50 + 0) + 0) + 0) = 50 from by unfold wrap64; omega], rfl, hS.b.trans (k.2.mono hS.b.size)⟩
  have hfl : ∀ (W : World) (a b c d : Int), (Instr.field 42 (.agg #[.int .i64 a, .int .i64 b, .int .i64 c, .int .i64 d]) 0).run Try.prog W = .ok (.int .i64 a) W := fld42
  go_enter Try.func14, Try.ntmps14
  go_wp2_with (first | (go_at_call 9; refine HN.out.mono ?_; rintro e w1 ⟨c, q, m, rfl, HS1⟩; clear HN) | (go_at_call 26; refine (HB1.out _ _ _ _ _ HS1.out).mono ?_; rintro e w2 ⟨rfl, HS2⟩; clear HB1 HS1) | (go_at_call 26; refine (HB2.out _ _ _ _ _ HS2.out).mono ?_; rintro e w3 ⟨rfl, HS3⟩; clear HB2 HS2) | (go_at_call 30; refine (HT1.out _ _ _ _ _ HS3.out).mono ?_; rintro e w4 ⟨rfl, HS4⟩; clear HT1 HS3) | (go_at_call 30; refine (HT2.out _ _ _ _ _ HS4.out).mono ?_; rintro e w5 ⟨rfl, HS5⟩; clear HT2 HS4) | (go_at_call 16; refine (HP1.out _ _ _ _ _ HS5.out).mono ?_; rintro e w6 ⟨x6, y6, z6, rfl, HS6⟩; clear HP1 HS5) | (go_at_call 16; refine (HP2.out _ _ _ _ _ HS6.out).mono ?_; rintro e w7 ⟨rfl, HS7⟩; clear HP2 HS6) | (go_at_call 17; refine (HPA.out _ _ _ _ _ HS7.out).mono ?_; rintro e w8 ⟨rfl, HF⟩; clear HPA HS7))
  go_ret
  exact HF.out
end Go.Proofs.Ytbfnfebmmhhegaa
