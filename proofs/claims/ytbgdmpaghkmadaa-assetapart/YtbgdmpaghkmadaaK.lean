/- layer 13: Prices and Ending of the program's -/
import Derived.Test.YtbgdmpaghkmadaaJ
import Derived.WalkKit
import Derived.ProofKit
import Derived.Handy
import Derived.WalkLawsBesides
import Derived.WalkSpells
import Derived.BigQuiet
import Derived.BigCall
import Derived.Deep.QuietTactic
import Derived.Deep.Light
import Derived.Deep.OwnRows
import Derived.Laws.AppendOwnNone
import Derived.Laws.Strings3
import Derived.Laws.RangeAny
import Derived.Deep.RegionWith
import Derived.Lib.BitFns
import Derived.Lib.Walk
import Derived.Lib.Strings
import Derived.Lib.OthersKept
import Derived.Deep.CutBlock
import Derived.Deep.DeepCutAuto
import Derived.Deep.LoopGhost
import Derived.Deep.RegionHeld3
import Derived.Lib.SmallJoins
import Derived.Maps.AppendAt
import Derived.Laws.IdiomStrings
import Derived.Lib.AppendZeros
import Derived.Deep.WholeRow
import Derived.Laws.BitsAllLaws
import Derived.Lib.ConvBytes
import Derived.Deep.RegionLaw
import Derived.Maps.OwnSet
import Derived.Maps.OwnOps
import Derived.Maps.RangeWalk
import Derived.Maps.Ext
import Derived.DeepKeys4
import Derived.Laws.StructEq
import Derived.Deep.MidRow
import Derived.Lib.Bytealg
import Derived.Lib.Overlaps
import Derived.Lib.AppendZerosOnto
import Derived.Laws.MakeOwn
namespace Go.Proofs.Ytbgdmpaghkmadaa
open Go.RowKit
set_option linter.unusedVariables false
set_option linter.unusedSimpArgs false
open Num
set_option maxRecDepth 20000
theorem step_append_run {P : Program} (w : World) {ops : Array Oper} {o : Oper} {a : Act} {K : Act → World → Prop} {Q : Exit → Act → World → Prop} {E : Prop} (hgd : o.guard = none) (s x : Operand) (t tn : TypeId)
    (ho : o.op = .call { callee := .builtin .append, args := #[s, x], argTypes := #[t, tn] }) (vs vx : Value) (hs : a.eval s = vs) (hx : a.eval x = vx)
    (v' : Value) (w' : World) (hr : (Builtin.append_ #[t, tn] o.type #[vs, vx]).run P w = .ok v' w') (h : K (a.put o.dst v') w') :
    if Region.wanted o (yielded ops a.tmps) = true then Oper.wp P o a w K Q else E := by
  have hw : Region.wanted o (yielded ops a.tmps) = true := by simp [Region.wanted, hgd]
  rw [if_pos hw]
  exact Lib.wp_append_run w s x t tn ho vs vx hs hx v' w' hr h
theorem prc_one (x : Pr) : ∀ u ∈ prc x, u.oneCell' = true := by
  intro u hu
  unfold prc at hu
  simp at hu
  rcases hu with rfl | rfl <;> rfl
/-- some of them, told in another way -/
def sel {β : Type} (f : Kn → Option β) (L : List Kn) : List β := L.filterMap f
theorem sel_none {β : Type} {f : Kn → Option β} {L : List Kn} {k : Nat} (hk : k < L.length) (h : f L[k] = none) : sel f (L.take (k + 1)) = sel f (L.take k) := by
  unfold sel
  rw [← List.take_append_getElem hk, List.filterMap_append]
  simp [h]
theorem sel_some {β : Type} {f : Kn → Option β} {L : List Kn} {k : Nat} (hk : k < L.length) {y : β} (h : f L[k] = some y) : sel f (L.take (k + 1)) = sel f (L.take k) ++ [y] := by
  unfold sel
  rw [← List.take_append_getElem hk, List.filterMap_append]
  simp [h]
theorem sel_len {β : Type} (f : Kn → Option β) (L : List Kn) : (sel f L).length ≤ L.length := List.length_filterMap_le f L
def prF (k : Kn) : Option Pr := if k.p = 0 then none else some (k.a.i, k.p)
set_option maxHeartbeats 8000000 in
theorem xprices {p a : Option Addr} {cap : Nat} {L : List Kn} (sm : Sml L) (w : World) (hk : KnC p a L.length cap w) (h : Rw 6 kcs w a L) : Calls Try.prog 32 #[.pointer p] w (NwP 81 2 prc (sel prF L) w) := by
  have HE : Hid (Rw 6 kcs w a L) := h
  have HK : Hid (KnC p a L.length cap w) := hk
  have HS : Hid (Sml L) := sm
  have hlz : (L.length : Int) ≤ 1000000 := by have := sm.n; omega
  have hl : L.length ≤ 1000000 := sm.n
  clear h hk sm
  go_enter Try.func32, Try.ntmps32
  go_wp2_with (go_at_call 43; refine HK.out.mono ?_; clear HK; rintro e w1 ⟨rfl, rfl⟩)
  go_loopw [3, 9] (fun v i wr => ∃ k : Nat, k ≤ L.length ∧ i = .int .i64 k ∧ Hid (wr.ownsRow w.heap.size 81 2 v (sel prF (L.take k)).length (rcs prc (sel prF (L.take k))) ∧ Below w.heap.size w wr))
    (fun _ i _ => L.length - (intOf i).toNat)
  case atStart => exact ⟨0, Nat.zero_le _, rfl, World.ownsRow_nil _ _ _ _, Below.refl _ _⟩
  case round =>
    obtain ⟨k, hk, rfl, HZ⟩ := hrel
    by_cases hkn : k < L.length
    · have hkz : (k : Int) < (L.length : Int) := by omega
      obtain ⟨blk, off, rfl, hbl, hcs⟩ := HE.out (by omega)
      obtain ⟨c0, c1, c2, c3, c4, c5⟩ := Rw.at6 hcs HZ.out.2 hbl hkn
      have s1 := HS.out.i L[k] (List.getElem_mem hkn)
      have HT1 : Hid (L[k].p = 0 → sel prF (L.take (k + 1)) = sel prF (L.take k)) := fun e => sel_none hkn (by unfold prF; rw [if_pos e])
      have HT2 : Hid (¬ L[k].p = 0 → sel prF (L.take (k + 1)) = sel prF (L.take k) ++ [(L[k].a.i, L[k].p)]) := fun e => sel_some hkn (by unfold prF; rw [if_neg e])
      have hsl : (sel prF (L.take k)).length ≤ 1000000 := by have := sel_len prF (L.take k); rw [List.length_take] at this; omega
      generalize L[k] = x at *
      obtain ⟨⟨xi, xa, xb, xc, xs⟩, xp⟩ := x
      simp only at *
      by_cases hp : xp = 0
      · have hpz : (xp != 0) = false := by simp [hp]
        have HY : Hid (∀ y, (wr.alloc y).ownsRow w.heap.size 81 2 u3 (sel prF (L.take (k + 1))).length (rcs prc (sel prF (L.take (k + 1)))) ∧ Below w.heap.size w (wr.alloc y)) := fun y => by
          rw [HT1.out hp]
          exact ⟨HZ.out.1.alloc y, HZ.out.2.alloc HZ.out.2.size y⟩
        clear hcs HZ HT1 HT2 hbl s1 hp hsl
        go_wp2_with fail
        go_roundw
        case rel => exact ⟨k + 1, by omega, by simp, HY.out _⟩
        case measure => simp [intOf]; omega
      · have hpz : (xp != 0) = true := by simp [hp]
        have HC : Hid (∀ w5, w5 = (wr.alloc (.cells #[.string xi, .int .i64 xa, .int .i64 xb, .int .i64 xc, .string xs, .int .i64 xp] 84)).drew → Calls Try.prog 44 #[.string xi] w5 fun e w6 => ∃ y, e = .returned y ∧ (y = .string xi ∧ wr.heap.size < w6.heap.size ∧ w6.cell? ⟨wr.heap.size, 5, none⟩ = some (.int .i64 xp) ∧ ∃ v' w7, (Builtin.append_ #[28, 28] 28 #[u3, .slice (some ⟨w6.heap.size, 0, none⟩) 1 1]).run Try.prog (w6.alloc (.cells #[.string xi, .int .i64 xp] 81)) = .ok v' w7 ∧ Hid (w7.ownsRow w.heap.size 81 2 v' (sel prF (L.take (k + 1))).length (rcs prc (sel prF (L.take (k + 1)))) ∧ Below w.heap.size w w7))) := by
          intro w5 hw5
          have hX5 : Bx w5 wr.heap.size #[.string xi, .int .i64 xa, .int .i64 xb, .int .i64 xc, .string xs, .int .i64 xp] 84 := by rw [hw5]; exact (Bx.new wr _ _).kept (grown_drew _ none) (by simp)
          have hb5 : Below w.heap.size w w5 := by rw [hw5]; exact (HZ.out.2.alloc HZ.out.2.size _).drew
          have ho5 : w5.ownsRow w.heap.size 81 2 u3 (sel prF (L.take k)).length (rcs prc (sel prF (L.take k))) := by rw [hw5]; exact own_below (HZ.out.1.alloc _) (Below.refl _ _).drew
          refine (xclone xi (by omega) w5).mono ?_
          rintro e w6 ⟨rfl, hb6⟩
          have hb : Below w.heap.size w w6 := hb5.trans (hb6.mono hb5.size)
          have ho6 := own_below ho5 hb6
          have hX6 := hX5.below hb6 hX5.lt
          obtain ⟨v', w7, hr, ho, hg⟩ := app_gen (T := 81) (Sl := 28) (k := 2) (bytes := 24) Try.underlying28 info81 rfl (by omega) (prc (xi, xp)) rfl (prc_one _) ho6 hb.size (by omega) (by unfold maxLen; omega)
          refine ⟨_, rfl, rfl, hX6.lt, hX6.cell 5, v', w7, hr, ?_, ?_⟩
          · rw [HT2.out hp, rcs_snoc, List.length_append]; exact ho
          · exact (hb.alloc hb.size _).grown hg (by have := hb.size; simp; omega) (fun j hj => (ho6.lt j hj).1)
        clear hcs HZ HT1 HT2 hbl s1 hp hsl
        go_wp2_with fail
        go_region_law (first | (refine step_call _ (by rfl) 44 #[.string xi] (by go_simp) _ (HC.out _ rfl) ?_; clear HC; rintro v9 w6 ⟨rfl, k0, k1, v', w7, hr, HY⟩) | (refine step_append_run _ (by rfl) _ _ 28 28 (by rfl) _ _ (by rfl) (by rfl) _ w7 hr ?_))
        all_goals
          go_wp2_with fail
          go_roundw
          case rel => exact ⟨k + 1, by omega, by simp, HY.out⟩
          case measure => simp [intOf]; omega
    · have hkz : ¬ (k : Int) < (L.length : Int) := by omega
      have HF : Hid (NwP 81 2 prc (sel prF L) w (.returned u3) wr) := by
        have hr := HZ.out
        rw [show k = L.length by omega, List.take_length] at hr
        exact ⟨u3, rfl, hr.1, hr.2⟩
      clear HZ
      go_wp2_with fail
      go_ret
      exact HF.out
/-- how many days are left -/
def lft (m d : Int) : Int := if d < 0 ∨ 200000 < d then -1 else m - d
def LfP (n : Int) (w : World) (e : Ending) (w' : World) : Prop := e = .returned (.int .i64 n) ∧ Below w.heap.size w w'
theorem xleft (i : ByteArray) (a b m : Int) (s : ByteArray) (d : Int) (hm : 0 ≤ m ∧ m ≤ 200000) (w : World) : Calls Try.prog 23 #[.agg #[.string i, .int .i64 a, .int .i64 b, .int .i64 m, .string s], .int .i64 d] w (LfP (lft m d) w) := by
  have HB : Hid (∀ y, Below w.heap.size w (w.alloc y)) := fun y => (Below.refl _ w).alloc (Nat.le_refl _) _
  unfold lft
  by_cases h1 : d < 0
  · rw [if_pos (.inl h1)]
    go_enter Try.func23, Try.ntmps23
    go_wp2_with fail
    go_ret
    exact ⟨rfl, HB.out _⟩
  by_cases h2 : 200000 < d
  · rw [if_pos (.inr h2)]
    go_enter Try.func23, Try.ntmps23
    go_wp2_with fail
    go_ret
    exact ⟨rfl, HB.out _⟩
  · rw [if_neg (by omega)]
    go_enter Try.func23, Try.ntmps23
    go_wp2_with fail
    go_ret
    exact ⟨rfl, HB.out _⟩
theorem rleft (i : ByteArray) (a b m : Int) (s : ByteArray) (d : Int) (hm : 0 ≤ m ∧ m ≤ 200000) (w : World) : Calls Try.prog 24 #[.agg #[.string i, .int .i64 a, .int .i64 b, .int .i64 m, .string s], .int .i64 d] w (LfP (lft m d) w) := by
  have HB : Hid (∀ y, Below w.heap.size w (w.alloc y)) := fun y => (Below.refl _ w).alloc (Nat.le_refl _) _
  unfold lft
  by_cases h1 : d < 0
  · rw [if_pos (.inl h1)]
    go_enter Try.func24, Try.ntmps24
    go_wp2_with fail
    go_ret
    exact ⟨rfl, HB.out _⟩
  by_cases h2 : 200000 < d
  · rw [if_pos (.inr h2)]
    go_enter Try.func24, Try.ntmps24
    go_wp2_with fail
    go_ret
    exact ⟨rfl, HB.out _⟩
  · rw [if_neg (by omega)]
    go_enter Try.func24, Try.ntmps24
    go_wp2_with fail
    go_ret
    exact ⟨rfl, HB.out _⟩
end Go.Proofs.Ytbgdmpaghkmadaa
