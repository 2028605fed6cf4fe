/- layer 13: All and Prices of the program's -/
import Derived.Test.YtbgdmpaghkmadaaI
import Derived.WalkKit
import Derived.ProofKit
import Derived.Handy
import Derived.WalkLawsBesides
import Derived.WalkSpells
import Derived.BigQuiet
import Derived.BigCall
import Derived.Deep.QuietTactic
import Derived.Deep.Light
import Derived.Deep.OwnRows
import Derived.Laws.AppendOwnNone
import Derived.Laws.Strings3
import Derived.Laws.RangeAny
import Derived.Deep.RegionWith
import Derived.Lib.BitFns
import Derived.Lib.Walk
import Derived.Lib.Strings
import Derived.Lib.OthersKept
import Derived.Deep.CutBlock
import Derived.Deep.DeepCutAuto
import Derived.Deep.LoopGhost
import Derived.Deep.RegionHeld3
import Derived.Lib.SmallJoins
import Derived.Maps.AppendAt
import Derived.Laws.IdiomStrings
import Derived.Lib.AppendZeros
import Derived.Deep.WholeRow
import Derived.Laws.BitsAllLaws
import Derived.Lib.ConvBytes
import Derived.Deep.RegionLaw
import Derived.Maps.OwnSet
import Derived.Maps.OwnOps
import Derived.Maps.RangeWalk
import Derived.Maps.Ext
import Derived.DeepKeys4
import Derived.Laws.StructEq
import Derived.Deep.MidRow
import Derived.Lib.Bytealg
import Derived.Lib.Overlaps
import Derived.Lib.AppendZerosOnto
import Derived.Laws.MakeOwn
namespace Go.Proofs.Ytbgdmpaghkmadaa
open Go.RowKit
set_option linter.unusedVariables false
set_option linter.unusedSimpArgs false
open Num
set_option maxRecDepth 20000
def acs (a : As) : List Value := [.string a.i, .int .i64 a.iss, .int .i64 a.rat, .int .i64 a.mat, .string a.c]
theorem acs_len (a : As) : (acs a).length = 5 := rfl
theorem acs_one (a : As) : ∀ u ∈ acs a, u.oneCell' = true := by
  intro u hu
  unfold acs at hu
  simp at hu
  rcases hu with rfl | rfl | rfl | rfl | rfl <;> rfl
theorem info27 : (Try.prog.info? 27).map (fun i => (i.zero, i.size, i.bytes)) = some (some (.agg #[.string ⟨#[]⟩, .int .i64 0, .int .i64 0, .int .i64 0, .string ⟨#[]⟩]), 5, 56) := by kernel_rfl
theorem info81 : (Try.prog.info? 81).map (fun i => (i.zero, i.size, i.bytes)) = some (some (.agg #[.string ⟨#[]⟩, .int .i64 0]), 2, 24) := by kernel_rfl
theorem info9 : (Try.prog.info? 9).map (fun i => (i.zero, i.size, i.bytes)) = some (some (.string ⟨#[]⟩), 1, 16) := by kernel_rfl
structure Sml (L : List Kn) : Prop where
  n : L.length ≤ 1000000
  i : ∀ k ∈ L, k.a.i.size ≤ 12
  c : ∀ k ∈ L, k.a.c.size ≤ 3
theorem Num.Good.sml {L : List Kn} (g : Num.Good L) : Sml L := ⟨by have := g.len; omega, fun k h => (g.all k h).i, fun k h => (g.all k h).c⟩
/-- a new row of structs -/
def NwP {α : Type} (T k : Nat) (f : α → List Value) (xs : List α) (w : World) (e : Ending) (w' : World) : Prop := ∃ v, e = .returned v ∧ w'.ownsRow w.heap.size T k v xs.length (rcs f xs) ∧ Below w.heap.size w w'
set_option maxHeartbeats 8000000 in
theorem xall {p a : Option Addr} {cap : Nat} {L : List Kn} (sm : Sml L) (w : World) (hk : KnC p a L.length cap w) (h : Rw 6 kcs w a L) : Calls Try.prog 31 #[.pointer p] w (NwP 27 5 acs (L.map Kn.a) w) := by
  have HE : Hid (Rw 6 kcs w a L) := h
  have HK : Hid (KnC p a L.length cap w) := hk
  have HS : Hid (Sml L) := sm
  have hlz : (L.length : Int) ≤ 1000000 := by have := sm.n; omega
  have hl : L.length ≤ 1000000 := sm.n
  clear h hk sm
  go_enter Try.func31, Try.ntmps31
  go_wp2_with (go_at_call 43; refine HK.out.mono ?_; clear HK; rintro e w1 ⟨rfl, rfl⟩)
  go_loopw [3, 9] (fun v i wr => ∃ k : Nat, k ≤ L.length ∧ i = .int .i64 k ∧ Hid (wr.ownsRow w.heap.size 27 5 v k (rcs acs ((L.map Kn.a).take k)) ∧ Below w.heap.size w wr))
    (fun _ i _ => L.length - (intOf i).toNat)
  case atStart => exact ⟨0, Nat.zero_le _, rfl, World.ownsRow_nil _ _ _ _, Below.refl _ _⟩
  case round =>
    obtain ⟨k, hk, rfl, HZ⟩ := hrel
    by_cases hkn : k < L.length
    · have hkz : (k : Int) < (L.length : Int) := by omega
      obtain ⟨blk, off, rfl, hbl, hcs⟩ := HE.out (by omega)
      obtain ⟨c0, c1, c2, c3, c4, c5⟩ := Rw.at6 hcs HZ.out.2 hbl hkn
      have s1 := HS.out.i L[k] (List.getElem_mem hkn)
      have s2 := HS.out.c L[k] (List.getElem_mem hkn)
      have HT : Hid (rcs acs ((L.map Kn.a).take k) ++ acs L[k].a = rcs acs ((L.map Kn.a).take (k + 1))) := by
        have h1 := rcs_take acs (L.map Kn.a) (k := k) (by simpa using hkn)
        rw [List.getElem_map] at h1
        exact h1
      generalize L[k] = x at *
      obtain ⟨⟨xi, xa, xb, xc, xs⟩, xp⟩ := x
      simp only at *
      have HC : Hid (Calls Try.prog 36 #[.agg #[.string xi, .int .i64 xa, .int .i64 xb, .int .i64 xc, .string xs]] (wr.alloc (.cells #[.string xi, .int .i64 xa, .int .i64 xb, .int .i64 xc, .string xs, .int .i64 xp] 84)) fun e w6 => e = .returned (.agg #[.string xi, .int .i64 xa, .int .i64 xb, .int .i64 xc, .string xs]) ∧ ∃ v' w7, (Builtin.append_ #[72, 72] 72 #[u3, .slice (some ⟨w6.heap.size, 0, none⟩) 1 1]).run Try.prog (w6.alloc (.cells #[.string xi, .int .i64 xa, .int .i64 xb, .int .i64 xc, .string xs] 27)) = .ok v' w7 ∧ Hid (w7.ownsRow w.heap.size 27 5 v' (k + 1) (rcs acs ((L.map Kn.a).take (k + 1))) ∧ Below w.heap.size w w7)) := by
        refine (xapart xi xa xb xc xs (by omega) (by omega) _).mono ?_
        rintro e w6 ⟨rfl, hb6⟩
        have hb5 := HZ.out.2.alloc HZ.out.2.size (.cells #[.string xi, .int .i64 xa, .int .i64 xb, .int .i64 xc, .string xs, .int .i64 xp] 84)
        have hb : Below w.heap.size w w6 := hb5.trans (hb6.mono hb5.size)
        have ho6 := own_below (HZ.out.1.alloc (.cells #[.string xi, .int .i64 xa, .int .i64 xb, .int .i64 xc, .string xs, .int .i64 xp] 84)) hb6
        obtain ⟨v', w7, hr, ho, hg⟩ := app_gen (T := 27) (Sl := 72) (k := 5) (bytes := 56) Try.underlying72 info27 rfl (by omega) (acs ⟨xi, xa, xb, xc, xs⟩) rfl (acs_one _) ho6 hb.size (by omega) (by unfold maxLen; omega)
        refine ⟨rfl, v', w7, hr, ?_, ?_⟩
        · rw [← HT.out]; exact ho
        · exact (hb.alloc hb.size _).grown hg (by have := hb.size; simp; omega) (fun j hj => (ho6.lt j hj).1)
      clear hcs HZ HT hbl s1 s2
      go_wp2_with (first | (go_at_call 36; refine HC.out.mono ?_; clear HC; rintro e w6 ⟨rfl, v', w7, hr, HY⟩) | (at_builtin; refine Lib.wpList_append_run _ rfl _ _ 72 72 rfl _ _ rfl rfl _ w7 hr ?_))
      go_roundw
      case rel => exact ⟨k + 1, by omega, by simp, HY.out⟩
      case measure => simp [intOf]; omega
    · have hkz : ¬ (k : Int) < (L.length : Int) := by omega
      have HF : Hid (NwP 27 5 acs (L.map Kn.a) w (.returned u3) wr) := by
        have hr := HZ.out
        have e : k = (L.map Kn.a).length := by simp; omega
        rw [e, List.take_length] at hr
        exact ⟨u3, rfl, hr.1, hr.2⟩
      clear HZ
      go_wp2_with fail
      go_ret
      exact HF.out
end Go.Proofs.Ytbgdmpaghkmadaa
