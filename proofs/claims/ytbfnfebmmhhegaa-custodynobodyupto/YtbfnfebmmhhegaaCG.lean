/- layer 12: Shift, Trade, Bring -/
import Derived.Test.YtbfnfebmmhhegaaCF
import Derived.WalkKit
import Derived.ProofKit
import Derived.Handy
import Derived.WalkLawsBesides
import Derived.WalkSpells
import Derived.BigQuiet
import Derived.BigCall
import Derived.Deep.QuietTactic
import Derived.Deep.Light
import Derived.Deep.OwnRows
import Derived.Laws.AppendOwnNone
import Derived.Laws.Strings3
import Derived.Laws.RangeAny
import Derived.Deep.RegionWith
import Derived.Lib.BitFns
import Derived.Lib.Walk
import Derived.Lib.Strings
import Derived.Lib.OthersKept
import Derived.Deep.CutBlock
import Derived.Deep.DeepCutAuto
import Derived.Deep.LoopGhost
import Derived.Deep.RegionHeld3
import Derived.Lib.SmallJoins
import Derived.Maps.AppendAt
import Derived.Laws.IdiomStrings
import Derived.Lib.AppendZeros
import Derived.Deep.WholeRow
import Derived.Laws.BitsAllLaws
import Derived.Lib.ConvBytes
import Derived.Deep.RegionLaw
import Derived.Maps.OwnSet
import Derived.Maps.OwnOps
import Derived.Maps.RangeWalk
import Derived.Maps.Ext
import Derived.DeepKeys4
import Derived.Laws.StructEq
import Derived.Shelf.SlSortCmp.NoneTotal
import Derived.Deep.MidRow
import Derived.Laws.MakeOwn
namespace Go.Proofs.Ytbfnfebmmhhegaa
open Go.RowKit
set_option linter.unusedVariables false
set_option linter.unusedSimpArgs false
set_option maxRecDepth 20000
theorem lnp_rw {xs : List Ln} {w : World} {v : Value} {w' : World} (h : w'.ownsRow w.heap.size 98 6 v xs.length (lcs xs)) : ∃ a cap, v = .slice a xs.length cap ∧ xs.length ≤ cap ∧ Ls w' a xs := own_rw Ln.len h rfl
theorem mvp_below {c q m : Nat} {L' : List Num.Bal} {n s : Int} {w w1 : World} {x : Ending} {w' : World} (hb : Below w.heap.size w w1) (h : MvP c q m L' n s w1 x w') : MvP c q m L' n s w x w' := ⟨h.1, h.2.1, grown_trans (grown_of_below hb _) h.2.2⟩
theorem mvp_tuple {c q m : Nat} {L' : List Num.Bal} {n s : Int} {w : World} {x : Ending} {w' : World} (h : MvP c q m L' n s w x w') : ∃ n1 s1, x = .returned (.tuple #[.int .i64 n1, .int .i64 s1]) ∧ Hid (MvP c q m L' n s w (.returned (.tuple #[.int .i64 n1, .int .i64 s1])) w') := by
  have h1 := h.1
  exact ⟨n, s, h1, by rw [h1] at h; exact h⟩
set_option maxHeartbeats 4000000 in
theorem xshift (c q m : Nat) (L : List Num.Bal) (g : Num.Good L) (hl : L.length ≤ 100000) (mem f t : Int) (xs : List Lot) (hx : xs.length ≤ 4096) (a : Option Addr) (cap : Nat) (w : World) (h : Cu w c q m L) (he : Lts w a xs) :
    Calls Try.prog 29 #[.pointer (some ⟨c, 0, none⟩), .int .i64 mem, .int .i64 f, .int .i64 t, .slice a xs.length cap] w (MvP c q m (mvL L (xs.map (way mem f mem t))) (mvN L (xs.map (way mem f mem t))) (mvE L (xs.map (way mem f mem t))) w) := by
  have HL : Hid (Calls Try.prog 52 #[.agg #[.int .i64 mem, .int .i64 f, .int .i64 mem, .int .i64 t, .string ⟨#[]⟩, .int .i64 0], .slice a xs.length cap] w fun e w1 => ∃ v, e = .returned v ∧ Hid (Calls Try.prog 27 #[.pointer (some ⟨c, 0, none⟩), v] w1 fun e w2 => ∃ n1 s1, e = .returned (.tuple #[.int .i64 n1, .int .i64 s1]) ∧ Hid (MvP c q m (mvL L (xs.map (way mem f mem t))) (mvN L (xs.map (way mem f mem t))) (mvE L (xs.map (way mem f mem t))) w (.returned (.tuple #[.int .i64 n1, .int .i64 s1])) w2))) := by
    refine (xlines mem f mem t xs (by omega) a cap w he).mono ?_
    rintro e w1 ⟨v, rfl, ho, hb⟩
    obtain ⟨a1, cap1, rfl, _, hls⟩ := lnp_rw ho
    refine ⟨_, rfl, (xmv c q m L g hl (xs.map (way mem f mem t)) (by simpa using hx) a1 cap1 w1 (h.below hb) hls).mono fun e w2 k => ?_⟩
    exact mvp_tuple (mvp_below hb k)
  clear h he
  go_enter Try.func29, Try.ntmps29
  go_wp2_with (first | (go_at_call 52; refine HL.out.mono ?_; rintro e w1 ⟨v1, rfl, H2⟩; clear HL) | (go_at_call 27; refine H2.out.mono ?_; rintro e w2 ⟨n1, s1, rfl, HZ⟩; clear H2))
  go_returns
  exact HZ.out
/-- a trade's lines -/
def trl (seller buyer : Int) (xs : List Lot) (cur : ByteArray) (cash : Int) : List Ln := xs.map (way seller 1 buyer 1) ++ [⟨buyer, 1, seller, 1, cur, cash⟩]
set_option maxHeartbeats 4000000 in
theorem xtrade (c q m : Nat) (L : List Num.Bal) (g : Num.Good L) (hl : L.length ≤ 100000) (sel buy : Int) (xs : List Lot) (hx : xs.length ≤ 4000) (cur : ByteArray) (cash : Int) (a : Option Addr) (cap : Nat) (w : World) (h : Cu w c q m L) (he : Lts w a xs) :
    Calls Try.prog 30 #[.pointer (some ⟨c, 0, none⟩), .int .i64 sel, .int .i64 buy, .slice a xs.length cap, .string cur, .int .i64 cash] w (MvP c q m (mvL L (trl sel buy xs cur cash)) (mvN L (trl sel buy xs cur cash)) (mvE L (trl sel buy xs cur cash)) w) := by
  have HL : Hid (Calls Try.prog 52 #[.agg #[.int .i64 sel, .int .i64 1, .int .i64 buy, .int .i64 1, .string ⟨#[]⟩, .int .i64 0], .slice a xs.length cap] w fun e w1 => ∃ v, e = .returned v ∧ ∃ v' w3, (Builtin.append_ #[59, 59] 59 #[v, .slice (some ⟨w1.heap.size, 0, none⟩) 1 1]).run Try.prog (w1.alloc (.cells #[.int .i64 buy, .int .i64 1, .int .i64 sel, .int .i64 1, .string cur, .int .i64 cash] 98)) = .ok v' w3 ∧ Hid (Calls Try.prog 27 #[.pointer (some ⟨c, 0, none⟩), v'] w3 fun e w2 => ∃ n1 s1, e = .returned (.tuple #[.int .i64 n1, .int .i64 s1]) ∧ Hid (MvP c q m (mvL L (trl sel buy xs cur cash)) (mvN L (trl sel buy xs cur cash)) (mvE L (trl sel buy xs cur cash)) w (.returned (.tuple #[.int .i64 n1, .int .i64 s1])) w2))) := by
    refine (xlines sel 1 buy 1 xs (by omega) a cap w he).mono ?_
    rintro e w1 ⟨v, rfl, ho, hb⟩
    have hlm : (xs.map (way sel 1 buy 1)).length = xs.length := by simp
    obtain ⟨v', w3, hr3, ho3, hg3⟩ := app_gen (T := 98) (Sl := 59) (k := 6) (bytes := 56) Try.underlying59 info98 rfl (by omega) [.int .i64 buy, .int .i64 1, .int .i64 sel, .int .i64 1, .string cur, .int .i64 cash] rfl (by intro u hu; simp at hu; rcases hu with rfl | rfl | rfl | rfl | rfl | rfl <;> rfl) ho hb.size (by rw [hlm]; omega) (by rw [hlm]; unfold maxLen; omega)
    have hB3 : Below w.heap.size w w3 := (hb.alloc hb.size _).grown hg3 (by have := hb.size; simp; omega) (fun j hj => (ho.lt j hj).1)
    have ho4 : w3.ownsRow w.heap.size 98 6 v' (trl sel buy xs cur cash).length (lcs (trl sel buy xs cur cash)) := by
      unfold trl lcs
      rw [rcs_snoc, List.length_append]
      exact ho3
    obtain ⟨a1, cap1, rfl, _, hls⟩ := lnp_rw ho4
    refine ⟨v, rfl, _, w3, hr3, (xmv c q m L g hl (trl sel buy xs cur cash) (by unfold trl; simp; omega) a1 cap1 w3 (h.below hB3) hls).mono fun e w2 k => ?_⟩
    exact mvp_tuple (mvp_below hB3 k)
  clear h he
  go_enter Try.func30, Try.ntmps30
  go_wp2_with (first | (go_at_call 52; refine HL.out.mono ?_; rintro e w1 ⟨v1, rfl, v3, w3, hr3, H2⟩; clear HL) | (at_builtin; refine Lib.wpList_append_run _ rfl _ _ 59 59 rfl _ _ rfl rfl _ w3 hr3 ?_) | (go_at_call 27; refine H2.out.mono ?_; rintro e w2 ⟨n1, s1, rfl, HZ⟩; clear H2))
  go_returns
  exact HZ.out
end Go.Proofs.Ytbfnfebmmhhegaa
