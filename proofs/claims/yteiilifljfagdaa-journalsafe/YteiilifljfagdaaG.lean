/- Texts behind texts; the journal's pieces and size; slices.Grow and slices.Concat. -/
import Derived.Test.YteiilifljfagdaaF
import Derived.WalkKit
import Derived.ProofKit
import Derived.Handy
import Derived.WalkLawsBesides
import Derived.WalkSpells
import Derived.BigQuiet
import Derived.BigCall
import Derived.Deep.QuietTactic
import Derived.Deep.Light
import Derived.Deep.OwnRows
import Derived.Laws.AppendOwnNone
import Derived.Laws.Strings3
import Derived.Laws.RangeAny
import Derived.Deep.RegionWith
import Derived.Lib.BitFns
import Derived.Lib.Walk
import Derived.Lib.Strings
import Derived.Lib.OthersKept
import Derived.Deep.CutBlock
import Derived.Deep.DeepCutAuto
import Derived.Deep.LoopGhost
import Derived.Deep.RegionHeld3
import Derived.Lib.SmallJoins
import Derived.Maps.AppendAt
import Derived.Laws.IdiomStrings
import Derived.Lib.AppendZeros
import Derived.Deep.WholeRow
import Derived.Laws.BitsAllLaws
import Derived.Lib.ConvBytes
namespace Go.Proofs.Yteiilifljfagdaa
open Go.RowKit
set_option linter.unusedVariables false
set_option linter.unusedSimpArgs false
/-- append of an own row of texts to an own row of texts -/
theorem app_txt {B B2 : Nat} {w : World} {v u : Value} {xs ys : List ByteArray} (h : w.ownsRow B 9 1 v xs.length (scells xs)) (h2 : w.ownsRow B2 9 1 u ys.length (scells ys)) (hB : B ≤ w.heap.size) (hl : xs.length + ys.length ≤ 4398046511104) :
    ∃ v' w', (Builtin.append_ #[35, 35] 35 #[v, u]).run Try.prog w = .ok v' w' ∧ w'.ownsRow B 9 1 v' (xs ++ ys).length (scells (xs ++ ys)) ∧ w.grownBy w' v.ownBlock ∧ (v'.ownBlock = v.ownBlock ∨ v'.ownBlock = some w.heap.size) := by
  obtain ⟨i0, hi, hz0, hz1, hz2⟩ := info_parts Try.info9
  rcases h2.2 with ⟨rfl, h0⟩ | ⟨g, cap, cur, rfl, hb, hg, h1, h3, h4, h5⟩
  · have : ys = [] := List.length_eq_zero_iff.1 h0
    subst this
    refine ⟨v, w, run_append_owned_none (P := Try.prog) (w := w) B 35 35 9 i0 1 Try.underlying35 hi v _ _ h, by rw [List.append_nil]; exact h, ⟨rfl, rfl, rfl, Nat.le_refl _, fun _ _ _ => rfl⟩, .inl rfl⟩
  · obtain ⟨v', w', hr, ho, hgr, _, hat⟩ := run_append_own_at (P := Try.prog) (w := w) B 35 35 9 i0 (.string ⟨#[]⟩) 1 16 Try.underlying35 hi hz0 hz1 hz2 rfl (by decide) v _ _ h ⟨g, 0, none⟩ ys.length cap (scells ys) (by rw [scells_len, Nat.mul_one]) (fun j x hx => h2.cells (g := g) rfl j x hx) (one_scells (xs := ys)) (by unfold maxLen; omega) (by omega) hB
    exact ⟨v', w', hr, by rw [scells_app, List.length_append]; exact ho, hgr, hat⟩
/-- append of one text -/
theorem app_one {B : Nat} {w : World} {v : Value} {xs : List ByteArray} (h : w.ownsRow B 9 1 v xs.length (scells xs)) (hB : B ≤ w.heap.size) (s : ByteArray) (hl : xs.length ≤ 4398046511104) :
    ∃ v' w', (Builtin.append_ #[35, 35] 35 #[v, .slice (some ⟨w.heap.size, 0, none⟩) 1 1]).run Try.prog (w.alloc (.cells #[.string s] 9)) = .ok v' w' ∧ w'.ownsRow B 9 1 v' (xs ++ [s]).length (scells (xs ++ [s])) ∧ (w.alloc (.cells #[.string s] 9)).grownBy w' v.ownBlock ∧ (v'.ownBlock = v.ownBlock ∨ v'.ownBlock = some (w.heap.size + 1)) := by
  obtain ⟨i0, hi, hz0, hz1, hz2⟩ := info_parts Try.info9
  obtain ⟨v', w', hr, ho, hgr, _, hat⟩ := run_append_own_at (P := Try.prog) (w := w.alloc (.cells #[.string s] 9)) B 35 35 9 i0 (.string ⟨#[]⟩) 1 16 Try.underlying35 hi hz0 hz1 hz2 rfl (by decide) v _ _ (h.alloc _) ⟨w.heap.size, 0, none⟩ 1 1 [.string s] rfl (cell_one_new _ _ _) (one_scells (xs := [s])) (by unfold maxLen; omega) (by omega) (by simp; omega)
  refine ⟨v', w', hr, ?_, hgr, ?_⟩
  · rw [scells_app, List.length_append]; exact ho
  · simpa using hat
/-- what a call hands back: texts of its own -/
def TxP (l : List (List UInt8)) (w : World) (e : Ending) (w' : World) : Prop :=
  ∃ (v : Value) (xs : List ByteArray), e = .returned v ∧ Hid (w'.ownsRow w.heap.size 9 1 v xs.length (scells xs)) ∧ Hid (ls xs = l) ∧ Hid (Below w.heap.size w w')
theorem ls_app (a b : List ByteArray) : ls (a ++ b) = ls a ++ ls b := List.map_append ..
theorem ls_len (a : List ByteArray) : (ls a).length = a.length := List.length_map ..
set_option maxHeartbeats 4000000 in
set_option maxRecDepth 100000 in
theorem xpieces (s : ByteArray) (hs : s.size ≤ 1099511627776) (w : World) : Calls Try.prog 59 #[.string s] w (TxP (cuts s.data.toList) w) := by
  go_enter Try.func59, Try.ntmps59
  go_wp2_with fail
  go_loopw [0, 3] (fun q v wr => ∃ (t : ByteArray) (xs : List ByteArray), q = .string t ∧ Hid (wr.ownsRow w.heap.size 9 1 v xs.length (scells xs)) ∧ Hid (Below w.heap.size w wr) ∧ Hid (cuts s.data.toList = ls xs ++ cuts t.data.toList) ∧ xs.length + t.size ≤ 1099511627776) (fun q _ _ => match q with | .string t => t.size | _ => 0)
  case atStart => exact ⟨s, [], rfl, World.ownsRow_nil _ _ _ _, Below.refl _ _, rfl, by simp; omega⟩
  case round =>
    obtain ⟨t, xs, rfl, hown, hbw, hat, hxl⟩ := hrel
    by_cases h0 : t.size = 0
    · have h0z : ¬ (0 : Int) < (t.size : Int) := by omega
      have HE : Hid (ls xs = cuts s.data.toList) := by
        have : t.data.toList = [] := List.length_eq_zero_iff.1 h0
        rw [this, cuts_nil, List.append_nil] at hat
        exact hat.out.symm
      clear hat
      go_wp2_with fail
      go_ret
      exact ⟨_, xs, rfl, hown, HE, hbw⟩
    · have h0z : (0 : Int) < (t.size : Int) := by omega
      obtain ⟨m, hm⟩ : ∃ m : Nat, m = min t.size 4096 := ⟨_, rfl⟩
      have hmin : min (t.size : Int) 4096 = (m : Int) := by omega
      have hms : (m : Int) ≤ (t.size : Int) := by omega
      have HC : Hid (cuts t.data.toList = (t.extract 0 m).data.toList :: cuts (t.extract m t.size).data.toList) := by
        unfold Hid
        rw [cuts_step (l := t.data.toList) h0, ext_list, drop_all, List.drop_zero, Nat.sub_zero]
        by_cases h4 : t.size ≤ 4096
        · have : m = t.size := by omega
          rw [this, List.take_of_length_le (i := 4096) (by exact h4), List.take_of_length_le (i := t.size) (Nat.le_refl _), List.drop_of_length_le (i := 4096) (by exact h4), List.drop_of_length_le (i := t.size) (Nat.le_refl _)]
        · have : m = 4096 := by omega
          rw [this]
      have hsz : w.heap.size ≤ wr.heap.size := hbw.out.size
      have s1 := ext_len t 0 m (by omega)
      have s2 := ext_len t m t.size (Nat.le_refl _)
      obtain ⟨v', w2, hr, ho, hg, _⟩ := app_one hown.out hsz (t.extract 0 m) (by omega)
      have HR : Hid _ := hr
      have HO : Hid (w2.ownsRow w.heap.size 9 1 v' (xs ++ [t.extract 0 m]).length (scells (xs ++ [t.extract 0 m]))) := ho
      have HB : Hid (Below w.heap.size w w2) := (hbw.out.alloc hsz _).grown hg (by simp; omega) (fun j hj => (hown.out.lt j hj).1)
      have HF : Hid (cuts s.data.toList = ls (xs ++ [t.extract 0 m]) ++ cuts (t.extract m t.size).data.toList) := by
        unfold Hid
        rw [hat.out, HC.out, ls_app, List.append_assoc]
        rfl
      have S2 : Hid ((t.extract m t.size).size = t.size - m) := s2
      have hm0 : Hid (0 < m ∧ m ≤ t.size) := by unfold Hid; omega
      clear hr ho hg HC hat hown hm s1 s2
      go_wp2_with (at_builtin; refine Lib.wpList_append_run _ rfl _ _ 35 35 rfl _ _ rfl rfl _ w2 HR.out ?_)
      obtain ⟨h1, h2⟩ := hm0.out
      exact ⟨⟨_, _, rfl, HO, HB, HF, by rw [List.length_append, S2.out]; simp; omega⟩, by simp only [S2.out]; omega⟩
set_option maxHeartbeats 4000000 in
theorem xsizes (l : List ByteArray) (a : Option Addr) (cap : Nat) (w : World) (h : Strs w a l) (h1 : l.length ≤ 1099511627776) (h2 : tot l ≤ 1099511627776) : Calls Try.prog 62 #[.slice a l.length cap] w (NP .i64 ((tot l + 12 * l.length : Nat) : Int) w) := by
  have HS : Hid (Strs w a l) := h
  clear h
  go_enter Try.func62, Try.ntmps62
  go_wp2_with fail
  go_loopw [3, 8] (fun v i wr => ∃ (k n : Nat), i = .int .i64 k ∧ v = .int .i64 n ∧ k ≤ l.length ∧ n ≤ 20000000000000 ∧ Hid (n = tot (l.take k) + 12 * k) ∧ w = wr) (fun _ i _ => l.length - (Lib.intOf i).toNat)
  case atStart => exact ⟨0, 0, rfl, rfl, Nat.zero_le _, by omega, rfl, by first | rfl | trivial⟩
  case round =>
    obtain ⟨k, n, rfl, rfl, hk, hn, HN, rfl⟩ := hrel
    by_cases hkn : k < l.length
    · have hkz : (k : Int) < (l.length : Int) := by omega
      obtain ⟨b, off, rfl, hbl, hce⟩ := HS.out.at_ (by omega)
      have hc : w.cell? ⟨b, off + k, none⟩ = some (.string l[k]) := hce k hkn
      have e2 := tot_take hkn
      have e3 := tot_le l (k + 1)
      have e4 := HN.out
      have HZ : Hid (∀ w, Calls Try.prog 69 #[.string l[k]] w (NP .i64 ((l[k].size : Int) + 12) w)) := fun w => xsize l[k] (by omega) w
      have hb : n + (l[k].size + 12) ≤ 20000000000000 := by omega
      have HF : Hid (n + (l[k].size + 12) = tot (l.take (k + 1)) + 12 * (k + 1)) := by unfold Hid; omega
      generalize l[k] = x at *
      clear hce HN e2 e3 e4
      go_wp2_with fail
      refine (HZ.out _).mono ?_
      rintro e w1 ⟨rfl, rfl⟩
      go_wp2_with fail
      exact ⟨⟨k + 1, n + (x.size + 12), by go_num, by rw [Int.natCast_add]; rfl, by omega, hb, HF.out, by first | rfl | trivial⟩, by simp [Lib.intOf]; omega⟩
    · have hkz : ¬ (k : Int) < (l.length : Int) := by omega
      have HF : Hid (n = tot l + 12 * l.length) := by
        have := HN.out
        rw [List.take_of_length_le (by omega), show k = l.length by omega] at this
        exact this
      go_wp2_with fail
      go_ret
      exact NP.mk (by rw [HF.out]; omega)
end Go.Proofs.Yteiilifljfagdaa
