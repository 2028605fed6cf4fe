/- Assets: upTo, the program's Asset and the reference's. Condition: the number's text has at most 2 to the 47th bytes. -/
import Derived.Test.YtbgdmpaghkmadaaVJ
import Derived.WalkKit
import Derived.ProofKit
import Derived.Handy
import Derived.WalkLawsBesides
import Derived.WalkSpells
import Derived.BigQuiet
import Derived.BigCall
import Derived.Deep.QuietTactic
import Derived.Deep.Light
import Derived.Deep.OwnRows
import Derived.Laws.AppendOwnNone
import Derived.Laws.Strings3
import Derived.Laws.RangeAny
import Derived.Deep.RegionWith
import Derived.Lib.BitFns
import Derived.Lib.Walk
import Derived.Lib.Strings
import Derived.Lib.OthersKept
import Derived.Deep.CutBlock
import Derived.Deep.DeepCutAuto
import Derived.Deep.LoopGhost
import Derived.Deep.RegionHeld3
import Derived.Lib.SmallJoins
import Derived.Maps.AppendAt
import Derived.Laws.IdiomStrings
import Derived.Lib.AppendZeros
import Derived.Deep.WholeRow
import Derived.Laws.BitsAllLaws
import Derived.Lib.ConvBytes
import Derived.Deep.RegionLaw
namespace Go.Proofs.Ytbgdmpaghkmadaa.N5
open Go.RowKit
set_option linter.unusedVariables false
set_option linter.unusedSimpArgs false
abbrev In (m n : Int) : Prop := 0 ≤ n ∧ n ≤ m
set_option maxHeartbeats 4000000 in
theorem xup (m n : Int) (w : World) : Calls Try.prog 67 #[.int .i64 m, .int .i64 n] w (BP (In m n) w) := by
  go_enter Try.func67, Try.ntmps67
  go_wp2_with go_in
  all_goals go_ret
  all_goals first | exact BP.t (by omega) | exact BP.f (by omega) | (refine BP.b ?_; simp only [Bool.and_eq_true, Bool.or_eq_true, decide_eq_true_eq, bne_iff_ne, ne_eq, beq_iff_eq]; omega)
def astE (e : Nat) (p : Prop) [Decidable p] (i r m : Int) : Nat :=
  if e ≠ 0 then e else if ¬ p then 11 else if ¬ (In 9999 i ∧ In 20 r) then 1 else if ¬ In 200000 m then 10 else 0
theorem below_box (w : World) (o : Obj) : Below w.heap.size w (w.alloc o) := (Below.refl _ w).alloc (Nat.le_refl _) _
set_option maxHeartbeats 4000000 in
theorem xAsset (s c : ByteArray) (i r m : Int) (hs : s.size ≤ 9223372036854775807) (w : World) : Calls Try.prog 45 #[.agg #[.string s, .int .i64 i, .int .i64 r, .int .i64 m, .string c]] w (NB (astE (chk s.data.toList) (Cur c.toList) i r m) w) := by
  have HC : Hid (∀ w, Calls Try.prog 65 #[.string s] w (NP .i64 (chk s.data.toList) w)) := fun w => xCheck s hs w
  have HB := below_box w (.cells #[.string s, .int .i64 i, .int .i64 r, .int .i64 m, .string c] 27)
  have HBB : Hid _ := HB
  clear HB
  generalize chk s.data.toList = e at *
  by_cases he : e = 0
  · subst he
    by_cases hp : Cur c.toList
    · have HP : Hid (Cur c.toList) := hp
      by_cases hi : In 9999 i
      · have HI : Hid (In 9999 i) := hi
        by_cases hr : In 20 r
        · have HR : Hid (In 20 r) := hr
          by_cases hm : In 200000 m
          · have HM : Hid (In 200000 m) := hm
            have HE : Hid (astE 0 (Cur c.toList) i r m = 0) := by unfold Hid astE; rw [if_neg (by omega), if_neg (not_not_intro hp), if_neg (not_not_intro ⟨hi, hr⟩), if_neg (not_not_intro hm)]
            clear hp hi hr hm
            go_enter Try.func45, Try.ntmps45
            go_wp2_with (first | (go_at_call 65; refine (HC.out _).mono ?_; rintro e w1 ⟨rfl, rfl⟩) | (go_at_call 66; refine (calls_t (xCur c _) HP.out).mono ?_; rintro e w1 ⟨rfl, rfl⟩) | (go_at_call 67; refine (calls_t (xup _ _ _) (by first | exact HI.out | exact HR.out | exact HM.out)).mono ?_; rintro e w1 ⟨rfl, rfl⟩))
            go_ret
            exact NB.mk (by rw [HE.out]; rfl) HBB.out
          · have HM : Hid (¬ In 200000 m) := hm
            have HE : Hid (astE 0 (Cur c.toList) i r m = 10) := by unfold Hid astE; rw [if_neg (by omega), if_neg (not_not_intro hp), if_neg (not_not_intro ⟨hi, hr⟩), if_pos hm]
            clear hp hi hr hm
            go_enter Try.func45, Try.ntmps45
            go_wp2_with (first | (go_at_call 65; refine (HC.out _).mono ?_; rintro e w1 ⟨rfl, rfl⟩) | (go_at_call 66; refine (calls_t (xCur c _) HP.out).mono ?_; rintro e w1 ⟨rfl, rfl⟩) | (go_at_call 67; refine (calls_t (xup _ _ _) (by first | exact HI.out | exact HR.out)).mono ?_; rintro e w1 ⟨rfl, rfl⟩) | (go_at_call 67; refine (calls_f (xup _ _ _) HM.out).mono ?_; rintro e w1 ⟨rfl, rfl⟩))
            go_ret
            exact NB.mk (by rw [HE.out]; rfl) HBB.out
        · have HR : Hid (¬ In 20 r) := hr
          have HE : Hid (astE 0 (Cur c.toList) i r m = 1) := by unfold Hid astE; rw [if_neg (by omega), if_neg (not_not_intro hp), if_pos (fun h => hr h.2)]
          clear hp hi hr
          go_enter Try.func45, Try.ntmps45
          go_wp2_with (first | (go_at_call 65; refine (HC.out _).mono ?_; rintro e w1 ⟨rfl, rfl⟩) | (go_at_call 66; refine (calls_t (xCur c _) HP.out).mono ?_; rintro e w1 ⟨rfl, rfl⟩) | (go_at_call 67; refine (calls_t (xup _ _ _) (by exact HI.out)).mono ?_; rintro e w1 ⟨rfl, rfl⟩) | (go_at_call 67; refine (calls_f (xup _ _ _) HR.out).mono ?_; rintro e w1 ⟨rfl, rfl⟩))
          go_ret
          exact NB.mk (by rw [HE.out]; rfl) HBB.out
      · have HI : Hid (¬ In 9999 i) := hi
        have HE : Hid (astE 0 (Cur c.toList) i r m = 1) := by unfold Hid astE; rw [if_neg (by omega), if_neg (not_not_intro hp), if_pos (fun h => hi h.1)]
        clear hp hi
        go_enter Try.func45, Try.ntmps45
        go_wp2_with (first | (go_at_call 65; refine (HC.out _).mono ?_; rintro e w1 ⟨rfl, rfl⟩) | (go_at_call 66; refine (calls_t (xCur c _) HP.out).mono ?_; rintro e w1 ⟨rfl, rfl⟩) | (go_at_call 67; refine (calls_f (xup _ _ _) HI.out).mono ?_; rintro e w1 ⟨rfl, rfl⟩))
        go_ret
        exact NB.mk (by rw [HE.out]; rfl) HBB.out
    · have HP : Hid (¬ Cur c.toList) := hp
      have HE : Hid (astE 0 (Cur c.toList) i r m = 11) := by unfold Hid astE; rw [if_neg (by omega), if_pos hp]
      clear hp
      go_enter Try.func45, Try.ntmps45
      go_wp2_with (first | (go_at_call 65; refine (HC.out _).mono ?_; rintro e w1 ⟨rfl, rfl⟩) | (go_at_call 66; refine (calls_f (xCur c _) HP.out).mono ?_; rintro e w1 ⟨rfl, rfl⟩))
      go_ret
      exact NB.mk (by rw [HE.out]; rfl) HBB.out
  · have HE : Hid (astE e (Cur c.toList) i r m = e) := by unfold Hid astE; rw [if_pos he]
    have hne : (((e : Nat) : Int) != 0) = true := by rw [bne_iff_ne]; omega
    clear he
    go_enter Try.func45, Try.ntmps45
    go_wp2_with (go_at_call 65; refine (HC.out _).mono ?_; rintro e w1 ⟨rfl, rfl⟩)
    go_ret
    exact NB.mk (by rw [HE.out]) HBB.out
def Bx (w : World) (g : Nat) (s c : ByteArray) (i r m : Int) : Prop := w.heap[g]? = some (.cells #[.string s, .int .i64 i, .int .i64 r, .int .i64 m, .string c] 27 (0, 0))
section
variable {w w' : World} {g : Nat} {s c : ByteArray} {i r m : Int}
theorem Bx.c0 (h : Bx w g s c i r m) : w.cell? ⟨g, 0, none⟩ = some (.string s) := by unfold Bx at h; simp [World.cell?, h]
theorem Bx.c1 (h : Bx w g s c i r m) : w.cell? ⟨g, 1, none⟩ = some (.int .i64 i) := by unfold Bx at h; simp [World.cell?, h]
theorem Bx.c2 (h : Bx w g s c i r m) : w.cell? ⟨g, 2, none⟩ = some (.int .i64 r) := by unfold Bx at h; simp [World.cell?, h]
theorem Bx.c3 (h : Bx w g s c i r m) : w.cell? ⟨g, 3, none⟩ = some (.int .i64 m) := by unfold Bx at h; simp [World.cell?, h]
theorem Bx.c4 (h : Bx w g s c i r m) : w.cell? ⟨g, 4, none⟩ = some (.string c) := by unfold Bx at h; simp [World.cell?, h]
theorem Bx.below {B : Nat} (h : Bx w g s c i r m) (hb : Below B w w') (hg : g < B) : Bx w' g s c i r m := (hb.block g hg).trans h
theorem Bx.new (w : World) (s c : ByteArray) (i r m : Int) : Bx (w.alloc (.cells #[.string s, .int .i64 i, .int .i64 r, .int .i64 m, .string c] 27)) w.heap.size s c i r m := heap_alloc_new w _
end
set_option maxHeartbeats 4000000 in
theorem rAsset (s c : ByteArray) (i r m : Int) (w : World) : Calls Try.prog 48 #[.agg #[.string s, .int .i64 i, .int .i64 r, .int .i64 m, .string c]] w (NB (astE (chk s.data.toList) (Cur c.toList) i r m) w) := by
  have HC : Hid (∀ w, Calls Try.prog 70 #[.string s] w (NB (chk s.data.toList) w)) := fun w => rCheck s w
  have HB0 : Hid _ := below_box w (.cells #[.string s, .int .i64 i, .int .i64 r, .int .i64 m, .string c] 27)
  have HX0 : Hid _ := Bx.new w s c i r m
  generalize chk s.data.toList = e at *
  go_enter Try.func48, Try.ntmps48
  go_wp2_with fail
  refine (HC.out _).mono ?_
  rintro e' W1 ⟨rfl, hb1⟩
  have hx : Bx W1 w.heap.size s c i r m := Bx.below HX0.out hb1 (by simp)
  have HB1 : Hid (Below w.heap.size w W1) := HB0.out.trans (hb1.mono (by simp))
  have c0 := hx.c0
  have c1 := hx.c1
  have c2 := hx.c2
  have c3 := hx.c3
  have c4 := hx.c4
  clear hb1 hx HX0 HB0
  by_cases he : e = 0
  · subst he
    by_cases hp : Cur c.toList
    · have HP : Hid (Cur c.toList) := hp
      have HE : Hid (astE 0 (Cur c.toList) i r m = if ¬ (In 9999 i ∧ In 20 r) then 1 else if ¬ In 200000 m then 10 else 0) := by unfold Hid astE; rw [if_neg (by omega), if_neg (not_not_intro hp)]
      clear hp
      go_wp2_with (go_at_call 71; refine (calls_t (rCur c _) HP.out).mono ?_; rintro e w1 ⟨rfl, rfl⟩)
      all_goals go_ret
      all_goals refine NB.mk ?_ HB1.out
      all_goals rw [HE.out]
      all_goals first | (rw [if_pos (by omega)]; rfl) | (rw [if_neg (by omega), if_pos (by omega)]; rfl) | (rw [if_neg (by omega), if_neg (by omega)]; rfl)
    · have HP : Hid (¬ Cur c.toList) := hp
      have HE : Hid (astE 0 (Cur c.toList) i r m = 11) := by unfold Hid astE; rw [if_neg (by omega), if_pos hp]
      clear hp
      go_wp2_with (go_at_call 71; refine (calls_f (rCur c _) HP.out).mono ?_; rintro e w1 ⟨rfl, rfl⟩)
      go_ret
      exact NB.mk (by rw [HE.out]; rfl) HB1.out
  · have HE : Hid (astE e (Cur c.toList) i r m = e) := by unfold Hid astE; rw [if_pos he]
    have hne : (((e : Nat) : Int) != 0) = true := by rw [bne_iff_ne]; omega
    clear he
    go_wp2_with fail
    refine (HC.out _).mono ?_
    rintro e' W2 ⟨rfl, hb2⟩
    have HB2 : Hid (Below w.heap.size w W2) := HB1.out.trans (hb2.mono HB1.out.size)
    clear hb2
    go_wp2_with fail
    go_ret
    exact NB.mk (by rw [HE.out]) HB2.out
end Go.Proofs.Ytbgdmpaghkmadaa.N5
