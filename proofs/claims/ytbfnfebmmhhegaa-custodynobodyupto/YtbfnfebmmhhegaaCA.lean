/- layer 12: members, books, lines: small walks -/
import Derived.Test.YtbfnfebmmhhegaaJ
import Derived.WalkKit
import Derived.ProofKit
import Derived.Handy
import Derived.WalkLawsBesides
import Derived.WalkSpells
import Derived.BigQuiet
import Derived.BigCall
import Derived.Deep.QuietTactic
import Derived.Deep.Light
import Derived.Deep.OwnRows
import Derived.Laws.AppendOwnNone
import Derived.Laws.Strings3
import Derived.Laws.RangeAny
import Derived.Deep.RegionWith
import Derived.Lib.BitFns
import Derived.Lib.Walk
import Derived.Lib.Strings
import Derived.Lib.OthersKept
import Derived.Deep.CutBlock
import Derived.Deep.DeepCutAuto
import Derived.Deep.LoopGhost
import Derived.Deep.RegionHeld3
import Derived.Lib.SmallJoins
import Derived.Maps.AppendAt
import Derived.Laws.IdiomStrings
import Derived.Lib.AppendZeros
import Derived.Deep.WholeRow
import Derived.Laws.BitsAllLaws
import Derived.Lib.ConvBytes
import Derived.Deep.RegionLaw
import Derived.Maps.OwnSet
import Derived.Maps.OwnOps
import Derived.Maps.RangeWalk
import Derived.Maps.Ext
import Derived.DeepKeys4
import Derived.Laws.StructEq
namespace Go.Proofs.Ytbfnfebmmhhegaa
open Go.RowKit
set_option linter.unusedVariables false
set_option linter.unusedSimpArgs false
set_option maxRecDepth 20000
/-- no member, or no book -/
def wrm (m b : Int) : Bool := decide (m < 1 ∨ 32 < m ∨ b < 1 ∨ 4 < b)
theorem wrm_no {m b : Int} (h1 : ¬ m < 1) (h2 : ¬ 32 < m) (h3 : ¬ b < 1) (h4 : ¬ 4 < b) : wrm m b = false := by unfold wrm; rw [decide_eq_false_iff_not]; omega
theorem wrm_yes {m b : Int} (h : m < 1 ∨ 32 < m ∨ b < 1 ∨ 4 < b) : wrm m b = true := by unfold wrm; rw [decide_eq_true_iff]; exact h
theorem wrm_ok {m b : Int} (h : wrm m b = false) : 1 ≤ m ∧ m ≤ 32 ∧ 1 ≤ b ∧ b ≤ 4 := by
  unfold wrm at h; rw [decide_eq_false_iff_not] at h; omega
theorem rwrm (m b : Int) (w : World) : Calls Try.prog 44 #[.int .i64 m, .int .i64 b] w fun e w' => e = .returned (.bool (wrm m b)) ∧ w = w' := by
  by_cases h1 : m < 1
  · rw [wrm_yes (.inl h1)]
    go_enter Try.func44, Try.ntmps44
    go_wp2
    go_ret
    exact ⟨rfl, rfl⟩
  by_cases h2 : 32 < m
  · rw [wrm_yes (.inr (.inl h2))]
    go_enter Try.func44, Try.ntmps44
    go_wp2
    go_ret
    exact ⟨rfl, rfl⟩
  by_cases h3 : b < 1
  · rw [wrm_yes (.inr (.inr (.inl h3)))]
    go_enter Try.func44, Try.ntmps44
    go_wp2
    go_ret
    exact ⟨rfl, rfl⟩
  by_cases h4 : 4 < b
  · rw [wrm_yes (.inr (.inr (.inr h4)))]
    go_enter Try.func44, Try.ntmps44
    go_wp2
    go_ret
    exact ⟨rfl, rfl⟩
  · rw [wrm_no h1 h2 h3 h4]
    go_enter Try.func44, Try.ntmps44
    go_wp2
    go_ret
    exact ⟨rfl, rfl⟩
theorem xmem (m : Int) (w : World) : Calls Try.prog 47 #[.int .i64 m] w fun e w' => e = .returned (.bool (!(wrm m 1))) ∧ w = w' := by
  by_cases h1 : m < 1
  · have hr : (!(wrm m 1)) = false := by rw [wrm_yes (.inl h1)]; rfl
    have h1' : ¬ 1 ≤ m := by omega
    rw [hr]
    clear hr
    go_enter Try.func47, Try.ntmps47
    go_wp2
    go_ret
    exact ⟨rfl, rfl⟩
  by_cases h2 : 32 < m
  · have hr : (!(wrm m 1)) = false := by rw [wrm_yes (.inr (.inl h2))]; rfl
    have h1' : 1 ≤ m := by omega
    have h2' : ¬ m ≤ 32 := by omega
    rw [hr]
    clear hr
    go_enter Try.func47, Try.ntmps47
    go_wp2
    go_ret
    exact ⟨rfl, rfl⟩
  · have hr : (!(wrm m 1)) = true := by rw [wrm_no h1 h2 (by omega) (by omega)]; rfl
    have h1' : 1 ≤ m := by omega
    have h2' : m ≤ 32 := by omega
    rw [hr]
    clear hr
    go_enter Try.func47, Try.ntmps47
    go_wp2
    go_ret
    exact ⟨rfl, rfl⟩
theorem xbook (m b : Int) (w : World) : Calls Try.prog 43 #[.int .i64 m, .int .i64 b] w fun e w' => e = .returned (.bool (!(wrm m b))) ∧ w = w' := by
  have H0 : Hid (∀ w, Calls Try.prog 47 #[.int .i64 m] w fun e w' => e = .returned (.bool (!(wrm m 1))) ∧ w = w') := xmem m
  by_cases hm : wrm m 1 = true
  · have hr : wrm m b = true := by unfold wrm at hm ⊢; rw [decide_eq_true_iff] at hm ⊢; omega
    have H1 : Hid (∀ w, Calls Try.prog 47 #[.int .i64 m] w fun e w' => e = .returned (.bool false) ∧ w = w') := by
      have := H0.out
      rw [hm] at this
      exact this
    rw [hr]
    clear hr H0 hm
    go_enter Try.func43, Try.ntmps43
    go_wp2_with (go_at_call 47; refine (H1.out _).mono ?_; rintro e w1 ⟨rfl, rfl⟩)
    go_ret
    exact ⟨rfl, rfl⟩
  · have hm' : wrm m 1 = false := by simpa using hm
    have H1 : Hid (∀ w, Calls Try.prog 47 #[.int .i64 m] w fun e w' => e = .returned (.bool true) ∧ w = w') := by
      have := H0.out
      rw [hm'] at this
      exact this
    have h12 := wrm_ok hm'
    by_cases h3 : b < 1
    · have hr : wrm m b = true := wrm_yes (.inr (.inr (.inl h3)))
      have h3' : ¬ 1 ≤ b := by omega
      rw [hr]
      clear hr H0 hm hm' h12
      go_enter Try.func43, Try.ntmps43
      go_wp2_with (go_at_call 47; refine (H1.out _).mono ?_; rintro e w1 ⟨rfl, rfl⟩)
      go_ret
      exact ⟨rfl, rfl⟩
    by_cases h4 : 4 < b
    · have hr : wrm m b = true := wrm_yes (.inr (.inr (.inr h4)))
      have h3' : 1 ≤ b := by omega
      have h4' : ¬ b ≤ 4 := by omega
      rw [hr]
      clear hr H0 hm hm' h12
      go_enter Try.func43, Try.ntmps43
      go_wp2_with (go_at_call 47; refine (H1.out _).mono ?_; rintro e w1 ⟨rfl, rfl⟩)
      go_ret
      exact ⟨by simp [h4'], rfl⟩
    · have hr : wrm m b = false := wrm_no (by omega) (by omega) h3 h4
      have h3' : 1 ≤ b := by omega
      have h4' : b ≤ 4 := by omega
      rw [hr]
      clear hr H0 hm hm' h12
      go_enter Try.func43, Try.ntmps43
      go_wp2_with (go_at_call 47; refine (H1.out _).mono ?_; rintro e w1 ⟨rfl, rfl⟩)
      go_ret
      exact ⟨rfl, rfl⟩
/-- a line -/
structure Ln where
  f : Int
  b : Int
  t : Int
  i : Int
  s : ByteArray
  q : Int
def Ln.cs (x : Ln) : Array Value := #[.int .i64 x.f, .int .i64 x.b, .int .i64 x.t, .int .i64 x.i, .string x.s, .int .i64 x.q]
def Ln.st (x : Ln) : Bool := wrm x.f x.b || wrm x.t x.i
set_option maxHeartbeats 1000000 in
theorem xstrayL (f b t i : Int) (s : ByteArray) (q : Int) (w : World) : Calls Try.prog 50 #[.agg #[.int .i64 f, .int .i64 b, .int .i64 t, .int .i64 i, .string s, .int .i64 q]] w fun e w' => e = .returned (.bool (wrm f b || wrm t i)) ∧ w' = w.alloc (.cells #[.int .i64 f, .int .i64 b, .int .i64 t, .int .i64 i, .string s, .int .i64 q] 98) := by
  have H1 : Hid (∀ w, Calls Try.prog 43 #[.int .i64 f, .int .i64 b] w fun e w' => e = .returned (.bool (!(wrm f b))) ∧ w = w') := xbook f b
  have H2 : Hid (∀ w, Calls Try.prog 43 #[.int .i64 t, .int .i64 i] w fun e w' => e = .returned (.bool (!(wrm t i))) ∧ w = w') := xbook t i
  generalize wrm f b = B1 at *
  generalize wrm t i = B2 at *
  cases B1
  · cases B2
    · have H1' : Hid (∀ w, Calls Try.prog 43 #[.int .i64 f, .int .i64 b] w fun e w' => e = .returned (.bool true) ∧ w = w') := H1
      have H2' : Hid (∀ w, Calls Try.prog 43 #[.int .i64 t, .int .i64 i] w fun e w' => e = .returned (.bool true) ∧ w = w') := H2
      clear H1 H2
      go_enter Try.func50, Try.ntmps50
      go_wp2_with (first | (go_at_call 43; refine (H1'.out _).mono ?_; rintro e w1 ⟨rfl, rfl⟩; clear H1') | (go_at_call 43; refine (H2'.out _).mono ?_; rintro e w1 ⟨rfl, rfl⟩))
      go_ret
      exact ⟨rfl, rfl⟩
    · have H1' : Hid (∀ w, Calls Try.prog 43 #[.int .i64 f, .int .i64 b] w fun e w' => e = .returned (.bool true) ∧ w = w') := H1
      have H2' : Hid (∀ w, Calls Try.prog 43 #[.int .i64 t, .int .i64 i] w fun e w' => e = .returned (.bool false) ∧ w = w') := H2
      clear H1 H2
      go_enter Try.func50, Try.ntmps50
      go_wp2_with (first | (go_at_call 43; refine (H1'.out _).mono ?_; rintro e w1 ⟨rfl, rfl⟩; clear H1') | (go_at_call 43; refine (H2'.out _).mono ?_; rintro e w1 ⟨rfl, rfl⟩))
      go_ret
      exact ⟨rfl, rfl⟩
  · have H1' : Hid (∀ w, Calls Try.prog 43 #[.int .i64 f, .int .i64 b] w fun e w' => e = .returned (.bool false) ∧ w = w') := H1
    clear H1 H2
    go_enter Try.func50, Try.ntmps50
    go_wp2_with (go_at_call 43; refine (H1'.out _).mono ?_; rintro e w1 ⟨rfl, rfl⟩)
    go_ret
    exact ⟨rfl, by simp⟩
/-- a balance that is neither a member's nor the world's -/
def sty (o b : Int) : Bool := wrm o b && (decide (o ≠ 0) || decide (b ≠ 0))
set_option maxHeartbeats 1000000 in
theorem xstray (o b : Int) (s : ByteArray) (n : Int) (w : World) : Calls Try.prog 54 #[.agg #[.int .i64 o, .int .i64 b, .string s, .int .i64 n]] w fun e w' => e = .returned (.bool (sty o b)) ∧ w' = (w.alloc (.cells #[.int .i64 o, .int .i64 b, .string s, .int .i64 n] 71)).alloc (.cells #[.int .i64 o, .int .i64 b, .string s] 69) := by
  have H1 : Hid (∀ w, Calls Try.prog 43 #[.int .i64 o, .int .i64 b] w fun e w' => e = .returned (.bool (!(wrm o b))) ∧ w = w') := xbook o b
  unfold sty
  generalize wrm o b = B1 at *
  cases B1
  · have H1' : Hid (∀ w, Calls Try.prog 43 #[.int .i64 o, .int .i64 b] w fun e w' => e = .returned (.bool true) ∧ w = w') := H1
    clear H1
    go_enter Try.func54, Try.ntmps54
    go_wp2_with (go_at_call 43; refine (H1'.out _).mono ?_; rintro e w1 ⟨rfl, rfl⟩)
    go_ret
    exact ⟨rfl, rfl⟩
  · have H1' : Hid (∀ w, Calls Try.prog 43 #[.int .i64 o, .int .i64 b] w fun e w' => e = .returned (.bool false) ∧ w = w') := H1
    clear H1
    by_cases ho : o = 0
    · have ho' : (o != 0) = false := by simp [ho]
      have ho2 : decide (o ≠ 0) = false := by simp [ho]
      by_cases hb : b = 0
      · have hb' : (b != 0) = false := by simp [hb]
        have hb2 : decide (b ≠ 0) = false := by simp [hb]
        rw [ho2, hb2]
        clear ho hb ho2 hb2
        go_enter Try.func54, Try.ntmps54
        go_wp2_with (go_at_call 43; refine (H1'.out _).mono ?_; rintro e w1 ⟨rfl, rfl⟩)
        go_ret
        exact ⟨rfl, rfl⟩
      · have hb' : (b != 0) = true := by simp [hb]
        have hb2 : decide (b ≠ 0) = true := by simp [hb]
        rw [ho2, hb2]
        clear ho hb ho2 hb2
        go_enter Try.func54, Try.ntmps54
        go_wp2_with (go_at_call 43; refine (H1'.out _).mono ?_; rintro e w1 ⟨rfl, rfl⟩)
        go_ret
        exact ⟨rfl, rfl⟩
    · have ho' : (o != 0) = true := by simp [ho]
      have ho2 : decide (o ≠ 0) = true := by simp [ho]
      rw [ho2]
      clear ho ho2
      go_enter Try.func54, Try.ntmps54
      go_wp2_with (go_at_call 43; refine (H1'.out _).mono ?_; rintro e w1 ⟨rfl, rfl⟩)
      go_ret
      exact ⟨rfl, rfl⟩
theorem xentry (f b t i : Int) (s : ByteArray) (q : Int) (w : World) : Calls Try.prog 51 #[.agg #[.int .i64 f, .int .i64 b, .int .i64 t, .int .i64 i, .string s, .int .i64 q]] w fun e w' => e = .returned (.agg #[.int .i64 f, .int .i64 b, .string s, .int .i64 t, .int .i64 i, .string s, .int .i64 q]) ∧ Below w.heap.size w w' := by
  have HB : Hid (∀ x y, Below w.heap.size w ((w.alloc x).alloc y)) := fun x y => ((Below.refl _ w).alloc (Nat.le_refl _) _).alloc (by simp) _
  go_enter Try.func51, Try.ntmps51
  go_wp2
  go_returns
  exact ⟨rfl, HB.out _ _⟩
/-- books at c: a ledger at q, its map at m, that holds L -/
structure Cu (w : World) (c q m : Nat) (L : List Num.Bal) : Prop where
  b : Bx w c #[.pointer (some ⟨q, 0, none⟩)] 78
  l : Lg w q m L
theorem Cu.below {w w' : World} {c q m : Nat} {L : List Num.Bal} (h : Cu w c q m L) (g : Below w.heap.size w w') : Cu w' c q m L := ⟨h.b.below g h.b.lt, h.l.below g⟩
theorem Cu.ne {w : World} {c q m : Nat} {L : List Num.Bal} (h : Cu w c q m L) : c ≠ m := by
  intro e
  obtain ⟨es, ⟨xs, k, h1, _⟩, _⟩ := h.l.m
  have h2 : w.heap[c]? = some (.cells #[.pointer (some ⟨q, 0, none⟩)] 78 (0, 0)) := h.b
  rw [e, h1] at h2
  cases h2
theorem Cu.post {w w' : World} {c q m : Nat} {L L' : List Num.Bal} (h : Cu w c q m L) (hl : Lg w' q m L') (g : w.grownBy w' (some m)) : Cu w' c q m L' := ⟨h.b.kept g (by simp [h.ne]), hl⟩
theorem xkept (c q m : Nat) (L : List Num.Bal) (w : World) (h : Cu w c q m L) : Calls Try.prog 41 #[.pointer (some ⟨c, 0, none⟩)] w fun e w' => e = .returned (.pointer (some ⟨q, 0, none⟩)) ∧ w = w' := by
  have c0 : w.cell? ⟨c, 0, none⟩ = some (.pointer (some ⟨q, 0, none⟩)) := h.b.cell 0
  clear h
  go_enter Try.func41, Try.ntmps41
  go_wp2
  go_ret
  exact ⟨rfl, rfl⟩
end Go.Proofs.Ytbfnfebmmhhegaa
