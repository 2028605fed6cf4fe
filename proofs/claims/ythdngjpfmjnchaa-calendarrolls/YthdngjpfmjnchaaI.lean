/- CalendarDates and CalendarBack: for every input the law returns true. No condition. Here: the walks of the laws themselves, out of the walks of what they call. -/
import Derived.Test.YthdngjpfmjnchaaH
import Derived.WalkKit
import Derived.ProofKit
import Derived.Handy
import Derived.WalkLawsBesides
import Derived.WalkSpells
import Derived.BigQuiet
import Derived.Deep.QuietTactic
import Derived.Deep.Light
import Derived.Deep.OwnRows
import Derived.Laws.AppendOwnNone
import Derived.Deep.RegionWith
import Derived.Lib.BitFns
import Derived.Lib.Walk
import Derived.Deep.CutBlock
import Derived.Deep.DeepCutAuto
import Derived.Deep.LoopGhost
import Derived.Deep.RegionHeld3
import Derived.Lib.SlicesCompact
import Derived.Laws.CopyOwn
import Derived.Sort.OwnSortedInts
namespace Go.Proofs.Ythdngjpfmjnchaa
open Go.RowKit
set_option linter.unusedVariables false
set_option linter.unusedSimpArgs false
theorem lofd (y m d : Int) (w : World) : Calls Try.prog 12 #[dat y m d] w (NewPost (dat y m d) w) := by
  go_enter Try.func12, Try.ntmps12
  go_wp2
  go_returns
  exact ⟨rfl, by go_grown⟩

/-- three numbers in a block -/
structure At3 (w : World) (g : Nat) (a b c : Int) : Prop where
  c0 : w.cell? ⟨g, 0, none⟩ = some (.int .i64 a)
  c1 : w.cell? ⟨g, 1, none⟩ = some (.int .i64 b)
  c2 : w.cell? ⟨g, 2, none⟩ = some (.int .i64 c)
theorem At3.new (w : World) (T : TypeId) (a b c : Int) : At3 (w.alloc (.cells #[.int .i64 a, .int .i64 b, .int .i64 c] T)) w.heap.size a b c :=
  ⟨World.cell?_alloc_new w _ T 0, World.cell?_alloc_new w _ T 1, World.cell?_alloc_new w _ T 2⟩
theorem At3.below {w w' : World} {g : Nat} {a b c : Int} (h : At3 w g a b c) (hb : Below w.heap.size w w') : At3 w' g a b c := ⟨cell_kept hb h.c0, cell_kept hb h.c1, cell_kept hb h.c2⟩
theorem At3.alloc {w : World} {g : Nat} {a b c : Int} (h : At3 w g a b c) (o : Obj) : At3 (w.alloc o) g a b c := h.below ((Below.refl _ _).alloc (Nat.le_refl _) _)

theorem kept6 {w w' : World} {p1 p2 p3 p4 p5 p6 : Addr} {v1 v2 v3 v4 v5 v6 : Value} (hb : Below w.heap.size w w') (h : w.cell? p1 = some v1 ∧ w.cell? p2 = some v2 ∧ w.cell? p3 = some v3 ∧ w.cell? p4 = some v4 ∧ w.cell? p5 = some v5 ∧ w.cell? p6 = some v6) :
    w'.cell? p1 = some v1 ∧ w'.cell? p2 = some v2 ∧ w'.cell? p3 = some v3 ∧ w'.cell? p4 = some v4 ∧ w'.cell? p5 = some v5 ∧ w'.cell? p6 = some v6 :=
  ⟨cell_kept hb h.1, cell_kept hb h.2.1, cell_kept hb h.2.2.1, cell_kept hb h.2.2.2.1, cell_kept hb h.2.2.2.2.1, cell_kept hb h.2.2.2.2.2⟩
theorem of_same {day y m d f y' m' d' f' : Int} (h : (GoodD day ∧ f = 0 ∧ IsDate day y m d) ∨ (¬ GoodD day ∧ f = 10 ∧ y = 0 ∧ m = 0 ∧ d = 0)) (h' : (GoodD day ∧ f' = 0 ∧ IsDate day y' m' d') ∨ (¬ GoodD day ∧ f' = 10 ∧ y' = 0 ∧ m' = 0 ∧ d' = 0)) :
    y' = y ∧ m' = m ∧ d' = d ∧ f' = f := by
  rcases h with ⟨g, rfl, h⟩ | ⟨g, rfl, rfl, rfl, rfl⟩
  · rcases h' with ⟨-, rfl, h'⟩ | ⟨g', -⟩
    · obtain ⟨rfl, rfl, rfl⟩ := h.uniq h'
      exact ⟨rfl, rfl, rfl, rfl⟩
    · exact absurd g g'
  · rcases h' with ⟨g', -⟩ | ⟨-, rfl, rfl, rfl, rfl⟩
    · exact absurd g' g
    · exact ⟨rfl, rfl, rfl, rfl⟩

set_option maxHeartbeats 4000000 in
set_option maxRecDepth 100000 in
theorem dates_walk (day y m d : Int) (w : World) (hday : -9223372036854775808 ≤ day ∧ day ≤ 9223372036854775807) (hy : -9223372036854775808 ≤ y ∧ y ≤ 9223372036854775807) (hm : -9223372036854775808 ≤ m ∧ m ≤ 9223372036854775807) (hd : -9223372036854775808 ≤ d ∧ d ≤ 9223372036854775807) :
    Calls Try.prog 3 #[.int .i64 day, dat y m d] w (TruePost w) := by
  have B0 : Hid (At3 (w.alloc (.cells #[.int .i64 y, .int .i64 m, .int .i64 d] 23)) w.heap.size y m d) := At3.new w 23 y m d
  go_enter Try.func3, Try.ntmps3
  go_wp2_with fail
  refine (xof day hday _).mono ?_
  rintro e w1 ⟨a, b, c, f, rfl, hb1, hof⟩
  have W1 : Hid (Below w.heap.size w w1) := ((Below.refl _ _).alloc (Nat.le_refl _) _).trans (hb1.mono (by simp))
  replace B0 : Hid (At3 w1 w.heap.size y m d) := B0.out.below hb1
  clear hb1
  go_wp2_with fail
  refine (rof day hday _).mono ?_
  rintro e w2 ⟨a', b', c', f', rfl, hb2, hof2⟩
  obtain ⟨rfl, rfl, rfl, rfl⟩ := of_same hof.out hof2.out
  have W2 : Hid (Below w.heap.size w w2) := by
    have h := W1.out.alloc W1.out.size (.cells #[.int .i64 a', .int .i64 b', .int .i64 c'] 24)
    exact h.trans (hb2.mono h.size)
  have B1 : Hid (At3 w2 w1.heap.size a' b' c') := (At3.new w1 24 a' b' c').below hb2
  replace B0 : Hid (At3 w2 w.heap.size y m d) := (B0.out.alloc _).below hb2
  clear hb2 hof hof2 W1
  have n1 := World.block_lt_of_cell? _ _ B1.out.c0
  have n0 := World.block_lt_of_cell? _ _ B0.out.c0
  have p0 := (B0.out.alloc (.cells #[.int .i64 a', .int .i64 b', .int .i64 c'] 23)).c0
  have p1 := (B0.out.alloc (.cells #[.int .i64 a', .int .i64 b', .int .i64 c'] 23)).c1
  have p2 := (B0.out.alloc (.cells #[.int .i64 a', .int .i64 b', .int .i64 c'] 23)).c2
  go_wp2_with fail
  refine (lofd y m d _).mono ?_
  rintro e w3 ⟨rfl, hb3⟩
  have W3 : Hid (Below w.heap.size w w3) := by
    have h := W2.out.alloc W2.out.size (.cells #[.int .i64 a', .int .i64 b', .int .i64 c'] 23)
    exact h.trans (hb3.mono h.size)
  have B2 : Hid (At3 w3 w2.heap.size a' b' c') := (At3.new w2 23 a' b' c').below hb3
  replace B1 : Hid (At3 w3 w1.heap.size a' b' c') := (B1.out.alloc _).below hb3
  replace B0 : Hid (At3 w3 w.heap.size y m d) := (B0.out.alloc _).below hb3
  clear hb3 W2 p0 p1 p2 n0 n1
  go_wp2_with fail
  refine (xnumber y m d hy hm hd _).mono ?_
  rintro e w4 ⟨rfl, hb4⟩
  have W4 : Hid (Below w.heap.size w w4) := W3.out.trans (hb4.mono W3.out.size)
  replace B2 : Hid (At3 w4 w2.heap.size a' b' c') := B2.out.below hb4
  replace B1 : Hid (At3 w4 w1.heap.size a' b' c') := B1.out.below hb4
  replace B0 : Hid (At3 w4 w.heap.size y m d) := B0.out.below hb4
  clear hb4 W3
  have p0 := B0.out.c0
  have p1 := B0.out.c1
  have p2 := B0.out.c2
  go_wp2_with fail
  refine (rnumber y m d hy hm hd _).mono ?_
  rintro e w5 ⟨rfl, hb5⟩
  have W5 : Hid (Below w.heap.size w w5) := W4.out.trans (hb5.mono W4.out.size)
  replace B2 : Hid (At3 w5 w2.heap.size a' b' c') := B2.out.below hb5
  replace B1 : Hid (At3 w5 w1.heap.size a' b' c') := B1.out.below hb5
  clear hb5 W4 p0 p1 p2 B0
  generalize numN y m d = n1
  generalize numE y m d = n2
  have HG : ∀ w : World, Hid (Calls Try.prog 14 #[.int .i64 day] w (RetPost (.bool (decide (GoodD day))) w)) := fun w => xgood day hday w
  have HG2 : ∀ w : World, Hid (Calls Try.prog 15 #[.int .i64 day] w (RetPost (.bool (decide (GoodD day))) w)) := fun w => rgood day hday w
  have HW : ∀ w : World, Hid (Calls Try.prog 16 #[.int .i64 day] w (RetPost (.int .i64 ((day + 3) % 7)) w)) := fun w => xweek day hday w
  have HW2 : ∀ w : World, Hid (Calls Try.prog 17 #[.int .i64 day] w (RetPost (.int .i64 ((day + 3) % 7)) w)) := fun w => rweek day hday w
  have HO : ∀ w : World, Hid (Calls Try.prog 12 #[dat a' b' c'] w (NewPost (dat a' b' c') w)) := fun w => lofd a' b' c' w
  generalize decide (GoodD day) = gd at HG HG2
  generalize (day + 3) % 7 = wk at HW HW2
  go_wp2_with fail
  have p0 := B1.out.c0
  have p1 := B1.out.c1
  have p2 := B1.out.c2
  have q0 := B2.out.c0
  have q1 := B2.out.c1
  have q2 := B2.out.c2
  go_region_held3 (fun w' => w'.cell? ⟨w1.heap.size, 0, none⟩ = some (.int .i64 a') ∧ w'.cell? ⟨w1.heap.size, 1, none⟩ = some (.int .i64 b') ∧ w'.cell? ⟨w1.heap.size, 2, none⟩ = some (.int .i64 c') ∧ w'.cell? ⟨w2.heap.size, 0, none⟩ = some (.int .i64 a') ∧ w'.cell? ⟨w2.heap.size, 1, none⟩ = some (.int .i64 b') ∧ w'.cell? ⟨w2.heap.size, 2, none⟩ = some (.int .i64 c'))
    (first
      | go_keep
      | (exact kept6 hb6 ⟨p0, p1, p2, q0, q1, q2⟩)
      | (exact kept6 hb7 (by assumption)))
    (first
      | (go_at_call 14; refine (HG _).out.mono ?_; rintro e w6 ⟨rfl, rfl⟩)
      | (go_at_call 15; refine (HG2 _).out.mono ?_; rintro e w6 ⟨rfl, rfl⟩)
      | (go_at_call 16; refine (HW _).out.mono ?_; rintro e w6 ⟨rfl, rfl⟩)
      | (go_at_call 17; refine (HW2 _).out.mono ?_; rintro e w6 ⟨rfl, rfl⟩)
      | (go_at_call 12; refine (HO _).out.mono ?_; rintro e w6 ⟨rfl, hb6⟩)
      | (go_at_call 18; refine (awake_true _).mono ?_; rintro e w7 ⟨rfl, hb7⟩))
  have h6 := W5.out.trans ((below_undrew hb6).mono W5.out.size)
  have HT : Hid (Below w.heap.size w w7) := h6.trans (hb7.mono h6.size)
  clear hb6 hb7 h6 p0 p1 p2 q0 q1 q2
  go_wp2_with fail
  go_ret
  exact ⟨rfl, HT.out⟩

set_option maxHeartbeats 4000000 in
set_option maxRecDepth 100000 in
/-- from the date's number on -/
theorem back_walk (day y m d : Int) (w : World) (hday : -9223372036854775808 ≤ day ∧ day ≤ 9223372036854775807) (hy : -9223372036854775808 ≤ y ∧ y ≤ 9223372036854775807) (hm : -9223372036854775808 ≤ m ∧ m ≤ 9223372036854775807) (hd : -9223372036854775808 ≤ d ∧ d ≤ 9223372036854775807) :
    Calls Try.prog 4 #[.int .i64 day, dat y m d] w (TruePost w) := by
  have B0 : Hid (At3 (w.alloc (.cells #[.int .i64 y, .int .i64 m, .int .i64 d] 23)) w.heap.size y m d) := At3.new w 23 y m d
  go_enter Try.func4, Try.ntmps4
  go_wp2_with fail
  refine (xof day hday _).mono ?_
  rintro e w1 ⟨a, b, c, f, rfl, hb1, hof⟩
  have W1 : Hid (Below w.heap.size w w1) := ((Below.refl _ _).alloc (Nat.le_refl _) _).trans (hb1.mono (by simp))
  replace B0 : Hid (At3 w1 w.heap.size y m d) := B0.out.below hb1
  have HN : Hid (f = 0 → numN a b c = day ∧ numE a b c = 0 ∧ (1970 ≤ a ∧ a ≤ 200000) ∧ (1 ≤ b ∧ b ≤ 12) ∧ (1 ≤ c ∧ c ≤ 31)) := by
    intro h0
    rcases hof.out with ⟨g, -, h⟩ | ⟨-, h, -⟩
    · have h1 := num_of_date h g
      have h2 := dim_pos a b
      have h3 := h.within.1
      refine ⟨h1.1, h1.2, ⟨h.y0, ?_⟩, h.m0, h.d0.1, Int.le_trans h.d0.2 h2.2⟩
      have := YB_bound h3 g.2
      omega
    · rw [h0] at h; cases h
  have hf : f = 0 ∨ f = 10 := by
    rcases hof.out with ⟨-, h, -⟩ | ⟨-, h, -⟩
    · exact .inl h
    · exact .inr h
  clear hb1 hof
  go_upto_if 19 with fail
  go_cut [] (fun wx => Hid (At3 wx w.heap.size y m d) ∧ Hid (Below w.heap.size w wx))
  case first =>
    rcases hf with rfl | rfl
    · obtain ⟨e1, e2, e3, e4, e5⟩ := HN.out rfl
      go_wp2_with fail
      refine (xnumber a b c (by omega) (by omega) (by omega) _).mono ?_
      rintro e w2 ⟨rfl, hb2⟩
      rw [e1, e2]
      have B1 : Hid (At3 w2 w.heap.size y m d) := (B0.out.alloc _).below hb2
      have W2 : Hid (Below w.heap.size w w2) := by
        have h := W1.out.alloc W1.out.size (.cells #[.int .i64 a, .int .i64 b, .int .i64 c] 24)
        exact h.trans (hb2.mono h.size)
      clear hb2 e1 e2 HN
      go_wp2_with fail
      go_meet
      case rel => exact ⟨B1, W2⟩
    · clear HN
      go_wp2_with fail
      go_meet
      case rel => exact ⟨B0.out.alloc _, W1.out.alloc W1.out.size _⟩
  case rest =>
    obtain ⟨B1, W2⟩ := hcut
    clear B0 W1 HN hf
    have p0 := B1.out.c0
    have p1 := B1.out.c1
    have p2 := B1.out.c2
    go_wp2_with fail
    refine (lofd y m d _).mono ?_
    rintro e w3 ⟨rfl, hb3⟩
    have W3 : Hid (Below w.heap.size w w3) := W2.out.trans (hb3.mono W2.out.size)
    have B3 : Hid (At3 w3 w.heap.size y m d) := B1.out.below hb3
    clear hb3 W2 B1 p0 p1 p2
    go_wp2_with fail
    refine (xnumber y m d hy hm hd _).mono ?_
    rintro e w4 ⟨rfl, hb4⟩
    have W4 : Hid (Below w.heap.size w w4) := W3.out.trans (hb4.mono W3.out.size)
    have B4 : Hid (At3 w4 w.heap.size y m d) := B3.out.below hb4
    clear hb4 W3 B3
    by_cases h0 : numE y m d = 0
    · obtain ⟨hdt, hgd⟩ := date_of_num h0
      rw [h0]
      have HDT : Hid (IsDate (numN y m d) y m d) := hdt
      have HGD : Hid (GoodD (numN y m d)) := hgd
      have hr := num_range y m d
      generalize numN y m d = n at HDT HGD hr
      clear hdt hgd h0
      go_wp2_with fail
      refine (xof n (by omega) _).mono ?_
      rintro e w5 ⟨a', b', c', f', rfl, hb5, hof5⟩
      have hd5 : f' = 0 ∧ IsDate n a' b' c' := by
        rcases hof5.out with h | h
        · exact h.2
        · exact absurd HGD.out h.1
      obtain ⟨rfl, hd6⟩ := hd5
      obtain ⟨rfl, rfl, rfl⟩ := hd6.uniq HDT.out
      have W5 : Hid (Below w.heap.size w w5) := W4.out.trans (hb5.mono W4.out.size)
      have B5 : Hid (At3 w5 w.heap.size a' b' c') := B4.out.below hb5
      clear hb5 hof5 hd6 HDT HGD W4 B4
      have HO : ∀ w : World, Hid (Calls Try.prog 12 #[dat a' b' c'] w (NewPost (dat a' b' c') w)) := fun w => lofd a' b' c' w
      have B6 : Hid (At3 (w5.alloc (.cells #[.int .i64 a', .int .i64 b', .int .i64 c'] 24)) w5.heap.size a' b' c') := At3.new w5 24 a' b' c'
      have B7 : Hid (At3 (w5.alloc (.cells #[.int .i64 a', .int .i64 b', .int .i64 c'] 24)) w.heap.size a' b' c') := B5.out.alloc _
      have W6 : Hid (Below w.heap.size w (w5.alloc (.cells #[.int .i64 a', .int .i64 b', .int .i64 c'] 24))) := W5.out.alloc W5.out.size _
      clear B5 W5
      go_wp2_with fail
      have p0 := B6.out.c0
      have p1 := B6.out.c1
      have p2 := B6.out.c2
      have q0 := B7.out.c0
      have q1 := B7.out.c1
      have q2 := B7.out.c2
      go_region_held3 (fun w' => w'.cell? ⟨w5.heap.size, 0, none⟩ = some (.int .i64 a') ∧ w'.cell? ⟨w5.heap.size, 1, none⟩ = some (.int .i64 b') ∧ w'.cell? ⟨w5.heap.size, 2, none⟩ = some (.int .i64 c') ∧ w'.cell? ⟨w.heap.size, 0, none⟩ = some (.int .i64 a') ∧ w'.cell? ⟨w.heap.size, 1, none⟩ = some (.int .i64 b') ∧ w'.cell? ⟨w.heap.size, 2, none⟩ = some (.int .i64 c'))
        (first
          | go_keep
          | (exact kept6 hb6 ⟨p0, p1, p2, q0, q1, q2⟩)
          | (exact kept6 hb7 (by assumption)))
        (first
          | (go_at_call 12; refine (HO _).out.mono ?_; rintro e w6 ⟨rfl, hb6⟩)
          | (go_at_call 18; refine (awake_true _).mono ?_; rintro e w7 ⟨rfl, hb7⟩))
      have h6 := W6.out.trans ((below_undrew hb6).mono W6.out.size)
      have HT : Hid (Below w.heap.size w w7) := h6.trans (hb7.mono h6.size)
      clear hb6 hb7 h6 p0 p1 p2 q0 q1 q2
      go_wp2_with fail
      go_ret
      exact ⟨rfl, HT.out⟩
    · obtain ⟨e1, e2⟩ := num_bad h0
      rw [e1, e2]
      clear e1 e2 h0
      go_wp2_with fail
      refine (awake_true _).mono ?_
      rintro e w5 ⟨rfl, hb5⟩
      have W5 : Hid (Below w.heap.size w w5) := W4.out.trans (hb5.mono W4.out.size)
      clear hb5
      go_wp2_with fail
      go_ret
      exact ⟨rfl, W5.out⟩
end Go.Proofs.Ythdngjpfmjnchaa
