/- Walks of Months, of package calendar and of the reference. Conditions: the arguments are ints. -/
import Derived.Test.YthdngjpfmjnchaaO
import Derived.WalkKit
import Derived.ProofKit
import Derived.Handy
import Derived.WalkLawsBesides
import Derived.WalkSpells
import Derived.BigQuiet
import Derived.Deep.QuietTactic
import Derived.Deep.Light
import Derived.Deep.OwnRows
import Derived.Laws.AppendOwnNone
import Derived.Deep.RegionWith
import Derived.Lib.BitFns
import Derived.Lib.Walk
import Derived.Deep.CutBlock
import Derived.Deep.DeepCutAuto
import Derived.Deep.LoopGhost
import Derived.Deep.RegionHeld3
import Derived.Lib.SlicesCompact
import Derived.Laws.CopyOwn
import Derived.Sort.OwnSortedInts
namespace Go.Proofs.Ythdngjpfmjnchaa
open Go.RowKit
set_option linter.unusedVariables false
set_option linter.unusedSimpArgs false
/-- the date so many months later -/
def laterY (y m n : Int) : Int := y + (m - 1 + n) / 12
def laterM (m n : Int) : Int := (m - 1 + n) % 12 + 1
def laterD (y m d n : Int) : Int := min d (dim (laterY y m n) (laterM m n))
def Mth (ys : List Int) (d n v f : Int) : Prop :=
  (¬ GoodD d ∧ v = 0 ∧ f = 10) ∨ (GoodD d ∧ ¬ (0 ≤ n ∧ n ≤ 120) ∧ v = 0 ∧ f = 1) ∨
  (GoodD d ∧ (0 ≤ n ∧ n ≤ 120) ∧ ∃ y m dd, IsDate d y m dd ∧ ((numE (laterY y m n) (laterM m n) (laterD y m dd n) ≠ 0 ∧ v = 0 ∧ f = numE (laterY y m n) (laterM m n) (laterD y m dd n)) ∨
    (numE (laterY y m n) (laterM m n) (laterD y m dd n) = 0 ∧ Rol ys (numN (laterY y m n) (laterM m n) (laterD y m dd n)) v f)))
theorem Mth.det {ys : List Int} {d n v f v' f' : Int} (h : Mth ys d n v f) (h' : Mth ys d n v' f') : v = v' ∧ f = f' := by
  rcases h with ⟨g, rfl, rfl⟩ | ⟨g, c, rfl, rfl⟩ | ⟨g, c, y, m, dd, hd, h⟩
  · rcases h' with ⟨-, rfl, rfl⟩ | ⟨g', -⟩ | ⟨g', -⟩
    · exact ⟨rfl, rfl⟩
    · exact absurd g' g
    · exact absurd g' g
  · rcases h' with ⟨g', -⟩ | ⟨-, -, rfl, rfl⟩ | ⟨-, c', -⟩
    · exact absurd g g'
    · exact ⟨rfl, rfl⟩
    · exact absurd c' c
  · rcases h' with ⟨g', -⟩ | ⟨-, c', -⟩ | ⟨-, -, y', m', dd', hd', h'⟩
    · exact absurd g g'
    · exact absurd c c'
    · obtain ⟨rfl, rfl, rfl⟩ := hd.uniq hd'
      rcases h with ⟨q, rfl, rfl⟩ | ⟨q, h⟩
      · rcases h' with ⟨-, rfl, rfl⟩ | ⟨q', -⟩
        · exact ⟨rfl, rfl⟩
        · exact absurd q' q
      · rcases h' with ⟨q', -⟩ | ⟨-, h'⟩
        · exact absurd q q'
        · exact h.det h'
theorem Mth.same {xs ys : List Int} (hm : ∀ x, x ∈ xs ↔ x ∈ ys) {d n v f : Int} (h : Mth xs d n v f) : Mth ys d n v f := by
  rcases h with h | h | ⟨g, c, y, m, dd, hd, h⟩
  · exact .inl h
  · exact .inr (.inl h)
  · refine .inr (.inr ⟨g, c, y, m, dd, hd, ?_⟩)
    rcases h with h | ⟨q, h⟩
    · exact .inl h
    · exact .inr ⟨q, h.same hm⟩
theorem later_range {y m d n : Int} (hy : 1970 ≤ y ∧ y ≤ 2517) (hm : 1 ≤ m ∧ m ≤ 12) (hd : 1 ≤ d ∧ d ≤ 31) (hn : 0 ≤ n ∧ n ≤ 120) : (1970 ≤ laterY y m n ∧ laterY y m n ≤ 2600) ∧ (1 ≤ laterM m n ∧ laterM m n ≤ 12) ∧ (1 ≤ laterD y m d n ∧ laterD y m d n ≤ 31) := by
  have h := dim_pos (laterY y m n) (laterM m n)
  unfold laterD
  generalize dim (laterY y m n) (laterM m n) = z at h
  unfold laterY laterM
  omega

set_option maxHeartbeats 2000000 in
set_option maxRecDepth 100000 in
theorem xlater (y m d n : Int) (hy : 1970 ≤ y ∧ y ≤ 2517) (hm : 1 ≤ m ∧ m ≤ 12) (hd : 1 ≤ d ∧ d ≤ 31) (hn : 0 ≤ n ∧ n ≤ 120) (w : World) :
    Calls Try.prog 46 #[dat y m d, .int .i64 n] w (NewPost (dat (laterY y m n) (laterM m n) (laterD y m d n)) w) := by
  have HB0 : Hid (Boxed w 24 y m d (w.alloc (.cells #[.int .i64 y, .int .i64 m, .int .i64 d] 24))) := Boxed.new w 24 y m d
  have HR : ∀ w : World, Hid (Calls Try.prog 35 #[.int .i64 (laterY y m n), .int .i64 (laterM m n)] w (RetPost (.int .i64 (dim (laterY y m n) (laterM m n))) w)) := fun w => by
    have h := later_range hy hm hd hn
    exact xmonth _ _ (by omega) (by omega) w
  have b1 := dim_pos (laterY y m n) (laterM m n)
  have HD : Hid (laterD y m d n = min d (dim (laterY y m n) (laterM m n))) := rfl
  generalize dim (laterY y m n) (laterM m n) = z at HR b1 HD
  have HY : Hid (laterY y m n = y + (m - 1 + n) / 12) := rfl
  have HM : Hid (laterM m n = (m - 1 + n) % 12 + 1) := rfl
  generalize laterY y m n = Y at HR HY
  generalize laterM m n = M at HR HM
  generalize laterD y m d n = D at HD
  go_enter Try.func46, Try.ntmps46
  go_wp2
  rw [← HY.out, ← HM.out]
  have c2 : ∀ o, ((w.alloc (.cells #[.int .i64 y, .int .i64 m, .int .i64 d] 24)).alloc o).cell? ⟨w.heap.size, 2, none⟩ = some (.int .i64 d) := fun o => cell_kept ((Below.refl _ _).alloc (Nat.le_refl _) o) HB0.out.c2
  go_region_held3 (fun w' => w'.cell? ⟨w.heap.size, 2, none⟩ = some (.int .i64 d))
    (first | go_keep | (trace_state; fail))
    ((go_at_call 35; refine (HR _).out.mono ?_; rintro e w1 ⟨rfl, rfl⟩))
  clear c2 HR
  go_wp2
  go_returns
  refine ⟨by rw [HD.out], ?_⟩
  exact below_drew ((HB0.out.bel.alloc HB0.out.bel.size _))

def MthPost (ys : List Int) (d n : Int) (w : World) (e : Ending) (w' : World) : Prop :=
  ∃ v f, e = .returned (.tuple #[.int .i64 v, .int .i64 f]) ∧ Below w.heap.size w w' ∧ Hid (Mth ys d n v f)

theorem date_range {d y m dd : Int} (h : IsDate d y m dd) (hg : GoodD d) : (1970 ≤ y ∧ y ≤ 2517) ∧ (1 ≤ m ∧ m ≤ 12) ∧ (1 ≤ dd ∧ dd ≤ 31) :=
  ⟨⟨h.y0, YB_bound h.within.1 hg.2⟩, h.m0, h.d0.1, Int.le_trans h.d0.2 (dim_pos y m).2⟩

set_option maxHeartbeats 2000000 in
theorem xmonths (p : Nat) (ys : List Int) (d n : Int) (w : World) (hd : -9223372036854775808 ≤ d ∧ d ≤ 9223372036854775807) (hn : -9223372036854775808 ≤ n ∧ n ≤ 9223372036854775807) (hc : Cal w p ys) :
    Calls Try.prog 32 #[.pointer (some ⟨p, 0, none⟩), .int .i64 d, .int .i64 n] w (MthPost ys d n w) := by
  have HC : Hid (Cal w p ys) := hc
  clear hc
  go_enter Try.func32, Try.ntmps32
  go_wp2_with fail
  refine (xnone p ys w HC.out).mono ?_
  rintro e w1 ⟨rfl, rfl⟩
  go_wp2_with fail
  refine (xof d hd _).mono ?_
  rintro e w1 ⟨y, m, dd, f, rfl, hb1, hof⟩
  have HB1 : Hid (Below w.heap.size w (w1.alloc (.cells #[.int .i64 y, .int .i64 m, .int .i64 dd] 24))) := hb1.alloc hb1.size _
  clear hb1
  by_cases hg : GoodD d
  case neg =>
    obtain rfl : f = 10 := by
      rcases hof.out with h | h
      · exact absurd h.1 hg
      · exact h.2.1
    have HG : Hid (¬ GoodD d) := hg
    clear hg hof
    go_wp2_with fail
    go_ret2
    exact ⟨_, _, rfl, HB1.out, .inl ⟨HG.out, rfl, rfl⟩⟩
  obtain ⟨rfl, hdt⟩ := of_good hof.out hg
  have HDT : Hid (IsDate d y m dd) := hdt
  have HG : Hid (GoodD d) := hg
  obtain ⟨ry, rm, rd⟩ := date_range hdt hg
  clear hg hof hdt
  by_cases hn1 : n < 0
  · have e1 : decide (n < 0) = true := decide_eq_true hn1
    have HN : Hid (¬ (0 ≤ n ∧ n ≤ 120)) := fun q => by omega
    clear hn1
    go_wp2_with fail
    go_ret2
    exact ⟨_, _, rfl, HB1.out, .inr (.inl ⟨HG.out, HN.out, rfl, rfl⟩)⟩
  have e1 : decide (n < 0) = false := decide_eq_false hn1
  by_cases hn2 : 120 < n
  · have e2 : decide (120 < n) = true := decide_eq_true hn2
    have HN : Hid (¬ (0 ≤ n ∧ n ≤ 120)) := fun q => by omega
    clear hn2
    go_wp2_with fail
    go_ret2
    exact ⟨_, _, rfl, HB1.out, .inr (.inl ⟨HG.out, HN.out, rfl, rfl⟩)⟩
  have e2 : decide (120 < n) = false := decide_eq_false hn2
  have hns : 0 ≤ n ∧ n ≤ 120 := by omega
  clear hn1 hn2
  go_wp2_with fail
  refine (xlater y m dd n ry rm rd hns _).mono ?_
  rintro e w2 ⟨rfl, hb2⟩
  have HB2 : Hid (Below w.heap.size w w2) := HB1.out.trans (hb2.mono HB1.out.size)
  clear hb2 HB1
  obtain ⟨r1, r2, r3⟩ := later_range ry rm rd hns
  have HF : Hid (∀ v f, ((numE (laterY y m n) (laterM m n) (laterD y m dd n) ≠ 0 ∧ v = 0 ∧ f = numE (laterY y m n) (laterM m n) (laterD y m dd n)) ∨ (numE (laterY y m n) (laterM m n) (laterD y m dd n) = 0 ∧ Rol ys (numN (laterY y m n) (laterM m n) (laterD y m dd n)) v f)) → Mth ys d n v f) :=
    fun v f h => .inr (.inr ⟨HG.out, hns, y, m, dd, HDT.out, h⟩)
  generalize laterY y m n = Y at r1 HF
  generalize laterM m n = M at r2 HF
  generalize laterD y m dd n = D at r3 HF
  go_wp2_with fail
  refine (xnumber Y M D (by omega) (by omega) (by omega) _).mono ?_
  rintro e w3 ⟨rfl, hb3⟩
  have HB3 : Hid (Below w.heap.size w w3) := HB2.out.trans (hb3.mono HB2.out.size)
  clear hb3 HB2
  by_cases h0 : numE Y M D = 0
  · have hr := num_range Y M D
    rw [h0]
    have H0 : Hid (numE Y M D = 0) := h0
    generalize numN Y M D = N at hr HF
    clear h0
    go_wp2_with fail
    refine (xroll p ys N _ (by omega) (HC.out.below HB3.out)).mono ?_
    rintro e w4 ⟨v, f, rfl, hb4, hr4⟩
    have HB4 : Hid (Below w.heap.size w w4) := HB3.out.trans (hb4.mono HB3.out.size)
    clear hb4
    go_wp2_with fail
    go_ret2
    exact ⟨_, _, rfl, HB4.out, HF.out _ _ (.inr ⟨H0.out, hr4.out⟩)⟩
  · obtain ⟨e3, e4⟩ := num_bad h0
    rw [e3, e4]
    have H0 : Hid (numE Y M D = 10) := e4
    clear h0 e3 e4
    go_wp2_with fail
    go_ret2
    exact ⟨_, _, rfl, HB3.out, HF.out _ _ (.inl ⟨by rw [H0.out]; decide, rfl, H0.out.symm⟩)⟩

/-- a date in a block of the call's own, behind the reference's calendar in another one -/
structure Own3 (w : World) (v : Value) (g : Nat) (y m d : Int) (wr : World) : Prop where
  box : BoxV w v wr
  up : w.heap.size < g
  blk : wr.heap[g]? = some (.cells #[.int .i64 y, .int .i64 m, .int .i64 d] 23 (0, 0))
section
variable {w wr w' : World} {v : Value} {g : Nat} {y m d : Int}
theorem Own3.lt (h : Own3 w v g y m d wr) : g < wr.heap.size := (Array.getElem?_eq_some_iff.1 h.blk).1
theorem Own3.below (h : Own3 w v g y m d wr) (hb : Below wr.heap.size wr w') : Own3 w v g y m d w' := ⟨h.box.below hb, h.up, (hb.block _ h.lt).trans h.blk⟩
theorem Own3.at3 (h : Own3 w v g y m d wr) : At3 wr g y m d := by
  refine ⟨?_, ?_, ?_⟩ <;> simp [World.cell?, h.blk]
theorem Own3.fr (h : Own3 w v g y m d wr) (j : Nat) : wr.frozen? ⟨g, j, none⟩ = false := by simp [World.frozen?, h.blk]
theorem Own3.set (h : Own3 w v g y m d wr) (j : Nat) (u : Int) {y' m' d' : Int} (he : (#[Value.int .i64 y, .int .i64 m, .int .i64 d]).setIfInBounds j (.int .i64 u) = #[.int .i64 y', .int .i64 m', .int .i64 d']) : Own3 w v g y' m' d' (wr.setCell ⟨g, j, none⟩ (.int .i64 u)) := by
  have hup := h.up
  refine ⟨⟨?_, h.box.bel.setCell (by show w.heap.size ≤ g; omega) _⟩, h.up, ?_⟩
  · rw [Below.heap_setCell _ _ _ _ (by show w.heap.size ≠ g; omega)]
    exact h.box.blk
  · rw [heap_setCell_same wr g j _ 23 _ h.blk, he]
end

theorem later_uniq {y m Y M n : Int} (hm : 1 ≤ m ∧ m ≤ 12) (hM : 1 ≤ M ∧ M ≤ 12) (h : 12 * Y + M = 12 * y + m + n) : laterY y m n = Y ∧ laterM m n = M := by
  unfold laterY laterM
  omega

set_option maxHeartbeats 4000000 in
set_option maxRecDepth 100000 in
theorem rmonths (xs : List Int) (v : Value) (d n : Int) (w : World) (hd : -9223372036854775808 ≤ d ∧ d ≤ 9223372036854775807) (hn : -9223372036854775808 ≤ n ∧ n ≤ 9223372036854775807) (hl : xs.length ≤ 256) (hv : Seg w v xs) :
    Calls Try.prog 33 #[.agg #[v], .int .i64 d, .int .i64 n] w (MthPost xs d n w) := by
  have HV : Hid (Seg w v xs) := hv
  have HB : Hid (BoxV w v (w.alloc (.cells #[v] 45))) := BoxV.new w v
  have hone : v.oneCell' = true := by obtain ⟨a, cap, rfl, -⟩ := hv; rfl
  clear hv
  go_enter Try.func33, Try.ntmps33
  go_wp2_with fail
  refine (rof d hd _).mono ?_
  rintro e w1 ⟨y, m, dd, f, rfl, hb1, hof⟩
  have HB1 : Hid (BoxV w v w1) := HB.out.below hb1
  clear hb1 HB
  by_cases hg : GoodD d
  case neg =>
    obtain rfl : f = 10 := by
      rcases hof.out with h | h
      · exact absurd h.1 hg
      · exact h.2.1
    have HG : Hid (¬ GoodD d) := hg
    clear hg hof
    go_wp2_with fail
    go_ret2
    exact ⟨_, _, rfl, HB1.out.bel.alloc HB1.out.bel.size _, .inl ⟨HG.out, rfl, rfl⟩⟩
  obtain ⟨rfl, hdt⟩ := of_good hof.out hg
  have HDT : Hid (IsDate d y m dd) := hdt
  have HG : Hid (GoodD d) := hg
  obtain ⟨ry, rm, rd⟩ := date_range hdt hg
  clear hg hof hdt
  by_cases hn1 : n < 0
  · have e1 : decide (n < 0) = true := decide_eq_true hn1
    have HN : Hid (¬ (0 ≤ n ∧ n ≤ 120)) := fun q => by omega
    clear hn1
    go_wp2_with fail
    go_ret2
    exact ⟨_, _, rfl, HB1.out.bel.alloc HB1.out.bel.size _, .inr (.inl ⟨HG.out, HN.out, rfl, rfl⟩)⟩
  have e1 : decide (n < 0) = false := decide_eq_false hn1
  by_cases hn2 : 120 < n
  · have e2 : decide (120 < n) = true := decide_eq_true hn2
    have HN : Hid (¬ (0 ≤ n ∧ n ≤ 120)) := fun q => by omega
    clear hn2
    go_wp2_with fail
    go_ret2
    exact ⟨_, _, rfl, HB1.out.bel.alloc HB1.out.bel.size _, .inr (.inl ⟨HG.out, HN.out, rfl, rfl⟩)⟩
  have e2 : decide (120 < n) = false := decide_eq_false hn2
  have hns : 0 ≤ n ∧ n ≤ 120 := by omega
  clear hn1 hn2
  have HO : Hid (Own3 w v w1.heap.size y m dd (w1.alloc (.cells #[.int .i64 y, .int .i64 m, .int .i64 dd] 23))) :=
    ⟨HB1.out.below ((Below.refl _ _).alloc (Nat.le_refl _) _), HB1.out.lt, heap_alloc_new w1 _⟩
  clear HB1
  go_wp2_with fail
  go_loopw [10] (fun ki wr => ∃ (k : Nat) (Y M : Int), ki = .int .i64 k ∧ (k : Int) ≤ n ∧ (1970 ≤ Y ∧ Y ≤ 3000) ∧ (1 ≤ M ∧ M ≤ 12) ∧ Hid (12 * Y + M = 12 * y + m + k) ∧ Hid (Own3 w v w1.heap.size Y M dd wr)) (fun ki _ => (200 - intOf ki).toNat)
  case atStart => exact ⟨0, y, m, rfl, by omega, by omega, rm, by show 12 * y + m = 12 * y + m + ((0 : Nat) : Int); omega, HO⟩
  case round =>
    obtain ⟨k, Y, M, rfl, hk, hY, hM, hyk, ho⟩ := hrel
    have f0 := ho.out.at3.c0
    have f1 := ho.out.at3.c1
    have f2 := ho.out.at3.c2
    have g0 := ho.out.fr 0
    have g1 := ho.out.fr 1
    have g2 := ho.out.fr 2
    by_cases hkn : (k : Int) < n
    · by_cases hM12 : M = 12
      · subst hM12
        have HS : Hid (Own3 w v w1.heap.size (Y + 1) 1 dd (((wr.setCell ⟨w1.heap.size, 1, none⟩ (.int .i64 13)).setCell ⟨w1.heap.size, 0, none⟩ (.int .i64 (Y + 1))).setCell ⟨w1.heap.size, 1, none⟩ (.int .i64 1))) :=
          ((ho.out.set 1 13 (y' := Y) (m' := 13) (d' := dd) rfl).set 0 (Y + 1) (y' := Y + 1) (m' := 13) (d' := dd) rfl).set 1 1 rfl
        have hY2 : Y + 1 ≤ 3000 := by have := hyk.out; omega
        go_wp2_with fail
        exact ⟨⟨k + 1, Y + 1, 1, by go_num, by omega, by omega, by omega, by show 12 * (Y + 1) + 1 = 12 * y + m + ((k + 1 : Nat) : Int); have := hyk.out; omega, HS⟩, by simp [intOf]; omega⟩
      · have hm2 : M + 1 ≤ 12 := by omega
        have HS : Hid (Own3 w v w1.heap.size Y (M + 1) dd (wr.setCell ⟨w1.heap.size, 1, none⟩ (.int .i64 (M + 1)))) := ho.out.set 1 (M + 1) rfl
        go_wp2_with fail
        exact ⟨⟨k + 1, Y, M + 1, by go_num, by omega, hY, by omega, by show 12 * Y + (M + 1) = 12 * y + m + ((k + 1 : Nat) : Int); have := hyk.out; omega, HS⟩, by simp [intOf]; omega⟩
    · have hkn2 : (k : Int) = n := by omega
      obtain ⟨q1, q2⟩ := later_uniq (y := y) (Y := Y) (n := n) rm hM (by have := hyk.out; omega)
      have HF : Hid (∀ v f, ((numE Y M (min dd (dim Y M)) ≠ 0 ∧ v = 0 ∧ f = numE Y M (min dd (dim Y M))) ∨ (numE Y M (min dd (dim Y M)) = 0 ∧ Rol xs (numN Y M (min dd (dim Y M))) v f)) → Mth xs d n v f) := fun v f h => by
        refine .inr (.inr ⟨HG.out, hns, y, m, dd, HDT.out, ?_⟩)
        unfold laterD
        rw [q1, q2]
        exact h
      have HR : ∀ w : World, Hid (Calls Try.prog 36 #[.int .i64 Y, .int .i64 M] w (NewPost (.int .i64 (dim Y M)) w)) := fun w => rdays Y M (by omega) (by omega) w
      have b1 := dim_pos Y M
      generalize dim Y M = z at HF HR b1
      clear q1 q2 hyk hkn2 g0 g1 g2
      go_wp2_with fail
      go_region_held3 (fun w' => w'.cell? ⟨w1.heap.size, 0, none⟩ = some (.int .i64 Y) ∧ w'.cell? ⟨w1.heap.size, 1, none⟩ = some (.int .i64 M) ∧ w'.cell? ⟨w1.heap.size, 2, none⟩ = some (.int .i64 dd))
        (first
          | go_keep
          | (exact ⟨cell_kept hb2 f0, cell_kept hb2 f1, cell_kept hb2 f2⟩))
        ((go_at_call 36; refine (HR _).out.mono ?_; rintro e w2 ⟨rfl, hb2⟩))
      have HO2 : Hid (Own3 w v w1.heap.size Y M dd w2) := ho.out.below (below_undrew hb2)
      clear hb2 ho f0 f1 f2
      by_cases hz : z < dd
      · have f0 := HO2.out.at3.c0
        have f1 := HO2.out.at3.c1
        have f2 := HO2.out.at3.c2
        have f3 := HO2.out.fr 2
        go_wp2_with fail
        refine (HR _).out.mono ?_
        rintro e w3 ⟨rfl, hb3⟩
        have HO3a : Hid (Own3 w v w1.heap.size Y M dd w3) := HO2.out.below hb3
        have HO3 : Hid (Own3 w v w1.heap.size Y M z (w3.setCell ⟨w1.heap.size, 2, none⟩ (.int .i64 z))) := HO3a.out.set 2 z rfl
        have k2 := HO3a.out.at3.c2
        have k3 := HO3a.out.fr 2
        rw [show min dd z = z by omega] at HF
        clear hb3 HO2 f0 f1 f2 f3 HO3a
        have hD : 1 ≤ z ∧ z ≤ 31 := by omega

        have n1 := HO3.out.at3.c0
        have n2 := HO3.out.at3.c1
        have n3 := HO3.out.at3.c2
        have nb := HO3.out.box.c0
        go_wp2_with fail
        refine (rnumber Y M z (by omega) (by omega) (by omega) _).mono ?_
        rintro e w4 ⟨rfl, hb4⟩
        have HB4 : Hid (BoxV w v w4) := HO3.out.box.below hb4
        have nb4 := HB4.out.c0
        clear hb4 HO3 n1 n2 n3 nb
        by_cases h0 : numE Y M z = 0
        · have hr := num_range Y M z
          rw [h0]
          have H0 : Hid (numE Y M z = 0) := h0
          generalize numN Y M z = N at hr HF
          clear h0
          go_wp2_with fail
          refine (rroll xs v N _ (by omega) hl (HV.out.below HB4.out.bel)).mono ?_
          rintro e w5 ⟨r1, r2, rfl, hb5, hr5⟩
          have HB5 : Hid (Below w.heap.size w w5) := HB4.out.bel.trans (hb5.mono HB4.out.bel.size)
          clear hb5 nb4
          go_wp2_with fail
          go_ret2
          exact ⟨_, _, rfl, HB5.out, HF.out _ _ (.inr ⟨H0.out, hr5.out⟩)⟩
        · obtain ⟨e3, e4⟩ := num_bad h0
          rw [e3, e4]
          have H0 : Hid (numE Y M z = 10) := e4
          clear h0 e3 e4 nb4
          go_wp2_with fail
          go_ret2
          exact ⟨_, _, rfl, HB4.out.bel, HF.out _ _ (.inl ⟨by rw [H0.out]; decide, rfl, H0.out.symm⟩)⟩
      · have HO3 := HO2
        rw [show min dd z = dd by omega] at HF
        clear HO2

        have n1 := HO3.out.at3.c0
        have n2 := HO3.out.at3.c1
        have n3 := HO3.out.at3.c2
        have nb := HO3.out.box.c0
        go_wp2_with fail
        refine (rnumber Y M dd (by omega) (by omega) (by omega) _).mono ?_
        rintro e w4 ⟨rfl, hb4⟩
        have HB4 : Hid (BoxV w v w4) := HO3.out.box.below hb4
        have nb4 := HB4.out.c0
        clear hb4 HO3 n1 n2 n3 nb
        by_cases h0 : numE Y M dd = 0
        · have hr := num_range Y M dd
          rw [h0]
          have H0 : Hid (numE Y M dd = 0) := h0
          generalize numN Y M dd = N at hr HF
          clear h0
          go_wp2_with fail
          refine (rroll xs v N _ (by omega) hl (HV.out.below HB4.out.bel)).mono ?_
          rintro e w5 ⟨r1, r2, rfl, hb5, hr5⟩
          have HB5 : Hid (Below w.heap.size w w5) := HB4.out.bel.trans (hb5.mono HB4.out.bel.size)
          clear hb5 nb4
          go_wp2_with fail
          go_ret2
          exact ⟨_, _, rfl, HB5.out, HF.out _ _ (.inr ⟨H0.out, hr5.out⟩)⟩
        · obtain ⟨e3, e4⟩ := num_bad h0
          rw [e3, e4]
          have H0 : Hid (numE Y M dd = 10) := e4
          clear h0 e3 e4 nb4
          go_wp2_with fail
          go_ret2
          exact ⟨_, _, rfl, HB4.out.bel, HF.out _ _ (.inl ⟨by rw [H0.out]; decide, rfl, H0.out.symm⟩)⟩
end Go.Proofs.Ythdngjpfmjnchaa
