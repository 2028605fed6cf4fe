/- Walks of Works, Next, Back of package calendar on a calendar that New made. Conditions: the arguments are ints. -/
import Derived.Test.YthdngjpfmjnchabG
import Derived.WalkKit
import Derived.ProofKit
import Derived.Handy
import Derived.WalkLawsBesides
import Derived.WalkSpells
import Derived.BigQuiet
import Derived.Deep.QuietTactic
import Derived.Deep.Light
import Derived.Deep.OwnRows
import Derived.Laws.AppendOwnNone
import Derived.Deep.RegionWith
import Derived.Lib.BitFns
import Derived.Lib.Walk
import Derived.Deep.CutBlock
import Derived.Deep.DeepCutAuto
import Derived.Deep.LoopGhost
import Derived.Deep.RegionHeld3
import Derived.Lib.SlicesCompact
import Derived.Laws.CopyOwn
import Derived.Sort.OwnSortedInts
namespace Go.Proofs.Ythdngjpfmjnchab
open Go.RowKit
set_option linter.unusedVariables false
set_option linter.unusedSimpArgs false

theorem Cal.drewN {w : World} {p : Nat} {ys : List Int} (h : Cal w p ys) (q : Nat) : Cal (w.drewN q) p ys := by
  obtain ⟨v, h1, h2⟩ := h.c1
  exact ⟨h.lt, h.c0, ⟨v, h1, h2⟩, h.up, h.len, h.good⟩

theorem xnone (p : Nat) (ys : List Int) (w : World) (hc : Cal w p ys) : Calls Try.prog 15 #[.pointer (some ⟨p, 0, none⟩)] w (RetPost (.bool false) w) := by
  have c0 := hc.c0
  clear hc
  go_enter Try.func15, Try.ntmps15
  go_wp2
  go_ret
  exact ⟨rfl, rfl⟩

def WorkPost (ys : List Int) (d : Int) (w : World) (e : Ending) (w' : World) : Prop := e = .returned (.bool (wkB ys d)) ∧ ∃ q, w' = w.drewN q

theorem xsearch (ys : List Int) (v : Value) (d : Int) (w : World) (hv : Seg w v ys) (hu : ys.Pairwise (· < ·)) (hl : ys.length ≤ 256) : Calls Try.prog 21 #[v, .int .i64 d] w fun e w' => ∃ k q, e = .returned (.tuple #[.int .i64 k, .bool (decide (d ∈ ys))]) ∧ w' = w.drewN q := by
  obtain ⟨a, cap, rfl, h⟩ := hv
  by_cases h0 : ys = []
  · subst h0
    refine (Try.slices_BinarySearch_int_empty a cap d w).mono ?_
    rintro e w' ⟨rfl, rfl⟩
    exact ⟨0, 0, by simp, rfl⟩
  · obtain ⟨b, off, rfl, hb, hc⟩ := h h0
    refine (Try.slices_BinarySearch_int b off ys.length cap ys d w (Nat.le_refl _) (by omega) hc (by rw [List.take_length]; exact lt_le hu)).mono ?_
    rintro e w' ⟨rfl, q, rfl⟩
    rw [List.take_length]
    exact ⟨_, q, by rw [List.contains_eq_mem], rfl⟩

set_option maxHeartbeats 1000000 in
theorem xworks (p : Nat) (ys : List Int) (d : Int) (w : World) (hd : -9223372036854775808 ≤ d ∧ d ≤ 9223372036854775807) (hc : Cal w p ys) : Calls Try.prog 9 #[.pointer (some ⟨p, 0, none⟩), .int .i64 d] w (WorkPost ys d w) := by
  have HC : Hid (Cal w p ys) := hc
  obtain ⟨v, c1, hv⟩ := hc.c1
  have HV : Hid (Seg w v ys) := hv
  obtain ⟨a, cap, rfl, -⟩ := hv
  clear hc
  by_cases hg : GoodD d
  case neg =>
    have HK : Hid (wkB ys d = false) := decide_eq_false fun q => hg q.1
    have HG : Hid (¬ GoodD d) := hg
    clear hg c1
    go_enter Try.func9, Try.ntmps9
    go_wp2_with fail
    refine (xnone p ys w HC.out).mono ?_
    rintro e w1 ⟨rfl, rfl⟩
    go_wp2_with fail
    refine (xgood d hd _).mono ?_
    rintro e w1 ⟨rfl, rfl⟩
    rw [decide_eq_false HG.out]
    go_wp2_with fail
    go_ret
    exact ⟨ret_bool HK.out.symm, 0, rfl⟩
  have HG : Hid (GoodD d) := hg
  clear hg
  by_cases hk : (d + 3) % 7 < 5
  case neg =>
    have HK : Hid (wkB ys d = false) := decide_eq_false fun q => hk q.2.1
    clear c1
    go_enter Try.func9, Try.ntmps9
    go_wp2_with fail
    refine (xnone p ys w HC.out).mono ?_
    rintro e w1 ⟨rfl, rfl⟩
    go_wp2_with fail
    refine (xgood d hd _).mono ?_
    rintro e w1 ⟨rfl, rfl⟩
    rw [decide_eq_true HG.out]
    go_wp2_with fail
    refine (xweek d hd _).mono ?_
    rintro e w1 ⟨rfl, rfl⟩
    generalize (d + 3) % 7 = z at hk
    have hz : decide ((5 : Int) ≤ z) = true := decide_eq_true (by omega)
    go_wp2_with fail
    go_ret
    exact ⟨ret_bool HK.out.symm, 0, rfl⟩
  have HK : Hid (wkB ys d = !decide (d ∈ ys)) := by
    show _ = _
    unfold wkB
    by_cases c : d ∈ ys
    · rw [decide_eq_false (fun q => q.2.2 c), decide_eq_true c]; rfl
    · rw [decide_eq_true ⟨HG.out, hk, c⟩, decide_eq_false c]; rfl
  go_enter Try.func9, Try.ntmps9
  go_wp2_with fail
  refine (xnone p ys w HC.out).mono ?_
  rintro e w1 ⟨rfl, rfl⟩
  go_wp2_with fail
  refine (xgood d hd _).mono ?_
  rintro e w1 ⟨rfl, rfl⟩
  rw [decide_eq_true HG.out]
  go_wp2_with fail
  refine (xweek d hd _).mono ?_
  rintro e w1 ⟨rfl, rfl⟩
  generalize (d + 3) % 7 = z at hk
  have hz : decide ((5 : Int) ≤ z) = false := decide_eq_false (by omega)
  go_wp2_with fail
  refine (xsearch ys _ d _ HV.out HC.out.up HC.out.len).mono ?_
  rintro e w1 ⟨k, q, rfl, rfl⟩
  generalize decide (d ∈ ys) = b at HK
  go_wp2_with fail
  go_ret
  exact ⟨ret_bool HK.out.symm, q, rfl⟩

def SeekPost (ys : List Int) (s d : Int) (w : World) (e : Ending) (w' : World) : Prop :=
  ∃ r q, e = .returned (.tuple #[.int .i64 (skN r), .int .i64 (skE r)]) ∧ w' = w.drewN q ∧ Hid (Sk ys s d r)

set_option maxHeartbeats 1000000 in
theorem xseek (p : Nat) (ys : List Int) (s d : Int) (w : World) (hs : s = 1 ∨ s = -1) (hd : -1 ≤ d ∧ d ≤ 200001) (hc : Cal w p ys) :
    Calls Try.prog 13 #[.pointer (some ⟨p, 0, none⟩), .int .i64 d, .int .i64 s] w (SeekPost ys s d w) := by
  have HC : Hid (Cal w p ys) := hc
  have HS : Hid (s = 1 ∨ s = -1) := hs
  have hs1 : -1 ≤ s ∧ s ≤ 1 := by omega
  clear hc hs
  go_enter Try.func13, Try.ntmps13
  go_wp2_with fail
  go_loopw [1] (fun di wr => ∃ (t : Int) (q : Nat), di = .int .i64 t ∧ wr = w.drewN q ∧ (-1 ≤ t ∧ t ≤ 200001) ∧ Hid (∀ r, Sk ys s t r → Sk ys s d r)) (fun di _ => (300000 - s * intOf di).toNat)
  case atStart => exact ⟨d, 0, rfl, rfl, hd, fun r h => h⟩
  case round =>
    obtain ⟨t, q, rfl, rfl, ht, hk⟩ := hrel
    go_wp2_with fail
    refine (xgood t (by omega) _).mono ?_
    rintro e w1 ⟨rfl, rfl⟩
    by_cases hg : GoodD t
    · have hg1 : 0 ≤ t ∧ t ≤ 200000 := hg
      rw [decide_eq_true hg]
      have HG : Hid (GoodD t) := hg
      clear hg
      go_wp2_with fail
      refine (xworks p ys t _ (by omega) (HC.out.drewN q)).mono ?_
      rintro e w1 ⟨rfl, q1, rfl⟩
      cases hw : wkB ys t
      · have HW : Hid (wkB ys t = false) := hw
        clear hw
        go_wp2_with fail
        refine ⟨⟨t + s, q + q1, rfl, rfl, by omega, fun r h => hk.out r (.on HG.out HW.out h)⟩, ?_⟩
        simp [intOf]
        rcases HS.out with rfl | rfl <;> omega
      · have HW : Hid (wkB ys t = true) := hw
        clear hw
        go_wp2_with fail
        go_ret2
        exact ⟨some t, q + q1, rfl, rfl, hk.out _ (.hit HW.out)⟩
    · rw [decide_eq_false hg]
      have HG : Hid (¬ GoodD t) := hg
      clear hg
      go_wp2_with fail
      go_ret2
      exact ⟨none, q, rfl, rfl, hk.out _ (.off HG.out)⟩

def NearPost (ys : List Int) (s d : Int) (w : World) (e : Ending) (w' : World) : Prop :=
  ∃ n f q, e = .returned (.tuple #[.int .i64 n, .int .i64 f]) ∧ w' = w.drewN q ∧ Hid (Near ys s d n f)

theorem xnearest (p : Nat) (ys : List Int) (s d : Int) (w : World) (hs : s = 1 ∨ s = -1) (hd : -9223372036854775808 ≤ d ∧ d ≤ 9223372036854775807) (hc : Cal w p ys) :
    Calls Try.prog 12 #[.pointer (some ⟨p, 0, none⟩), .int .i64 d, .int .i64 s] w (NearPost ys s d w) := by
  have HC : Hid (Cal w p ys) := hc
  have HS : Hid (s = 1 ∨ s = -1) := hs
  clear hc hs
  go_enter Try.func12, Try.ntmps12
  go_wp2_with fail
  refine (xnone p ys w HC.out).mono ?_
  rintro e w1 ⟨rfl, rfl⟩
  go_wp2_with fail
  refine (xgood d hd _).mono ?_
  rintro e w1 ⟨rfl, rfl⟩
  by_cases hg : GoodD d
  · have hg1 : 0 ≤ d ∧ d ≤ 200000 := hg
    rw [decide_eq_true hg]
    have HG : Hid (GoodD d) := hg
    clear hg
    go_wp2_with fail
    refine (xseek p ys s d _ HS.out (by omega) HC.out).mono ?_
    rintro e w1 ⟨r, q, rfl, rfl, hr⟩
    go_wp2_with fail
    go_ret2
    exact ⟨_, _, q, rfl, rfl, .inr ⟨HG.out, r, hr.out, rfl, rfl⟩⟩
  · rw [decide_eq_false hg]
    have HG : Hid (¬ GoodD d) := hg
    clear hg
    go_wp2_with fail
    go_ret2
    exact ⟨_, _, 0, rfl, rfl, .inl ⟨HG.out, rfl, rfl⟩⟩

theorem xnext (p : Nat) (ys : List Int) (d : Int) (w : World) (hd : -9223372036854775808 ≤ d ∧ d ≤ 9223372036854775807) (hc : Cal w p ys) :
    Calls Try.prog 4 #[.pointer (some ⟨p, 0, none⟩), .int .i64 d] w (NearPost ys 1 d w) := by
  have HC : Hid (Cal w p ys) := hc
  clear hc
  go_enter Try.func4, Try.ntmps4
  go_wp2_with fail
  refine (xnearest p ys 1 d _ (.inl rfl) hd HC.out).mono ?_
  rintro e w1 ⟨n, f, q, rfl, rfl, hr⟩
  go_wp2_with fail
  go_ret2
  exact ⟨_, _, q, rfl, rfl, hr⟩
theorem xback (p : Nat) (ys : List Int) (d : Int) (w : World) (hd : -9223372036854775808 ≤ d ∧ d ≤ 9223372036854775807) (hc : Cal w p ys) :
    Calls Try.prog 5 #[.pointer (some ⟨p, 0, none⟩), .int .i64 d] w (NearPost ys (-1) d w) := by
  have HC : Hid (Cal w p ys) := hc
  clear hc
  go_enter Try.func5, Try.ntmps5
  go_wp2_with fail
  refine (xnearest p ys (-1) d _ (.inr rfl) hd HC.out).mono ?_
  rintro e w1 ⟨n, f, q, rfl, rfl, hr⟩
  go_wp2_with fail
  go_ret2
  exact ⟨_, _, q, rfl, rfl, hr⟩

def TruePost (w : World) (e : Ending) (w' : World) : Prop := e = .returned (.bool true) ∧ Below w.heap.size w w'

theorem date_zero : IsDate 0 1970 1 1 := ⟨by decide, by decide, by decide, by decide⟩
theorem num_leap : numN 2000 2 29 = 11016 ∧ numE 2000 2 29 = 0 := by decide
theorem near_two : Near [] 1 2 4 0 := by
  refine .inr ⟨by decide, some 4, .on (by decide) (by decide) (.on (by decide) (by decide) (.hit (by decide))), rfl, rfl⟩

set_option maxHeartbeats 1000000 in
theorem awake_true (w : World) : Calls Try.prog 11 #[] w (TruePost w) := by
  go_enter Try.func11, Try.ntmps11
  go_wp2_with fail
  refine (xof 0 (by decide) _).mono ?_
  rintro e w1 ⟨y, m, d, f, rfl, hb1, hof⟩
  have ho : f = 0 ∧ IsDate 0 y m d := by
    rcases hof.out with h | h
    · exact h.2
    · exact absurd (show GoodD 0 by decide) h.1
  obtain ⟨rfl, ho2⟩ := ho
  obtain ⟨rfl, rfl, rfl⟩ := ho2.uniq date_zero
  have HB1 : Hid (Below w.heap.size w w1) := hb1
  clear hb1 hof ho2
  go_wp2_with fail
  refine (xnumber 2000 2 29 (by decide) (by decide) (by decide) _).mono ?_
  rintro e w2 ⟨rfl, hb2⟩
  rw [num_leap.1, num_leap.2]
  have hB2 : Below w1.heap.size w1 w2 := ((Below.refl _ _).alloc (Nat.le_refl _) _).trans (hb2.mono (by simp))
  have k0 : w2.cell? ⟨w1.heap.size, 0, none⟩ = some (.int .i64 1970) := cell_kept hb2 (World.cell?_alloc_new w1 _ 33 0)
  have k1 : w2.cell? ⟨w1.heap.size, 1, none⟩ = some (.int .i64 1) := cell_kept hb2 (World.cell?_alloc_new w1 _ 33 1)
  have k2 : w2.cell? ⟨w1.heap.size, 2, none⟩ = some (.int .i64 1) := cell_kept hb2 (World.cell?_alloc_new w1 _ 33 2)
  have HB2 : Hid (Below w1.heap.size w1 w2) := hB2
  clear hb2 hB2
  go_wp2_with fail
  refine (xnew [] _ _ ⟨by intro j; simp, by simp⟩ (seg_nil _)).mono ?_
  rintro e w3 ⟨v, f, rfl, hb3, hn⟩
  have hn2 : f = 0 ∧ ∃ p, v = .pointer (some ⟨p, 0, none⟩) ∧ Cal w3 p (srt []) := by
    rcases hn.out with h | h | h
    · simp at h
    · exact absurd (by simp) h.2.1
    · exact h.2.2
  obtain ⟨rfl, p, rfl, hcal⟩ := hn2
  have hsr : srt [] = [] := List.eq_nil_of_length_eq_zero (by have := (srt_facts []).2.2; simpa using this)
  rw [hsr] at hcal
  have HC : Hid (Cal w3 p []) := hcal
  have HB3 : Hid (Below w2.heap.size w2 w3) := hb3
  replace k0 := cell_kept hb3 k0
  replace k1 := cell_kept hb3 k1
  replace k2 := cell_kept hb3 k2
  clear hn hcal hb3 hsr
  go_wp2_with fail
  refine (xnext p [] 2 _ (by decide) HC.out).mono ?_
  rintro e w4 ⟨n, f, q, rfl, rfl, hr⟩
  obtain ⟨rfl, rfl⟩ := hr.out.det near_two
  clear hr
  go_wp2_with fail
  refine (xweek 0 (by decide) _).mono ?_
  rintro e w5 ⟨rfl, rfl⟩
  rw [show ((0 : Int) + 3) % 7 = 3 by decide]
  go_wp2_with fail
  go_ret
  refine ⟨rfl, ?_⟩
  have h2 := HB1.out.trans (HB2.out.mono HB1.out.size)
  exact below_drewN (h2.trans (HB3.out.mono h2.size))
end Go.Proofs.Ythdngjpfmjnchab
