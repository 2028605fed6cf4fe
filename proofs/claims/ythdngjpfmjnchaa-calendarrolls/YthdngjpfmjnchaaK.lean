/- Walks of Move, of package calendar and of the reference. Conditions: the arguments are ints. -/
import Derived.Test.YthdngjpfmjnchaaJ
import Derived.WalkKit
import Derived.ProofKit
import Derived.Handy
import Derived.WalkLawsBesides
import Derived.WalkSpells
import Derived.BigQuiet
import Derived.Deep.QuietTactic
import Derived.Deep.Light
import Derived.Deep.OwnRows
import Derived.Laws.AppendOwnNone
import Derived.Deep.RegionWith
import Derived.Lib.BitFns
import Derived.Lib.Walk
import Derived.Deep.CutBlock
import Derived.Deep.DeepCutAuto
import Derived.Deep.LoopGhost
import Derived.Deep.RegionHeld3
import Derived.Lib.SlicesCompact
import Derived.Laws.CopyOwn
import Derived.Sort.OwnSortedInts
namespace Go.Proofs.Ythdngjpfmjnchaa
open Go.RowKit
set_option linter.unusedVariables false
set_option linter.unusedSimpArgs false
def MovPost (ys : List Int) (d n : Int) (w : World) (e : Ending) (w' : World) : Prop :=
  ∃ v f q, e = .returned (.tuple #[.int .i64 v, .int .i64 f]) ∧ w' = w.drewN q ∧ Hid (Mov ys d n v f)
def RMovPost (xs : List Int) (d n : Int) (w : World) (e : Ending) (w' : World) : Prop :=
  ∃ v f, e = .returned (.tuple #[.int .i64 v, .int .i64 f]) ∧ Below w.heap.size w w' ∧ Hid (Mov xs d n v f)

set_option maxHeartbeats 2000000 in
theorem xmove_up (p : Nat) (ys : List Int) (d n : Int) (w : World) (hd : -9223372036854775808 ≤ d ∧ d ≤ 9223372036854775807) (hn : -9223372036854775808 ≤ n ∧ n ≤ 9223372036854775807) (hs : 0 ≤ n) (hc : Cal w p ys) :
    Calls Try.prog 28 #[.pointer (some ⟨p, 0, none⟩), .int .i64 d, .int .i64 n] w (MovPost ys d n w) := by
  have HC : Hid (Cal w p ys) := hc
  have HSG : Hid ((if n < 0 then (-1 : Int) else 1) = 1) := if_neg (by omega)
  clear hc
  go_enter Try.func28, Try.ntmps28
  go_wp2_with fail
  refine (xnearest p ys 1 d _ (.inl rfl) hd HC.out).mono ?_
  rintro e w1 ⟨a, f, q0, rfl, rfl, hne⟩
  have har := hne.out.range
  by_cases hf : f = 0
  case neg =>
    have hfb : (f != 0) = true := by simp [hf]
    have HF : Hid (f ≠ 0) := hf
    clear hf
    go_wp2_with fail
    go_ret2
    exact ⟨_, _, q0, rfl, rfl, a, f, by rw [HSG.out]; exact hne.out, .inl ⟨HF.out, rfl, rfl⟩⟩
  subst hf
  by_cases hbig : n > 3660 ∨ n < -3660
  · have HBIG : Hid (n > 3660 ∨ n < -3660) := hbig
    have hbig2 : 3660 < n := by omega
    clear hbig
    go_wp2_with fail
    go_ret2
    exact ⟨_, _, q0, rfl, rfl, a, 0, by rw [HSG.out]; exact hne.out, .inr (.inl ⟨rfl, HBIG.out, rfl, rfl⟩)⟩
  have hsm : -3660 ≤ n ∧ n ≤ 3660 := by omega
  have HSM : Hid (¬ (n > 3660 ∨ n < -3660)) := hbig
  have g1 : decide (3660 < n) = false := decide_eq_false (by omega)
  have g2 : decide (n < -3660) = false := decide_eq_false (by omega)
  clear hbig
  go_wp2_with fail
  go_loopw [2, 9, 10] (fun mi ti ei wr => ∃ (m t : Int) (k q : Nat), mi = .int .i64 m ∧ ti = .int .i64 t ∧ ei = .int .i64 0 ∧ wr = w.drewN q ∧ (-3660 ≤ m ∧ m ≤ 3660) ∧ (0 ≤ t ∧ t ≤ 200000) ∧ Hid (m = (k : Int)) ∧ Hid (∀ r, Mv ys 1 k t r → Mv ys 1 n.natAbs a r)) (fun mi _ _ _ => (intOf mi).natAbs)
  case atStart => exact ⟨n, a, n.natAbs, q0, rfl, rfl, rfl, rfl, hsm, har, by show n = (n.natAbs : Int); omega, fun r h => h⟩
  case round =>
    obtain ⟨m, t, k, q, rfl, rfl, rfl, rfl, hm, ht, hmk, hmv⟩ := hrel
    by_cases hm0 : m = 0
    · subst hm0
      obtain rfl : k = 0 := by have := hmk.out; omega
      go_wp2_with fail
      go_ret2
      exact ⟨_, _, q, rfl, rfl, a, 0, by rw [HSG.out]; exact hne.out, .inr (.inr ⟨rfl, HSM.out, some t, by rw [HSG.out]; exact hmv.out _ .zero, rfl, rfl⟩)⟩
    · have hmb : (m != 0) = true := by simp [hm0]
      obtain ⟨k, rfl⟩ : ∃ j, k = j + 1 := ⟨k - 1, by have := hmk.out; omega⟩
      have HM0 : Hid (m ≠ 0) := hm0
      clear hm0
      go_wp2_with fail
      refine (xseek p ys 1 (t + 1) _ (.inl rfl) (by omega) (HC.out.drewN q)).mono ?_
      rintro e w2 ⟨r, q1, rfl, rfl, hsk⟩
      cases r with
      | none =>
        rw [show skN none = 0 from rfl, show skE none = 6 from rfl]
        go_wp2_with fail
        go_ret2
        exact ⟨_, _, q + q1, rfl, rfl, a, 0, by rw [HSG.out]; exact hne.out, .inr (.inr ⟨rfl, HSM.out, none, by rw [HSG.out]; exact hmv.out _ (.stop hsk.out), rfl, rfl⟩)⟩
      | some x =>
        have hx := hsk.out.range
        rw [show skN (some x) = x from rfl] at hx ⊢
        rw [show skE (some x) = 0 from rfl]
        go_wp2_with fail
        have h8 := hmk.out
        exact ⟨⟨m - 1, x, k, q + q1, by go_num, rfl, rfl, rfl, by omega, hx, by show m - 1 = (k : Int); omega, fun r h => hmv.out r (.step hsk.out h)⟩, by simp [intOf]; omega⟩

set_option maxHeartbeats 2000000 in
theorem xmove_down (p : Nat) (ys : List Int) (d n : Int) (w : World) (hd : -9223372036854775808 ≤ d ∧ d ≤ 9223372036854775807) (hn : -9223372036854775808 ≤ n ∧ n ≤ 9223372036854775807) (hs : n < 0) (hc : Cal w p ys) :
    Calls Try.prog 28 #[.pointer (some ⟨p, 0, none⟩), .int .i64 d, .int .i64 n] w (MovPost ys d n w) := by
  have HC : Hid (Cal w p ys) := hc
  have HSG : Hid ((if n < 0 then (-1 : Int) else 1) = (-1)) := if_pos hs
  clear hc
  go_enter Try.func28, Try.ntmps28
  go_wp2_with fail
  refine (xnearest p ys (-1) d _ (.inr rfl) hd HC.out).mono ?_
  rintro e w1 ⟨a, f, q0, rfl, rfl, hne⟩
  have har := hne.out.range
  by_cases hf : f = 0
  case neg =>
    have hfb : (f != 0) = true := by simp [hf]
    have HF : Hid (f ≠ 0) := hf
    clear hf
    go_wp2_with fail
    go_ret2
    exact ⟨_, _, q0, rfl, rfl, a, f, by rw [HSG.out]; exact hne.out, .inl ⟨HF.out, rfl, rfl⟩⟩
  subst hf
  by_cases hbig : n > 3660 ∨ n < -3660
  · have HBIG : Hid (n > 3660 ∨ n < -3660) := hbig
    have hbig2 : n < -3660 := by omega
    clear hbig
    go_wp2_with fail
    go_ret2
    exact ⟨_, _, q0, rfl, rfl, a, 0, by rw [HSG.out]; exact hne.out, .inr (.inl ⟨rfl, HBIG.out, rfl, rfl⟩)⟩
  have hsm : -3660 ≤ n ∧ n ≤ 3660 := by omega
  have HSM : Hid (¬ (n > 3660 ∨ n < -3660)) := hbig
  have g1 : decide (3660 < n) = false := decide_eq_false (by omega)
  have g2 : decide (n < -3660) = false := decide_eq_false (by omega)
  clear hbig
  go_wp2_with fail
  go_loopw [2, 9, 10] (fun mi ti ei wr => ∃ (m t : Int) (k q : Nat), mi = .int .i64 m ∧ ti = .int .i64 t ∧ ei = .int .i64 0 ∧ wr = w.drewN q ∧ (-3660 ≤ m ∧ m ≤ 3660) ∧ (0 ≤ t ∧ t ≤ 200000) ∧ Hid (m = -(k : Int)) ∧ Hid (∀ r, Mv ys (-1) k t r → Mv ys (-1) n.natAbs a r)) (fun mi _ _ _ => (intOf mi).natAbs)
  case atStart => exact ⟨n, a, n.natAbs, q0, rfl, rfl, rfl, rfl, hsm, har, by show n = -(n.natAbs : Int); omega, fun r h => h⟩
  case round =>
    obtain ⟨m, t, k, q, rfl, rfl, rfl, rfl, hm, ht, hmk, hmv⟩ := hrel
    by_cases hm0 : m = 0
    · subst hm0
      obtain rfl : k = 0 := by have := hmk.out; omega
      go_wp2_with fail
      go_ret2
      exact ⟨_, _, q, rfl, rfl, a, 0, by rw [HSG.out]; exact hne.out, .inr (.inr ⟨rfl, HSM.out, some t, by rw [HSG.out]; exact hmv.out _ .zero, rfl, rfl⟩)⟩
    · have hmb : (m != 0) = true := by simp [hm0]
      obtain ⟨k, rfl⟩ : ∃ j, k = j + 1 := ⟨k - 1, by have := hmk.out; omega⟩
      have HM0 : Hid (m ≠ 0) := hm0
      clear hm0
      go_wp2_with fail
      refine (xseek p ys (-1) (t + (-1)) _ (.inr rfl) (by omega) (HC.out.drewN q)).mono ?_
      rintro e w2 ⟨r, q1, rfl, rfl, hsk⟩
      cases r with
      | none =>
        rw [show skN none = 0 from rfl, show skE none = 6 from rfl]
        go_wp2_with fail
        go_ret2
        exact ⟨_, _, q + q1, rfl, rfl, a, 0, by rw [HSG.out]; exact hne.out, .inr (.inr ⟨rfl, HSM.out, none, by rw [HSG.out]; exact hmv.out _ (.stop hsk.out), rfl, rfl⟩)⟩
      | some x =>
        have hx := hsk.out.range
        rw [show skN (some x) = x from rfl] at hx ⊢
        rw [show skE (some x) = 0 from rfl]
        go_wp2_with fail
        have h8 := hmk.out
        exact ⟨⟨m - (-1), x, k, q + q1, by go_num, rfl, rfl, rfl, by omega, hx, by show m - (-1) = -(k : Int); omega, fun r h => hmv.out r (.step hsk.out h)⟩, by simp [intOf]; omega⟩

set_option maxHeartbeats 2000000 in
theorem rmove_up (xs : List Int) (v : Value) (d n : Int) (w : World) (hd : -9223372036854775808 ≤ d ∧ d ≤ 9223372036854775807) (hn : -9223372036854775808 ≤ n ∧ n ≤ 9223372036854775807) (hs : 0 ≤ n) (hl : xs.length ≤ 256) (hv : Seg w v xs) :
    Calls Try.prog 29 #[.agg #[v], .int .i64 d, .int .i64 n] w (RMovPost xs d n w) := by
  have HV : Hid (Seg w v xs) := hv
  have HSG : Hid ((if n < 0 then (-1 : Int) else 1) = 1) := if_neg (by omega)
  have HB : Hid (BoxV w v (w.alloc (.cells #[v] 45))) := BoxV.new w v
  have hone : v.oneCell' = true := by obtain ⟨a, cap, rfl, -⟩ := hv; rfl
  clear hv
  go_enter Try.func29, Try.ntmps29
  go_wp2_with fail
  refine (rgo xs v 1 d _ (.inl rfl) hd hl (HV.out.below HB.out.bel)).mono ?_
  rintro e w1 ⟨a, f, rfl, hb1, hne⟩
  have HB1 : Hid (BoxV w v w1) := HB.out.below hb1
  have har := hne.out.range
  clear hb1 HB
  by_cases hf : f = 0
  case neg =>
    have hfb : (f != 0) = true := by simp [hf]
    have HF : Hid (f ≠ 0) := hf
    clear hf
    go_wp2_with fail
    go_ret2
    exact ⟨_, _, rfl, HB1.out.bel, a, f, by rw [HSG.out]; exact hne.out, .inl ⟨HF.out, rfl, rfl⟩⟩
  subst hf
  by_cases hbig : n > 3660 ∨ n < -3660
  · have HBIG : Hid (n > 3660 ∨ n < -3660) := hbig
    have hbig2 : 3660 < n := by omega
    clear hbig
    go_wp2_with fail
    go_ret2
    exact ⟨_, _, rfl, HB1.out.bel, a, 0, by rw [HSG.out]; exact hne.out, .inr (.inl ⟨rfl, HBIG.out, rfl, rfl⟩)⟩
  have hsm : -3660 ≤ n ∧ n ≤ 3660 := by omega
  have HSM : Hid (¬ (n > 3660 ∨ n < -3660)) := hbig
  have g1 : decide (3660 < n) = false := decide_eq_false (by omega)
  have g2 : decide (n < -3660) = false := decide_eq_false (by omega)
  clear hbig
  go_wp2_with fail
  go_loopw [9, 10, 11] (fun ti ei ii wr => ∃ (i t : Int) (k : Nat), ii = .int .i64 i ∧ ti = .int .i64 t ∧ ei = .int .i64 0 ∧ Hid (BoxV w v wr) ∧ (-3660 ≤ i ∧ i ≤ 3660) ∧ (0 ≤ t ∧ t ≤ 200000) ∧ Hid (n - i = (k : Int) ∧ 0 ≤ i) ∧ Hid (∀ r, Mv xs 1 k t r → Mv xs 1 n.natAbs a r)) (fun _ _ ii _ => (n - intOf ii).natAbs)
  case atStart => exact ⟨0, a, n.natAbs, rfl, rfl, rfl, HB1, by omega, har, by show n - 0 = (n.natAbs : Int) ∧ (0 : Int) ≤ 0; omega, fun r h => h⟩
  case round =>
    obtain ⟨i, t, k, rfl, rfl, rfl, hbx, hi, ht, hmk, hmv⟩ := hrel
    have c0 := hbx.out.c0
    by_cases hm0 : i = n
    · have hmb : (i != n) = false := by simp [hm0]
      obtain rfl : k = 0 := by have := hmk.out; omega
      have HM0 : Hid (i = n) := hm0
      clear hm0
      go_wp2_with fail
      go_ret2
      exact ⟨_, _, rfl, hbx.out.bel, a, 0, by rw [HSG.out]; exact hne.out, .inr (.inr ⟨rfl, HSM.out, some t, by rw [HSG.out]; exact hmv.out _ .zero, rfl, rfl⟩)⟩
    · have hmb : (i != n) = true := by simp [hm0]
      obtain ⟨k, rfl⟩ : ∃ j, k = j + 1 := ⟨k - 1, by have := hmk.out; omega⟩
      have HM0 : Hid (i ≠ n) := hm0
      clear hm0
      go_wp2_with fail
      refine (rgood (t + 1) (by omega) _).mono ?_
      rintro e w2 ⟨rfl, rfl⟩
      by_cases hg : GoodD (t + 1)
      case neg =>
        rw [decide_eq_false hg]
        have HG : Hid (¬ GoodD (t + 1)) := hg
        clear hg
        go_wp2_with fail
        go_ret2
        exact ⟨_, _, rfl, hbx.out.bel, a, 0, by rw [HSG.out]; exact hne.out, .inr (.inr ⟨rfl, HSM.out, none, by rw [HSG.out]; exact hmv.out _ (.stop (.off HG.out)), rfl, rfl⟩)⟩
      rw [decide_eq_true hg]
      have HG : Hid (GoodD (t + 1)) := hg
      clear hg
      go_wp2_with fail
      refine (rgo xs v 1 (t + 1) _ (.inl rfl) (by omega) hl (HV.out.below hbx.out.bel)).mono ?_
      rintro e w2 ⟨x, f, rfl, hb2, hn2⟩
      have HB2 : Hid (BoxV w v w2) := hbx.out.below hb2
      obtain ⟨r, hsk, rfl, rfl⟩ : ∃ r, Sk xs 1 (t + 1) r ∧ x = skN r ∧ f = skE r := by
        rcases hn2.out with h | h
        · exact absurd HG.out h.1
        · exact h.2
      have HSK : Hid (Sk xs 1 (t + 1) r) := hsk
      clear hb2 hn2 hsk hbx c0
      cases r with
      | none =>
        rw [show skN none = 0 from rfl, show skE none = 6 from rfl]
        go_wp2_with fail
        go_ret2
        exact ⟨_, _, rfl, HB2.out.bel, a, 0, by rw [HSG.out]; exact hne.out, .inr (.inr ⟨rfl, HSM.out, none, by rw [HSG.out]; exact hmv.out _ (.stop HSK.out), rfl, rfl⟩)⟩
      | some x =>
        have hx := HSK.out.range
        rw [show skN (some x) = x from rfl] at hx ⊢
        rw [show skE (some x) = 0 from rfl]
        have h8 := hmk.out
        have H8 : Hid (n - i = ((k + 1 : Nat) : Int) ∧ 0 ≤ i) := hmk
        have h9 : -3660 ≤ i + 1 ∧ i + 1 ≤ 3660 := by omega
        clear h8
        go_wp2_with fail
        have h8 := H8.out
        exact ⟨⟨i + 1, x, k, by go_num, rfl, rfl, HB2, h9, hx, by show n - (i + 1) = (k : Int) ∧ 0 ≤ i + 1; omega, fun r h => hmv.out r (.step HSK.out h)⟩, by simp [intOf]; omega⟩

set_option maxHeartbeats 2000000 in
theorem rmove_down (xs : List Int) (v : Value) (d n : Int) (w : World) (hd : -9223372036854775808 ≤ d ∧ d ≤ 9223372036854775807) (hn : -9223372036854775808 ≤ n ∧ n ≤ 9223372036854775807) (hs : n < 0) (hl : xs.length ≤ 256) (hv : Seg w v xs) :
    Calls Try.prog 29 #[.agg #[v], .int .i64 d, .int .i64 n] w (RMovPost xs d n w) := by
  have HV : Hid (Seg w v xs) := hv
  have HSG : Hid ((if n < 0 then (-1 : Int) else 1) = (-1)) := if_pos hs
  have HB : Hid (BoxV w v (w.alloc (.cells #[v] 45))) := BoxV.new w v
  have hone : v.oneCell' = true := by obtain ⟨a, cap, rfl, -⟩ := hv; rfl
  clear hv
  go_enter Try.func29, Try.ntmps29
  go_wp2_with fail
  refine (rgo xs v (-1) d _ (.inr rfl) hd hl (HV.out.below HB.out.bel)).mono ?_
  rintro e w1 ⟨a, f, rfl, hb1, hne⟩
  have HB1 : Hid (BoxV w v w1) := HB.out.below hb1
  have har := hne.out.range
  clear hb1 HB
  by_cases hf : f = 0
  case neg =>
    have hfb : (f != 0) = true := by simp [hf]
    have HF : Hid (f ≠ 0) := hf
    clear hf
    go_wp2_with fail
    go_ret2
    exact ⟨_, _, rfl, HB1.out.bel, a, f, by rw [HSG.out]; exact hne.out, .inl ⟨HF.out, rfl, rfl⟩⟩
  subst hf
  by_cases hbig : n > 3660 ∨ n < -3660
  · have HBIG : Hid (n > 3660 ∨ n < -3660) := hbig
    have hbig2 : n < -3660 := by omega
    clear hbig
    go_wp2_with fail
    go_ret2
    exact ⟨_, _, rfl, HB1.out.bel, a, 0, by rw [HSG.out]; exact hne.out, .inr (.inl ⟨rfl, HBIG.out, rfl, rfl⟩)⟩
  have hsm : -3660 ≤ n ∧ n ≤ 3660 := by omega
  have HSM : Hid (¬ (n > 3660 ∨ n < -3660)) := hbig
  have g1 : decide (3660 < n) = false := decide_eq_false (by omega)
  have g2 : decide (n < -3660) = false := decide_eq_false (by omega)
  clear hbig
  go_wp2_with fail
  go_loopw [9, 10, 11] (fun ti ei ii wr => ∃ (i t : Int) (k : Nat), ii = .int .i64 i ∧ ti = .int .i64 t ∧ ei = .int .i64 0 ∧ Hid (BoxV w v wr) ∧ (-3660 ≤ i ∧ i ≤ 3660) ∧ (0 ≤ t ∧ t ≤ 200000) ∧ Hid (n - i = -(k : Int) ∧ i ≤ 0) ∧ Hid (∀ r, Mv xs (-1) k t r → Mv xs (-1) n.natAbs a r)) (fun _ _ ii _ => (n - intOf ii).natAbs)
  case atStart => exact ⟨0, a, n.natAbs, rfl, rfl, rfl, HB1, by omega, har, by show n - 0 = -(n.natAbs : Int) ∧ (0 : Int) ≤ 0; omega, fun r h => h⟩
  case round =>
    obtain ⟨i, t, k, rfl, rfl, rfl, hbx, hi, ht, hmk, hmv⟩ := hrel
    have c0 := hbx.out.c0
    by_cases hm0 : i = n
    · have hmb : (i != n) = false := by simp [hm0]
      obtain rfl : k = 0 := by have := hmk.out; omega
      have HM0 : Hid (i = n) := hm0
      clear hm0
      go_wp2_with fail
      go_ret2
      exact ⟨_, _, rfl, hbx.out.bel, a, 0, by rw [HSG.out]; exact hne.out, .inr (.inr ⟨rfl, HSM.out, some t, by rw [HSG.out]; exact hmv.out _ .zero, rfl, rfl⟩)⟩
    · have hmb : (i != n) = true := by simp [hm0]
      obtain ⟨k, rfl⟩ : ∃ j, k = j + 1 := ⟨k - 1, by have := hmk.out; omega⟩
      have HM0 : Hid (i ≠ n) := hm0
      clear hm0
      go_wp2_with fail
      refine (rgood (t + (-1)) (by omega) _).mono ?_
      rintro e w2 ⟨rfl, rfl⟩
      by_cases hg : GoodD (t + (-1))
      case neg =>
        rw [decide_eq_false hg]
        have HG : Hid (¬ GoodD (t + (-1))) := hg
        clear hg
        go_wp2_with fail
        go_ret2
        exact ⟨_, _, rfl, hbx.out.bel, a, 0, by rw [HSG.out]; exact hne.out, .inr (.inr ⟨rfl, HSM.out, none, by rw [HSG.out]; exact hmv.out _ (.stop (.off HG.out)), rfl, rfl⟩)⟩
      rw [decide_eq_true hg]
      have HG : Hid (GoodD (t + (-1))) := hg
      clear hg
      go_wp2_with fail
      refine (rgo xs v (-1) (t + (-1)) _ (.inr rfl) (by omega) hl (HV.out.below hbx.out.bel)).mono ?_
      rintro e w2 ⟨x, f, rfl, hb2, hn2⟩
      have HB2 : Hid (BoxV w v w2) := hbx.out.below hb2
      obtain ⟨r, hsk, rfl, rfl⟩ : ∃ r, Sk xs (-1) (t + (-1)) r ∧ x = skN r ∧ f = skE r := by
        rcases hn2.out with h | h
        · exact absurd HG.out h.1
        · exact h.2
      have HSK : Hid (Sk xs (-1) (t + (-1)) r) := hsk
      clear hb2 hn2 hsk hbx c0
      cases r with
      | none =>
        rw [show skN none = 0 from rfl, show skE none = 6 from rfl]
        go_wp2_with fail
        go_ret2
        exact ⟨_, _, rfl, HB2.out.bel, a, 0, by rw [HSG.out]; exact hne.out, .inr (.inr ⟨rfl, HSM.out, none, by rw [HSG.out]; exact hmv.out _ (.stop HSK.out), rfl, rfl⟩)⟩
      | some x =>
        have hx := HSK.out.range
        rw [show skN (some x) = x from rfl] at hx ⊢
        rw [show skE (some x) = 0 from rfl]
        have h8 := hmk.out
        have H8 : Hid (n - i = -((k + 1 : Nat) : Int) ∧ i ≤ 0) := hmk
        have h9 : -3660 ≤ i + (-1) ∧ i + (-1) ≤ 3660 := by omega
        clear h8
        go_wp2_with fail
        have h8 := H8.out
        exact ⟨⟨i + (-1), x, k, by go_num, rfl, rfl, HB2, h9, hx, by show n - (i + (-1)) = -(k : Int) ∧ i + (-1) ≤ 0; omega, fun r h => hmv.out r (.step HSK.out h)⟩, by simp [intOf]; omega⟩

theorem xmove (p : Nat) (ys : List Int) (d n : Int) (w : World) (hd : -9223372036854775808 ≤ d ∧ d ≤ 9223372036854775807) (hn : -9223372036854775808 ≤ n ∧ n ≤ 9223372036854775807) (hc : Cal w p ys) :
    Calls Try.prog 28 #[.pointer (some ⟨p, 0, none⟩), .int .i64 d, .int .i64 n] w (MovPost ys d n w) := by
  by_cases h : n < 0
  · exact xmove_down p ys d n w hd hn h hc
  · exact xmove_up p ys d n w hd hn (by omega) hc
theorem rmove (xs : List Int) (v : Value) (d n : Int) (w : World) (hd : -9223372036854775808 ≤ d ∧ d ≤ 9223372036854775807) (hn : -9223372036854775808 ≤ n ∧ n ≤ 9223372036854775807) (hl : xs.length ≤ 256) (hv : Seg w v xs) :
    Calls Try.prog 29 #[.agg #[v], .int .i64 d, .int .i64 n] w (RMovPost xs d n w) := by
  by_cases h : n < 0
  · exact rmove_down xs v d n w hd hn h hl hv
  · exact rmove_up xs v d n w hd hn (by omega) hl hv
end Go.Proofs.Ythdngjpfmjnchaa
