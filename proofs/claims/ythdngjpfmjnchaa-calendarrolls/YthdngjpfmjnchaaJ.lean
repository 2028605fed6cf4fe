/- Walks of the reference's Check, Works and Go. Conditions: the arguments are ints. -/
import Derived.Test.YthdngjpfmjnchaaH
import Derived.WalkKit
import Derived.ProofKit
import Derived.Handy
import Derived.WalkLawsBesides
import Derived.WalkSpells
import Derived.BigQuiet
import Derived.Deep.QuietTactic
import Derived.Deep.Light
import Derived.Deep.OwnRows
import Derived.Laws.AppendOwnNone
import Derived.Deep.RegionWith
import Derived.Lib.BitFns
import Derived.Lib.Walk
import Derived.Deep.CutBlock
import Derived.Deep.DeepCutAuto
import Derived.Deep.LoopGhost
import Derived.Deep.RegionHeld3
import Derived.Lib.SlicesCompact
import Derived.Laws.CopyOwn
import Derived.Sort.OwnSortedInts
namespace Go.Proofs.Ythdngjpfmjnchaa
open Go.RowKit
set_option linter.unusedVariables false
set_option linter.unusedSimpArgs false
/-- the reference's calendar lies in a block of the call's own, and nothing older has turned -/
structure BoxV (w : World) (v : Value) (wr : World) : Prop where
  blk : wr.heap[w.heap.size]? = some (.cells #[v] 45 (0, 0))
  bel : Below w.heap.size w wr
section
variable {w wr w' : World} {v : Value}
theorem BoxV.new (w : World) (v : Value) : BoxV w v (w.alloc (.cells #[v] 45)) := ⟨heap_alloc_new w _, (Below.refl _ _).alloc (Nat.le_refl _) _⟩
theorem BoxV.lt (h : BoxV w v wr) : w.heap.size < wr.heap.size := (Array.getElem?_eq_some_iff.1 h.blk).1
theorem BoxV.below (h : BoxV w v wr) (hb : Below wr.heap.size wr w') : BoxV w v w' := ⟨(hb.block _ h.lt).trans h.blk, h.bel.trans (hb.mono h.bel.size)⟩
theorem BoxV.c0 (h : BoxV w v wr) : wr.cell? ⟨w.heap.size, 0, none⟩ = some v := by simp [World.cell?, h.blk]
end

def chkE (xs : List Int) : Int := if 256 < xs.length then 2 else if ∀ x ∈ xs, GoodD x then 0 else 10

theorem rcheck (xs : List Int) (v : Value) (w : World) (hx : Ints xs) (hv : Seg w v xs) : Calls Try.prog 20 #[v] w (RetPost (.int .i64 (chkE xs)) w) := by
  obtain ⟨a, cap, rfl, hs⟩ := hv
  by_cases h256 : 256 < xs.length
  · clear hs hx
    have HE : Hid (chkE xs = 2) := if_pos h256
    have hl : (256 : Int) < xs.length := by omega
    go_enter Try.func20, Try.ntmps20
    go_wp2
    go_ret
    exact ⟨ret_int HE.out.symm, rfl⟩
  have hl : (xs.length : Int) ≤ 256 := by omega
  have HE : Hid (chkE xs = if ∀ x ∈ xs, GoodD x then 0 else 10) := if_neg h256
  have HS : Hid (xs ≠ [] → ∃ b off, a = some ⟨b, off, none⟩ ∧ b < w.heap.size ∧ ∀ j, j < xs.length → w.cell? ⟨b, off + j, none⟩ = some (.int .i64 (xs.getD j 0))) := hs
  have HX : Hid (Ints xs) := hx
  clear hs hx h256
  go_enter Try.func20, Try.ntmps20
  go_wp2_with fail
  go_loop [3] (fun i => ∃ k : Nat, k ≤ xs.length ∧ i = .int .i64 k ∧ Hid (∀ x ∈ xs.take k, GoodD x)) (fun i => xs.length - (intOf i).toNat)
  case atStart => exact ⟨0, by omega, rfl, by intro x hx; simp at hx⟩
  case round =>
    obtain ⟨k, hk, rfl, hgd⟩ := hrel
    by_cases hlt : k < xs.length
    · obtain ⟨b, off, rfl, hb, hc⟩ := HS.out (by intro e; subst e; simp at hlt)
      have hck := hc k hlt
      have hx1 := HX.out.1 k
      have HM : Hid (xs.getD k 0 ∈ xs ∧ xs.take (k + 1) = xs.take k ++ [xs.getD k 0]) := ⟨by simp [hlt], by rw [List.take_add_one]; simp [hlt]⟩
      have hlt' : (k : Int) < xs.length := by omega
      generalize xs.getD k 0 = x at hck hx1 HM
      clear hc
      go_wp2_with fail
      refine (rgood x hx1 _).mono ?_
      rintro e w1 ⟨rfl, rfl⟩
      by_cases hg : GoodD x
      · rw [decide_eq_true hg]
        have HG : Hid (GoodD x) := hg
        clear hg
        go_wp2_with fail
        go_round
        case rel =>
          refine ⟨k + 1, by omega, by go_num, ?_⟩
          show ∀ y ∈ xs.take (k + 1), GoodD y
          rw [HM.out.2]
          intro y hy
          rcases List.mem_append.1 hy with h | h
          · exact hgd.out y h
          · rw [List.mem_singleton.1 h]; exact HG.out
        case measure => simp [intOf]; omega
      · rw [decide_eq_false hg]
        have HG : Hid (¬ GoodD x) := hg
        clear hg
        go_wp2_with fail
        go_ret
        exact ⟨ret_int (by rw [HE.out, if_neg (fun q => HG.out (q _ HM.out.1))]), rfl⟩
    · obtain rfl : k = xs.length := by omega
      clear hlt
      have HG : Hid (∀ x ∈ xs, GoodD x) := by have h := hgd.out; rw [List.take_length] at h; exact h
      clear hgd
      go_wp2_with fail
      go_ret
      exact ⟨ret_int (by rw [HE.out, if_pos HG.out]), rfl⟩

set_option maxHeartbeats 1000000 in
theorem rworks (xs : List Int) (v : Value) (d : Int) (w : World) (hd : -9223372036854775808 ≤ d ∧ d ≤ 9223372036854775807) (hl : xs.length ≤ 256) (hv : Seg w v xs) : Calls Try.prog 22 #[.agg #[v], .int .i64 d] w (NewPost (.bool (wkB xs d)) w) := by
  obtain ⟨a, cap, rfl, hs⟩ := hv
  have HS : Hid (xs ≠ [] → ∃ b off, a = some ⟨b, off, none⟩ ∧ b < w.heap.size ∧ ∀ j, j < xs.length → w.cell? ⟨b, off + j, none⟩ = some (.int .i64 (xs.getD j 0))) := hs
  have HB : Hid (Below w.heap.size w (w.alloc (.cells #[.slice a xs.length cap] 45))) := (Below.refl _ _).alloc (Nat.le_refl _) _
  clear hs
  go_enter Try.func22, Try.ntmps22
  go_wp2_with fail
  go_loop [5] (fun i => ∃ k : Nat, k ≤ xs.length ∧ i = .int .i64 k ∧ Hid (d ∉ xs.take k)) (fun i => xs.length - (intOf i).toNat)
  case atStart => exact ⟨0, by omega, rfl, by simp [Hid]⟩
  case round =>
    obtain ⟨k, hk, rfl, hgd⟩ := hrel
    by_cases hlt : k < xs.length
    · obtain ⟨b, off, rfl, hb, hc⟩ := HS.out (by intro e; subst e; simp at hlt)
      have hck := cell_kept HB.out (hc k hlt)
      have HM : Hid (xs.getD k 0 ∈ xs ∧ xs.take (k + 1) = xs.take k ++ [xs.getD k 0]) := ⟨by simp [hlt], by rw [List.take_add_one]; simp [hlt]⟩
      have hlt' : (k : Int) < xs.length := by omega
      generalize xs.getD k 0 = x at hck HM
      clear hc
      by_cases hx : x = d
      · subst hx
        have hbe : (x == x) = true := by simp
        have HF : Hid (wkB xs x = false) := decide_eq_false (fun q => q.2.2 HM.out.1)
        go_wp2_with fail
        go_ret
        exact ⟨ret_bool HF.out.symm, HB.out⟩
      · have hbe : (x == d) = false := by simp [hx]
        have HX : Hid (x ≠ d) := hx
        clear hx
        go_wp2_with fail
        go_round
        case rel =>
          refine ⟨k + 1, by omega, by go_num, ?_⟩
          show d ∉ xs.take (k + 1)
          rw [HM.out.2]
          intro hy
          rcases List.mem_append.1 hy with h | h
          · exact hgd.out h
          · exact HX.out (List.mem_singleton.1 h).symm
        case measure => simp [intOf]; omega
    · obtain rfl : k = xs.length := by omega
      clear hlt
      have HG : Hid (d ∉ xs) := by have h := hgd.out; rw [List.take_length] at h; exact h
      clear hgd
      go_wp2_with fail
      refine (rgood d hd _).mono ?_
      rintro e w1 ⟨rfl, rfl⟩
      by_cases hg : GoodD d
      · rw [decide_eq_true hg]
        have HF : Hid (wkB xs d = decide ((d + 3) % 7 < 5)) := by
          show decide _ = decide _
          rw [decide_eq_decide]
          exact ⟨fun q => q.2.1, fun q => ⟨hg, q, HG.out⟩⟩
        clear hg
        go_wp2_with fail
        refine (rweek d hd _).mono ?_
        rintro e w1 ⟨rfl, rfl⟩
        generalize (d + 3) % 7 = z at HF
        go_wp2_with fail
        go_ret
        exact ⟨ret_bool HF.out.symm, HB.out⟩
      · rw [decide_eq_false hg]
        have HF : Hid (wkB xs d = false) := decide_eq_false (fun q => hg q.1)
        clear hg
        go_wp2_with fail
        go_ret
        exact ⟨ret_bool HF.out.symm, HB.out⟩

def RNearPost (xs : List Int) (s d : Int) (w : World) (e : Ending) (w' : World) : Prop :=
  ∃ n f, e = .returned (.tuple #[.int .i64 n, .int .i64 f]) ∧ Below w.heap.size w w' ∧ Hid (Near xs s d n f)

set_option maxHeartbeats 1000000 in
theorem rgo (xs : List Int) (v : Value) (s d : Int) (w : World) (hs : s = 1 ∨ s = -1) (hd : -9223372036854775808 ≤ d ∧ d ≤ 9223372036854775807) (hl : xs.length ≤ 256) (hv : Seg w v xs) :
    Calls Try.prog 26 #[.agg #[v], .int .i64 d, .int .i64 s] w (RNearPost xs s d w) := by
  have HV : Hid (Seg w v xs) := hv
  have HS : Hid (s = 1 ∨ s = -1) := hs
  have hs1 : -1 ≤ s ∧ s ≤ 1 := by omega
  have HB : Hid (BoxV w v (w.alloc (.cells #[v] 45))) := BoxV.new w v
  have hone : v.oneCell' = true := by obtain ⟨a, cap, rfl, -⟩ := hv; rfl
  clear hv hs
  go_enter Try.func26, Try.ntmps26
  go_wp2_with fail
  refine (rgood d hd _).mono ?_
  rintro e w1 ⟨rfl, rfl⟩
  by_cases hg : GoodD d
  case neg =>
    rw [decide_eq_false hg]
    have HG : Hid (¬ GoodD d) := hg
    clear hg
    go_wp2_with fail
    go_ret2
    exact ⟨_, _, rfl, HB.out.bel, .inl ⟨HG.out, rfl, rfl⟩⟩
  rw [decide_eq_true hg]
  have hg1 : 0 ≤ d ∧ d ≤ 200000 := hg
  have HG : Hid (GoodD d) := hg
  clear hg
  go_wp2_with fail
  go_loopw [1] (fun di wr => ∃ (t : Int), di = .int .i64 t ∧ (-1 ≤ t ∧ t ≤ 200001) ∧ Hid (BoxV w v wr) ∧ Hid (∀ r, Sk xs s t r → Sk xs s d r)) (fun di _ => (300000 - s * intOf di).toNat)
  case atStart => exact ⟨d, rfl, by omega, HB, fun r h => h⟩
  case round =>
    obtain ⟨t, rfl, ht, hbx, hk⟩ := hrel
    have c0 := hbx.out.c0
    go_wp2_with fail
    refine (rgood t (by omega) _).mono ?_
    rintro e w1 ⟨rfl, rfl⟩
    by_cases hg : GoodD t
    · have hg2 : 0 ≤ t ∧ t ≤ 200000 := hg
      rw [decide_eq_true hg]
      have HG2 : Hid (GoodD t) := hg
      clear hg
      go_wp2_with fail
      refine (rworks xs v t _ (by omega) hl (HV.out.below hbx.out.bel)).mono ?_
      rintro e w1 ⟨rfl, hb1⟩
      have HB1 : Hid (BoxV w v w1) := hbx.out.below hb1
      clear hb1 c0 hbx
      cases hw : wkB xs t
      · have HW : Hid (wkB xs t = false) := hw
        clear hw
        go_wp2_with fail
        refine ⟨⟨t + s, rfl, by omega, HB1, fun r h => hk.out r (.on HG2.out HW.out h)⟩, ?_⟩
        simp [intOf]
        rcases HS.out with rfl | rfl <;> omega
      · have HW : Hid (wkB xs t = true) := hw
        clear hw
        go_wp2_with fail
        go_ret2
        exact ⟨_, _, rfl, HB1.out.bel, .inr ⟨HG.out, some t, hk.out _ (.hit HW.out), rfl, rfl⟩⟩
    · rw [decide_eq_false hg]
      have HG2 : Hid (¬ GoodD t) := hg
      clear hg
      go_wp2_with fail
      go_ret2
      exact ⟨_, _, rfl, hbx.out.bel, .inr ⟨HG.out, none, hk.out _ (.off HG2.out), rfl, rfl⟩⟩
end Go.Proofs.Ythdngjpfmjnchaa
