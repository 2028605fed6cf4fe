/- The law DiskPlays. -/
import Derived.Test.YtfdebooimbbdbaaQ
import Derived.WalkKit
import Derived.ProofKit
import Derived.Handy
import Derived.WalkLawsBesides
import Derived.WalkSpells
import Derived.BigQuiet
import Derived.BigCall
import Derived.Deep.QuietTactic
import Derived.Deep.Light
import Derived.Deep.OwnRows
import Derived.Laws.AppendOwnNone
import Derived.Laws.Strings3
import Derived.Laws.RangeAny
import Derived.Deep.RegionWith
import Derived.Lib.BitFns
import Derived.Lib.Walk
import Derived.Lib.Strings
import Derived.Lib.OthersKept
import Derived.Deep.CutBlock
import Derived.Deep.DeepCutAuto
import Derived.Deep.LoopGhost
import Derived.Deep.RegionHeld3
import Derived.Lib.SmallJoins
import Derived.Maps.AppendAt
import Derived.Laws.IdiomStrings
import Derived.Lib.AppendZeros
import Derived.Deep.WholeRow
namespace Go.Proofs.Ytfdebooimbbdbaa
open Go.RowKit
set_option linter.unusedVariables false
set_option linter.unusedSimpArgs false
/-- one act -/
structure ActD where
  c : Int
  i : Int
  t : ByteArray
  n : Int
  K : Nat → Int
structure ActD.Good (A : ActD) : Prop where
  c : -9223372036854775808 ≤ A.c ∧ A.c ≤ 9223372036854775807
  i : -9223372036854775808 ≤ A.i ∧ A.i ≤ 9223372036854775807
  n : -9223372036854775808 ≤ A.n ∧ A.n ≤ 9223372036854775807
  K : ∀ j, -9223372036854775808 ≤ A.K j ∧ A.K j ≤ 9223372036854775807
  t : A.t.size ≤ maxLen
def ActD.cells (A : ActD) : Array Value := acells A.c A.i A.t A.n A.K
/-- a slice of acts -/
structure Acts (w : World) (a : Option Addr) (A : List ActD) : Prop where
  at_ : 0 < A.length → ∃ b off, a = some ⟨b, off, none⟩ ∧ b < w.heap.size ∧ ∀ j (hj : j < A.length) o, o < 8 → w.cell? ⟨b, off + j * 8 + o, none⟩ = A[j].cells[o]?
  good : ∀ x ∈ A, x.Good
  len : A.length ≤ 140737488355328
theorem Acts.below {w w' : World} {a : Option Addr} {A : List ActD} (h : Acts w a A) (hb : Below w.heap.size w w') : Acts w' a A := by
  refine ⟨fun h0 => ?_, h.good, h.len⟩
  obtain ⟨b, off, e, hl, hc⟩ := h.at_ h0
  exact ⟨b, off, e, Nat.lt_of_lt_of_le hl hb.size, fun j hj o ho => (hb.cell (by exact hl)).trans (hc j hj o ho)⟩
/-- the eight cells of an act at off -/
theorem eight {w : World} {b off : Nat} {A : ActD} (h : ∀ o, o < 8 → w.cell? ⟨b, off + o, none⟩ = A.cells[o]?) : w.cell? ⟨b, off, none⟩ = some (.int .i64 A.c) ∧ w.cell? ⟨b, off + 1, none⟩ = some (.int .i64 A.i) ∧ w.cell? ⟨b, off + 2, none⟩ = some (.string A.t) ∧ w.cell? ⟨b, off + 3, none⟩ = some (.int .i64 A.n) ∧ w.cell? ⟨b, off + 4, none⟩ = some (.int .i64 (A.K 0)) ∧ w.cell? ⟨b, off + 5, none⟩ = some (.int .i64 (A.K 1)) ∧ w.cell? ⟨b, off + 6, none⟩ = some (.int .i64 (A.K 2)) ∧ w.cell? ⟨b, off + 7, none⟩ = some (.int .i64 (A.K 3)) :=
  ⟨h 0 (by omega), h 1 (by omega), h 2 (by omega), h 3 (by omega), h 4 (by omega), h 5 (by omega), h 6 (by omega), h 7 (by omega)⟩
theorem both_new {B p : Nat} {V : Nat → Value} {w1 w2 : World} (hd : Dk B w1 p new V) (hb : Below w1.heap.size w1 w2) : Both B p w2.heap.size new (w2.alloc (.cells (rcells new) 29)) :=
  ⟨⟨V, (hd.below hb).alloc _⟩, heap_alloc_new w2 _, (hd.below hb).bw, new_ok⟩
theorem rnewE (w : World) : Calls Try.prog 9 #[] w fun e w' => e = .returned (.agg #[.string ⟨#[]⟩, .int .i64 0, .string ⟨#[]⟩, .int .i64 0, .string ⟨#[]⟩, .int .i64 0, .string ⟨#[]⟩, .int .i64 0, .int .i64 (-1), .bool false]) ∧ Below w.heap.size w w' := rnew w
set_option maxRecDepth 100000 in
set_option maxHeartbeats 2000000 in
theorem lplays (A : List ActD) (a : Option Addr) (cap : Nat) (w : World) (h : Acts w a A) : Calls Try.prog 3 #[.slice a A.length cap] w fun e w' => e = .returned (.bool true) ∧ Below w.heap.size w w' := by
  have HA : Hid (Acts w a A) := h
  have hlen := h.len
  clear h
  go_enter Try.func3, Try.ntmps3
  go_wp2_with fail
  refine (xnew w.heap.size _ (Nat.le_refl _)).mono ?_
  rintro e w1 ⟨rfl, ⟨V1, hd1⟩, hb1⟩
  have D1 : Hid (Dk w.heap.size w1 w.heap.size new V1) := hd1
  have B1 : Hid (Below w.heap.size w w1) := hb1
  clear hd1 hb1
  go_wp2_with fail
  refine (rnewE w1).mono ?_
  rintro e w2 ⟨rfl, hb2⟩
  have H0 : Hid (Both w.heap.size w.heap.size w2.heap.size new (w2.alloc (.cells (rcells new) 29))) := both_new D1.out hb2
  have BB : Hid (Below w.heap.size w (w2.alloc (.cells (rcells new) 29))) := (B1.out.trans (hb2.mono B1.out.size)).alloc (Nat.le_trans B1.out.size hb2.size) _
  clear D1 B1 hb2
  go_upto_region 3 with fail
  show Code.wp _ _ _ _ (w2.alloc (.cells (rcells new) 29))
  generalize w2.alloc (.cells (rcells new) 29) = w3 at *
  generalize w2.heap.size = q at *
  generalize hp : w.heap.size = p at *
  have HP : Hid (w.heap.size = p) := hp
  clear hp
  go_loopw [5] (fun i wr => ∃ (k : Nat) (S : St), k ≤ A.length ∧ i = .int .i64 k ∧ Hid (Both p p q S wr) ∧ Hid (Below p w wr)) (fun i _ => A.length - (intOf i).toNat)
  case atStart => exact ⟨0, new, Nat.zero_le _, rfl, H0.out, BB.out⟩
  case round =>
    clear H0 BB
    obtain ⟨k, S, hk, rfl, HB, HW⟩ := hrel
    have HFin : Hid (Calls Try.prog 12 #[] wr fun e w' => e = .returned (.bool true) ∧ Below w.heap.size w w') := by
      refine (xawake wr).mono ?_
      rintro e w' ⟨rfl, hb⟩
      refine ⟨rfl, ?_⟩
      rw [HP.out]
      exact HW.out.trans (hb.mono (by have := HW.out.size; rw [HP.out] at this; exact this))
    by_cases hlt : k < A.length
    · by_cases h60 : k < 60
      · obtain ⟨b, off, rfl, hbl, hce⟩ := HA.out.at_ (by omega)
        have hg := HA.out.good _ (List.getElem_mem hlt)
        have hAk : ∀ o, o < 8 → wr.cell? ⟨b, off + k * 8 + o, none⟩ = A[k].cells[o]? := fun o ho => (HW.out.cell (by rw [← HP.out]; exact hbl)).trans (hce k hlt o ho)
        obtain ⟨x0, x1, x2, x3, x4, x5, x6, x7⟩ := eight hAk
        generalize A[k] = X at *
        have hlt' : (k : Int) < A.length := by omega
        have h60' : (k : Int) < 60 := by omega
        have hlen' : (A.length : Int) ≤ 140737488355328 := by omega
        by_cases ht : X.t.size ≤ 20000
        · have ht' : (X.t.size : Int) ≤ 20000 := by omega
          have HD : Hid (Calls Try.prog 10 #[.pointer (some ⟨p, 0, none⟩), .pointer (some ⟨q, 0, none⟩), .agg (acells X.c X.i X.t X.n X.K)] wr fun e w' => e = .returned (.bool true) ∧ Both p p q (step S X.c X.i X.t X.n X.K) w' ∧ Below p wr w') := ldoes p p q S wr HB.out X.c X.i X.t X.n X.K hg.t hg.n hg.K
          generalize step S X.c X.i X.t X.n X.K = T at *
          clear hce hAk hg HFin hlen
          go_wp2_with fail
          refine HD.out.mono ?_
          rintro e w4 ⟨rfl, hb4, hw4⟩
          have HB4 : Hid (Both p p q T w4) := hb4
          have HW4 : Hid (Below p w w4) := HW.out.trans hw4
          obtain ⟨V4, hd4⟩ := hb4.dk
          obtain ⟨a0, a1, a2, a3, a4, a5, a6, a7, a8, a9⟩ := ten_of hb4.bq
          have HS : Hid (Calls Try.prog 11 #[.pointer (some ⟨p, 0, none⟩), .agg (rcells T)] w4 fun e w' => e = .returned (.bool true) ∧ Both p p q T w' ∧ Below p w w') := by
            refine (lshows p p T w4 V4 hd4 hb4.ok).mono ?_
            rintro e w5 ⟨rfl, hb5⟩
            exact ⟨rfl, hb4.below hb5, HW4.out.trans (hb5.mono hd4.bw)⟩
          clear hb4 hw4 hd4 HB HW HD x0 x1 x2 x3 x4 x5 x6 x7
          go_wp2_with fail
          refine HS.out.mono ?_
          rintro e w5 ⟨rfl, hb5, hw5⟩
          go_wp2_with fail
          exact ⟨⟨k + 1, T, by omega, by go_num, hb5, hw5⟩, by simp [intOf]; omega⟩
        · have ht' : ¬ (X.t.size : Int) ≤ 20000 := by omega
          clear hce hAk hg HFin hlen
          go_wp2_with fail
          exact ⟨⟨k + 1, S, by omega, by go_num, HB, HW⟩, by simp [intOf]; omega⟩
      · have h60' : ¬ (k : Int) < 60 := by omega
        have hlt' : (k : Int) < A.length := by omega
        go_wp2_with fail
        refine HFin.out.mono ?_
        rintro e w' ⟨rfl, hb⟩
        have HE : Hid (Below w.heap.size w w') := hb
        clear hb
        go_wp2_with fail
        go_ret
        exact ⟨rfl, HE.out⟩
    · have hlt' : ¬ (k : Int) < A.length := by omega
      go_wp2_with fail
      refine HFin.out.mono ?_
      rintro e w' ⟨rfl, hb⟩
      have HE : Hid (Below w.heap.size w w') := hb
      clear hb
      go_wp2_with fail
      go_ret
      exact ⟨rfl, HE.out⟩
end Go.Proofs.Ytfdebooimbbdbaa
