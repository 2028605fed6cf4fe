/- layer 11: what is wrong with an account; a text apart; a ledger's map is written -/
import Derived.Test.YtbfnfebmmhhegaaC
import Derived.Test.YtbfnfebmmhhegaaShelf
import Derived.WalkKit
import Derived.ProofKit
import Derived.Handy
import Derived.WalkLawsBesides
import Derived.WalkSpells
import Derived.BigQuiet
import Derived.BigCall
import Derived.Deep.QuietTactic
import Derived.Deep.Light
import Derived.Deep.OwnRows
import Derived.Laws.AppendOwnNone
import Derived.Laws.Strings3
import Derived.Laws.RangeAny
import Derived.Deep.RegionWith
import Derived.Lib.BitFns
import Derived.Lib.Walk
import Derived.Lib.Strings
import Derived.Lib.OthersKept
import Derived.Deep.CutBlock
import Derived.Deep.DeepCutAuto
import Derived.Deep.LoopGhost
import Derived.Deep.RegionHeld3
import Derived.Lib.SmallJoins
import Derived.Maps.AppendAt
import Derived.Laws.IdiomStrings
import Derived.Lib.AppendZeros
import Derived.Deep.WholeRow
import Derived.Laws.BitsAllLaws
import Derived.Lib.ConvBytes
import Derived.Deep.RegionLaw
import Derived.Maps.OwnSet
import Derived.Maps.OwnOps
import Derived.Maps.RangeWalk
import Derived.Maps.Ext
import Derived.DeepKeys4
import Derived.Laws.StructEq
namespace Go.Proofs.Ytbfnfebmmhhegaa
open Go.RowKit
set_option linter.unusedVariables false
set_option linter.unusedSimpArgs false
theorem toL_nil (s : ByteArray) : (s.toList == []) = decide (s.size = 0) := by
  rw [← size_toList]
  cases s.toList <;> simp
theorem wr22 {o b : Int} {t : List UInt8} (h : o < 0 ∨ 64 < o ∨ b < 0 ∨ 1125899906842624 < b) : Num.wr (o, b, t) = 22 := by unfold Num.wr; exact if_pos h
theorem wr21 {o b : Int} {t : List UInt8} (h : ¬ (o < 0 ∨ 64 < o ∨ b < 0 ∨ 1125899906842624 < b)) (k : t.length = 0 ∨ 40 < t.length) : Num.wr (o, b, t) = 21 := by unfold Num.wr; rw [if_neg h]; exact if_pos k
theorem wr0 {o b : Int} {t : List UInt8} (h : ¬ (o < 0 ∨ 64 < o ∨ b < 0 ∨ 1125899906842624 < b)) (k : ¬ (t.length = 0 ∨ 40 < t.length)) : Num.wr (o, b, t) = 0 := by unfold Num.wr; rw [if_neg h]; exact if_neg k
set_option maxRecDepth 20000 in
theorem xwrong (o b : Int) (s : ByteArray) (w : World) : Calls Try.prog 79 #[.agg #[.int .i64 o, .int .i64 b, .string s]] w fun e w' => e = .returned (.int .i64 (Num.wr (o, b, s.toList))) ∧ w' = w.alloc (.cells #[.int .i64 o, .int .i64 b, .string s] 69) := by
  have hl : Hid (s.toList.length = s.size) := size_toList s
  have hn := toL_nil s
  by_cases h1 : o < 0
  · have hr : Num.wr (o, b, s.toList) = 22 := wr22 (by omega)
    rw [hr]
    go_enter Try.func79, Try.ntmps79
    go_wp2
    go_ret
    exact ⟨rfl, rfl⟩
  by_cases h2 : 64 < o
  · have hr : Num.wr (o, b, s.toList) = 22 := wr22 (by omega)
    rw [hr]
    go_enter Try.func79, Try.ntmps79
    go_wp2
    go_ret
    exact ⟨rfl, rfl⟩
  by_cases h3 : b < 0
  · have hr : Num.wr (o, b, s.toList) = 22 := wr22 (by omega)
    rw [hr]
    go_enter Try.func79, Try.ntmps79
    go_wp2
    go_ret
    exact ⟨rfl, rfl⟩
  by_cases h4 : 1125899906842624 < b
  · have hr : Num.wr (o, b, s.toList) = 22 := wr22 (by omega)
    rw [hr]
    go_enter Try.func79, Try.ntmps79
    go_wp2
    go_ret
    exact ⟨rfl, rfl⟩
  by_cases h5 : s.size = 0
  · have hr : Num.wr (o, b, s.toList) = 21 := wr21 (by omega) (by left; rw [hl.out]; exact h5)
    rw [hr]
    have hn2 : (s.toList == []) = true := by rw [hn]; simp [h5]
    clear hn h5
    go_enter Try.func79, Try.ntmps79
    go_wp2
    go_ret
    exact ⟨rfl, rfl⟩
  have hn2 : (s.toList == []) = false := by rw [hn]; simp [h5]
  clear hn
  by_cases h6 : 40 < (s.size : Int)
  · have hr : Num.wr (o, b, s.toList) = 21 := wr21 (by omega) (by right; rw [hl.out]; omega)
    rw [hr]
    clear h5
    go_enter Try.func79, Try.ntmps79
    go_wp2
    go_ret
    exact ⟨rfl, rfl⟩
  · have hr : Num.wr (o, b, s.toList) = 0 := wr0 (by omega) (by rw [hl.out]; omega)
    rw [hr]
    clear h5
    go_enter Try.func79, Try.ntmps79
    go_wp2
    go_ret
    exact ⟨rfl, rfl⟩

theorem Mp.look' {w : World} {m : Nat} {L : List Num.Bal} (h : Mp w m L) {o b : Int} {s : ByteArray} (ha : Wa (o, b, s.toList)) : (Instr.lookup 107 (.map (some m)) (.agg #[.int .i64 o, .int .i64 b, .string s]) false).run Try.prog w = .ok (.int .i64 (Num.get L (o, b, s.toList))) w := by
  have := h.look ha
  simpa only [ka, toList_S] using this
theorem Mp.drop' {w : World} {m : Nat} {L : List Num.Bal} (h : Mp w m L) {o b : Int} {s : ByteArray} (ha : Wa (o, b, s.toList)) (ty : TypeId) :
    ∃ w', (Builtin.delete_ #[107, 69] ty #[.map (some m), .agg #[.int .i64 o, .int .i64 b, .string s]]).run Try.prog w = .ok (.tuple #[]) w' ∧ Mp w' m (Num.set L (o, b, s.toList) 0) ∧ w.grownBy w' (some m) ∧ w'.heap.size = w.heap.size := by
  have := h.drop ha ty
  simpa only [ka, toList_S] using this
theorem Mp.store' {w : World} {m : Nat} {L : List Num.Bal} (h : Mp w m L) {o b : Int} {s : ByteArray} (ha : Wa (o, b, s.toList)) {n : Int} (hn : n ≠ 0) (hw : (Lit.int .i64 n).wf = true) (hl : L.length < maxLen) :
    ∃ w', (Instr.mapUpdate 107 (.map (some m)) (.agg #[.int .i64 o, .int .i64 b, .string s]) (.int .i64 n)).run Try.prog w = .ok () w' ∧ Mp w' m (Num.set L (o, b, s.toList) n) ∧ w.grownBy w' (some m) ∧ w'.heap.size = w.heap.size := by
  have := h.store ha hn hw hl
  simpa only [ka, toList_S] using this
theorem xclone (s : ByteArray) (hs : s.size ≤ 281474976710656) (w : World) : Calls Try.prog 84 #[.string s] w fun e w' => e = .returned (.string s) ∧ Below w.heap.size w w' := by
  have H : Hid (∀ w, Calls Try.prog 91 #[.string s] w fun e w' => e = .returned (.string s) ∧ Below w.heap.size w w') := fun w => Try.stringslite_Clone s w hs
  clear hs
  go_enter Try.func84, Try.ntmps84
  go_wp2_with (go_at_call 91; refine (H.out _).mono ?_; rintro e w1 ⟨rfl, hb⟩)
  go_ret
  exact ⟨rfl, hb⟩
/-- a block said whole -/
def Bx (w : World) (g : Nat) (cs : Array Value) (T : Nat) : Prop := w.heap[g]? = some (.cells cs T (0, 0))
theorem Bx.below {w w' : World} {g B : Nat} {cs : Array Value} {T : Nat} (h : Bx w g cs T) (hb : Below B w w') (hg : g < B) : Bx w' g cs T := (hb.block g hg).trans h
theorem Bx.kept {w w' : World} {g : Nat} {cs : Array Value} {T : Nat} {row : Option Nat} (h : Bx w g cs T) (hb : w.grownBy w' row) (hg : some g ≠ row) : Bx w' g cs T := by
  have hl : g < w.heap.size := by
    rcases Nat.lt_or_ge g w.heap.size with h1 | h1
    · exact h1
    · unfold Bx at h; rw [Array.getElem?_eq_none h1] at h; cases h
  exact (hb.block g hl hg).trans h
theorem Bx.lt {w : World} {g : Nat} {cs : Array Value} {T : Nat} (h : Bx w g cs T) : g < w.heap.size := by
  rcases Nat.lt_or_ge g w.heap.size with h1 | h1
  · exact h1
  · unfold Bx at h; rw [Array.getElem?_eq_none h1] at h; cases h
theorem Bx.cell {w : World} {g : Nat} {cs : Array Value} {T : Nat} (h : Bx w g cs T) (k : Nat) : w.cell? ⟨g, k, none⟩ = cs[k]? := by
  unfold Bx at h
  simp [World.cell?, h]
theorem Bx.froz {w : World} {g : Nat} {cs : Array Value} {T : Nat} (h : Bx w g cs T) (k : Nat) : w.frozen? ⟨g, k, none⟩ = false := by
  unfold Bx at h
  simp [World.frozen?, h]
theorem Bx.new (w : World) (cs : Array Value) (T : Nat) : Bx (w.alloc (.cells cs T)) w.heap.size cs T := heap_alloc_new w _
theorem Bx.setc {w : World} {g : Nat} {cs : Array Value} {T : Nat} (h : Bx w g cs T) (k : Nat) (u : Value) : Bx (w.setCell ⟨g, k, none⟩ u) g (cs.setIfInBounds k u) T := by
  unfold Bx at h ⊢
  rw [setCell_eq_setRow w g k cs T (0, 0) u h]
  exact setRow_heap w g cs _ T (0, 0) h
theorem Bx.oset {w : World} {g c : Nat} {cs : Array Value} {T : Nat} (h : Bx w g cs T) (hn : g ≠ c) (k : Nat) (u : Value) : Bx (w.setCell ⟨c, k, none⟩ u) g cs T := (Below.heap_setCell w _ u g hn).trans h
theorem res40 {w : World} {g : Nat} {v0 v1 v2 : Value} (h : Bx w g #[v0, v1, v2] 69) : (loadVar 69 ⟨g, 0, none⟩).run Try.prog w = .ok (.agg #[v0, v1, v2]) w :=
  run_loadVar_row w g 69 69 _ (0, 0) _ h Try.underlying69 rfl (by kernel_rfl)
theorem res_cell {P : Program} (fn : Func) (tmps : Array Value) (a t : Nat) (ad : Addr) (v : Value) (w : World) (hf : fn.results = #[.cell a t]) (ht : tmps.getD a undef = .pointer (some ad)) (hl : (loadVar t ad).run P w = .ok v w) : (results fn tmps).run P w = .ok v w := by
  have ht2 : tmps[a]?.getD undef = .pointer (some ad) := by simpa using ht
  simp [results, hf, ht2, asAddr, hl]
theorem xapart (o b : Int) (s : ByteArray) (hs : s.size ≤ 281474976710656) (w : World) : Calls Try.prog 73 #[.agg #[.int .i64 o, .int .i64 b, .string s]] w fun e w' => e = .returned (.agg #[.int .i64 o, .int .i64 b, .string s]) ∧ Below w.heap.size w w' := by
  have H : Hid (∀ w, Calls Try.prog 84 #[.string s] w fun e w' => e = .returned (.string s) ∧ Below w.heap.size w w') := fun w => xclone s hs w
  clear hs
  go_enter Try.func73, Try.ntmps73
  go_wp2_with fail
  have HX0 : Hid (Bx ((w.alloc (.cells #[.int .i64 o, .int .i64 b, .string s] 69)).alloc (.cells #[.int .i64 0, .int .i64 0, .string ⟨#[]⟩] 69)) w.heap.size #[.int .i64 o, .int .i64 b, .string s] 69) := (Bx.new w _ _).kept (World.grownBy_alloc _ _ none) (by simp)
  have HX1 : Hid (Bx ((w.alloc (.cells #[.int .i64 o, .int .i64 b, .string s] 69)).alloc (.cells #[.int .i64 0, .int .i64 0, .string ⟨#[]⟩] 69)) (w.heap.size + 1) #[.int .i64 0, .int .i64 0, .string ⟨#[]⟩] 69) := by
    have := Bx.new (w.alloc (.cells #[.int .i64 o, .int .i64 b, .string s] 69)) #[.int .i64 0, .int .i64 0, .string ⟨#[]⟩] 69
    rw [World.size_alloc] at this
    exact this
  have HB : Hid (Below w.heap.size w ((w.alloc (.cells #[.int .i64 o, .int .i64 b, .string s] 69)).alloc (.cells #[.int .i64 0, .int .i64 0, .string ⟨#[]⟩] 69))) := ((Below.refl _ w).alloc (Nat.le_refl _) _).alloc (by simp) _
  refine (H.out _).mono ?_
  rintro e w1 ⟨rfl, hb⟩
  have HY0 := HX0.out.below hb (by simp; omega)
  have HY1' := HX1.out.below hb (by simp)
  have HY1 : Hid (Bx w1 (w.heap.size + 1) #[.int .i64 0, .int .i64 0, .string ⟨#[]⟩] 69) := HY1'
  have HB1 : Hid (Below w.heap.size w w1) := HB.out.trans (hb.mono (by simp; omega))
  have c0 : w1.cell? ⟨w.heap.size, 0, none⟩ = some (.int .i64 o) := HY0.cell 0
  have c1 : w1.cell? ⟨w.heap.size, 1, none⟩ = some (.int .i64 b) := HY0.cell 1
  have c2 : w1.cell? ⟨w.heap.size, 2, none⟩ = some (.string s) := HY0.cell 2
  have f2 : w1.frozen? ⟨w.heap.size, 2, none⟩ = false := HY0.froz 2
  have d0 : w1.cell? ⟨w.heap.size + 1, 0, none⟩ = some (.int .i64 0) := HY1.out.cell 0
  have d1 : w1.cell? ⟨w.heap.size + 1, 1, none⟩ = some (.int .i64 0) := HY1.out.cell 1
  have d2 : w1.cell? ⟨w.heap.size + 1, 2, none⟩ = some (.string ⟨#[]⟩) := HY1.out.cell 2
  have g0 : w1.frozen? ⟨w.heap.size + 1, 0, none⟩ = false := HY1.out.froz 0
  have g1 : w1.frozen? ⟨w.heap.size + 1, 1, none⟩ = false := HY1.out.froz 1
  have g2 : w1.frozen? ⟨w.heap.size + 1, 2, none⟩ = false := HY1.out.froz 2
  clear HX0 HX1 HB HY0 HY1' hb H
  go_wp2_with fail
  have HZ := ((((HY1.out.oset (c := w.heap.size) (by omega) 2 (.string s)).setc 0 (.int .i64 o)).setc 1 (.int .i64 b)).setc 2 (.string s))
  refine bodyPost_ret (res_cell _ _ 2 69 _ _ _ rfl rfl (res40 HZ)) rfl ?_
  exact ⟨rfl, (((HB1.out.setCell (p := ⟨w.heap.size, 2, none⟩) (Nat.le_refl _) _).setCell (p := ⟨w.heap.size + 1, 0, none⟩) (by simp) _).setCell (p := ⟨w.heap.size + 1, 1, none⟩) (by simp) _).setCell (p := ⟨w.heap.size + 1, 2, none⟩) (by simp) _⟩
end Go.Proofs.Ytbfnfebmmhhegaa
