/- Layer 10: append of lots, prices, haircuts. -/
import Derived.Test.YtdmlgheajblcdaaGreatN25
import Derived.WalkKit
import Derived.ProofKit
import Derived.Handy
import Derived.WalkLawsBesides
import Derived.WalkSpells
import Derived.BigQuiet
import Derived.BigCall
import Derived.Deep.QuietTactic
import Derived.Deep.Light
import Derived.Deep.OwnRows
import Derived.Laws.AppendOwnNone
import Derived.Laws.Strings3
import Derived.Laws.RangeAny
import Derived.Deep.RegionWith
import Derived.Lib.BitFns
import Derived.Lib.Walk
import Derived.Lib.Strings
import Derived.Lib.OthersKept
import Derived.Deep.CutBlock
import Derived.Deep.DeepCutAuto
import Derived.Deep.LoopGhost
import Derived.Deep.RegionHeld3
import Derived.Lib.SmallJoins
import Derived.Maps.AppendAt
import Derived.Laws.IdiomStrings
import Derived.Lib.AppendZeros
import Derived.Deep.WholeRow
import Derived.Laws.BitsAllLaws
import Derived.Lib.ConvBytes
import Derived.Deep.RegionLaw
namespace Go.Proofs.YtdmlgheajblcdaaGreat
open Go.RowKit
set_option linter.unusedVariables false
set_option linter.unusedSimpArgs false
set_option maxRecDepth 20000
theorem Tryz.info32 : (Tryz.prog.info? 32).map (fun i => (i.zero, i.size, i.bytes)) = some (some (.agg #[.string ⟨#[]⟩, .int .i64 0]), 2, 24) := by kernel_rfl
theorem Tryz.info128 : (Tryz.prog.info? 128).map (fun i => (i.zero, i.size, i.bytes)) = some (some (.agg #[.string ⟨#[]⟩, .int .i64 0]), 2, 24) := by kernel_rfl
theorem Tryz.info112 : (Tryz.prog.info? 112).map (fun i => (i.zero, i.size, i.bytes)) = some (some (.agg #[.int .i64 0, .int .i64 0, .int .i64 0]), 3, 24) := by kernel_rfl
def lcells : List Lt → List Value
  | [] => []
  | x :: l => .string ⟨x.i.toArray⟩ :: .int .i64 x.q :: lcells l
def ccells : List Ct → List Value
  | [] => []
  | x :: l => .int .i64 x.d :: .int .i64 x.r :: .int .i64 x.c :: ccells l
theorem lcells_app (a b : List Lt) : lcells (a ++ b) = lcells a ++ lcells b := by
  induction a with
  | nil => rfl
  | cons x l ih => show _ :: _ :: lcells (l ++ b) = _; rw [ih]; rfl
theorem ccells_app (a b : List Ct) : ccells (a ++ b) = ccells a ++ ccells b := by
  induction a with
  | nil => rfl
  | cons x l ih => show _ :: _ :: _ :: ccells (l ++ b) = _; rw [ih]; rfl
theorem lcells_at : ∀ (l : List Lt) (j : Nat) (h : j < l.length), (lcells l)[j * 2]? = some (.string ⟨l[j].i.toArray⟩) ∧ (lcells l)[j * 2 + 1]? = some (.int .i64 l[j].q)
  | x :: l, 0, _ => ⟨rfl, rfl⟩
  | x :: l, j + 1, h => by
    have := lcells_at l j (by simpa using h)
    rw [show (j + 1) * 2 = j * 2 + 2 by omega, show j * 2 + 2 + 1 = (j * 2 + 1) + 2 by omega]
    exact this
theorem ccells_at : ∀ (l : List Ct) (j : Nat) (h : j < l.length), (ccells l)[j * 3]? = some (.int .i64 l[j].d) ∧ (ccells l)[j * 3 + 1]? = some (.int .i64 l[j].r) ∧ (ccells l)[j * 3 + 2]? = some (.int .i64 l[j].c)
  | x :: l, 0, _ => ⟨rfl, rfl, rfl⟩
  | x :: l, j + 1, h => by
    have := ccells_at l j (by simpa using h)
    rw [show (j + 1) * 3 = j * 3 + 3 by omega, show j * 3 + 3 + 1 = (j * 3 + 1) + 3 by omega, show j * 3 + 3 + 2 = (j * 3 + 2) + 3 by omega]
    exact this
theorem cell_new {w : World} {cs : List Value} {T : Nat} : ∀ j u, cs[j]? = some u → (w.alloc (.cells cs.toArray T)).cell? ((⟨w.heap.size, 0, none⟩ : Addr).add j) = some u := fun j u h => by
  have e : (⟨w.heap.size, 0, none⟩ : Addr).add j = ⟨w.heap.size, j, none⟩ := by simp [Addr.add]; intro h; exact h.symm
  rw [e, (Bx.new w cs.toArray T).cell j, List.getElem?_toArray, h]
theorem app_lot {B : Nat} {w : World} {v : Value} {xs : List Lt} (h : w.ownsRow B 32 2 v xs.length (lcells xs)) (hB : B ≤ w.heap.size) (x : Lt) (hl : xs.length ≤ 1000000) :
    ∃ v' w', (Builtin.append_ #[33, 33] 33 #[v, .slice (some ⟨w.heap.size, 0, none⟩) 1 1]).run Tryz.prog (w.alloc (.cells #[.string ⟨x.i.toArray⟩, .int .i64 x.q] 32)) = .ok v' w' ∧ w'.ownsRow B 32 2 v' (xs ++ [x]).length (lcells (xs ++ [x])) ∧ (w.alloc (.cells #[.string ⟨x.i.toArray⟩, .int .i64 x.q] 32)).grownBy w' v.ownBlock := by
  obtain ⟨i0, hi, hz0, hz1, hz2⟩ := info_parts Tryz.info32
  obtain ⟨v', w', hr, ho, hgr, _, hat⟩ := run_append_own_at (P := Tryz.prog) (w := w.alloc (.cells #[.string ⟨x.i.toArray⟩, .int .i64 x.q] 32)) B 33 33 32 i0 _ 2 24 Tryz.underlying33 hi hz0 hz1 hz2 rfl (by decide) v _ _ (h.alloc _) ⟨w.heap.size, 0, none⟩ 1 1 [.string ⟨x.i.toArray⟩, .int .i64 x.q] rfl (cell_new (cs := [.string ⟨x.i.toArray⟩, .int .i64 x.q])) (by intro u hu; simp at hu; rcases hu with rfl | rfl <;> rfl) (by unfold maxLen; omega) (by omega) (by simp; omega)
  refine ⟨v', w', hr, ?_, hgr⟩
  rw [lcells_app, List.length_append]; exact ho
theorem app_price {B : Nat} {w : World} {v : Value} {xs : List Lt} (h : w.ownsRow B 128 2 v xs.length (lcells xs)) (hB : B ≤ w.heap.size) (x : Lt) (hl : xs.length ≤ 1000000) :
    ∃ v' w', (Builtin.append_ #[28, 28] 28 #[v, .slice (some ⟨w.heap.size, 0, none⟩) 1 1]).run Tryz.prog (w.alloc (.cells #[.string ⟨x.i.toArray⟩, .int .i64 x.q] 128)) = .ok v' w' ∧ w'.ownsRow B 128 2 v' (xs ++ [x]).length (lcells (xs ++ [x])) ∧ (w.alloc (.cells #[.string ⟨x.i.toArray⟩, .int .i64 x.q] 128)).grownBy w' v.ownBlock := by
  obtain ⟨i0, hi, hz0, hz1, hz2⟩ := info_parts Tryz.info128
  obtain ⟨v', w', hr, ho, hgr, _, hat⟩ := run_append_own_at (P := Tryz.prog) (w := w.alloc (.cells #[.string ⟨x.i.toArray⟩, .int .i64 x.q] 128)) B 28 28 128 i0 _ 2 24 Tryz.underlying28 hi hz0 hz1 hz2 rfl (by decide) v _ _ (h.alloc _) ⟨w.heap.size, 0, none⟩ 1 1 [.string ⟨x.i.toArray⟩, .int .i64 x.q] rfl (cell_new (cs := [.string ⟨x.i.toArray⟩, .int .i64 x.q])) (by intro u hu; simp at hu; rcases hu with rfl | rfl <;> rfl) (by unfold maxLen; omega) (by omega) (by simp; omega)
  refine ⟨v', w', hr, ?_, hgr⟩
  rw [lcells_app, List.length_append]; exact ho
theorem app_cut {B : Nat} {w : World} {v : Value} {xs : List Ct} (h : w.ownsRow B 112 3 v xs.length (ccells xs)) (hB : B ≤ w.heap.size) (x : Ct) (hl : xs.length ≤ 1000000) :
    ∃ v' w', (Builtin.append_ #[24, 24] 24 #[v, .slice (some ⟨w.heap.size, 0, none⟩) 1 1]).run Tryz.prog (w.alloc (.cells #[.int .i64 x.d, .int .i64 x.r, .int .i64 x.c] 112)) = .ok v' w' ∧ w'.ownsRow B 112 3 v' (xs ++ [x]).length (ccells (xs ++ [x])) ∧ (w.alloc (.cells #[.int .i64 x.d, .int .i64 x.r, .int .i64 x.c] 112)).grownBy w' v.ownBlock := by
  obtain ⟨i0, hi, hz0, hz1, hz2⟩ := info_parts Tryz.info112
  obtain ⟨v', w', hr, ho, hgr, _, hat⟩ := run_append_own_at (P := Tryz.prog) (w := w.alloc (.cells #[.int .i64 x.d, .int .i64 x.r, .int .i64 x.c] 112)) B 24 24 112 i0 _ 3 24 Tryz.underlying24 hi hz0 hz1 hz2 rfl (by decide) v _ _ (h.alloc _) ⟨w.heap.size, 0, none⟩ 1 1 [.int .i64 x.d, .int .i64 x.r, .int .i64 x.c] rfl (cell_new (cs := [.int .i64 x.d, .int .i64 x.r, .int .i64 x.c])) (by intro u hu; simp at hu; rcases hu with rfl | rfl | rfl <;> rfl) (by unfold maxLen; omega) (by omega) (by simp; omega)
  refine ⟨v', w', hr, ?_, hgr⟩
  rw [ccells_app, List.length_append]; exact ho
/-- an own slice of lots, as it is read -/
theorem own_lts {B e : Nat} {w : World} {v : Value} {xs : List Lt} (h : w.ownsRow B e 2 v xs.length (lcells xs)) : ∃ a c, v = .slice a xs.length c ∧ Lts w.heap.size w a xs := by
  rcases h.2 with ⟨hv, hn⟩ | ⟨g, cap, cur, hv, hB, hg, hc, _, _, ht⟩
  · exact ⟨none, 0, by rw [hv, hn], fun h0 => by omega⟩
  · refine ⟨_, cap, hv, fun h0 => ⟨g, 0, rfl, (Array.getElem?_eq_some_iff.1 hg).1, fun j hj => ?_⟩⟩
    have hx := lcells_at xs j hj
    rw [← ht] at hx
    have e : ∀ i x, (cur.toList.take (xs.length * 2))[i]? = some x → w.cell? ⟨g, i, none⟩ = some x := fun i x hi => by
      rw [cell_of_row w g i _ e (0, 0) hg, ← Array.getElem?_toList]
      rw [List.getElem?_take] at hi
      split at hi
      · exact hi
      · cases hi
    exact ⟨by rw [Nat.zero_add]; exact e _ _ hx.1, by rw [Nat.zero_add]; exact e _ _ hx.2⟩
theorem own_cts {B e : Nat} {w : World} {v : Value} {xs : List Ct} (h : w.ownsRow B e 3 v xs.length (ccells xs)) : ∃ a c, v = .slice a xs.length c ∧ Cts w.heap.size w a xs := by
  rcases h.2 with ⟨hv, hn⟩ | ⟨g, cap, cur, hv, hB, hg, hc, _, _, ht⟩
  · exact ⟨none, 0, by rw [hv, hn], fun h0 => by omega⟩
  · refine ⟨_, cap, hv, fun h0 => ⟨g, 0, rfl, (Array.getElem?_eq_some_iff.1 hg).1, fun j hj => ?_⟩⟩
    have hx := ccells_at xs j hj
    rw [← ht] at hx
    have e : ∀ i x, (cur.toList.take (xs.length * 3))[i]? = some x → w.cell? ⟨g, i, none⟩ = some x := fun i x hi => by
      rw [cell_of_row w g i _ e (0, 0) hg, ← Array.getElem?_toList]
      rw [List.getElem?_take] at hi
      split at hi
      · exact hi
      · cases hi
    exact ⟨by rw [Nat.zero_add]; exact e _ _ hx.1, by rw [Nat.zero_add]; exact e _ _ hx.2.1, by rw [Nat.zero_add]; exact e _ _ hx.2.2⟩
end Go.Proofs.YtdmlgheajblcdaaGreat

/- Layer 10: offers and swaps told. -/
namespace Go.Proofs.YtdmlgheajblcdaaGreat
open Go.RowKit
set_option linter.unusedVariables false
set_option linter.unusedSimpArgs false
set_option maxRecDepth 20000
theorem tm8 (w : World) (v : Value) : (Instr.typeAssert (.iface 63 v) 39 63 false).run Tryz.prog w = .ok v w := by kernel_rfl
theorem tm11 (w : World) (v : Value) : (Instr.typeAssert (.iface 67 v) 39 67 false).run Tryz.prog w = .ok v w := by kernel_rfl
theorem info63 : (Tryz.prog.info? 63).map (·.size) = some 8 := by kernel_rfl
theorem info67 : (Tryz.prog.info? 67).map (·.size) = some 5 := by kernel_rfl
theorem info32' : (Tryz.prog.info? 32).map (·.size) = some 2 := by kernel_rfl
theorem res_cell2 {P : Program} (fn : Func) (tmps : Array Value) (a t b : Nat) (ad : Addr) (v u : Value) (w : World) (hf : fn.results = #[.cell a t, .tmp b]) (ht : tmps.getD a undef = .pointer (some ad)) (hu : tmps.getD b undef = u) (hl : (loadVar t ad).run P w = .ok v w) : (results fn tmps).run P w = .ok (.tuple #[v, u]) w := by
  have ht2 : tmps[a]?.getD undef = .pointer (some ad) := by simpa using ht
  have hu2 : tmps[b]?.getD undef = u := by simpa using hu
  simp [results, hf, ht2, hu2, asAddr, hl]
theorem loadR63 (w : World) (g : Nat) (M : Array Value) (hg : Bx w g M 63) (hs : M.size = 8) : (loadVar 63 ⟨g, 0, none⟩).run Tryz.prog w = .ok (.agg M) w :=
  run_loadVar_row w g 63 63 _ (0, 0) _ hg Tryz.underlying63 rfl (by rw [hs]; exact info63)
theorem loadR67 (w : World) (g : Nat) (M : Array Value) (hg : Bx w g M 67) (hs : M.size = 5) : (loadVar 67 ⟨g, 0, none⟩).run Tryz.prog w = .ok (.agg M) w :=
  run_loadVar_row w g 67 67 _ (0, 0) _ hg Tryz.underlying67 rfl (by rw [hs]; exact info67)
theorem loadR32 (w : World) (g : Nat) (M : Array Value) (hg : Bx w g M 32) (hs : M.size = 2) : (loadVar 32 ⟨g, 0, none⟩).run Tryz.prog w = .ok (.agg M) w :=
  run_loadVar_row w g 32 32 _ (0, 0) _ hg Tryz.underlying32 rfl (by rw [hs]; exact info32')
theorem asOffer65 (V : Value) (x0 x1 x2 x3 x4 x5 x6 x7 : Int) (g : Bool) (t : ∀ w, (Instr.typeAssert V 39 63 true).run Tryz.prog w = .ok (.tuple #[.agg #[.int .i64 x0, .int .i64 x1, .int .i64 x2, .int .i64 x3, .int .i64 x4, .int .i64 x5, .int .i64 x6, .int .i64 x7], .bool g]) w) (w : World) : Calls Tryz.prog 65 #[V] w (KP (.tuple #[.agg #[.int .i64 x0, .int .i64 x1, .int .i64 x2, .int .i64 x3, .int .i64 x4, .int .i64 x5, .int .i64 x6, .int .i64 x7], .bool g]) w) := by
  have HB : Hid (∀ o1 o2, Below w.heap.size w ((w.alloc o1).alloc o2)) := fun o1 o2 => bt (below_a w o1) (below_a _ o2)
  go_enter Tryz.func65, Tryz.ntmps65
  go_wp2_with fail
  go_returns
  exact ⟨rfl, HB.out _ _⟩
theorem asSwap66 (V : Value) (x0 x1 : Int) (x2 : ByteArray) (x3 : Int) (xa : Option Addr) (xn xc : Nat) (g : Bool) (t : ∀ w, (Instr.typeAssert V 39 67 true).run Tryz.prog w = .ok (.tuple #[.agg #[.int .i64 x0, .int .i64 x1, .string x2, .int .i64 x3, .slice xa xn xc], .bool g]) w) (w : World) : Calls Tryz.prog 66 #[V] w (KP (.tuple #[.agg #[.int .i64 x0, .int .i64 x1, .string x2, .int .i64 x3, .slice xa xn xc], .bool g]) w) := by
  have HB : Hid (∀ o1 o2, Below w.heap.size w ((w.alloc o1).alloc o2)) := fun o1 o2 => bt (below_a w o1) (below_a _ o2)
  go_enter Tryz.func66, Tryz.ntmps66
  go_wp2_with fail
  go_returns
  exact ⟨rfl, HB.out _ _⟩
theorem mustOffer68 (x0 x1 x2 x3 x4 x5 x6 x7 : Int) (w : World) : Calls Tryz.prog 68 #[.iface 63 (.agg #[.int .i64 x0, .int .i64 x1, .int .i64 x2, .int .i64 x3, .int .i64 x4, .int .i64 x5, .int .i64 x6, .int .i64 x7])] w (KP (.agg #[.int .i64 x0, .int .i64 x1, .int .i64 x2, .int .i64 x3, .int .i64 x4, .int .i64 x5, .int .i64 x6, .int .i64 x7]) w) := by
  have t := tm8
  have HB : Hid (∀ o1, Below w.heap.size w (w.alloc o1)) := fun o1 => below_a w o1
  go_enter Tryz.func68, Tryz.ntmps68
  go_wp2_with fail
  go_returns
  exact ⟨rfl, HB.out _⟩
theorem mustSwap69 (x0 x1 : Int) (x2 : ByteArray) (x3 : Int) (xa : Option Addr) (xn xc : Nat) (w : World) : Calls Tryz.prog 69 #[.iface 67 (.agg #[.int .i64 x0, .int .i64 x1, .string x2, .int .i64 x3, .slice xa xn xc])] w (KP (.agg #[.int .i64 x0, .int .i64 x1, .string x2, .int .i64 x3, .slice xa xn xc]) w) := by
  have t := tm11
  have HB : Hid (∀ o1, Below w.heap.size w (w.alloc o1)) := fun o1 => below_a w o1
  go_enter Tryz.func69, Tryz.ntmps69
  go_wp2_with fail
  go_returns
  exact ⟨rfl, HB.out _⟩
set_option maxHeartbeats 4000000 in
theorem asOffer (V : Value) (x0 x1 x2 x3 x4 x5 x6 x7 : Int) (g : Bool) (t : ∀ w, (Instr.typeAssert V 39 63 true).run Tryz.prog w = .ok (.tuple #[.agg #[.int .i64 x0, .int .i64 x1, .int .i64 x2, .int .i64 x3, .int .i64 x4, .int .i64 x5, .int .i64 x6, .int .i64 x7], .bool g]) w) (w : World) : Calls Tryz.prog 25 #[V] w (KP (.tuple #[.agg #[.int .i64 x0, .int .i64 x1, .int .i64 x2, .int .i64 x3, .int .i64 x4, .int .i64 x5, .int .i64 x6, .int .i64 x7], .bool g]) w) := by
  have HC : Hid (∀ W, Calls Tryz.prog 65 #[V] W (KP (.tuple #[.agg #[.int .i64 x0, .int .i64 x1, .int .i64 x2, .int .i64 x3, .int .i64 x4, .int .i64 x5, .int .i64 x6, .int .i64 x7], .bool g]) W)) := fun W => asOffer65 V x0 x1 x2 x3 x4 x5 x6 x7 g t W
  have HX0 : Hid (Bx (w.alloc (.cells #[.int .i64 0, .int .i64 0, .int .i64 0, .int .i64 0, .int .i64 0, .int .i64 0, .int .i64 0, .int .i64 0] 63)) w.heap.size #[.int .i64 0, .int .i64 0, .int .i64 0, .int .i64 0, .int .i64 0, .int .i64 0, .int .i64 0, .int .i64 0] 63) := Bx.new _ _ _
  have HB0 : Hid (Below w.heap.size w (w.alloc (.cells #[.int .i64 0, .int .i64 0, .int .i64 0, .int .i64 0, .int .i64 0, .int .i64 0, .int .i64 0, .int .i64 0] 63))) := below_a w _
  clear t
  go_enter Tryz.func25, Tryz.ntmps25
  go_upto_region 1 with fail
  generalize w.alloc (.cells #[.int .i64 0, .int .i64 0, .int .i64 0, .int .i64 0, .int .i64 0, .int .i64 0, .int .i64 0, .int .i64 0] 63) = w1 at *
  go_wp2_with fail
  refine (HC.out _).mono ?_
  rintro e w2 ⟨rfl, hb2⟩
  have HX2 : Hid (Bx w2 w.heap.size #[.int .i64 0, .int .i64 0, .int .i64 0, .int .i64 0, .int .i64 0, .int .i64 0, .int .i64 0, .int .i64 0] 63) := HX0.out.keep hb2.out
  have HST : Hid ((Instr.storeAt 63 (.pointer (some ⟨w.heap.size, 0, none⟩)) (.agg #[.int .i64 x0, .int .i64 x1, .int .i64 x2, .int .i64 x3, .int .i64 x4, .int .i64 x5, .int .i64 x6, .int .i64 x7])).run Tryz.prog w2 = .ok () (w2.setRow w.heap.size #[.int .i64 x0, .int .i64 x1, .int .i64 x2, .int .i64 x3, .int .i64 x4, .int .i64 x5, .int .i64 x6, .int .i64 x7])) := storeT _ _ _ _ info63 HX2.out rfl rfl (by simp [Value.oneCell'])
  have hld := loadR63 (w2.setRow w.heap.size #[.int .i64 x0, .int .i64 x1, .int .i64 x2, .int .i64 x3, .int .i64 x4, .int .i64 x5, .int .i64 x6, .int .i64 x7]) w.heap.size #[.int .i64 x0, .int .i64 x1, .int .i64 x2, .int .i64 x3, .int .i64 x4, .int .i64 x5, .int .i64 x6, .int .i64 x7] HX2.out.set rfl
  have HB2 : Hid (Below w.heap.size w (w2.setRow w.heap.size #[.int .i64 x0, .int .i64 x1, .int .i64 x2, .int .i64 x3, .int .i64 x4, .int .i64 x5, .int .i64 x6, .int .i64 x7])) := below_setRow' (bt HB0.out hb2.out) (Nat.le_refl _)
  clear hb2 HX0 HB0
  go_wp2_with (guard_target =~ wpList _ _ _ (⟨_, Op.store 63 _ _, _, _, _, _⟩ :: _) _ _; refine wl_store _ _ rfl 63 _ _ rfl _ _ rfl rfl HST.out ?_; go_simp)
  refine bodyPost_ret (res_cell2 _ _ 2 63 3 _ _ _ _ rfl rfl rfl hld) rfl ?_
  exact ⟨rfl, HB2.out⟩
set_option maxHeartbeats 4000000 in
theorem mustOffer (x0 x1 x2 x3 x4 x5 x6 x7 : Int) (w : World) : Calls Tryz.prog 27 #[.iface 63 (.agg #[.int .i64 x0, .int .i64 x1, .int .i64 x2, .int .i64 x3, .int .i64 x4, .int .i64 x5, .int .i64 x6, .int .i64 x7])] w (KP (.agg #[.int .i64 x0, .int .i64 x1, .int .i64 x2, .int .i64 x3, .int .i64 x4, .int .i64 x5, .int .i64 x6, .int .i64 x7]) w) := by
  have HX0 : Hid (Bx (w.alloc (.cells #[.int .i64 0, .int .i64 0, .int .i64 0, .int .i64 0, .int .i64 0, .int .i64 0, .int .i64 0, .int .i64 0] 63)) w.heap.size #[.int .i64 0, .int .i64 0, .int .i64 0, .int .i64 0, .int .i64 0, .int .i64 0, .int .i64 0, .int .i64 0] 63) := Bx.new _ _ _
  have HB0 : Hid (Below w.heap.size w (w.alloc (.cells #[.int .i64 0, .int .i64 0, .int .i64 0, .int .i64 0, .int .i64 0, .int .i64 0, .int .i64 0, .int .i64 0] 63))) := below_a w _
  go_enter Tryz.func27, Tryz.ntmps27
  go_upto_region 1 with fail
  generalize w.alloc (.cells #[.int .i64 0, .int .i64 0, .int .i64 0, .int .i64 0, .int .i64 0, .int .i64 0, .int .i64 0, .int .i64 0] 63) = w1 at *
  go_wp2_with fail
  refine (mustOffer68 x0 x1 x2 x3 x4 x5 x6 x7 _).mono ?_
  rintro e w2 ⟨rfl, hb2⟩
  have HX2 : Hid (Bx w2 w.heap.size #[.int .i64 0, .int .i64 0, .int .i64 0, .int .i64 0, .int .i64 0, .int .i64 0, .int .i64 0, .int .i64 0] 63) := HX0.out.keep hb2.out
  have HST : Hid ((Instr.storeAt 63 (.pointer (some ⟨w.heap.size, 0, none⟩)) (.agg #[.int .i64 x0, .int .i64 x1, .int .i64 x2, .int .i64 x3, .int .i64 x4, .int .i64 x5, .int .i64 x6, .int .i64 x7])).run Tryz.prog w2 = .ok () (w2.setRow w.heap.size #[.int .i64 x0, .int .i64 x1, .int .i64 x2, .int .i64 x3, .int .i64 x4, .int .i64 x5, .int .i64 x6, .int .i64 x7])) := storeT _ _ _ _ info63 HX2.out rfl rfl (by simp [Value.oneCell'])
  have hld := loadR63 (w2.setRow w.heap.size #[.int .i64 x0, .int .i64 x1, .int .i64 x2, .int .i64 x3, .int .i64 x4, .int .i64 x5, .int .i64 x6, .int .i64 x7]) w.heap.size #[.int .i64 x0, .int .i64 x1, .int .i64 x2, .int .i64 x3, .int .i64 x4, .int .i64 x5, .int .i64 x6, .int .i64 x7] HX2.out.set rfl
  have HB2 : Hid (Below w.heap.size w (w2.setRow w.heap.size #[.int .i64 x0, .int .i64 x1, .int .i64 x2, .int .i64 x3, .int .i64 x4, .int .i64 x5, .int .i64 x6, .int .i64 x7])) := below_setRow' (bt HB0.out hb2.out) (Nat.le_refl _)
  clear hb2 HX0 HB0
  go_wp2_with (guard_target =~ wpList _ _ _ (⟨_, Op.store 63 _ _, _, _, _, _⟩ :: _) _ _; refine wl_store _ _ rfl 63 _ _ rfl _ _ rfl rfl HST.out ?_; go_simp)
  refine bodyPost_ret (res_cell _ _ 2 63 _ _ _ rfl rfl hld) rfl ?_
  exact ⟨rfl, HB2.out⟩
set_option maxHeartbeats 4000000 in
theorem lotApart (i : ByteArray) (q : Int) (hs : i.size ≤ 281474976710656) (w : World) : Calls Tryz.prog 99 #[.agg #[.string i, .int .i64 q]] w (KP (.agg #[.string i, .int .i64 q]) w) := by
  have HC : Hid (∀ W, Calls Tryz.prog 78 #[.string i] W (KP (.string i) W)) := fun W => (xclone i hs W).mono fun _ _ h => h
  have HX0 : Hid (Bx ((w.alloc (.cells #[.string i, .int .i64 q] 32)).alloc (.cells #[.string ⟨#[]⟩, .int .i64 0] 32)) w.heap.size #[.string i, .int .i64 q] 32) := (Bx.new w _ _).keep (below_a _ _)
  have HY0 : Hid (Bx ((w.alloc (.cells #[.string i, .int .i64 q] 32)).alloc (.cells #[.string ⟨#[]⟩, .int .i64 0] 32)) (w.heap.size + 1) #[.string ⟨#[]⟩, .int .i64 0] 32) := by have := Bx.new (w.alloc (.cells #[.string i, .int .i64 q] 32)) #[.string ⟨#[]⟩, .int .i64 0] 32; rwa [size_a] at this
  have HB0 : Hid (Below w.heap.size w ((w.alloc (.cells #[.string i, .int .i64 q] 32)).alloc (.cells #[.string ⟨#[]⟩, .int .i64 0] 32))) := bt (below_a w _) (below_a _ _)
  clear hs
  go_enter Tryz.func99, Tryz.ntmps99
  go_upto_region 1 with fail
  generalize ((w.alloc (.cells #[.string i, .int .i64 q] 32)).alloc (.cells #[.string ⟨#[]⟩, .int .i64 0] 32)) = w1 at *
  go_wp2_with fail
  refine wp_region_held (S := fun W => Bx W w.heap.size #[.string i, .int .i64 q] 32 ∧ Below w.heap.size w W) (by kernel_rfl) ?_
  change wpAnyH _ _ _ _ _ 7 #[false, false, false, false, false, false, false] _ w1.drew
  have hS : Bx w1.drew w.heap.size #[.string i, .int .i64 q] 32 ∧ Below w.heap.size w w1.drew := ⟨HX0.out, bdrw HB0.out 1⟩
  have hY : Bx w1.drew (w.heap.size + 1) #[.string ⟨#[]⟩, .int .i64 0] 32 := HY0.out
  clear HX0 HB0 HY0
  obtain ⟨v0, hv0⟩ : ∃ v, v = w1.drew := ⟨_, rfl⟩
  rw [← hv0] at hS hY ⊢
  clear hv0
  refine takeR (fuel := 6) (i := 0) (v := .pointer (some ⟨w.heap.size, 0, none⟩)) rfl (by kernel_rfl) (by kernel_rfl) (by kernel_rfl) (fun _ _ _ h => h) (Or.inl ⟨rfl, fun W hW => by go_simp⟩) hS ?_
  simp only [Act.put, List.setIfInBounds_toArray, List.set_cons_zero, List.set_cons_succ]
  refine takeR (fuel := 5) (i := 1) (v := .string i) rfl (by kernel_rfl) (by kernel_rfl) (by kernel_rfl) (fun _ _ _ h => h) (Or.inl ⟨rfl, fun W hW => by have cj := (hW.1.cell 0 : W.cell? ⟨w.heap.size, 0, none⟩ = some (.string i)); go_simp⟩) hS ?_
  simp only [Act.put, List.setIfInBounds_toArray, List.set_cons_zero, List.set_cons_succ]
  refine takeR (fuel := 4) (i := 3) (v := .pointer (some ⟨w.heap.size, 1, none⟩)) rfl (by kernel_rfl) (by kernel_rfl) (by kernel_rfl) (fun _ _ _ h => h) (Or.inl ⟨rfl, fun W hW => by go_simp⟩) hS ?_
  simp only [Act.put, List.setIfInBounds_toArray, List.set_cons_zero, List.set_cons_succ]
  refine takeR (fuel := 3) (i := 4) (v := .int .i64 q) rfl (by kernel_rfl) (by kernel_rfl) (by kernel_rfl) (fun _ _ _ h => h) (Or.inl ⟨rfl, fun W hW => by have cj := (hW.1.cell 1 : W.cell? ⟨w.heap.size, 1, none⟩ = some (.int .i64 q)); go_simp⟩) hS ?_
  simp only [Act.put, List.setIfInBounds_toArray, List.set_cons_zero, List.set_cons_succ]
  refine consR (fuel := 2) (i := 2) rfl (by kernel_rfl) (fun K hK => ?_)
  rw [if_pos (by rfl)]
  go_simp
  refine (HC.out _).mono ?_
  rintro e w2 ⟨rfl, hb2⟩
  refine hK.out _ _ ⟨hS.1.keep hb2.out, bt hS.2 hb2.out⟩ (fun hS2 => ?_)
  clear hK
  try simp only [Act.put, List.setIfInBounds_toArray, List.set_cons_zero, List.set_cons_succ]
  have hY2 := hY.keep hb2.out
  refine takeR (fuel := 1) (i := 5) (v := .agg #[.string i, .int .i64 q]) rfl (by kernel_rfl) (by kernel_rfl) (by kernel_rfl) (fun _ _ _ h => h) (Or.inl ⟨rfl, fun W hW => by go_simp⟩) hS2 ?_
  simp only [Act.put, List.setIfInBounds_toArray, List.set_cons_zero, List.set_cons_succ]
  refine consR (fuel := 0) (i := 6) rfl (by kernel_rfl) (fun K hK => ?_)
  rw [if_pos (by rfl)]
  refine ow_store _ _ 32 _ _ rfl _ _ rfl rfl (storeT _ (w.heap.size + 1) _ #[.string i, .int .i64 q] info32' hY2 rfl rfl (by simp [Value.oneCell'])) ?_
  refine hK.out _ _ ⟨hS2.1.other (by omega), below_setRow' hS2.2 (by omega)⟩ (fun hS3 => ?_)
  clear hK
  try simp only [Act.put, List.setIfInBounds_toArray, List.set_cons_zero, List.set_cons_succ]
  have hld := loadR32 (w2.setRow (w.heap.size + 1) #[.string i, .int .i64 q]) (w.heap.size + 1) #[.string i, .int .i64 q] hY2.set rfl
  refine wpAnyH_done (by kernel_rfl) ?_ _
  have HB3 : Hid (Below w.heap.size w (w2.setRow (w.heap.size + 1) #[.string i, .int .i64 q])) := hS3.2
  clear hS hS2 hS3 hY hY2 hb2
  go_wp2_with fail
  refine bodyPost_ret (res_cell _ _ 2 32 _ _ _ rfl rfl hld) rfl ?_
  exact ⟨rfl, HB3.out⟩
end Go.Proofs.YtdmlgheajblcdaaGreat

/- Layer 10: a swap apart. -/
namespace Go.Proofs.YtdmlgheajblcdaaGreat
open Go.RowKit
set_option linter.unusedVariables false
set_option linter.unusedSimpArgs false
set_option maxRecDepth 20000
theorem Bx.cellSet {w : World} {b k : Nat} {cs : Array Value} {T : Nat} (h : Bx w b cs T) (u : Value) : Bx (w.setCell ⟨b, k, none⟩ u) b (cs.setIfInBounds k u) T := set_blk h u
theorem Bx.cellOther {w : World} {b c k : Nat} {cs : Array Value} {T : Nat} (h : Bx w b cs T) (hn : b ≠ c) (u : Value) : Bx (w.setCell ⟨c, k, none⟩ u) b cs T := Bt.other (Bt.set c w k u) h hn
theorem Bx.froz {w : World} {b : Nat} {cs : Array Value} {T : Nat} (h : Bx w b cs T) (j : Nat) : w.frozen? ⟨b, j, none⟩ = false := by
  simp only [World.frozen?]
  rw [show w.heap[b]? = some (.cells cs T (0, 0)) from h]
  simp
theorem own_setRow {w : World} {B e size n q : Nat} {v : Value} {xs : List Value} {M : Array Value} (h : w.ownsRow B e size v n xs) (hq : q < B) : (w.setRow q M).ownsRow B e size v n xs := by
  refine ⟨h.1, ?_⟩
  rcases h.2 with h2 | ⟨g, cap, cur, hv, hB, hg, hr⟩
  · exact .inl h2
  · exact .inr ⟨g, cap, cur, hv, hB, by rw [setRow_other w q g M (by omega)]; exact hg, hr⟩
theorem own_below {w w' : World} {B e size n : Nat} {v : Value} {xs : List Value} (h : w.ownsRow B e size v n xs) (hb : Below w.heap.size w w') : w'.ownsRow B e size v n xs := own_keep h hb
theorem own_mono {w : World} {B C e size n : Nat} {v : Value} {xs : List Value} (h : w.ownsRow B e size v n xs) (hB : C ≤ B) : w.ownsRow C e size v n xs := by
  refine ⟨h.1, ?_⟩
  rcases h.2 with h2 | ⟨g, cap, cur, hv, hg, hr⟩
  · exact .inl h2
  · exact .inr ⟨g, cap, cur, hv, Nat.le_trans hB hg, hr⟩
def ApP (x0 x1 : Int) (x2 : ByteArray) (x3 : Int) (xs : List Lt) (w : World) (e : Ending) (w' : World) : Prop := ∃ a c, e = .returned (.agg #[.int .i64 x0, .int .i64 x1, .string x2, .int .i64 x3, .slice a xs.length c]) ∧ Hid (w'.ownsRow w.heap.size 32 2 (.slice a xs.length c) xs.length (lcells xs)) ∧ Hid (Below w.heap.size w w')
set_option maxHeartbeats 8000000 in
theorem xapart (x0 x1 : Int) (x2 : ByteArray) (x3 : Int) (xs : List Lt) (xa : Option Addr) (xc : Nat) (w : World) (hL : Lts w.heap.size w xa xs) (h2 : x2.size ≤ 281474976710656) (hq : ∀ y ∈ xs, y.i.length ≤ 281474976710656) (hn : xs.length ≤ 1000) : Calls Tryz.prog 67 #[.agg #[.int .i64 x0, .int .i64 x1, .string x2, .int .i64 x3, .slice xa xs.length xc]] w (ApP x0 x1 x2 x3 xs w) := by
  have HL : Hid (Lts w.heap.size w xa xs) := hL
  have HQ : Hid (∀ y ∈ xs, y.i.length ≤ 281474976710656) := hq
  have HO : Hid (∀ W, Calls Tryz.prog 99 #[.agg #[.string x2, .int .i64 x3]] W (KP (.agg #[.string x2, .int .i64 x3]) W)) := fun W => lotApart x2 x3 h2 W
  have HX0 : Hid (Bx ((w.alloc (.cells #[.int .i64 x0, .int .i64 x1, .string x2, .int .i64 x3, .slice xa xs.length xc] 67)).alloc (.cells #[.int .i64 0, .int .i64 0, .string ⟨#[]⟩, .int .i64 0, .slice none 0 0] 67)) w.heap.size #[.int .i64 x0, .int .i64 x1, .string x2, .int .i64 x3, .slice xa xs.length xc] 67) := (Bx.new w _ _).keep (below_a _ _)
  have HY0 : Hid (Bx ((w.alloc (.cells #[.int .i64 x0, .int .i64 x1, .string x2, .int .i64 x3, .slice xa xs.length xc] 67)).alloc (.cells #[.int .i64 0, .int .i64 0, .string ⟨#[]⟩, .int .i64 0, .slice none 0 0] 67)) (w.heap.size + 1) #[.int .i64 0, .int .i64 0, .string ⟨#[]⟩, .int .i64 0, .slice none 0 0] 67) := by have := Bx.new (w.alloc (.cells #[.int .i64 x0, .int .i64 x1, .string x2, .int .i64 x3, .slice xa xs.length xc] 67)) #[.int .i64 0, .int .i64 0, .string ⟨#[]⟩, .int .i64 0, .slice none 0 0] 67; rwa [size_a] at this
  have HB0 : Hid (Below w.heap.size w ((w.alloc (.cells #[.int .i64 x0, .int .i64 x1, .string x2, .int .i64 x3, .slice xa xs.length xc] 67)).alloc (.cells #[.int .i64 0, .int .i64 0, .string ⟨#[]⟩, .int .i64 0, .slice none 0 0] 67))) := bt (below_a w _) (below_a _ _)
  have hsz0 : w.heap.size + 2 ≤ ((w.alloc (.cells #[.int .i64 x0, .int .i64 x1, .string x2, .int .i64 x3, .slice xa xs.length xc] 67)).alloc (.cells #[.int .i64 0, .int .i64 0, .string ⟨#[]⟩, .int .i64 0, .slice none 0 0] 67)).heap.size := by rw [size_a, size_a]; omega
  clear hL hq h2
  go_enter Tryz.func67, Tryz.ntmps67
  go_upto_region 1 with fail
  generalize ((w.alloc (.cells #[.int .i64 x0, .int .i64 x1, .string x2, .int .i64 x3, .slice xa xs.length xc] 67)).alloc (.cells #[.int .i64 0, .int .i64 0, .string ⟨#[]⟩, .int .i64 0, .slice none 0 0] 67)) = w1 at *
  have c4 : w1.cell? ⟨w.heap.size, 4, none⟩ = some (.slice xa xs.length xc) := HX0.out.cell 4
  go_wp2_with fail
  go_loopw [3, 9] (fun v i wr => ∃ (k : Nat), i = .int .i64 k ∧ k ≤ xs.length ∧ Hid (wr.ownsRow (w.heap.size + 2) 32 2 v (xs.take k).length (lcells (xs.take k))) ∧ Hid (Bx wr w.heap.size #[.int .i64 x0, .int .i64 x1, .string x2, .int .i64 x3, .slice xa xs.length xc] 67) ∧ Hid (Bx wr (w.heap.size + 1) #[.int .i64 0, .int .i64 0, .string ⟨#[]⟩, .int .i64 0, .slice none 0 0] 67) ∧ Hid (Below w.heap.size w wr) ∧ w.heap.size + 2 ≤ wr.heap.size) (fun _ i _ => xs.length - (Lib.intOf i).toNat)
  case atStart => exact ⟨0, rfl, Nat.zero_le _, World.ownsRow_nil _ _ _ _, HX0, HY0, HB0, hsz0⟩
  case round =>
    clear HX0 HY0 HB0 hsz0 c4
    obtain ⟨k, rfl, hk, HOw, HXk, HYk, HBk, hszk⟩ := hrel
    by_cases hkn : k < xs.length
    · have hkz : (k : Int) < (xs.length : Int) := by omega
      obtain ⟨bb, off, rfl, hbl, hce⟩ := HL.out (by omega)
      have hc0 : wr.cell? ⟨bb, off + k * 2, none⟩ = some (.string ⟨xs[k].i.toArray⟩) := (HBk.out.cell (by exact hbl)).trans (hce k hkn).1
      have hc1 : wr.cell? ⟨bb, off + k * 2 + 1, none⟩ = some (.int .i64 xs[k].q) := (HBk.out.cell (by exact hbl)).trans (hce k hkn).2
      have HC : Hid (∀ W, Calls Tryz.prog 99 #[.agg #[.string ⟨xs[k].i.toArray⟩, .int .i64 xs[k].q]] W (KP (.agg #[.string ⟨xs[k].i.toArray⟩, .int .i64 xs[k].q]) W)) := fun W => lotApart ⟨xs[k].i.toArray⟩ xs[k].q (HQ.out _ (List.getElem_mem hkn)) W
      have HTk : Hid (xs.take k ++ [xs[k]] = xs.take (k + 1)) := List.take_append_getElem hkn
      have hlk : (xs.take k).length ≤ 1000 := by rw [List.length_take]; omega
      clear hce
      generalize xs[k] = y at *
      generalize xs.take k = ys at *
      obtain ⟨zs, hzz⟩ : ∃ zs, xs.take (k + 1) = zs := ⟨_, rfl⟩
      rw [hzz] at HTk
      obtain ⟨v1, hv1⟩ : ∃ b, b = wr.alloc (.cells #[.string ⟨y.i.toArray⟩, .int .i64 y.q] 32) := ⟨_, rfl⟩
      have hO1 : v1.ownsRow (w.heap.size + 2) 32 2 u3 ys.length (lcells ys) := by rw [hv1]; exact own_below HOw.out (below_a _ _)
      have hX1 : Bx v1 w.heap.size (#[.int .i64 x0, .int .i64 x1, .string x2, .int .i64 x3, .slice (some ⟨bb, off, none⟩) xs.length xc]) 67 := by rw [hv1]; exact HXk.out.keep (below_a _ _)
      have hY1 : Bx v1 (w.heap.size + 1) #[.int .i64 0, .int .i64 0, .string ⟨#[]⟩, .int .i64 0, .slice none 0 0] 67 := by rw [hv1]; exact HYk.out.keep (below_a _ _)
      have hB1 : Below w.heap.size w v1 := by rw [hv1]; exact bt HBk.out (below_a _ _)
      have hs1 : w.heap.size + 2 ≤ v1.heap.size := by rw [hv1, size_a]; omega
      have hN1 : Bx v1 wr.heap.size #[.string ⟨y.i.toArray⟩, .int .i64 y.q] 32 := by rw [hv1]; exact Bx.new _ _ _
      have HO1 : Hid (v1.ownsRow (w.heap.size + 2) 32 2 u3 ys.length (lcells ys)) := hO1
      have HX1 : Hid (Bx v1 w.heap.size (#[.int .i64 x0, .int .i64 x1, .string x2, .int .i64 x3, .slice (some ⟨bb, off, none⟩) xs.length xc]) 67) := hX1
      have HY1 : Hid (Bx v1 (w.heap.size + 1) #[.int .i64 0, .int .i64 0, .string ⟨#[]⟩, .int .i64 0, .slice none 0 0] 67) := hY1
      have HB1 : Hid (Below w.heap.size w v1) := hB1
      have HN1 : Hid (Bx v1 wr.heap.size #[.string ⟨y.i.toArray⟩, .int .i64 y.q] 32) := hN1
      clear hO1 hX1 hY1 hB1 hN1 HOw HXk HYk HBk
      go_upto_region 5 with fail
      rw [← hv1]
      clear hv1
      have d0 : v1.cell? ⟨wr.heap.size, 0, none⟩ = some (.string ⟨y.i.toArray⟩) := HN1.out.cell 0
      have d1 : v1.cell? ⟨wr.heap.size, 1, none⟩ = some (.int .i64 y.q) := HN1.out.cell 1
      go_wp2_with fail
      refine (HC.out _).mono ?_
      rintro e w2 ⟨rfl, hb2⟩
      have HO2 : Hid (w2.ownsRow (w.heap.size + 2) 32 2 u3 ys.length (lcells ys)) := own_below HO1.out hb2.out
      have hs2 : w.heap.size + 2 ≤ w2.heap.size := Nat.le_trans hs1 hb2.out.size
      obtain ⟨v', w4, hr4, ho4, hg4⟩ := app_lot HO2.out hs2 y (by omega)
      have HR4 : Hid _ := hr4
      have hbw : Below (w.heap.size + 2) w2 w4 := ((Below.refl (w.heap.size + 2) w2).alloc hs2 _).grown hg4 (by rw [size_a]; omega) (fun j hj => (HO2.out.lt j hj).1)
      have HO4 : Hid (w4.ownsRow (w.heap.size + 2) 32 2 v' zs.length (lcells zs)) := by unfold Hid; rw [← HTk.out]; exact ho4
      have HX4 : Hid (Bx w4 w.heap.size (#[.int .i64 x0, .int .i64 x1, .string x2, .int .i64 x3, .slice (some ⟨bb, off, none⟩) xs.length xc]) 67) := (hbw.block _ (by omega)).trans (HX1.out.keep hb2.out)
      have HY4 : Hid (Bx w4 (w.heap.size + 1) #[.int .i64 0, .int .i64 0, .string ⟨#[]⟩, .int .i64 0, .slice none 0 0] 67) := (hbw.block _ (by omega)).trans (HY1.out.keep hb2.out)
      have HB4 : Hid (Below w.heap.size w w4) := (bt HB1.out hb2.out).trans (hbw.mono (by omega))
      have hs4 : w.heap.size + 2 ≤ w4.heap.size := Nat.le_trans hs2 hbw.size
      clear hr4 ho4 hg4 hbw hb2 HO2 HX1 HY1 HB1 HO1 HN1 d0 d1 HC
      go_wp2_with (at_builtin; refine Lib.wpList_append_run _ rfl _ _ 33 33 rfl _ _ rfl rfl _ w4 HR4.out ?_)
      exact ⟨⟨k + 1, by go_num, by omega, (by rw [hzz]; exact HO4.out), HX4.out, HY4.out, HB4.out, hs4⟩, by simp [Lib.intOf]; omega⟩
    · have hkz : ¬ (k : Int) < (xs.length : Int) := by omega
      have hOf : wr.ownsRow (w.heap.size + 2) 32 2 u3 xs.length (lcells xs) := by have := HOw.out; rw [List.take_of_length_le (by omega)] at this; exact this
      have HOf : Hid (wr.ownsRow (w.heap.size + 2) 32 2 u3 xs.length (lcells xs)) := hOf
      obtain ⟨fa, fc, hv, _⟩ := own_lts hOf
      subst hv
      clear hOf HOw
      have c2 : wr.cell? ⟨w.heap.size, 2, none⟩ = some (.string x2) := HXk.out.cell 2
      have c3 : wr.cell? ⟨w.heap.size, 3, none⟩ = some (.int .i64 x3) := HXk.out.cell 3
      go_wp2_with fail
      refine (HO.out _).mono ?_
      rintro e w2 ⟨rfl, hb2⟩
      have HX2 : Hid (Bx w2 w.heap.size #[.int .i64 x0, .int .i64 x1, .string x2, .int .i64 x3, .slice xa xs.length xc] 67) := HXk.out.keep hb2.out
      have HY2 : Hid (Bx w2 (w.heap.size + 1) #[.int .i64 0, .int .i64 0, .string ⟨#[]⟩, .int .i64 0, .slice none 0 0] 67) := HYk.out.keep hb2.out
      have HB2 : Hid (Below w.heap.size w w2) := bt HBk.out hb2.out
      have HO2 : Hid (w2.ownsRow (w.heap.size + 2) 32 2 (.slice fa xs.length fc) xs.length (lcells xs)) := own_below HOf.out hb2.out
      clear hb2 HXk HYk HBk HOf c2 c3 HO
      have e2 : w2.cell? ⟨w.heap.size, 2, none⟩ = some (.string x2) := HX2.out.cell 2
      have e3 : w2.cell? ⟨w.heap.size, 3, none⟩ = some (.int .i64 x3) := HX2.out.cell 3
      have e4 : w2.cell? ⟨w.heap.size, 4, none⟩ = some (.slice xa xs.length xc) := HX2.out.cell 4
      have f2 := HX2.out.froz 2
      have f3 := HX2.out.froz 3
      have f4 := HX2.out.froz 4
      obtain ⟨w8, hw8⟩ : ∃ b, b = ((w2.setCell ⟨w.heap.size, 2, none⟩ (.string x2)).setCell ⟨w.heap.size, 3, none⟩ (.int .i64 x3)).setCell ⟨w.heap.size, 4, none⟩ (.slice fa xs.length fc) := ⟨_, rfl⟩
      have HX8 : Hid (Bx w8 w.heap.size #[.int .i64 x0, .int .i64 x1, .string x2, .int .i64 x3, .slice fa xs.length fc] 67) := by unfold Hid; rw [hw8]; exact ((HX2.out.cellSet (k := 2) (.string x2)).cellSet (k := 3) (.int .i64 x3)).cellSet (k := 4) (.slice fa xs.length fc)
      have HY8 : Hid (Bx w8 (w.heap.size + 1) #[.int .i64 0, .int .i64 0, .string ⟨#[]⟩, .int .i64 0, .slice none 0 0] 67) := by unfold Hid; rw [hw8]; exact ((HY2.out.cellOther (by omega) _).cellOther (by omega) _).cellOther (by omega) _
      have hbt : Bt w.heap.size w2 w8 := by rw [hw8]; exact ((Bt.set _ _ _ _).trans (Bt.set _ _ _ _)).trans (Bt.set _ _ _ _)
      have HO8 : Hid (w8.ownsRow (w.heap.size + 2) 32 2 (.slice fa xs.length fc) xs.length (lcells xs)) := own_bt HO2.out (by omega) hbt
      have HB8 : Hid (Below w.heap.size w w8) := HB2.out.trans (hbt.below (Nat.le_refl _) HB2.out.size)
      have HLD : Hid ((Instr.loadAt 67 (.pointer (some ⟨w.heap.size, 0, none⟩))).run Tryz.prog w8 = .ok (.agg #[.int .i64 x0, .int .i64 x1, .string x2, .int .i64 x3, .slice fa xs.length fc]) w8) := by
        have h := loadR67 w8 w.heap.size _ HX8.out rfl
        simp only [Instr.loadAt, Instr.sureAddr, asAddr, Sem.run_bind, Sem.run_pure, Result.andThen_ok]
        exact h
      have HST : Hid ((Instr.storeAt 67 (.pointer (some ⟨w.heap.size + 1, 0, none⟩)) (.agg #[.int .i64 x0, .int .i64 x1, .string x2, .int .i64 x3, .slice fa xs.length fc])).run Tryz.prog w8 = .ok () (w8.setRow (w.heap.size + 1) #[.int .i64 x0, .int .i64 x1, .string x2, .int .i64 x3, .slice fa xs.length fc])) := storeT _ _ _ _ info67 HY8.out rfl rfl (by simp [Value.oneCell'])
      have hld := loadR67 (w8.setRow (w.heap.size + 1) #[.int .i64 x0, .int .i64 x1, .string x2, .int .i64 x3, .slice fa xs.length fc]) (w.heap.size + 1) #[.int .i64 x0, .int .i64 x1, .string x2, .int .i64 x3, .slice fa xs.length fc] HY8.out.set rfl
      have HB9 : Hid (Below w.heap.size w (w8.setRow (w.heap.size + 1) #[.int .i64 x0, .int .i64 x1, .string x2, .int .i64 x3, .slice fa xs.length fc])) := below_setRow' HB8.out (by omega)
      have hO9 : (w8.setRow (w.heap.size + 1) #[.int .i64 x0, .int .i64 x1, .string x2, .int .i64 x3, .slice fa xs.length fc]).ownsRow (w.heap.size + 2) 32 2 (.slice fa xs.length fc) xs.length (lcells xs) := own_setRow HO8.out (by omega)
      have HL9 : Hid ((w8.setRow (w.heap.size + 1) #[.int .i64 x0, .int .i64 x1, .string x2, .int .i64 x3, .slice fa xs.length fc]).ownsRow w.heap.size 32 2 (.slice fa xs.length fc) xs.length (lcells xs)) := own_mono hO9 (by omega)
      clear hO9 hbt HX2 HY2 HB2 HO2 HX8 HY8 HO8 HB8
      go_upto_region 8 with fail
      rw [← hw8]
      clear hw8 e2 e3 e4 f2 f3 f4
      go_wp2_with (first | (guard_target =~ wpList _ _ _ (⟨_, Op.load 67 _, _, _, _, _⟩ :: _) _ _; refine wl_load _ rfl 67 _ rfl _ rfl _ HLD.out ?_; go_simp) | (guard_target =~ wpList _ _ _ (⟨_, Op.store 67 _ _, _, _, _, _⟩ :: _) _ _; refine wl_store _ _ rfl 67 _ _ rfl _ _ rfl rfl HST.out ?_; go_simp))
      refine bodyPost_ret (res_cell _ _ 2 67 _ _ _ rfl rfl hld) rfl ?_
      exact ⟨fa, fc, rfl, HL9.out, HB9.out⟩
def AsP (x0 x1 : Int) (x2 : ByteArray) (x3 : Int) (xs : List Lt) (g : Bool) (w : World) (e : Ending) (w' : World) : Prop := ∃ a c, e = .returned (.tuple #[.agg #[.int .i64 x0, .int .i64 x1, .string x2, .int .i64 x3, .slice a xs.length c], .bool g]) ∧ Hid (w'.ownsRow w.heap.size 32 2 (.slice a xs.length c) xs.length (lcells xs)) ∧ Hid (Below w.heap.size w w')
set_option maxHeartbeats 4000000 in
theorem asSwap (V : Value) (x0 x1 : Int) (x2 : ByteArray) (x3 : Int) (xs : List Lt) (xa : Option Addr) (xc : Nat) (g : Bool) (t : ∀ w, (Instr.typeAssert V 39 67 true).run Tryz.prog w = .ok (.tuple #[.agg #[.int .i64 x0, .int .i64 x1, .string x2, .int .i64 x3, .slice xa xs.length xc], .bool g]) w) (w : World) (hL : Lts w.heap.size w xa xs) (h2 : x2.size ≤ 281474976710656) (hq : ∀ y ∈ xs, y.i.length ≤ 281474976710656) (hn : xs.length ≤ 1000) : Calls Tryz.prog 26 #[V] w (AsP x0 x1 x2 x3 xs g w) := by
  have HC : Hid (∀ W, Calls Tryz.prog 66 #[V] W (KP (.tuple #[.agg #[.int .i64 x0, .int .i64 x1, .string x2, .int .i64 x3, .slice xa xs.length xc], .bool g]) W)) := fun W => asSwap66 V x0 x1 x2 x3 xa xs.length xc g t W
  have HA : Hid (∀ W, Below w.heap.size w W → Calls Tryz.prog 67 #[.agg #[.int .i64 x0, .int .i64 x1, .string x2, .int .i64 x3, .slice xa xs.length xc]] W (ApP x0 x1 x2 x3 xs W)) := fun W hb => xapart x0 x1 x2 x3 xs xa xc W ((hL.keep hb).mono hb.size) h2 hq hn
  have HX0 : Hid (Bx (w.alloc (.cells #[.int .i64 0, .int .i64 0, .string ⟨#[]⟩, .int .i64 0, .slice none 0 0] 67)) w.heap.size #[.int .i64 0, .int .i64 0, .string ⟨#[]⟩, .int .i64 0, .slice none 0 0] 67) := Bx.new _ _ _
  have HB0 : Hid (Below w.heap.size w (w.alloc (.cells #[.int .i64 0, .int .i64 0, .string ⟨#[]⟩, .int .i64 0, .slice none 0 0] 67))) := below_a w _
  clear t hL h2 hq
  go_enter Tryz.func26, Tryz.ntmps26
  go_upto_region 1 with fail
  generalize w.alloc (.cells #[.int .i64 0, .int .i64 0, .string ⟨#[]⟩, .int .i64 0, .slice none 0 0] 67) = w1 at *
  go_wp2_with fail
  refine (HC.out _).mono ?_
  rintro e w2 ⟨rfl, hb2⟩
  have HX2 : Hid (Bx (w2.alloc (.cells #[.int .i64 x0, .int .i64 x1, .string x2, .int .i64 x3, .slice xa xs.length xc] 67)) w.heap.size #[.int .i64 0, .int .i64 0, .string ⟨#[]⟩, .int .i64 0, .slice none 0 0] 67) := (HX0.out.keep hb2.out).keep (below_a _ _)
  have HB2 : Hid (Below w.heap.size w (w2.alloc (.cells #[.int .i64 x0, .int .i64 x1, .string x2, .int .i64 x3, .slice xa xs.length xc] 67))) := bt (bt HB0.out hb2.out) (below_a _ _)
  clear hb2 HX0 HB0
  go_wp2_with fail
  refine (HA.out _ HB2.out).mono ?_
  rintro e w3 ⟨a, c, rfl, HO3, hb3⟩
  have HX3 : Hid (Bx w3 w.heap.size #[.int .i64 0, .int .i64 0, .string ⟨#[]⟩, .int .i64 0, .slice none 0 0] 67) := HX2.out.keep hb3.out
  have hlt : w.heap.size < (w2.alloc (.cells #[.int .i64 x0, .int .i64 x1, .string x2, .int .i64 x3, .slice xa xs.length xc] 67)).heap.size := HX2.out.lt
  have HST : Hid ((Instr.storeAt 67 (.pointer (some ⟨w.heap.size, 0, none⟩)) (.agg #[.int .i64 x0, .int .i64 x1, .string x2, .int .i64 x3, .slice a xs.length c])).run Tryz.prog w3 = .ok () (w3.setRow w.heap.size #[.int .i64 x0, .int .i64 x1, .string x2, .int .i64 x3, .slice a xs.length c])) := storeT _ _ _ _ info67 HX3.out rfl rfl (by simp [Value.oneCell'])
  have hld := loadR67 (w3.setRow w.heap.size #[.int .i64 x0, .int .i64 x1, .string x2, .int .i64 x3, .slice a xs.length c]) w.heap.size #[.int .i64 x0, .int .i64 x1, .string x2, .int .i64 x3, .slice a xs.length c] HX3.out.set rfl
  have HB4 : Hid (Below w.heap.size w (w3.setRow w.heap.size #[.int .i64 x0, .int .i64 x1, .string x2, .int .i64 x3, .slice a xs.length c])) := below_setRow' (bt HB2.out hb3.out) (Nat.le_refl _)
  have HO4 : Hid ((w3.setRow w.heap.size #[.int .i64 x0, .int .i64 x1, .string x2, .int .i64 x3, .slice a xs.length c]).ownsRow w.heap.size 32 2 (.slice a xs.length c) xs.length (lcells xs)) := own_mono (own_setRow HO3.out hlt) (Nat.le_of_lt hlt)
  clear hb3 HX2 HB2 HX3 HO3 hlt
  go_wp2_with (guard_target =~ wpList _ _ _ (⟨_, Op.store 67 _ _, _, _, _, _⟩ :: _) _ _; refine wl_store _ _ rfl 67 _ _ rfl _ _ rfl rfl HST.out ?_; go_simp)
  refine bodyPost_ret (res_cell2 _ _ 2 67 3 _ _ _ _ rfl rfl rfl hld) rfl ?_
  exact ⟨a, c, rfl, HO4, HB4⟩
set_option maxHeartbeats 4000000 in
theorem mustSwap (x0 x1 : Int) (x2 : ByteArray) (x3 : Int) (xs : List Lt) (xa : Option Addr) (xc : Nat) (w : World) (hL : Lts w.heap.size w xa xs) (h2 : x2.size ≤ 281474976710656) (hq : ∀ y ∈ xs, y.i.length ≤ 281474976710656) (hn : xs.length ≤ 1000) : Calls Tryz.prog 28 #[.iface 67 (.agg #[.int .i64 x0, .int .i64 x1, .string x2, .int .i64 x3, .slice xa xs.length xc])] w (ApP x0 x1 x2 x3 xs w) := by
  have HA : Hid (∀ W, Below w.heap.size w W → Calls Tryz.prog 67 #[.agg #[.int .i64 x0, .int .i64 x1, .string x2, .int .i64 x3, .slice xa xs.length xc]] W (ApP x0 x1 x2 x3 xs W)) := fun W hb => xapart x0 x1 x2 x3 xs xa xc W ((hL.keep hb).mono hb.size) h2 hq hn
  have HX0 : Hid (Bx (w.alloc (.cells #[.int .i64 0, .int .i64 0, .string ⟨#[]⟩, .int .i64 0, .slice none 0 0] 67)) w.heap.size #[.int .i64 0, .int .i64 0, .string ⟨#[]⟩, .int .i64 0, .slice none 0 0] 67) := Bx.new _ _ _
  have HB0 : Hid (Below w.heap.size w (w.alloc (.cells #[.int .i64 0, .int .i64 0, .string ⟨#[]⟩, .int .i64 0, .slice none 0 0] 67))) := below_a w _
  clear hL h2 hq
  go_enter Tryz.func28, Tryz.ntmps28
  go_upto_region 1 with fail
  generalize w.alloc (.cells #[.int .i64 0, .int .i64 0, .string ⟨#[]⟩, .int .i64 0, .slice none 0 0] 67) = w1 at *
  go_wp2_with fail
  refine (mustSwap69 x0 x1 x2 x3 xa xs.length xc _).mono ?_
  rintro e w2 ⟨rfl, hb2⟩
  have HX2 : Hid (Bx w2 w.heap.size #[.int .i64 0, .int .i64 0, .string ⟨#[]⟩, .int .i64 0, .slice none 0 0] 67) := HX0.out.keep hb2.out
  have HB2 : Hid (Below w.heap.size w w2) := bt HB0.out hb2.out
  clear hb2 HX0 HB0
  go_wp2_with fail
  refine (HA.out _ HB2.out).mono ?_
  rintro e w3 ⟨a, c, rfl, HO3, hb3⟩
  have HX3 : Hid (Bx w3 w.heap.size #[.int .i64 0, .int .i64 0, .string ⟨#[]⟩, .int .i64 0, .slice none 0 0] 67) := HX2.out.keep hb3.out
  have hlt : w.heap.size < w2.heap.size := HX2.out.lt
  have HST : Hid ((Instr.storeAt 67 (.pointer (some ⟨w.heap.size, 0, none⟩)) (.agg #[.int .i64 x0, .int .i64 x1, .string x2, .int .i64 x3, .slice a xs.length c])).run Tryz.prog w3 = .ok () (w3.setRow w.heap.size #[.int .i64 x0, .int .i64 x1, .string x2, .int .i64 x3, .slice a xs.length c])) := storeT _ _ _ _ info67 HX3.out rfl rfl (by simp [Value.oneCell'])
  have hld := loadR67 (w3.setRow w.heap.size #[.int .i64 x0, .int .i64 x1, .string x2, .int .i64 x3, .slice a xs.length c]) w.heap.size #[.int .i64 x0, .int .i64 x1, .string x2, .int .i64 x3, .slice a xs.length c] HX3.out.set rfl
  have HB4 : Hid (Below w.heap.size w (w3.setRow w.heap.size #[.int .i64 x0, .int .i64 x1, .string x2, .int .i64 x3, .slice a xs.length c])) := below_setRow' (bt HB2.out hb3.out) (Nat.le_refl _)
  have HO4 : Hid ((w3.setRow w.heap.size #[.int .i64 x0, .int .i64 x1, .string x2, .int .i64 x3, .slice a xs.length c]).ownsRow w.heap.size 32 2 (.slice a xs.length c) xs.length (lcells xs)) := own_mono (own_setRow HO3.out hlt) (Nat.le_of_lt hlt)
  clear hb3 HX2 HB2 HX3 HO3 hlt
  go_wp2_with (guard_target =~ wpList _ _ _ (⟨_, Op.store 67 _ _, _, _, _, _⟩ :: _) _ _; refine wl_store _ _ rfl 67 _ _ rfl _ _ rfl rfl HST.out ?_; go_simp)
  refine bodyPost_ret (res_cell _ _ 2 67 _ _ _ rfl rfl hld) rfl ?_
  exact ⟨a, c, rfl, HO4, HB4⟩
end Go.Proofs.YtdmlgheajblcdaaGreat
