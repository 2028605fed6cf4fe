/- layer 12: lots of a book -/
import Derived.Test.YtbfnfebmmhhegaaCW
import Derived.Test.YtbfnfebmmhhegaaCN
import Derived.WalkKit
import Derived.ProofKit
import Derived.Handy
import Derived.WalkLawsBesides
import Derived.WalkSpells
import Derived.BigQuiet
import Derived.BigCall
import Derived.Deep.QuietTactic
import Derived.Deep.Light
import Derived.Deep.OwnRows
import Derived.Laws.AppendOwnNone
import Derived.Laws.Strings3
import Derived.Laws.RangeAny
import Derived.Deep.RegionWith
import Derived.Lib.BitFns
import Derived.Lib.Walk
import Derived.Lib.Strings
import Derived.Lib.OthersKept
import Derived.Deep.CutBlock
import Derived.Deep.DeepCutAuto
import Derived.Deep.LoopGhost
import Derived.Deep.RegionHeld3
import Derived.Lib.SmallJoins
import Derived.Maps.AppendAt
import Derived.Laws.IdiomStrings
import Derived.Lib.AppendZeros
import Derived.Deep.WholeRow
import Derived.Laws.BitsAllLaws
import Derived.Lib.ConvBytes
import Derived.Deep.RegionLaw
import Derived.Maps.OwnSet
import Derived.Maps.OwnOps
import Derived.Maps.RangeWalk
import Derived.Maps.Ext
import Derived.DeepKeys4
import Derived.Laws.StructEq
import Derived.Shelf.SlSortCmp.NoneTotal
import Derived.Deep.MidRow
import Derived.Laws.MakeOwn
import Derived.Sort.OwnSorted
import Derived.Lib.SlicesCompact
import Derived.Lib.RowBridge
namespace Go.Proofs.Ytbfnfebmmhhegaa
open Go.RowKit
set_option linter.unusedVariables false
set_option linter.unusedSimpArgs false
set_option maxRecDepth 20000
theorem info64 : (Try.prog.info? 64).map (fun i => (i.zero, i.size, i.bytes)) = some (some (.agg #[.string ⟨#[]⟩, .int .i64 0]), 2, 24) := by kernel_rfl
def isLot (mem book : Int) (p : Num.Bal) : Bool := decide (p.1.1 = mem ∧ p.1.2.1 = book ∧ 3 < p.1.2.2.length)
/-- what a book has, but for cash -/
def lotsOf (mem book : Int) (L : List Num.Bal) : List Lot := (L.filter (isLot mem book)).map fun p => (S p.1.2.2, p.2)
def lotsB (mem book : Int) (L : List Num.Bal) : List Lot := if wrm mem book = true then [] else lotsOf mem book L
theorem lots_yes {mem book : Int} {L : List Num.Bal} {k : Nat} (h : k < L.length) (c : isLot mem book L[k] = true) : lotsOf mem book (L.take (k + 1)) = lotsOf mem book (L.take k) ++ [(S L[k].1.2.2, L[k].2)] := by
  unfold lotsOf
  rw [← List.take_append_getElem h, List.filter_append, List.map_append]
  simp [c]
theorem lots_no {mem book : Int} {L : List Num.Bal} {k : Nat} (h : k < L.length) (c : isLot mem book L[k] = false) : lotsOf mem book (L.take (k + 1)) = lotsOf mem book (L.take k) := by
  unfold lotsOf
  rw [← List.take_append_getElem h, List.filter_append, List.map_append]
  simp [c]
theorem lots_len (mem book : Int) (L : List Num.Bal) : (lotsOf mem book L).length ≤ L.length := by
  unfold lotsOf
  rw [List.length_map]
  exact List.length_filter_le _ _
theorem lots_take (mem book : Int) (L : List Num.Bal) (k : Nat) : (lotsOf mem book (L.take k)).length ≤ k := by
  have := lots_len mem book (L.take k)
  rw [List.length_take] at this
  omega
theorem lotc_len (x : Lot) : (lotc x).length = 2 := rfl
def LoP (ys : List Lot) (w : World) (e : Ending) (w' : World) : Prop := ∃ v, e = .returned v ∧ w'.ownsRow w.heap.size 64 2 v ys.length (rcs lotc ys) ∧ Below w.heap.size w w'
/-- one lot more -/
theorem app_lot {w W : World} {v : Value} {ys : List Lot} (h : W.ownsRow w.heap.size 64 2 v ys.length (rcs lotc ys)) (hb : Below w.heap.size w W) (hy : ys.length ≤ 2000000) (s : ByteArray) (q : Int) :
    ∃ v' w6, (Builtin.append_ #[28, 28] 28 #[v, .slice (some ⟨W.heap.size, 0, none⟩) 1 1]).run Try.prog (W.alloc (.cells #[.string s, .int .i64 q] 64)) = .ok v' w6 ∧ w6.ownsRow w.heap.size 64 2 v' (ys ++ [(s, q)]).length (rcs lotc (ys ++ [(s, q)])) ∧ Below w.heap.size w w6 ∧ (W.alloc (.cells #[.string s, .int .i64 q] 64)).grownBy w6 v.ownBlock := by
  obtain ⟨v', w6, hr6, ho6, hg6⟩ := app_gen (T := 64) (Sl := 28) (k := 2) (bytes := 24) Try.underlying28 info64 rfl (by omega) [.string s, .int .i64 q] rfl (by intro u hu; simp at hu; rcases hu with rfl | rfl <;> rfl) h hb.size (by omega) (by unfold maxLen; omega)
  refine ⟨v', w6, hr6, ?_, (hb.alloc hb.size _).grown hg6 (by have := hb.size; simp; omega) (fun j hj => (h.lt j hj).1), hg6⟩
  rw [rcs_snoc, List.length_append]
  exact ho6
set_option maxHeartbeats 16000000 in
theorem xclots (c q m : Nat) (L : List Num.Bal) (hl : L.length ≤ 1000000) (hb : ∀ p ∈ L, p.1.2.2.length ≤ 281474976710656) (mem book : Int) (w : World) (h : Cu w c q m L) : Calls Try.prog 19 #[.pointer (some ⟨c, 0, none⟩), .int .i64 mem, .int .i64 book] w (LoP (lotsB mem book L) w) := by
  have HK : Hid (Calls Try.prog 43 #[.int .i64 mem, .int .i64 book] w fun e w' => e = .returned (.bool (!(wrm mem book))) ∧ w = w') := xbook mem book w
  unfold lotsB
  cases hw : wrm mem book
  · rw [hw] at HK
    have HK2 : Hid (Calls Try.prog 43 #[.int .i64 mem, .int .i64 book] w fun e w' => e = .returned (.bool true) ∧ w = w') := HK
    rw [if_neg (by decide)]
    have HA : Hid (Calls Try.prog 34 #[.pointer (some ⟨c, 0, none⟩)] w (AllP L w)) := xcall c q m L hl hb w h
    have hl' : (L.length : Int) ≤ 1000000 := by omega
    clear h hb hw HK
    go_enter Try.func19, Try.ntmps19
    go_wp2_with (first | (go_at_call 43; refine HK2.out.mono ?_; rintro e w1 ⟨rfl, rfl⟩; clear HK2) | (go_at_call 34; refine HA.out.mono ?_; rintro e w1 ⟨a, cap, rfl, hcap, HBs⟩; clear HA))
    go_loopw [7, 18] (fun v i wr => ∃ k : Nat, k ≤ L.length ∧ i = .int .i64 k ∧ Hid (wr.ownsRow w1.heap.size 64 2 v (lotsOf mem book (L.take k)).length (rcs lotc (lotsOf mem book (L.take k))) ∧ Below w1.heap.size w1 wr))
      (fun _ i _ => L.length - (intOf i).toNat)
    case atStart => exact ⟨0, Nat.zero_le _, rfl, World.ownsRow_nil _ _ _ _, Below.refl _ _⟩
    case round =>
      obtain ⟨k, hk, rfl, HR⟩ := hrel
      by_cases hkn : k < L.length
      · have hkz : (k : Int) < (L.length : Int) := by omega
        obtain ⟨blk, off, rfl, hbl, hcs⟩ := HBs.out.1 (by omega)
        have hc4 := hcs k hkn
        have HYS : Hid (isLot mem book L[k] = true → lotsOf mem book (L.take (k + 1)) = lotsOf mem book (L.take k) ++ [(S L[k].1.2.2, L[k].2)]) := fun c => lots_yes hkn c
        have HNO : Hid (isLot mem book L[k] = false → lotsOf mem book (L.take (k + 1)) = lotsOf mem book (L.take k)) := fun c => lots_no hkn c
        have hyl := lots_take mem book L k
        generalize L[k] = x at *
        obtain ⟨⟨o, b, t⟩, n⟩ := x
        obtain ⟨s, hs⟩ : ∃ s, s = S t := ⟨_, rfl⟩
        have hss : (s.size : Int) = (t.length : Int) := by rw [hs, S_size]
        have hxs : bcs ((o, b, t), n) = [.int .i64 o, .int .i64 b, .string s, .int .i64 n] := by rw [hs]; rfl
        rw [hxs] at hc4
        simp only at HYS
        rw [← hs] at HYS
        have hcc (i : Nat) (h : i < 4) : wr.cell? ⟨blk, off + k * 4 + i, none⟩ = _ := (HR.out.2.cell (p := ⟨blk, off + k * 4 + i, none⟩) hbl).trans (hc4 i h)
        have c0 : wr.cell? ⟨blk, off + k * 4, none⟩ = some (.int .i64 o) := hcc 0 (by omega)
        have c1 : wr.cell? ⟨blk, off + k * 4 + 1, none⟩ = some (.int .i64 b) := hcc 1 (by omega)
        have c2 : wr.cell? ⟨blk, off + k * 4 + 2, none⟩ = some (.string s) := hcc 2 (by omega)
        have c3 : wr.cell? ⟨blk, off + k * 4 + 3, none⟩ = some (.int .i64 n) := hcc 3 (by omega)
        obtain ⟨w5, hw5⟩ : ∃ w5, w5 = (wr.alloc (.cells #[.int .i64 o, .int .i64 b, .string s, .int .i64 n] 71)).alloc (.cells #[.int .i64 o, .int .i64 b, .string s] 69) := ⟨_, rfl⟩
        have HW5 : Hid ((wr.alloc (.cells #[.int .i64 o, .int .i64 b, .string s, .int .i64 n] 71)).alloc (.cells #[.int .i64 o, .int .i64 b, .string s] 69) = w5) := hw5.symm
        have hB5 : Below wr.heap.size wr w5 := by rw [hw5]; exact ((Below.refl _ wr).alloc (Nat.le_refl _) _).alloc (by simp) _
        have hX5 : Bx w5 wr.heap.size #[.int .i64 o, .int .i64 b, .string s, .int .i64 n] 71 := by rw [hw5]; exact (Bx.new wr _ _).kept (grown_alloc _ _ none) (by simp)
        have hX6 : Bx w5 (wr.heap.size + 1) #[.int .i64 o, .int .i64 b, .string s] 69 := by
          rw [hw5]
          have := Bx.new (wr.alloc (.cells #[.int .i64 o, .int .i64 b, .string s, .int .i64 n] 71)) #[.int .i64 o, .int .i64 b, .string s] 69
          rw [World.size_alloc] at this
          exact this
        have z3 : w5.cell? ⟨wr.heap.size, 3, none⟩ = some (.int .i64 n) := hX5.cell 3
        have y0 : w5.cell? ⟨wr.heap.size + 1, 0, none⟩ = some (.int .i64 o) := hX6.cell 0
        have y1 : w5.cell? ⟨wr.heap.size + 1, 1, none⟩ = some (.int .i64 b) := hX6.cell 1
        have y2 : w5.cell? ⟨wr.heap.size + 1, 2, none⟩ = some (.string s) := hX6.cell 2
        have hO5 := own_below HR.out.1 hB5
        have hB15 : Below w1.heap.size w1 w5 := HR.out.2.trans (hB5.mono HR.out.2.size)
        have HKEEP : Hid (isLot mem book ((o, b, t), n) = false → w5.ownsRow w1.heap.size 64 2 u7 (lotsOf mem book (L.take (k + 1))).length (rcs lotc (lotsOf mem book (L.take (k + 1)))) ∧ Below w1.heap.size w1 w5) := fun c => by
          rw [HNO.out c]
          exact ⟨hO5, hB15⟩
        by_cases hal : o = mem ∧ b = book ∧ 3 < t.length
        · have e1 : (o == mem) = true := by simp [hal.1]
          have e2 : (b == book) = true := by simp [hal.2.1]
          have e3 : (3 : Int) < (s.size : Int) := by omega
          have hlt : isLot mem book ((o, b, t), n) = true := by unfold isLot; exact decide_eq_true hal
          obtain ⟨v', w6, hr6, ho6, hb6, -⟩ := app_lot hO5 hB15 (by omega) s n
          have HZ : Hid (w6.ownsRow w1.heap.size 64 2 v' (lotsOf mem book (L.take (k + 1))).length (rcs lotc (lotsOf mem book (L.take (k + 1)))) ∧ Below w1.heap.size w1 w6) := by
            rw [HYS.out hlt]
            exact ⟨ho6, hb6⟩
          clear hc4 hcs hcc hs hxs hw5 hB5 hX5 hX6 hO5 hB15 ho6 hb6 HR HYS HNO HKEEP hal hlt hss hyl
          go_upto_region 8 with fail
          rw [HW5.out]
          clear HW5
          go_wp2_with (at_builtin; refine Lib.wpList_append_run _ rfl _ _ 28 28 rfl _ _ rfl rfl _ w6 hr6 ?_)
          go_roundw
          case rel => exact ⟨k + 1, by omega, by simp, HZ.out⟩
          case measure => simp [intOf]; omega
        · have hlt : isLot mem book ((o, b, t), n) = false := by unfold isLot; exact decide_eq_false hal
          have HZ : Hid (w5.ownsRow w1.heap.size 64 2 u7 (lotsOf mem book (L.take (k + 1))).length (rcs lotc (lotsOf mem book (L.take (k + 1)))) ∧ Below w1.heap.size w1 w5) := HKEEP.out hlt
          clear hc4 hcs hcc hs hxs hw5 hB5 hX5 hX6 hO5 hB15 HR HYS HNO HKEEP hlt hyl
          by_cases ho : o = mem
          · have e1 : (o == mem) = true := by simp [ho]
            by_cases hb2 : b = book
            · have e2 : (b == book) = true := by simp [hb2]
              have e3 : ¬ (3 : Int) < (s.size : Int) := by
                intro hh
                exact hal ⟨ho, hb2, by omega⟩
              clear hal ho hb2 hss
              go_upto_region 8 with fail
              rw [HW5.out]
              clear HW5
              go_wp2_with fail
              go_roundw
              case rel => exact ⟨k + 1, by omega, by simp, HZ.out⟩
              case measure => simp [intOf]; omega
            · have e2 : (b == book) = false := by simp [hb2]
              clear hal ho hb2 hss
              go_upto_region 8 with fail
              rw [HW5.out]
              clear HW5
              go_wp2_with fail
              go_roundw
              case rel => exact ⟨k + 1, by omega, by simp, HZ.out⟩
              case measure => simp [intOf]; omega
          · have e1 : (o == mem) = false := by simp [ho]
            clear hal ho hss
            go_upto_region 8 with fail
            rw [HW5.out]
            clear HW5
            go_wp2_with fail
            go_roundw
            case rel => exact ⟨k + 1, by omega, by simp, HZ.out⟩
            case measure => simp [intOf]; omega
      · have hkz : ¬ (k : Int) < (L.length : Int) := by omega
        have HF : Hid (LoP (lotsOf mem book L) w (.returned u7) wr) := by
          have hr := HR.out
          rw [List.take_of_length_le (by omega)] at hr
          exact ⟨u7, rfl, own_mono hr.1 HBs.out.2.size, HBs.out.2.trans (hr.2.mono HBs.out.2.size)⟩
        go_wp2_with fail
        go_ret
        exact HF.out
  · rw [hw] at HK
    have HK2 : Hid (Calls Try.prog 43 #[.int .i64 mem, .int .i64 book] w fun e w' => e = .returned (.bool false) ∧ w = w') := HK
    rw [if_pos rfl]
    have HF : Hid (LoP [] w (.returned (.slice none 0 0)) w) := ⟨_, rfl, World.ownsRow_nil _ _ _ _, Below.refl _ _⟩
    clear h hb hw HK
    go_enter Try.func19, Try.ntmps19
    go_wp2_with (go_at_call 43; refine HK2.out.mono ?_; rintro e w1 ⟨rfl, rfl⟩; clear HK2)
    go_ret
    exact HF.out
set_option maxHeartbeats 16000000 in
theorem rlotsB (L : List Num.Bal) (hl : L.length ≤ 1000000) (a : Option Addr) (cap : Nat) (mem book : Int) (w : World) (h : Bs w a L) : Calls Try.prog 20 #[.slice a L.length cap, .int .i64 mem, .int .i64 book] w (LoP (lotsB mem book L) w) := by
  have HW : Hid (∀ W, Calls Try.prog 44 #[.int .i64 mem, .int .i64 book] W fun e w' => e = .returned (.bool (wrm mem book)) ∧ W = w') := rwrm mem book
  have HBs : Hid (Bs w a L) := h
  have hl' : (L.length : Int) ≤ 1000000 := by omega
  unfold lotsB
  clear h
  cases hw : wrm mem book
  · rw [hw] at HW
    rw [if_neg (by decide)]
    clear hw
    go_enter Try.func20, Try.ntmps20
    go_wp2_with fail
    go_loopw [7, 8] (fun v i wr => ∃ k : Nat, k ≤ L.length ∧ i = .int .i64 k ∧ Hid (wr.ownsRow w.heap.size 64 2 v (lotsOf mem book (L.take k)).length (rcs lotc (lotsOf mem book (L.take k))) ∧ Below w.heap.size w wr))
      (fun _ i _ => L.length - (intOf i).toNat)
    case atStart => exact ⟨0, Nat.zero_le _, rfl, World.ownsRow_nil _ _ _ _, Below.refl _ _⟩
    case round =>
      obtain ⟨k, hk, rfl, HR⟩ := hrel
      by_cases hkn : k < L.length
      · have hkz : (k : Int) < (L.length : Int) := by omega
        obtain ⟨blk, off, rfl, hbl, hcs⟩ := HBs.out (by omega)
        have hc4 := hcs k hkn
        have HYS : Hid (isLot mem book L[k] = true → lotsOf mem book (L.take (k + 1)) = lotsOf mem book (L.take k) ++ [(S L[k].1.2.2, L[k].2)]) := fun c => lots_yes hkn c
        have HNO : Hid (isLot mem book L[k] = false → lotsOf mem book (L.take (k + 1)) = lotsOf mem book (L.take k)) := fun c => lots_no hkn c
        have hyl := lots_take mem book L k
        generalize L[k] = x at *
        obtain ⟨⟨o, b, t⟩, n⟩ := x
        obtain ⟨s, hs⟩ : ∃ s, s = S t := ⟨_, rfl⟩
        have hss : (s.size : Int) = (t.length : Int) := by rw [hs, S_size]
        have hxs : bcs ((o, b, t), n) = [.int .i64 o, .int .i64 b, .string s, .int .i64 n] := by rw [hs]; rfl
        rw [hxs] at hc4
        simp only at HYS
        rw [← hs] at HYS
        have hcc (i : Nat) (h : i < 4) : wr.cell? ⟨blk, off + k * 4 + i, none⟩ = _ := (HR.out.2.cell (p := ⟨blk, off + k * 4 + i, none⟩) hbl).trans (hc4 i h)
        have c0 : wr.cell? ⟨blk, off + k * 4, none⟩ = some (.int .i64 o) := hcc 0 (by omega)
        have c1 : wr.cell? ⟨blk, off + k * 4 + 1, none⟩ = some (.int .i64 b) := hcc 1 (by omega)
        have c2 : wr.cell? ⟨blk, off + k * 4 + 2, none⟩ = some (.string s) := hcc 2 (by omega)
        have c3w : w.cell? ⟨blk, off + k * 4 + 3, none⟩ = some (.int .i64 n) := hc4 3 (by omega)
        obtain ⟨w5, hw5⟩ : ∃ w5, w5 = wr.alloc (.cells #[.int .i64 o, .int .i64 b, .string s] 40) := ⟨_, rfl⟩
        have HW5 : Hid (wr.alloc (.cells #[.int .i64 o, .int .i64 b, .string s] 40) = w5) := hw5.symm
        have hB5 : Below wr.heap.size wr w5 := by rw [hw5]; exact (Below.refl _ wr).alloc (Nat.le_refl _) _
        have hX5 : Bx w5 wr.heap.size #[.int .i64 o, .int .i64 b, .string s] 40 := by rw [hw5]; exact Bx.new wr _ _
        have y0 : w5.cell? ⟨wr.heap.size, 0, none⟩ = some (.int .i64 o) := hX5.cell 0
        have y1 : w5.cell? ⟨wr.heap.size, 1, none⟩ = some (.int .i64 b) := hX5.cell 1
        have y2 : w5.cell? ⟨wr.heap.size, 2, none⟩ = some (.string s) := hX5.cell 2
        have hO5 := own_below HR.out.1 hB5
        have hB15 : Below w.heap.size w w5 := HR.out.2.trans (hB5.mono HR.out.2.size)
        have HKEEP : Hid (isLot mem book ((o, b, t), n) = false → w5.ownsRow w.heap.size 64 2 u7 (lotsOf mem book (L.take (k + 1))).length (rcs lotc (lotsOf mem book (L.take (k + 1)))) ∧ Below w.heap.size w w5) := fun c => by
          rw [HNO.out c]
          exact ⟨hO5, hB15⟩
        by_cases hal : o = mem ∧ b = book ∧ 3 < t.length
        · have e1 : (o == mem) = true := by simp [hal.1]
          have e2 : (b == book) = true := by simp [hal.2.1]
          have e3 : (3 : Int) < (s.size : Int) := by omega
          have hlt : isLot mem book ((o, b, t), n) = true := by unfold isLot; exact decide_eq_true hal
          have hob := fun e => (HR.out.1.lt wr.heap.size e).2
          clear hc4 hcs hcc hs hxs hw5 hal hss
          go_upto_region 6 with (go_at_call 44; refine (HW.out _).mono ?_; rintro e w2 ⟨rfl, rfl⟩)
          rw [HW5.out]
          clear HW5
          go_upto_region 7 with fail
          refine wp_region_held (S := fun W => Below w.heap.size w W ∧ Bx W wr.heap.size #[.int .i64 o, .int .i64 b, .string s] 40) (by kernel_rfl) ?_
          change wpAnyH _ _ _ _ _ 12 #[false, false, false, false, false, false, false, false, false, false, false, false] _ w5.drew
          have hD5 : Below w5.heap.size w5 w5.drew := ⟨rfl, rfl, rfl, Nat.le_refl _, fun _ _ => rfl⟩
          obtain ⟨v0, hv0⟩ : ∃ v, v = w5.drew := ⟨_, rfl⟩
          rw [← hv0] at hD5 ⊢
          clear hv0
          have hS0 : Below w.heap.size w v0 ∧ Bx v0 wr.heap.size #[.int .i64 o, .int .i64 b, .string s] 40 := ⟨hB15.trans (hD5.mono hB15.size), hX5.below hD5 hX5.lt⟩
          obtain ⟨v', w6, hr6, ho6, hb6, hg6⟩ := app_lot (own_below hO5 hD5) hS0.1 (by omega) s n
          have HZ : Hid (w6.ownsRow w.heap.size 64 2 v' (lotsOf mem book (L.take (k + 1))).length (rcs lotc (lotsOf mem book (L.take (k + 1)))) ∧ Below w.heap.size w w6) := by
            rw [HYS.out hlt]
            exact ⟨ho6, hb6⟩
          have hne : some wr.heap.size ≠ u7.ownBlock := fun e => by have := hob e.symm; omega
          have hS6 : Below w.heap.size w w6 ∧ Bx w6 wr.heap.size #[.int .i64 o, .int .i64 b, .string s] 40 := ⟨hb6, (hS0.2.kept (grown_alloc _ _ none) (by simp)).kept hg6 hne⟩
          refine takeR (fuel := 11) (i := 0) (v := u7) rfl (by kernel_rfl) (by kernel_rfl) (by kernel_rfl) (fun _ _ _ h => h) (Or.inl ⟨rfl, fun W hW => by go_simp⟩) hS0 ?_
          simp only [Act.put, List.setIfInBounds_toArray, List.set_cons_zero, List.set_cons_succ]
          refine takeR (fuel := 10) (i := 1) (v := .pointer (some ⟨wr.heap.size, 2, none⟩)) rfl (by kernel_rfl) (by kernel_rfl) (by kernel_rfl) (fun _ _ _ h => h) (Or.inl ⟨rfl, fun W hW => by go_simp⟩) hS0 ?_
          simp only [Act.put, List.setIfInBounds_toArray, List.set_cons_zero, List.set_cons_succ]
          refine takeR (fuel := 9) (i := 2) (v := .string s) rfl (by kernel_rfl) (by kernel_rfl) (by kernel_rfl) (fun _ _ _ h => h) (Or.inl ⟨rfl, fun W hW => by have cj : W.cell? ⟨wr.heap.size, 2, none⟩ = _ := hW.2.cell 2; go_simp⟩) hS0 ?_
          simp only [Act.put, List.setIfInBounds_toArray, List.set_cons_zero, List.set_cons_succ]
          refine takeR (fuel := 8) (i := 3) (v := .slice (some ⟨blk, off, none⟩) L.length cap) rfl (by kernel_rfl) (by kernel_rfl) (by kernel_rfl) (fun _ _ _ h => h) (Or.inl ⟨rfl, fun W hW => by go_simp⟩) hS0 ?_
          simp only [Act.put, List.setIfInBounds_toArray, List.set_cons_zero, List.set_cons_succ]
          refine takeR (fuel := 7) (i := 4) (v := .int .i64 k) rfl (by kernel_rfl) (by kernel_rfl) (by kernel_rfl) (fun _ _ _ h => h) (Or.inl ⟨rfl, fun W hW => by go_simp⟩) hS0 ?_
          simp only [Act.put, List.setIfInBounds_toArray, List.set_cons_zero, List.set_cons_succ]
          refine takeR (fuel := 6) (i := 5) (v := .pointer (some ⟨blk, off + k * 4, none⟩)) rfl (by kernel_rfl) (by kernel_rfl) (by kernel_rfl) (fun _ _ _ h => h) (Or.inl ⟨rfl, fun W hW => by go_simp⟩) hS0 ?_
          simp only [Act.put, List.setIfInBounds_toArray, List.set_cons_zero, List.set_cons_succ]
          refine takeR (fuel := 5) (i := 6) (v := .pointer (some ⟨blk, off + k * 4 + 3, none⟩)) rfl (by kernel_rfl) (by kernel_rfl) (by kernel_rfl) (fun _ _ _ h => h) (Or.inl ⟨rfl, fun W hW => by go_simp⟩) hS0 ?_
          simp only [Act.put, List.setIfInBounds_toArray, List.set_cons_zero, List.set_cons_succ]
          refine takeR (fuel := 4) (i := 7) (v := .int .i64 n) rfl (by kernel_rfl) (by kernel_rfl) (by kernel_rfl) (fun _ _ _ h => h) (Or.inl ⟨rfl, fun W hW => by have cj : W.cell? ⟨blk, off + k * 4 + 3, none⟩ = some (.int .i64 n) := (hW.1.cell (p := ⟨blk, _, none⟩) hbl).trans c3w; go_simp⟩) hS0 ?_
          simp only [Act.put, List.setIfInBounds_toArray, List.set_cons_zero, List.set_cons_succ]
          refine takeR (fuel := 3) (i := 8) (v := .agg #[.string s, .int .i64 n]) rfl (by kernel_rfl) (by kernel_rfl) (by kernel_rfl) (fun _ _ _ h => h) (Or.inl ⟨rfl, fun W hW => by go_simp⟩) hS0 ?_
          simp only [Act.put, List.setIfInBounds_toArray, List.set_cons_zero, List.set_cons_succ]
          refine consR (fuel := 2) (i := 9) rfl (by kernel_rfl) (fun K hK => ?_)
          rw [if_pos (by rfl)]
          go_simp
          refine hK.out _ _ ⟨hS0.1.alloc hS0.1.size _, hS0.2.kept (grown_alloc _ _ none) (by simp)⟩ (fun hS3 => ?_)
          clear hK
          try simp only [Act.put, List.setIfInBounds_toArray, List.set_cons_zero, List.set_cons_succ]
          refine consR (fuel := 1) (i := 10) rfl (by kernel_rfl) (fun K hK => ?_)
          rw [if_pos (by rfl)]
          refine Lib.wp_append_run _ _ _ 28 28 rfl _ _ rfl rfl _ w6 hr6 ?_
          refine hK.out _ _ hS6 (fun hS4 => ?_)
          clear hK
          try simp only [Act.put, List.setIfInBounds_toArray, List.set_cons_zero, List.set_cons_succ]
          refine takeR (fuel := 0) (i := 11) (v := v') rfl (by kernel_rfl) (by kernel_rfl) (by kernel_rfl) (fun _ _ _ h => h) (Or.inl ⟨rfl, fun W hW => by go_simp⟩) hS4 ?_
          simp only [Act.put, List.setIfInBounds_toArray, List.set_cons_zero, List.set_cons_succ]
          refine wpAnyH_done (by kernel_rfl) ?_ _
          go_wp2_with fail
          go_roundw
          case rel => exact ⟨k + 1, by omega, by simp, HZ.out⟩
          case measure => simp [intOf]; omega
        · have hlt : isLot mem book ((o, b, t), n) = false := by unfold isLot; exact decide_eq_false hal
          have HZ : Hid (w5.ownsRow w.heap.size 64 2 u7 (lotsOf mem book (L.take (k + 1))).length (rcs lotc (lotsOf mem book (L.take (k + 1)))) ∧ Below w.heap.size w w5) := HKEEP.out hlt
          clear hc4 hcs hcc hs hxs hw5 hB5 hX5 hO5 hB15 HR HYS HNO HKEEP hlt hyl
          by_cases ho : o = mem
          · have e1 : (o == mem) = true := by simp [ho]
            by_cases hb2 : b = book
            · have e2 : (b == book) = true := by simp [hb2]
              have e3 : ¬ (3 : Int) < (s.size : Int) := by
                intro hh
                exact hal ⟨ho, hb2, by omega⟩
              clear hal ho hb2 hss
              go_upto_region 6 with (go_at_call 44; refine (HW.out _).mono ?_; rintro e w2 ⟨rfl, rfl⟩)
              rw [HW5.out]
              clear HW5
              go_wp2_with fail
              go_roundw
              case rel => exact ⟨k + 1, by omega, by simp, HZ.out⟩
              case measure => simp [intOf]; omega
            · have e2 : (b == book) = false := by simp [hb2]
              clear hal ho hb2 hss
              go_upto_region 6 with (go_at_call 44; refine (HW.out _).mono ?_; rintro e w2 ⟨rfl, rfl⟩)
              rw [HW5.out]
              clear HW5
              go_wp2_with fail
              go_roundw
              case rel => exact ⟨k + 1, by omega, by simp, HZ.out⟩
              case measure => simp [intOf]; omega
          · have e1 : (o == mem) = false := by simp [ho]
            clear hal ho hss
            go_upto_region 6 with (go_at_call 44; refine (HW.out _).mono ?_; rintro e w2 ⟨rfl, rfl⟩)
            rw [HW5.out]
            clear HW5
            go_wp2_with fail
            go_roundw
            case rel => exact ⟨k + 1, by omega, by simp, HZ.out⟩
            case measure => simp [intOf]; omega
      · have hkz : ¬ (k : Int) < (L.length : Int) := by omega
        have HF : Hid (LoP (lotsOf mem book L) w (.returned u7) wr) := by
          have hr := HR.out
          rw [List.take_of_length_le (by omega)] at hr
          exact ⟨u7, rfl, hr.1, hr.2⟩
        go_wp2_with fail
        go_ret
        exact HF.out
  · rw [hw] at HW
    rw [if_pos rfl]
    have HF : Hid (LoP [] w (.returned (.slice none 0 0)) w) := ⟨_, rfl, World.ownsRow_nil _ _ _ _, Below.refl _ _⟩
    clear hw
    go_enter Try.func20, Try.ntmps20
    go_wp2_with fail
    refine wp_loop_rounds 1 ?_
    rw [rounds_succ]
    by_cases h0 : 0 < L.length
    · have h0' : (0 : Int) < (L.length : Int) := by omega
      go_wp2_with (go_at_call 44; refine (HW.out _).mono ?_; rintro e w2 ⟨rfl, rfl⟩)
      go_ret
      exact HF.out
    · have h0' : ¬ (0 : Int) < (L.length : Int) := by omega
      go_wp2_with fail
      go_ret
      exact HF.out
end Go.Proofs.Ytbfnfebmmhhegaa
