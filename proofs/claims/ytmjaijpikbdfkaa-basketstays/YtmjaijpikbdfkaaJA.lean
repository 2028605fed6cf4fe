/- layer 14: the document's list of rules: Of, IDs, Ints, Small -/
import Derived.Test.YtmjaijpikbdfkaaN
import Derived.Test.YtmjaijpikbdfkaaF
import Derived.WalkKit
import Derived.ProofKit
import Derived.Handy
import Derived.WalkLawsBesides
import Derived.WalkSpells
import Derived.BigQuiet
import Derived.BigCall
import Derived.Deep.QuietTactic
import Derived.Deep.Light
import Derived.Deep.OwnRows
import Derived.Laws.AppendOwnNone
import Derived.Laws.Strings3
import Derived.Laws.RangeAny
import Derived.Deep.RegionWith
import Derived.Lib.BitFns
import Derived.Lib.Walk
import Derived.Lib.Strings
import Derived.Lib.OthersKept
import Derived.Deep.CutBlock
import Derived.Deep.DeepCutAuto
import Derived.Deep.LoopGhost
import Derived.Deep.RegionHeld3
import Derived.Lib.SmallJoins
import Derived.Maps.AppendAt
import Derived.Laws.IdiomStrings
import Derived.Lib.AppendZeros
import Derived.Deep.WholeRow
import Derived.Laws.BitsAllLaws
import Derived.Lib.ConvBytes
import Derived.Deep.RegionLaw
import Derived.Maps.OwnSet
import Derived.Maps.OwnOps
import Derived.Maps.RangeWalk
import Derived.Maps.Ext
import Derived.DeepKeys4
import Derived.Laws.StructEq
import Derived.Deep.MidRow
import Derived.Lib.Bytealg
import Derived.Lib.Overlaps
import Derived.Lib.AppendZerosOnto
import Derived.Laws.MakeOwn
import Derived.Deep.Upon
namespace Go.Proofs.Ytmjaijpikbdfkaa
open Go.RowKit
set_option linter.unusedVariables false
set_option linter.unusedSimpArgs false
set_option maxRecDepth 20000
theorem jinfo25 : (Try.prog.info? 25).map (fun i => (i.zero, i.size, i.bytes)) = some (some (.agg #[.int .i64 0, .int .i64 0, .string ⟨#[]⟩, .int .i64 0, .int .i64 0, .int .i64 0, .slice none 0 0, .int .i64 0, .int .i64 0, .slice none 0 0]), 10, 120) := by kernel_rfl
theorem jinfo3 : (Try.prog.info? 3).map (fun i => (i.zero, i.size, i.bytes)) = some (some (.int .i64 0), 1, 8) := by kernel_rfl
def ofm (ys : List Bm) (id : Int) : List Bm := ys.filter (fun y => decide (y.b.id = id))
theorem ofm_of (ys : List Bm) (id : Int) : (ofm ys id).map (·.b) = of (ys.map (·.b)) id := by
  unfold ofm of
  rw [List.filter_map]
  rfl
theorem ofm_take {ys : List Bm} {id : Int} {k : Nat} (hk : k < ys.length) : ofm (ys.take (k + 1)) id = if ys[k].b.id = id then ofm (ys.take k) id ++ [ys[k]] else ofm (ys.take k) id := by
  unfold ofm
  rw [← List.take_append_getElem hk, List.filter_append]
  by_cases h : ys[k].b.id = id <;> simp [h]
theorem ofm_len (ys : List Bm) (id : Int) : (ofm ys id).length ≤ ys.length := List.length_filter_le _ _
theorem ofm_mem {ys : List Bm} {id : Int} {y : Bm} (h : y ∈ ofm ys id) : y ∈ ys := (List.mem_filter.1 h).1
/-- a row of baskets of its own -/
def RwP (zs : List Bm) (w : World) (e : Ending) (w' : World) : Prop := ∃ v, e = .returned v ∧ Hid (w'.ownsRow w.heap.size 25 10 v zs.length (rcs bcs zs) ∧ Below w.heap.size w w')
set_option maxHeartbeats 8000000 in
theorem rof (ys : List Bm) (a : Option Addr) (cap : Nat) (id : Int) (w : World) (hr : Rw 10 bcs w a ys) (hl : ys.length ≤ 1000000) : Calls Try.prog 40 #[.slice a ys.length cap, .int .i64 id] w (RwP (ofm ys id) w) := by
  have HR : Hid (Rw 10 bcs w a ys) := hr
  have hlz : (ys.length : Int) ≤ 1000000 := by omega
  clear hr
  go_enter Try.func40, Try.ntmps40
  go_wp2_with fail
  go_loopw [5, 6] (fun v i wr => ∃ (k : Nat), k ≤ ys.length ∧ i = .int .i64 k ∧ Hid (wr.ownsRow w.heap.size 25 10 v (ofm (ys.take k) id).length (rcs bcs (ofm (ys.take k) id)) ∧ Below w.heap.size w wr))
    (fun _ i _ => ys.length - (intOf i).toNat)
  case atStart => exact ⟨0, Nat.zero_le _, rfl, World.ownsRow_nil _ _ _ _, Below.refl _ _⟩
  case round =>
    obtain ⟨k, hk, rfl, HZ⟩ := hrel
    by_cases hkn : k < ys.length
    · have hkz : (k : Int) < (ys.length : Int) := by omega
      obtain ⟨blk, off, rfl, hbl, hcs⟩ := HR.out (by omega)
      have hc := hcs k hkn
      have HT : Hid (ofm (ys.take (k + 1)) id = if ys[k].b.id = id then ofm (ys.take k) id ++ [ys[k]] else ofm (ys.take k) id) := ofm_take hkn
      have HB : Hid (Below w.heap.size w wr) := HZ.out.2
      have HO : Hid (wr.ownsRow w.heap.size 25 10 u5 (ofm (ys.take k) id).length (rcs bcs (ofm (ys.take k) id))) := HZ.out.1
      have hyl : (ofm (ys.take k) id).length ≤ 1000000 := Nat.le_trans (ofm_len _ _) (by rw [List.length_take]; omega)
      have HYL : Hid ((ofm (ys.take k) id).length ≤ 1000000) := hyl
      generalize ofm (ys.take k) id = zs at *
      generalize ys[k] = x at *
      clear hcs HZ hyl
      obtain ⟨⟨i0, i1, cu, i3, i4, i5, cuts, i7, i8, bar⟩, ca, cc, ba, bc⟩ := x
      simp only [bcs] at hc
      have c0 : wr.cell? ⟨blk, off + k * 10, none⟩ = some (.int .i64 i0) := (HB.out.cell (p := ⟨blk, off + k * 10 + 0, none⟩) hbl).trans (hc 0 (by omega))
      have c1 : wr.cell? ⟨blk, off + k * 10 + 1, none⟩ = some (.int .i64 i1) := (HB.out.cell (p := ⟨blk, off + k * 10 + 1, none⟩) hbl).trans (hc 1 (by omega))
      have c2 : wr.cell? ⟨blk, off + k * 10 + 2, none⟩ = some (.string ⟨cu.toArray⟩) := (HB.out.cell (p := ⟨blk, off + k * 10 + 2, none⟩) hbl).trans (hc 2 (by omega))
      have c3 : wr.cell? ⟨blk, off + k * 10 + 3, none⟩ = some (.int .i64 i3) := (HB.out.cell (p := ⟨blk, off + k * 10 + 3, none⟩) hbl).trans (hc 3 (by omega))
      have c4 : wr.cell? ⟨blk, off + k * 10 + 4, none⟩ = some (.int .i64 i4) := (HB.out.cell (p := ⟨blk, off + k * 10 + 4, none⟩) hbl).trans (hc 4 (by omega))
      have c5 : wr.cell? ⟨blk, off + k * 10 + 5, none⟩ = some (.int .i64 i5) := (HB.out.cell (p := ⟨blk, off + k * 10 + 5, none⟩) hbl).trans (hc 5 (by omega))
      have c6 : wr.cell? ⟨blk, off + k * 10 + 6, none⟩ = some (.slice ca cuts.length cc) := (HB.out.cell (p := ⟨blk, off + k * 10 + 6, none⟩) hbl).trans (hc 6 (by omega))
      have c7 : wr.cell? ⟨blk, off + k * 10 + 7, none⟩ = some (.int .i64 i7) := (HB.out.cell (p := ⟨blk, off + k * 10 + 7, none⟩) hbl).trans (hc 7 (by omega))
      have c8 : wr.cell? ⟨blk, off + k * 10 + 8, none⟩ = some (.int .i64 i8) := (HB.out.cell (p := ⟨blk, off + k * 10 + 8, none⟩) hbl).trans (hc 8 (by omega))
      have c9 : wr.cell? ⟨blk, off + k * 10 + 9, none⟩ = some (.slice ba bar.length bc) := (HB.out.cell (p := ⟨blk, off + k * 10 + 9, none⟩) hbl).trans (hc 9 (by omega))
      clear hc HR
      by_cases hid : i0 = id
      · have hb : (i0 == id) = true := by simp [hid]
        obtain ⟨v', w4, hr4, ho4, hg4⟩ := app_gen (T := 25) (Sl := 34) (k := 10) (bytes := 120) Try.underlying34 jinfo25 rfl (by omega) (bcs ⟨⟨i0, i1, cu, i3, i4, i5, cuts, i7, i8, bar⟩, ca, cc, ba, bc⟩) rfl (bcs_one _) HO.out HB.out.size (by have := HYL.out; omega) (by have := HYL.out; unfold maxLen; omega)
        have HF : Hid (w4.ownsRow w.heap.size 25 10 v' (ofm (ys.take (k + 1)) id).length (rcs bcs (ofm (ys.take (k + 1)) id)) ∧ Below w.heap.size w w4) := by
          rw [HT.out, if_pos hid, List.length_append, rcs_snoc]
          refine ⟨ho4, (HB.out.alloc HB.out.size _).grown hg4 (by simp; have := HB.out.size; omega) (fun j hj => (HO.out.lt j hj).1)⟩
        clear ho4 hg4 HT HO HB HYL
        simp only [bcs] at hr4
        generalize cuts.length = nc at *
        generalize bar.length = nb at *
        clear hid
        go_wp2_with (at_builtin; refine Lib.wpList_append_run _ rfl _ _ 34 34 rfl _ _ rfl rfl _ w4 hr4 ?_)
        go_roundw
        case rel => exact ⟨k + 1, by omega, by simp, HF.out⟩
        case measure => simp [intOf]; omega
      · have hb : (i0 == id) = false := by simp [hid]
        have HF : Hid (wr.ownsRow w.heap.size 25 10 u5 (ofm (ys.take (k + 1)) id).length (rcs bcs (ofm (ys.take (k + 1)) id)) ∧ Below w.heap.size w wr) := by
          rw [HT.out, if_neg hid]
          exact ⟨HO.out, HB.out⟩
        clear HT HO HB HYL hid
        go_wp2_with fail
        go_roundw
        case rel => exact ⟨k + 1, by omega, by simp, HF.out⟩
        case measure => simp [intOf]; omega
    · have hkz : ¬ (k : Int) < (ys.length : Int) := by omega
      have HF : Hid (RwP (ofm ys id) w (.returned u5) wr) := by
        have hz := HZ.out
        rw [show k = ys.length by omega, List.take_length] at hz
        exact ⟨u5, rfl, hz⟩
      clear HZ
      go_wp2_with fail
      go_ret
      exact HF.out
def JdP (S : List Int) (w : World) (e : Ending) (w' : World) : Prop := ∃ a c, e = .returned (.slice a S.length c) ∧ Hid (w'.ownsRow w.heap.size 3 1 (.slice a S.length c) S.length (rcs ics S) ∧ Below w.heap.size w w')
theorem own_jd {w : World} {B n : Nat} {v : Value} {S : List Int} (h : w.ownsRow B 3 1 v n (rcs ics S)) (hn : n = S.length) : ∃ a c, v = .slice a S.length c := by
  obtain ⟨a, c, e, _, _⟩ := own_rw ics_len h hn
  exact ⟨a, c, e⟩
set_option maxHeartbeats 8000000 in
theorem rids (ys : List Bm) (a : Option Addr) (cap : Nat) (w : World) (hr : Rw 10 bcs w a ys) (hl : ys.length ≤ 1000000) : Calls Try.prog 45 #[.slice a ys.length cap] w (JdP (ids (ys.map (·.b))) w) := by
  have HR : Hid (Rw 10 bcs w a ys) := hr
  have HN : Hid (∀ k (h : k < ys.length), idsN (ys.map (·.b)) (k + 1) = if k = 0 ∨ (ys[k - 1]?.map (·.b.id)) ≠ some ys[k].b.id then idsN (ys.map (·.b)) k ++ [ys[k].b.id] else idsN (ys.map (·.b)) k) := fun k h => by
    rw [idsN_at (by rw [List.length_map]; exact h)]
    simp only [List.getElem?_map, List.getElem_map, Option.map_map]
    rfl
  have HI : Hid (ids (ys.map (·.b)) = idsN (ys.map (·.b)) ys.length) := by unfold Hid ids; rw [List.length_map]
  have HL : Hid (∀ k, (idsN (ys.map (·.b)) k).length ≤ k) := fun k => idsN_len _ k
  have hlz : (ys.length : Int) ≤ 1000000 := by omega
  clear hr
  generalize ids (ys.map (·.b)) = S at *
  generalize idsN (ys.map (·.b)) = D at *
  go_enter Try.func45, Try.ntmps45
  go_wp2_with fail
  go_loopw [3, 4] (fun v i wr => ∃ (k : Nat), k ≤ ys.length ∧ i = .int .i64 k ∧ Hid (wr.ownsRow w.heap.size 3 1 v (D k).length (rcs ics (D k)) ∧ Below w.heap.size w wr))
    (fun _ i _ => ys.length - (intOf i).toNat)
  case atStart => exact ⟨0, Nat.zero_le _, rfl, by have := HL.out 0; rw [List.eq_nil_of_length_eq_zero (Nat.le_zero.1 this)]; exact World.ownsRow_nil _ _ _ _, Below.refl _ _⟩
  case round =>
    obtain ⟨k, hk, rfl, HZ⟩ := hrel
    by_cases hkn : k < ys.length
    · have hkz : (k : Int) < (ys.length : Int) := by omega
      obtain ⟨blk, off, rfl, hbl, hcs⟩ := HR.out (by omega)
      have hc0 := hcs k hkn 0 (by omega)
      have HT : Hid (D (k + 1) = if k = 0 ∨ (ys[k - 1]?.map (·.b.id)) ≠ some ys[k].b.id then D k ++ [ys[k].b.id] else D k) := HN.out k hkn
      have HB : Hid (Below w.heap.size w wr) := HZ.out.2
      have HO : Hid (wr.ownsRow w.heap.size 3 1 u3 (D k).length (rcs ics (D k))) := HZ.out.1
      have HYL : Hid ((D k).length ≤ 1000000) := Nat.le_trans (HL.out k) (by omega)
      have c0 : wr.cell? ⟨blk, off + k * 10, none⟩ = some (.int .i64 ys[k].b.id) := (HB.out.cell (p := ⟨blk, off + k * 10 + 0, none⟩) hbl).trans hc0
      have HApp : Hid (∀ (q : World) (n : Int), wr.heap = q.heap → Below w.heap.size w q → ∃ v' w4, (Builtin.append_ #[23, 23] 23 #[u3, .slice (some ⟨q.heap.size, 0, none⟩) 1 1]).run Try.prog (q.alloc (.cells #[.int .i64 n] 3)) = .ok v' w4 ∧ w4.ownsRow w.heap.size 3 1 v' (D k ++ [n]).length (rcs ics (D k ++ [n])) ∧ Below w.heap.size w w4) := by
        intro q n hq hbq
        have ho : q.ownsRow w.heap.size 3 1 u3 (D k).length (rcs ics (D k)) := by
          have := HO.out
          unfold World.ownsRow at this ⊢
          rw [← hq]
          exact this
        obtain ⟨v', w4, hr4, ho4, hg4⟩ := app_gen (T := 3) (Sl := 23) (k := 1) (bytes := 8) Try.underlying23 jinfo3 rfl (by omega) (ics n) rfl (by intro u hu; simp only [ics, List.mem_cons, List.not_mem_nil, or_false] at hu; subst hu; rfl) ho hbq.size (by have := HYL.out; omega) (by have := HYL.out; unfold maxLen; omega)
        refine ⟨v', w4, hr4, ?_, (hbq.alloc hbq.size _).grown hg4 (by simp; have := hbq.size; omega) (fun j hj => (ho.lt j hj).1)⟩
        rw [List.length_append, rcs_snoc]
        exact ho4
      by_cases k0 : k = 0
      · have kb : ((k : Int) == 0) = true := by simp [k0]
        have HT2 : Hid (D (k + 1) = D k ++ [ys[k].b.id]) := by unfold Hid; rw [HT.out, if_pos (.inl k0)]
        generalize ys[k].b.id = n at *
        clear hcs hc0 HT HN HI HL HR HZ k0
        go_wp2_with fail
        go_quiet (fail)
        obtain ⟨wq, hwq⟩ : ∃ x, x = wr.drewN nq := ⟨_, rfl⟩
        have d0 : wq.cell? ⟨blk, off + k * 10, none⟩ = some (.int .i64 n) := by rw [hwq]; exact c0
        obtain ⟨v', w4, hr4, ho4, hb4⟩ := HApp.out wq n (by rw [hwq]; rfl) (by rw [hwq]; exact ⟨HB.out.os, HB.out.tape, HB.out.output, HB.out.size, HB.out.block⟩)
        rw [← hwq]
        have HF : Hid (w4.ownsRow w.heap.size 3 1 v' (D (k + 1)).length (rcs ics (D (k + 1))) ∧ Below w.heap.size w w4) := by rw [HT2.out]; exact ⟨ho4, hb4⟩
        clear hwq HB HO HYL HApp c0 ho4 hb4 HT2
        go_wp2_with (at_builtin; refine Lib.wpList_append_run _ rfl _ _ 23 23 rfl _ _ rfl rfl _ w4 hr4 ?_)
        go_roundw
        case rel => exact ⟨k + 1, by omega, by simp, HF.out⟩
        case measure => simp [intOf]; omega
      · obtain ⟨j, hj⟩ : ∃ j, j = k - 1 := ⟨_, rfl⟩
        have kb : ((k : Int) == 0) = false := by simp [k0]
        have hjz : (k : Int) - 1 = (j : Int) := by omega
        have hwj : IntKind.i64.wrap (j : Int) = j := by unfold IntKind.wrap; simp [IntKind.bits, IntKind.signed]; omega
        have hpz : (0 : Int) < k := by omega
        have hjl : (j : Int) < (ys.length : Int) := by omega
        have hj0 : (0 : Int) ≤ j := by omega
        have hjy : j < ys.length := by omega
        have hc1 := hcs j hjy 0 (by omega)
        have c1 : wr.cell? ⟨blk, off + j * 10, none⟩ = some (.int .i64 ys[j].b.id) := (HB.out.cell (p := ⟨blk, off + j * 10 + 0, none⟩) hbl).trans hc1
        have HT1 : Hid (D (k + 1) = if ys[j].b.id ≠ ys[k].b.id then D k ++ [ys[k].b.id] else D k) := by
          unfold Hid
          rw [HT.out, ← hj, List.getElem?_eq_getElem hjy]
          simp [k0]
        generalize ys[k].b.id = n at *
        generalize ys[j].b.id = m at *
        clear hcs hc0 hc1 HT HN HI HL HR HZ k0 hj
        by_cases hnm : n = m
        · have hb : (n != m) = false := by simp [hnm]
          have HF : Hid (wr.ownsRow w.heap.size 3 1 u3 (D (k + 1)).length (rcs ics (D (k + 1))) ∧ Below w.heap.size w wr) := by
            rw [HT1.out, if_neg (fun h => h hnm.symm)]
            exact ⟨HO.out, HB.out⟩
          clear HT1 HO HB HYL HApp hnm
          go_wp2_with fail
          go_quiet (fail)
          obtain ⟨wq, hwq⟩ : ∃ x, x = wr.drewN nq := ⟨_, rfl⟩
          have HF2 : Hid (wq.ownsRow w.heap.size 3 1 u3 (D (k + 1)).length (rcs ics (D (k + 1))) ∧ Below w.heap.size w wq) := by rw [hwq]; exact ⟨HF.out.1, ⟨HF.out.2.os, HF.out.2.tape, HF.out.2.output, HF.out.2.size, HF.out.2.block⟩⟩
          rw [← hwq]
          clear hwq HF c0 c1
          go_wp2_with fail
          go_roundw
          case rel => exact ⟨k + 1, by omega, by simp, HF2.out⟩
          case measure => simp [intOf]; omega
        · have hb : (n != m) = true := by simp [hnm]
          have HT2 : Hid (D (k + 1) = D k ++ [n]) := by unfold Hid; rw [HT1.out, if_pos (fun h => hnm h.symm)]
          clear HT1 hnm
          go_wp2_with fail
          go_quiet (fail)
          obtain ⟨wq, hwq⟩ : ∃ x, x = wr.drewN nq := ⟨_, rfl⟩
          have d0 : wq.cell? ⟨blk, off + k * 10, none⟩ = some (.int .i64 n) := by rw [hwq]; exact c0
          obtain ⟨v', w4, hr4, ho4, hb4⟩ := HApp.out wq n (by rw [hwq]; rfl) (by rw [hwq]; exact ⟨HB.out.os, HB.out.tape, HB.out.output, HB.out.size, HB.out.block⟩)
          rw [← hwq]
          have HF : Hid (w4.ownsRow w.heap.size 3 1 v' (D (k + 1)).length (rcs ics (D (k + 1))) ∧ Below w.heap.size w w4) := by rw [HT2.out]; exact ⟨ho4, hb4⟩
          clear hwq HB HO HYL HApp c0 c1 ho4 hb4 HT2
          go_wp2_with (at_builtin; refine Lib.wpList_append_run _ rfl _ _ 23 23 rfl _ _ rfl rfl _ w4 hr4 ?_)
          go_roundw
          case rel => exact ⟨k + 1, by omega, by simp, HF.out⟩
          case measure => simp [intOf]; omega
    · have hkz : ¬ (k : Int) < (ys.length : Int) := by omega
      have HF : Hid (JdP S w (.returned u3) wr) := by
        have hz := HZ.out
        rw [show k = ys.length by omega, ← HI.out] at hz
        obtain ⟨a, c, e⟩ := own_jd hz.1 rfl
        subst e
        exact ⟨a, c, rfl, hz⟩
      clear HZ HI HN HL
      go_wp2_with fail
      go_ret
      exact HF.out
theorem rints (xs : List Int) (a b : Option Addr) (c d : Nat) (w : World) (hx : Rw 1 ics w a xs) (hy : Rw 1 ics w b xs) (hl : xs.length ≤ 1000000) : Calls Try.prog 24 #[.slice a xs.length c, .slice b xs.length d] w (KP (.bool true) w) := by
  have HX : Hid (Rw 1 ics w a xs) := hx
  have HY : Hid (Rw 1 ics w b xs) := hy
  have hlz : (xs.length : Int) ≤ 1000000 := by omega
  have hne : ((xs.length : Int) != (xs.length : Int)) = false := by simp
  clear hx hy
  go_enter Try.func24, Try.ntmps24
  go_wp2_with fail
  go_loopw [5] (fun i wr => ∃ (k : Nat), k ≤ xs.length ∧ i = .int .i64 k ∧ Hid (Below w.heap.size w wr))
    (fun i _ => xs.length - (intOf i).toNat)
  case atStart => exact ⟨0, Nat.zero_le _, rfl, Below.refl _ _⟩
  case round =>
    obtain ⟨k, hk, rfl, HZ⟩ := hrel
    by_cases hkn : k < xs.length
    · have hkz : (k : Int) < (xs.length : Int) := by omega
      obtain ⟨blk, off, rfl, hbl, hcs⟩ := HX.out (by omega)
      obtain ⟨blk2, off2, rfl, hbl2, hcs2⟩ := HY.out (by omega)
      have c0 : wr.cell? ⟨blk, off + k, none⟩ = some (.int .i64 xs[k]) := by
        have := (HZ.out.cell (p := ⟨blk, off + k * 1 + 0, none⟩) hbl).trans (hcs k hkn 0 (by omega))
        rw [Nat.mul_one, Nat.add_zero] at this
        exact this
      have c1 : wr.cell? ⟨blk2, off2 + k, none⟩ = some (.int .i64 xs[k]) := by
        have := (HZ.out.cell (p := ⟨blk2, off2 + k * 1 + 0, none⟩) hbl2).trans (hcs2 k hkn 0 (by omega))
        rw [Nat.mul_one, Nat.add_zero] at this
        exact this
      have hb : (xs[k] != xs[k]) = false := by simp
      generalize xs[k] = n at *
      clear hcs hcs2 HX HY
      go_wp2_with fail
      go_quiet (fail)
      obtain ⟨wq, hwq⟩ : ∃ x, x = wr.drewN nq := ⟨_, rfl⟩
      have HF : Hid (Below w.heap.size w wq) := by rw [hwq]; exact ⟨HZ.out.os, HZ.out.tape, HZ.out.output, HZ.out.size, HZ.out.block⟩
      rw [← hwq]
      clear hwq HZ c0 c1
      go_wp2_with fail
      go_roundw
      case rel => exact ⟨k + 1, by omega, by simp, HF.out⟩
      case measure => simp [intOf]; omega
    · have hkz : ¬ (k : Int) < (xs.length : Int) := by omega
      go_wp2_with fail
      go_ret
      exact ⟨rfl, HZ.out⟩
def smB (b : Bk) : Bool := decide (b.cuts.length ≤ 100) && decide (b.bar.length ≤ 100)
theorem rsmall0 (v0 v1 v2 v3 v4 v5 v7 v8 : Value) (ca ba : Option Addr) (nc cc nb bc : Nat) (g : Bool) (hg : (decide (nc ≤ 100) && decide (nb ≤ 100)) = g) (w : World) : Calls Try.prog 16 #[.agg #[v0, v1, v2, v3, v4, v5, .slice ca nc cc, v7, v8, .slice ba nb bc]] w (KP (.bool g) w) := by
  have HF : Hid (∀ y, Below w.heap.size w (w.alloc y)) := fun y => below_a w y
  by_cases h1 : nc ≤ 100
  · have h1z : (nc : Int) ≤ 100 := by omega
    by_cases h2 : nb ≤ 100
    · have h2z : (nb : Int) ≤ 100 := by omega
      obtain rfl : g = true := by rw [← hg]; simp [h1, h2]
      clear hg
      go_enter Try.func16, Try.ntmps16
      go_wp2_with fail
      go_ret
      exact ⟨rfl, HF.out _⟩
    · have h2z : ¬ (nb : Int) ≤ 100 := by omega
      obtain rfl : g = false := by rw [← hg]; simp [h1, h2]
      clear hg
      go_enter Try.func16, Try.ntmps16
      go_wp2_with fail
      go_ret
      exact ⟨rfl, HF.out _⟩
  · have h1z : ¬ (nc : Int) ≤ 100 := by omega
    obtain rfl : g = false := by rw [← hg]; simp [h1]
    clear hg
    go_enter Try.func16, Try.ntmps16
    go_wp2_with fail
    go_ret
    exact ⟨rfl, HF.out _⟩
theorem rsmall (x : Bm) (w : World) : Calls Try.prog 16 #[.agg (bcs x).toArray] w (KP (.bool (smB x.b)) w) := rsmall0 _ _ _ _ _ _ _ _ _ _ _ _ _ _ _ rfl w
end Go.Proofs.Ytmjaijpikbdfkaa
