/- seq, State, Seq, Commands. -/
import Derived.Test.YteiilifljfagdaaO
import Derived.WalkKit
import Derived.ProofKit
import Derived.Handy
import Derived.WalkLawsBesides
import Derived.WalkSpells
import Derived.BigQuiet
import Derived.BigCall
import Derived.Deep.QuietTactic
import Derived.Deep.Light
import Derived.Deep.OwnRows
import Derived.Laws.AppendOwnNone
import Derived.Laws.Strings3
import Derived.Laws.RangeAny
import Derived.Deep.RegionWith
import Derived.Lib.BitFns
import Derived.Lib.Walk
import Derived.Lib.Strings
import Derived.Lib.OthersKept
import Derived.Deep.CutBlock
import Derived.Deep.DeepCutAuto
import Derived.Deep.LoopGhost
import Derived.Deep.RegionHeld3
import Derived.Lib.SmallJoins
import Derived.Maps.AppendAt
import Derived.Laws.IdiomStrings
import Derived.Lib.AppendZeros
import Derived.Deep.WholeRow
import Derived.Laws.BitsAllLaws
import Derived.Lib.ConvBytes
import Derived.Deep.RegionLaw
namespace Go.Proofs.Yteiilifljfagdaa
open Go.RowKit
set_option linter.unusedVariables false
set_option linter.unusedSimpArgs false
set_option maxHeartbeats 4000000 in
theorem xseqC (g a n c : Nat) (s : ByteArray) (x : Option Addr) (ha : a ≤ 72057594037927936) (hn : n ≤ 1099511627776) (w : World) : Calls Try.prog 47 #[.agg #[.int .i64 g, .int .i64 a, .string s, .slice x n c]] w fun e w' => e = .returned (.int .i64 ((a : Int) + (n : Int))) ∧ Below w.heap.size w w' := by
  have HB : Hid (Below w.heap.size w (w.alloc (.cells #[.int .i64 g, .int .i64 a, .string s, .slice x n c] 71))) := below_new w _
  go_enter Try.func47, Try.ntmps47
  go_wp2_with fail
  go_ret
  exact ⟨rfl, HB.out⟩
section
variable {B q p f g a : Nat} {w : World} {br : Bool} {s : ByteArray} {v : Value} {cs : List ByteArray}
set_option maxHeartbeats 4000000 in
theorem xState (h : Jm B w q p br f g a s v cs) (hs : s.size ≤ 1048576) : Calls Try.prog 17 #[.pointer (some ⟨q, 0, none⟩)] w fun e w' => e = .returned (.string s) ∧ Below w.heap.size w w' := by
  have c6 : w.cell? ⟨q, 6, none⟩ = some (.string s) := h.cell 6
  clear h
  go_enter Try.func17, Try.ntmps17
  go_wp2_with fail
  refine (xclone s (by omega) _).mono ?_
  rintro e w1 ⟨rfl, hb⟩
  have HB : Hid (Below w.heap.size w w1) := hb
  clear hb
  go_wp2_with fail
  go_ret
  exact ⟨rfl, HB.out⟩
set_option maxHeartbeats 4000000 in
theorem xSeq (h : Jm B w q p br f g a s v cs) (ha : a ≤ 72057594037927936) (hn : cs.length ≤ 1048576) : Calls Try.prog 20 #[.pointer (some ⟨q, 0, none⟩)] w fun e w' => e = .returned (.int .i64 ((a : Int) + (cs.length : Int))) ∧ Below w.heap.size w w' := by
  obtain ⟨x, c, rfl⟩ := own_slice h.own
  have c4 : w.cell? ⟨q, 4, none⟩ = some (.int .i64 g) := h.cell 4
  have c5 : w.cell? ⟨q, 5, none⟩ = some (.int .i64 a) := h.cell 5
  have c6 : w.cell? ⟨q, 6, none⟩ = some (.string s) := h.cell 6
  have c7 : w.cell? ⟨q, 7, none⟩ = some (.slice x cs.length c) := h.cell 7
  clear h
  go_enter Try.func20, Try.ntmps20
  go_wp2_with fail
  refine (xseqC g a cs.length c s x ha (by omega) _).mono ?_
  rintro e w1 ⟨rfl, hb⟩
  have HB : Hid (Below w.heap.size w w1) := hb
  clear hb
  go_wp2_with fail
  go_ret
  exact ⟨rfl, HB.out⟩
/-- what Commands hands back -/
def CmP (w : World) (cs : List ByteArray) (e : Ending) (w' : World) : Prop := ∃ v, e = .returned v ∧ Hid (w'.ownsRow w.heap.size 9 1 v cs.length (scells cs)) ∧ Hid (Below w.heap.size w w')
theorem make_txt0 (n : Nat) (hn : n ≤ 1099511627776) (w : World) : (Instr.makeSlice 35 (.int .i64 0) (.int .i64 (n : Int))).run Try.prog w = .ok (.slice (some ⟨w.heap.size, 0, none⟩) 0 n) (w.alloc (.cells (madeCells #[.string ⟨#[]⟩] n) 9)) := by
  obtain ⟨i0, hi, hz0, hz1, hz2⟩ := info_parts Try.info9
  have hr := run_make (P := Try.prog) w 35 9 i0 (.string ⟨#[]⟩) Try.underlying35 hi hz0 .i64 .i64 0 n (by omega) (by omega) (by rw [hz2]; omega) (by omega)
  simp only [Int.toNat_natCast, hz1, Nat.mul_one] at hr
  exact hr
set_option maxHeartbeats 4000000 in
set_option maxRecDepth 100000 in
theorem xCommands (h : Jm B w q p br f g a s v cs) (hn : cs.length ≤ 1048576) (hz : ∀ c ∈ cs, c.size ≤ 1048576) : Calls Try.prog 19 #[.pointer (some ⟨q, 0, none⟩)] w (CmP w cs) := by
  obtain ⟨x, c, rfl⟩ := own_slice h.own
  have c7 : w.cell? ⟨q, 7, none⟩ = some (.slice x cs.length c) := h.cell 7
  have HQ : Hid (q < w.heap.size) := h.lt
  have hql := h.lt
  obtain ⟨x2, c2, e1, hst⟩ := Strs.of_owns h.own (by omega) (fun t ht => by have := hz t ht; omega)
  injection e1 with e1 _ e3
  subst e1; subst e3
  have HS : Hid (Strs w x cs) := hst
  have HZ : Hid (∀ c ∈ cs, c.size ≤ 1048576) := hz
  have hmk := make_txt0 cs.length (by omega) w
  have HO0 : Hid ((w.alloc (.cells (madeCells #[.string ⟨#[]⟩] cs.length) 9)).ownsRow w.heap.size 9 1 (.slice (some ⟨w.heap.size, 0, none⟩) 0 cs.length) ([] : List ByteArray).length (scells [])) := World.ownsRow_made w _ _ (Nat.le_refl _) (by unfold maxLen; omega) (by simp [madeCells])
  have HB0 : Hid (Below w.heap.size w (w.alloc (.cells (madeCells #[.string ⟨#[]⟩] cs.length) 9))) := below_new w _
  have c8 : (w.alloc (.cells (madeCells #[.string ⟨#[]⟩] cs.length) 9)).cell? ⟨q, 7, none⟩ = some (.slice x cs.length c) := (HB0.out.cell (by exact hql)).trans c7
  clear h hst hz
  go_enter Try.func19, Try.ntmps19
  go_wp2_with fail
  go_loopw [3, 21] (fun u i wr => ∃ (k : Nat), i = .int .i64 k ∧ k ≤ cs.length ∧ Hid (wr.ownsRow w.heap.size 9 1 u (cs.take k).length (scells (cs.take k))) ∧ Hid (Below w.heap.size w wr)) (fun _ i _ => cs.length - (Lib.intOf i).toNat)
  case atStart => exact ⟨0, rfl, Nat.zero_le _, HO0, HB0⟩
  case round =>
    clear HO0 HB0 hmk c8
    obtain ⟨k, rfl, hk, HO, HB⟩ := hrel
    by_cases hkn : k < cs.length
    · have hkz : (k : Int) < (cs.length : Int) := by omega
      obtain ⟨b, off, rfl, hbl, hce⟩ := HS.out.at_ (by omega)
      have hc : wr.cell? ⟨b, off + k, none⟩ = some (.string cs[k]) := (HB.out.cell (by exact hbl)).trans (hce k hkn)
      have hxs : cs[k].size ≤ 1048576 := HZ.out _ (List.getElem_mem hkn)
      have HT : Hid (cs.take (k + 1) = cs.take k ++ [cs[k]]) := take_get hkn
      have htl : (cs.take k).length ≤ 1048576 := by rw [List.length_take]; omega
      generalize cs[k] = y at *
      have HAP : Hid (∀ w3, Below wr.heap.size wr w3 → ∃ (v' : Value) (w4 : World), (Builtin.append_ #[35, 35] 35 #[u3, .slice (some ⟨w3.heap.size, 0, none⟩) 1 1]).run Try.prog (w3.alloc (.cells #[.string y] 9)) = .ok v' w4 ∧ w4.ownsRow w.heap.size 9 1 v' (cs.take (k + 1)).length (scells (cs.take (k + 1))) ∧ Below w.heap.size w w4) := by
        intro w3 hb
        have hb3 : Below w.heap.size w w3 := HB.out.trans (hb.mono HB.out.size)
        obtain ⟨v', w4, hr, ho, hg, _⟩ := app_one (own_keep HO.out hb) hb3.size y (by omega)
        exact ⟨v', w4, hr, by rw [HT.out]; exact ho, (hb3.alloc hb3.size _).grown hg (by have := hb3.size; simp; omega) (fun j hj => (HO.out.lt j hj).1)⟩
      clear hce HT
      go_wp2_with fail
      refine (xclone y (by omega) _).mono ?_
      rintro e w3 ⟨rfl, h3⟩
      obtain ⟨v', w4, hr, ho, hb⟩ := HAP.out _ h3
      have HR : Hid _ := hr
      have HO4 : Hid (w4.ownsRow w.heap.size 9 1 v' (cs.take (k + 1)).length (scells (cs.take (k + 1)))) := ho
      have HB4 : Hid (Below w.heap.size w w4) := hb
      clear hr ho hb h3 HAP HO HB
      go_wp2_with (at_builtin; refine Lib.wpList_append_run _ rfl _ _ 35 35 rfl _ _ rfl rfl _ w4 HR.out ?_)
      exact ⟨⟨k + 1, by go_num, by omega, HO4, HB4⟩, by simp [Lib.intOf]; omega⟩
    · have hkz : ¬ (k : Int) < (cs.length : Int) := by omega
      have HE : Hid (cs.take k = cs) := List.take_of_length_le (by omega)
      rw [HE.out] at HO
      go_wp2_with fail
      go_ret
      exact ⟨_, rfl, HO, HB⟩
end
end Go.Proofs.Yteiilifljfagdaa
