/- layer 12: the document's Move -/
import Derived.Test.YtbfnfebmmhhegaaCH
import Derived.Test.YtbfnfebmmhhegaaAF
import Derived.WalkKit
import Derived.ProofKit
import Derived.Handy
import Derived.WalkLawsBesides
import Derived.WalkSpells
import Derived.BigQuiet
import Derived.BigCall
import Derived.Deep.QuietTactic
import Derived.Deep.Light
import Derived.Deep.OwnRows
import Derived.Laws.AppendOwnNone
import Derived.Laws.Strings3
import Derived.Laws.RangeAny
import Derived.Deep.RegionWith
import Derived.Lib.BitFns
import Derived.Lib.Walk
import Derived.Lib.Strings
import Derived.Lib.OthersKept
import Derived.Deep.CutBlock
import Derived.Deep.DeepCutAuto
import Derived.Deep.LoopGhost
import Derived.Deep.RegionHeld3
import Derived.Lib.SmallJoins
import Derived.Maps.AppendAt
import Derived.Laws.IdiomStrings
import Derived.Lib.AppendZeros
import Derived.Deep.WholeRow
import Derived.Laws.BitsAllLaws
import Derived.Lib.ConvBytes
import Derived.Deep.RegionLaw
import Derived.Maps.OwnSet
import Derived.Maps.OwnOps
import Derived.Maps.RangeWalk
import Derived.Maps.Ext
import Derived.DeepKeys4
import Derived.Laws.StructEq
import Derived.Shelf.SlSortCmp.NoneTotal
import Derived.Deep.MidRow
import Derived.Laws.MakeOwn
namespace Go.Proofs.Ytbfnfebmmhhegaa
open Go.RowKit
set_option linter.unusedVariables false
set_option linter.unusedSimpArgs false
set_option maxRecDepth 20000
theorem rwrm' (m b : Int) (w : World) : Calls Try.prog 44 #[.int .i64 m, .int .i64 b] w fun e w' => e = .returned (.bool (wrm m b)) ∧ w' = w := (rwrm m b w).mono fun _ _ h => ⟨h.1, h.2.symm⟩
theorem info112 : (Try.prog.info? 112).map (fun i => (i.zero, i.size, i.bytes)) = some (some (.agg #[.int .i64 0, .int .i64 0, .string ⟨#[]⟩, .int .i64 0, .int .i64 0, .string ⟨#[]⟩, .int .i64 0]), 7, 72) := by kernel_rfl
theorem load40 (W : World) (b p p1 p2 : Nat) (v0 v1 v2 : Value) (h1 : p1 = p + 1) (h2 : p2 = p + 2) (c0 : W.cell? ⟨b, p, none⟩ = some v0) (c1 : W.cell? ⟨b, p1, none⟩ = some v1) (c2 : W.cell? ⟨b, p2, none⟩ = some v2) : (Instr.loadAt 40 (.pointer (some ⟨b, p, none⟩))).run Try.prog W = .ok (.agg #[v0, v1, v2]) W := by
  subst h1 h2
  go_simp
def RmP (L : List Num.Bal) (n s : Int) (w : World) (x : Ending) (w' : World) : Prop := ∃ a' cap', x = .returned (.tuple #[.slice a' L.length cap', .int .i64 n, .int .i64 s]) ∧ L.length ≤ cap' ∧ Bs w' a' L ∧ Below w.heap.size w w'
abbrev xcs := rcs (fun x : Ex => x.cs.toList)
set_option maxHeartbeats 16000000 in
theorem rmv (L : List Num.Bal) (g : Num.Good L) (hl : L.length ≤ 50000) (xs : List Ln) (hx : xs.length ≤ 300) (a : Option Addr) (cap : Nat) (hcap : L.length ≤ cap) (ae : Option Addr) (ce : Nat) (w : World) (h : Bs w a L) (he : Ls w ae xs) :
    Calls Try.prog 37 #[.slice a L.length cap, .slice ae xs.length ce] w (RmP (mvL L xs) (mvN L xs) (mvE L xs) w) := by
  have HBs : Hid (Bs w a L) := h
  have HE : Hid (Ls w ae xs) := he
  have hx' : (xs.length : Int) ≤ 300 := by omega
  have HSOME : Hid (∀ (k : Nat) w', xs.findIdx? Ln.st = some k → Below w.heap.size w w' → RmP (mvL L xs) (mvN L xs) (mvE L xs) w (.returned (.tuple #[.slice a L.length cap, .int .i64 (k : Int), .int .i64 22])) w') := fun k w' hf hb => by
    unfold mvL mvN mvE
    rw [hf]
    exact ⟨a, cap, rfl, hcap, h.below hb, hb⟩
  have HNONE : Hid (∀ (v : Value) W, xs.findIdx? Ln.st = none → W.ownsRow w.heap.size 112 7 v xs.length (ecs (xs.map Ln.ex)) → Below w.heap.size w W → Calls Try.prog 59 #[.slice a L.length cap, v] W fun e w' => ∃ v1 n1 s1, e = .returned (.tuple #[v1, .int .i64 n1, .int .i64 s1]) ∧ Hid (RmP (mvL L xs) (mvN L xs) (mvE L xs) w (.returned (.tuple #[v1, .int .i64 n1, .int .i64 s1])) w')) := fun v W hf ho hb => by
    have hlm : (xs.map Ln.ex).length = xs.length := by simp
    obtain ⟨a1, c1, rfl, hc1, hes⟩ := own_es (m := W.heap.size) (xs := xs.map Ln.ex) ho hlm.symm (.inr (Nat.le_refl _))
    refine (rpost L g hl (xs.map Ln.ex) (by simpa using hx) a cap hcap a1 c1 W (h.below hb) hes).mono ?_
    rintro e w' ⟨a2, c2, rfl, h2, h3, h4⟩
    refine ⟨_, _, _, rfl, ?_⟩
    unfold mvL mvN mvE
    rw [hf]
    rw [map_ent] at h2 h3 ⊢
    exact ⟨a2, c2, rfl, h2, h3, hb.trans (h4.mono hb.size)⟩
  clear h he g hl hx
  go_enter Try.func37, Try.ntmps37
  go_wp2_with fail
  go_loopw [7, 8] (fun v i wr => ∃ k : Nat, k ≤ xs.length ∧ i = .int .i64 k ∧ Hid (wr.ownsRow w.heap.size 112 7 v k (ecs ((xs.map Ln.ex).take k)) ∧ Below w.heap.size w wr ∧ (∀ j (h : j < xs.length), j < k → Ln.st xs[j] = false)))
    (fun _ i _ => xs.length - (intOf i).toNat)
  case atStart => exact ⟨0, Nat.zero_le _, rfl, World.ownsRow_nil _ _ _ _, Below.refl _ _, fun j _ h => absurd h (Nat.not_lt_zero j)⟩
  case round =>
    obtain ⟨k, hk, rfl, HR⟩ := hrel
    by_cases hkn : k < xs.length
    · have hkz : (k : Int) < (xs.length : Int) := by omega
      obtain ⟨blk, off, rfl, hbl, hcs⟩ := HE.out (by omega)
      have hc6 := hcs k hkn
      have HT : Hid (ecs ((xs.map Ln.ex).take k) ++ xs[k].ex.cs.toList = ecs ((xs.map Ln.ex).take (k + 1))) := by
        have h1 := rcs_take (fun x : Ex => x.cs.toList) (xs.map Ln.ex) (k := k) (by simpa using hkn)
        rw [List.getElem_map] at h1
        exact h1
      have HY : Hid (Ln.st xs[k] = true → ∀ w', Below w.heap.size w w' → RmP (mvL L xs) (mvN L xs) (mvE L xs) w (.returned (.tuple #[.slice a L.length cap, .int .i64 (k : Int), .int .i64 22])) w') := fun hs w' hb => HSOME.out k w' (fidx_some hkn (fun j hj => HR.out.2.2 j (by omega) hj) hs) hb
      have HN : Hid (Ln.st xs[k] = false → ∀ j (h : j < xs.length), j < k + 1 → Ln.st xs[j] = false) := fun hs j hj hk1 => by
        rcases Nat.lt_or_ge j k with h1 | h1
        · exact HR.out.2.2 j hj h1
        · obtain rfl : j = k := by omega
          exact hs
      have hB := HR.out.2.1
      have hO := HR.out.1
      generalize xs[k] = x at *
      obtain ⟨f, b, t, i, s, q⟩ := x
      have hcc (i : Nat) (h : i < 6) : wr.cell? ⟨blk, off + k * 6 + i, none⟩ = _ := (hB.cell (p := ⟨blk, off + k * 6 + i, none⟩) hbl).trans (hc6 i h)
      have c0 : wr.cell? ⟨blk, off + k * 6, none⟩ = some (.int .i64 f) := hcc 0 (by omega)
      have c1 : wr.cell? ⟨blk, off + k * 6 + 1, none⟩ = some (.int .i64 b) := hcc 1 (by omega)
      have c2 : wr.cell? ⟨blk, off + k * 6 + 2, none⟩ = some (.int .i64 t) := hcc 2 (by omega)
      have c3 : wr.cell? ⟨blk, off + k * 6 + 3, none⟩ = some (.int .i64 i) := hcc 3 (by omega)
      have c4 : wr.cell? ⟨blk, off + k * 6 + 4, none⟩ = some (.string s) := hcc 4 (by omega)
      have c5 : wr.cell? ⟨blk, off + k * 6 + 5, none⟩ = some (.int .i64 q) := hcc 5 (by omega)
      have HSt : Hid (Ln.st ⟨f, b, t, i, s, q⟩ = (wrm f b || wrm t i)) := rfl
      have HBw : Hid (∀ W, Below wr.heap.size wr W → Below w.heap.size w W) := fun W hW => hB.trans (hW.mono hB.size)
      have hblw : blk < wr.heap.size := Nat.lt_of_lt_of_le hbl hB.size
      have c5w : w.cell? ⟨blk, off + k * 6 + 5, none⟩ = some (.int .i64 q) := hc6 5 (by omega)
      clear hc6 hcs hcc HE
      cases hB1 : wrm f b
      · cases hB2 : wrm t i
        · have HN2 : Hid (∀ j (h : j < xs.length), j < k + 1 → Ln.st xs[j] = false) := HN.out (by rw [HSt.out, hB1, hB2]; rfl)
          clear HY HN HSt HR
          have H1 : Hid (∀ w, Calls Try.prog 44 #[.int .i64 f, .int .i64 b] w fun e w' => e = .returned (.bool false) ∧ w' = w) := by rw [← hB1]; exact rwrm' f b
          have H2 : Hid (∀ w, Calls Try.prog 44 #[.int .i64 t, .int .i64 i] w fun e w' => e = .returned (.bool false) ∧ w' = w) := by rw [← hB2]; exact rwrm' t i
          go_upto_region 5 with fail
          refine wp_region_held (S := fun W => Below wr.heap.size wr W) (by kernel_rfl) ?_
          change wpAnyH _ _ _ _ _ 24 #[false, false, false, false, false, false, false, false, false, false, false, false, false, false, false, false, false, false, false, false, false, false, false, false] _ (wr).drew
          have hS0 : Below wr.heap.size wr wr.drew := ⟨rfl, rfl, rfl, Nat.le_refl _, fun _ _ => rfl⟩
          obtain ⟨v0, hv0⟩ : ∃ v, v = wr.drew := ⟨_, rfl⟩
          rw [← hv0] at hS0 ⊢
          clear hv0
          refine takeR (fuel := 23) (i := 0) (v := .slice (some ⟨blk, off, none⟩) xs.length ce) rfl (by kernel_rfl) (by kernel_rfl) (by kernel_rfl) (fun _ _ _ h => h) (Or.inl ⟨rfl, fun W hW => by go_simp⟩) hS0 ?_
          simp only [Act.put, List.setIfInBounds_toArray, List.set_cons_zero, List.set_cons_succ]
          refine takeR (fuel := 22) (i := 1) (v := .int .i64 k) rfl (by kernel_rfl) (by kernel_rfl) (by kernel_rfl) (fun _ _ _ h => h) (Or.inl ⟨rfl, fun W hW => by go_simp⟩) hS0 ?_
          simp only [Act.put, List.setIfInBounds_toArray, List.set_cons_zero, List.set_cons_succ]
          refine takeR (fuel := 21) (i := 2) (v := .pointer (some ⟨blk, off + k * 6, none⟩)) rfl (by kernel_rfl) (by kernel_rfl) (by kernel_rfl) (fun _ _ _ h => h) (Or.inl ⟨rfl, fun W hW => by go_simp⟩) hS0 ?_
          simp only [Act.put, List.setIfInBounds_toArray, List.set_cons_zero, List.set_cons_succ]
          refine takeR (fuel := 20) (i := 3) (v := .pointer (some ⟨blk, off + k * 6, none⟩)) rfl (by kernel_rfl) (by kernel_rfl) (by kernel_rfl) (fun _ _ _ h => h) (Or.inl ⟨rfl, fun W hW => by go_simp⟩) hS0 ?_
          simp only [Act.put, List.setIfInBounds_toArray, List.set_cons_zero, List.set_cons_succ]
          refine takeR (fuel := 19) (i := 4) (v := .int .i64 f) rfl (by kernel_rfl) (by kernel_rfl) (by kernel_rfl) (fun _ _ _ h => h) (Or.inl ⟨rfl, fun W hW => by have cj : W.cell? ⟨blk, off + k * 6, none⟩ = some (.int .i64 f) := (hW.cell (p := ⟨blk, _, none⟩) hblw).trans c0; go_simp⟩) hS0 ?_
          simp only [Act.put, List.setIfInBounds_toArray, List.set_cons_zero, List.set_cons_succ]
          refine takeR (fuel := 18) (i := 5) (v := .slice (some ⟨blk, off, none⟩) xs.length ce) rfl (by kernel_rfl) (by kernel_rfl) (by kernel_rfl) (fun _ _ _ h => h) (Or.inl ⟨rfl, fun W hW => by go_simp⟩) hS0 ?_
          simp only [Act.put, List.setIfInBounds_toArray, List.set_cons_zero, List.set_cons_succ]
          refine takeR (fuel := 17) (i := 6) (v := .int .i64 k) rfl (by kernel_rfl) (by kernel_rfl) (by kernel_rfl) (fun _ _ _ h => h) (Or.inl ⟨rfl, fun W hW => by go_simp⟩) hS0 ?_
          simp only [Act.put, List.setIfInBounds_toArray, List.set_cons_zero, List.set_cons_succ]
          refine takeR (fuel := 16) (i := 7) (v := .pointer (some ⟨blk, off + k * 6, none⟩)) rfl (by kernel_rfl) (by kernel_rfl) (by kernel_rfl) (fun _ _ _ h => h) (Or.inl ⟨rfl, fun W hW => by go_simp⟩) hS0 ?_
          simp only [Act.put, List.setIfInBounds_toArray, List.set_cons_zero, List.set_cons_succ]
          refine takeR (fuel := 15) (i := 8) (v := .pointer (some ⟨blk, off + k * 6 + 1, none⟩)) rfl (by kernel_rfl) (by kernel_rfl) (by kernel_rfl) (fun _ _ _ h => h) (Or.inl ⟨rfl, fun W hW => by go_simp⟩) hS0 ?_
          simp only [Act.put, List.setIfInBounds_toArray, List.set_cons_zero, List.set_cons_succ]
          refine takeR (fuel := 14) (i := 9) (v := .int .i64 b) rfl (by kernel_rfl) (by kernel_rfl) (by kernel_rfl) (fun _ _ _ h => h) (Or.inl ⟨rfl, fun W hW => by have cj : W.cell? ⟨blk, off + k * 6 + 1, none⟩ = some (.int .i64 b) := (hW.cell (p := ⟨blk, _, none⟩) hblw).trans c1; go_simp⟩) hS0 ?_
          simp only [Act.put, List.setIfInBounds_toArray, List.set_cons_zero, List.set_cons_succ]
          refine consR (fuel := 13) (i := 10) rfl (by kernel_rfl) (fun K hK => ?_)
          rw [if_pos (by rfl)]
          go_simp
          refine (H1.out v0).mono ?_
          rintro e v1 ⟨rfl, hv1⟩
          refine hK.out _ _ (by rw [hv1]; exact hS0) (fun hS1 => ?_)
          clear hK hv1
          try simp only [Act.put, List.setIfInBounds_toArray, List.set_cons_zero, List.set_cons_succ]
          refine takeR (fuel := 12) (i := 11) (v := .bool false) rfl (by kernel_rfl) (by kernel_rfl) (by kernel_rfl) (fun _ _ _ h => h) (Or.inl ⟨rfl, fun W hW => by go_simp⟩) hS1 ?_
          simp only [Act.put, List.setIfInBounds_toArray, List.set_cons_zero, List.set_cons_succ]
          refine takeR (fuel := 11) (i := 12) (v := .slice (some ⟨blk, off, none⟩) xs.length ce) rfl (by kernel_rfl) (by kernel_rfl) (by kernel_rfl) (fun _ _ _ h => h) (Or.inl ⟨rfl, fun W hW => by go_simp⟩) hS1 ?_
          simp only [Act.put, List.setIfInBounds_toArray, List.set_cons_zero, List.set_cons_succ]
          refine takeR (fuel := 10) (i := 13) (v := .int .i64 k) rfl (by kernel_rfl) (by kernel_rfl) (by kernel_rfl) (fun _ _ _ h => h) (Or.inl ⟨rfl, fun W hW => by go_simp⟩) hS1 ?_
          simp only [Act.put, List.setIfInBounds_toArray, List.set_cons_zero, List.set_cons_succ]
          refine takeR (fuel := 9) (i := 14) (v := .pointer (some ⟨blk, off + k * 6, none⟩)) rfl (by kernel_rfl) (by kernel_rfl) (by kernel_rfl) (fun _ _ _ h => h) (Or.inl ⟨rfl, fun W hW => by go_simp⟩) hS1 ?_
          simp only [Act.put, List.setIfInBounds_toArray, List.set_cons_zero, List.set_cons_succ]
          refine takeR (fuel := 8) (i := 15) (v := .pointer (some ⟨blk, off + k * 6 + 2, none⟩)) rfl (by kernel_rfl) (by kernel_rfl) (by kernel_rfl) (fun _ _ _ h => h) (Or.inl ⟨rfl, fun W hW => by go_simp⟩) hS1 ?_
          simp only [Act.put, List.setIfInBounds_toArray, List.set_cons_zero, List.set_cons_succ]
          refine takeR (fuel := 7) (i := 16) (v := .int .i64 t) rfl (by kernel_rfl) (by kernel_rfl) (by kernel_rfl) (fun _ _ _ h => h) (Or.inl ⟨rfl, fun W hW => by have cj : W.cell? ⟨blk, off + k * 6 + 2, none⟩ = some (.int .i64 t) := (hW.cell (p := ⟨blk, _, none⟩) hblw).trans c2; go_simp⟩) hS1 ?_
          simp only [Act.put, List.setIfInBounds_toArray, List.set_cons_zero, List.set_cons_succ]
          refine takeR (fuel := 6) (i := 17) (v := .slice (some ⟨blk, off, none⟩) xs.length ce) rfl (by kernel_rfl) (by kernel_rfl) (by kernel_rfl) (fun _ _ _ h => h) (Or.inl ⟨rfl, fun W hW => by go_simp⟩) hS1 ?_
          simp only [Act.put, List.setIfInBounds_toArray, List.set_cons_zero, List.set_cons_succ]
          refine takeR (fuel := 5) (i := 18) (v := .int .i64 k) rfl (by kernel_rfl) (by kernel_rfl) (by kernel_rfl) (fun _ _ _ h => h) (Or.inl ⟨rfl, fun W hW => by go_simp⟩) hS1 ?_
          simp only [Act.put, List.setIfInBounds_toArray, List.set_cons_zero, List.set_cons_succ]
          refine takeR (fuel := 4) (i := 19) (v := .pointer (some ⟨blk, off + k * 6, none⟩)) rfl (by kernel_rfl) (by kernel_rfl) (by kernel_rfl) (fun _ _ _ h => h) (Or.inl ⟨rfl, fun W hW => by go_simp⟩) hS1 ?_
          simp only [Act.put, List.setIfInBounds_toArray, List.set_cons_zero, List.set_cons_succ]
          refine takeR (fuel := 3) (i := 20) (v := .pointer (some ⟨blk, off + k * 6 + 3, none⟩)) rfl (by kernel_rfl) (by kernel_rfl) (by kernel_rfl) (fun _ _ _ h => h) (Or.inl ⟨rfl, fun W hW => by go_simp⟩) hS1 ?_
          simp only [Act.put, List.setIfInBounds_toArray, List.set_cons_zero, List.set_cons_succ]
          refine takeR (fuel := 2) (i := 21) (v := .int .i64 i) rfl (by kernel_rfl) (by kernel_rfl) (by kernel_rfl) (fun _ _ _ h => h) (Or.inl ⟨rfl, fun W hW => by have cj : W.cell? ⟨blk, off + k * 6 + 3, none⟩ = some (.int .i64 i) := (hW.cell (p := ⟨blk, _, none⟩) hblw).trans c3; go_simp⟩) hS1 ?_
          simp only [Act.put, List.setIfInBounds_toArray, List.set_cons_zero, List.set_cons_succ]
          refine consR (fuel := 1) (i := 22) rfl (by kernel_rfl) (fun K hK => ?_)
          rw [if_pos (by rfl)]
          go_simp
          refine (H2.out v1).mono ?_
          rintro e v2 ⟨rfl, hv2⟩
          refine hK.out _ _ (by rw [hv2]; exact hS1) (fun hS2 => ?_)
          clear hK hv2
          try simp only [Act.put, List.setIfInBounds_toArray, List.set_cons_zero, List.set_cons_succ]
          refine takeR (fuel := 0) (i := 23) (v := .bool false) rfl (by kernel_rfl) (by kernel_rfl) (by kernel_rfl) (fun _ _ _ h => h) (Or.inl ⟨rfl, fun W hW => by go_simp⟩) hS2 ?_
          simp only [Act.put, List.setIfInBounds_toArray, List.set_cons_zero, List.set_cons_succ]
          refine wpAnyH_done (by kernel_rfl) ?_ _
          clear H1 H2 hB1 hB2
          have y0 : v2.cell? ⟨blk, off + k * 6, none⟩ = some (.int .i64 f) := (hS2.cell (p := ⟨blk, _, none⟩) hblw).trans c0
          have y1 : v2.cell? ⟨blk, off + k * 6 + 1, none⟩ = some (.int .i64 b) := (hS2.cell (p := ⟨blk, _, none⟩) hblw).trans c1
          have y2 : v2.cell? ⟨blk, off + k * 6 + 2, none⟩ = some (.int .i64 t) := (hS2.cell (p := ⟨blk, _, none⟩) hblw).trans c2
          have y3 : v2.cell? ⟨blk, off + k * 6 + 3, none⟩ = some (.int .i64 i) := (hS2.cell (p := ⟨blk, _, none⟩) hblw).trans c3
          have y4 : v2.cell? ⟨blk, off + k * 6 + 4, none⟩ = some (.string s) := (hS2.cell (p := ⟨blk, _, none⟩) hblw).trans c4
          have y5 : v2.cell? ⟨blk, off + k * 6 + 5, none⟩ = some (.int .i64 q) := (hS2.cell (p := ⟨blk, _, none⟩) hblw).trans c5
          have hbl2 : blk < v2.heap.size := Nat.lt_of_lt_of_le hblw hS2.size
          obtain ⟨w3, hw3⟩ : ∃ w3, w3 = ((v2.alloc (.cells #[.int .i64 f, .int .i64 b, .string s] 40)).alloc (.cells #[.int .i64 t, .int .i64 i, .string s] 40)).drew.drew := ⟨_, rfl⟩
          have HW3 : Hid (((v2.alloc (.cells #[.int .i64 f, .int .i64 b, .string s] 40)).alloc (.cells #[.int .i64 t, .int .i64 i, .string s] 40)).drew.drew = w3) := hw3.symm
          have hv3 : Below v2.heap.size v2 w3 := by
            rw [hw3]
            exact (((Below.refl _ v2).alloc (Nat.le_refl _) _).alloc (by simp) _).trans ⟨rfl, rfl, rfl, Nat.le_refl _, fun _ _ => rfl⟩
          have hX1 : Bx w3 v2.heap.size #[.int .i64 f, .int .i64 b, .string s] 40 := by rw [hw3]; exact (Bx.new v2 _ _).kept (grown_trans (grown_alloc _ _ none) (grown_trans (grown_drew _ none) (grown_drew _ none))) (by simp)
          have hX2 : Bx w3 (v2.heap.size + 1) #[.int .i64 t, .int .i64 i, .string s] 40 := by
            rw [hw3]
            have h1 := Bx.new (v2.alloc (.cells #[.int .i64 f, .int .i64 b, .string s] 40)) #[.int .i64 t, .int .i64 i, .string s] 40
            rw [World.size_alloc] at h1
            exact h1.kept (grown_trans (grown_drew _ none) (grown_drew _ none)) (by simp)
          have hl3 : v2.heap.size + 1 < w3.heap.size := hX2.lt
          have hwr3 : Below wr.heap.size wr w3 := hS2.trans (hv3.mono hS2.size)
          have hw03 : Below w.heap.size w w3 := HBw.out _ hwr3
          have hO3 : w3.ownsRow w.heap.size 112 7 u7 k (ecs ((xs.map Ln.ex).take k)) := own_below hO hwr3
          clear hw3
          go_upto_region 7 with fail
          go_region
          go_upto_region 8 with fail
          go_region
          rw [HW3.out]
          obtain ⟨g1, hg1⟩ : ∃ g1, g1 = v2.heap.size := ⟨_, rfl⟩
          obtain ⟨g2, hg2⟩ : ∃ g2, g2 = v2.heap.size + 1 := ⟨_, rfl⟩
          rw [← hg2, ← hg1]
          have hY1 : Bx w3 g1 #[.int .i64 f, .int .i64 b, .string s] 40 := by rw [hg1]; exact hX1
          have hY2 : Bx w3 g2 #[.int .i64 t, .int .i64 i, .string s] 40 := by rw [hg2]; exact hX2
          have hgl : g1 < w3.heap.size ∧ g2 < w3.heap.size := by omega
          have hgw : wr.heap.size ≤ g1 ∧ wr.heap.size ≤ g2 := by have := hS2.size; omega
          clear hg1 hg2 hX1 hX2 y0 y1 y2 y3 y4 y5 HW3
          go_upto_region 9 with fail
          refine wp_region_held (S := fun W => Below w.heap.size w W ∧ Bx W g1 #[.int .i64 f, .int .i64 b, .string s] 40 ∧ Bx W g2 #[.int .i64 t, .int .i64 i, .string s] 40) (by kernel_rfl) ?_
          change wpAnyH _ _ _ _ _ 12 #[false, false, false, false, false, false, false, false, false, false, false, false] _ w3.drew
          have hS9 : Below w3.heap.size w3 w3.drew := ⟨rfl, rfl, rfl, Nat.le_refl _, fun _ _ => rfl⟩
          obtain ⟨v5, hv5⟩ : ∃ v, v = w3.drew := ⟨_, rfl⟩
          rw [← hv5] at hS9 ⊢
          clear hv5
          have hO5 : v5.ownsRow w.heap.size 112 7 u7 k (ecs ((xs.map Ln.ex).take k)) := own_below hO3 hS9
          have hB5 : Below w.heap.size w v5 := hw03.trans (hS9.mono hw03.size)
          have hs5 : w.heap.size ≤ v5.heap.size := hB5.size
          have hS0 : Below w.heap.size w v5 ∧ Bx v5 g1 #[.int .i64 f, .int .i64 b, .string s] 40 ∧ Bx v5 g2 #[.int .i64 t, .int .i64 i, .string s] 40 := ⟨hB5, hY1.below hS9 (by omega), hY2.below hS9 (by omega)⟩
          obtain ⟨v', w4, hr4, ho4, hg4⟩ := app_gen (T := 112) (Sl := 113) (k := 7) (bytes := 72) Try.underlying113 info112 rfl (by omega) [.int .i64 f, .int .i64 b, .string s, .int .i64 t, .int .i64 i, .string s, .int .i64 q] rfl (by intro u hu; simp at hu; rcases hu with rfl | rfl | rfl | rfl | rfl | rfl | rfl <;> rfl) hO5 hs5 (by omega) (by unfold maxLen; omega)
          have hB4 : Below w.heap.size w w4 := (hB5.alloc hs5 _).grown hg4 (by simp; omega) (fun j hj => (hO5.lt j hj).1)
          have hn1 : some g1 ≠ u7.ownBlock := fun e => by have := (hO.lt _ e.symm).2; omega
          have hn2 : some g2 ≠ u7.ownBlock := fun e => by have := (hO.lt _ e.symm).2; omega
          have hB4w : Below w.heap.size w w4 ∧ Bx w4 g1 #[.int .i64 f, .int .i64 b, .string s] 40 ∧ Bx w4 g2 #[.int .i64 t, .int .i64 i, .string s] 40 := ⟨hB4, (hS0.2.1.kept (grown_alloc _ _ none) (by simp)).kept hg4 hn1, (hS0.2.2.kept (grown_alloc _ _ none) (by simp)).kept hg4 hn2⟩
          have HO4 : Hid (w4.ownsRow w.heap.size 112 7 v' (k + 1) (ecs ((xs.map Ln.ex).take (k + 1))) ∧ Below w.heap.size w w4 ∧ (∀ j (h : j < xs.length), j < k + 1 → Ln.st xs[j] = false)) := ⟨by rw [← HT.out]; exact ho4, hB4, HN2.out⟩
          refine takeR (fuel := 11) (i := 0) (v := u7) rfl (by kernel_rfl) (by kernel_rfl) (by kernel_rfl) (fun _ _ _ h => h) (Or.inl ⟨rfl, fun W hW => by go_simp⟩) hS0 ?_
          simp only [Act.put, List.setIfInBounds_toArray, List.set_cons_zero, List.set_cons_succ]
          refine takeR (fuel := 10) (i := 1) (v := .agg #[.int .i64 f, .int .i64 b, .string s]) rfl (by kernel_rfl) (by kernel_rfl) (by kernel_rfl) (fun _ _ _ h => h) (Or.inl ⟨rfl, fun W hW => exl _ _ _ _ rfl _ _ rfl (load40 W g1 0 1 2 _ _ _ rfl rfl (hW.2.1.cell 0) (hW.2.1.cell 1) (hW.2.1.cell 2))⟩) hS0 ?_
          simp only [Act.put, List.setIfInBounds_toArray, List.set_cons_zero, List.set_cons_succ]
          refine takeR (fuel := 9) (i := 2) (v := .agg #[.int .i64 t, .int .i64 i, .string s]) rfl (by kernel_rfl) (by kernel_rfl) (by kernel_rfl) (fun _ _ _ h => h) (Or.inl ⟨rfl, fun W hW => exl _ _ _ _ rfl _ _ rfl (load40 W g2 0 1 2 _ _ _ rfl rfl (hW.2.2.cell 0) (hW.2.2.cell 1) (hW.2.2.cell 2))⟩) hS0 ?_
          simp only [Act.put, List.setIfInBounds_toArray, List.set_cons_zero, List.set_cons_succ]
          refine takeR (fuel := 8) (i := 3) (v := .slice (some ⟨blk, off, none⟩) xs.length ce) rfl (by kernel_rfl) (by kernel_rfl) (by kernel_rfl) (fun _ _ _ h => h) (Or.inl ⟨rfl, fun W hW => by go_simp⟩) hS0 ?_
          simp only [Act.put, List.setIfInBounds_toArray, List.set_cons_zero, List.set_cons_succ]
          refine takeR (fuel := 7) (i := 4) (v := .int .i64 k) rfl (by kernel_rfl) (by kernel_rfl) (by kernel_rfl) (fun _ _ _ h => h) (Or.inl ⟨rfl, fun W hW => by go_simp⟩) hS0 ?_
          simp only [Act.put, List.setIfInBounds_toArray, List.set_cons_zero, List.set_cons_succ]
          refine takeR (fuel := 6) (i := 5) (v := .pointer (some ⟨blk, off + k * 6, none⟩)) rfl (by kernel_rfl) (by kernel_rfl) (by kernel_rfl) (fun _ _ _ h => h) (Or.inl ⟨rfl, fun W hW => by go_simp⟩) hS0 ?_
          simp only [Act.put, List.setIfInBounds_toArray, List.set_cons_zero, List.set_cons_succ]
          refine takeR (fuel := 5) (i := 6) (v := .pointer (some ⟨blk, off + k * 6 + 5, none⟩)) rfl (by kernel_rfl) (by kernel_rfl) (by kernel_rfl) (fun _ _ _ h => h) (Or.inl ⟨rfl, fun W hW => by go_simp⟩) hS0 ?_
          simp only [Act.put, List.setIfInBounds_toArray, List.set_cons_zero, List.set_cons_succ]
          refine takeR (fuel := 4) (i := 7) (v := .int .i64 q) rfl (by kernel_rfl) (by kernel_rfl) (by kernel_rfl) (fun _ _ _ h => h) (Or.inl ⟨rfl, fun W hW => by have cj : W.cell? ⟨blk, off + k * 6 + 5, none⟩ = some (.int .i64 q) := (hW.1.cell (p := ⟨blk, _, none⟩) hbl).trans c5w; go_simp⟩) hS0 ?_
          simp only [Act.put, List.setIfInBounds_toArray, List.set_cons_zero, List.set_cons_succ]
          refine takeR (fuel := 3) (i := 8) (v := .agg #[.int .i64 f, .int .i64 b, .string s, .int .i64 t, .int .i64 i, .string s, .int .i64 q]) rfl (by kernel_rfl) (by kernel_rfl) (by kernel_rfl) (fun _ _ _ h => h) (Or.inl ⟨rfl, fun W hW => by go_simp⟩) hS0 ?_
          simp only [Act.put, List.setIfInBounds_toArray, List.set_cons_zero, List.set_cons_succ]
          refine consR (fuel := 2) (i := 9) rfl (by kernel_rfl) (fun K hK => ?_)
          rw [if_pos (by rfl)]
          go_simp
          refine hK.out _ _ ⟨hS0.1.alloc hS0.1.size _, hS0.2.1.kept (grown_alloc _ _ none) (by simp), hS0.2.2.kept (grown_alloc _ _ none) (by simp)⟩ (fun hS3 => ?_)
          clear hK
          try simp only [Act.put, List.setIfInBounds_toArray, List.set_cons_zero, List.set_cons_succ]
          refine consR (fuel := 1) (i := 10) rfl (by kernel_rfl) (fun K hK => ?_)
          rw [if_pos (by rfl)]
          refine Lib.wp_append_run _ _ _ 113 113 rfl _ _ rfl rfl _ w4 hr4 ?_
          refine hK.out _ _ hB4w (fun hS4 => ?_)
          clear hK
          try simp only [Act.put, List.setIfInBounds_toArray, List.set_cons_zero, List.set_cons_succ]
          refine takeR (fuel := 0) (i := 11) (v := v') rfl (by kernel_rfl) (by kernel_rfl) (by kernel_rfl) (fun _ _ _ h => h) (Or.inl ⟨rfl, fun W hW => by go_simp⟩) hS4 ?_
          simp only [Act.put, List.setIfInBounds_toArray, List.set_cons_zero, List.set_cons_succ]
          refine wpAnyH_done (by kernel_rfl) ?_ _
          go_wp2_with fail
          go_roundw
          case rel => exact ⟨k + 1, by omega, by simp, HO4⟩
          case measure => simp [intOf]; omega
        · have HY2 : Hid (∀ w', Below w.heap.size w w' → RmP (mvL L xs) (mvN L xs) (mvE L xs) w (.returned (.tuple #[.slice a L.length cap, .int .i64 (k : Int), .int .i64 22])) w') := HY.out (by rw [HSt.out, hB1, hB2]; rfl)
          clear HY HN HSt HR hB hO
          have H1 : Hid (∀ w, Calls Try.prog 44 #[.int .i64 f, .int .i64 b] w fun e w' => e = .returned (.bool false) ∧ w' = w) := by rw [← hB1]; exact rwrm' f b
          have H2 : Hid (∀ w, Calls Try.prog 44 #[.int .i64 t, .int .i64 i] w fun e w' => e = .returned (.bool true) ∧ w' = w) := by rw [← hB2]; exact rwrm' t i
          go_upto_region 5 with fail
          refine wp_region_held (S := fun W => Below wr.heap.size wr W) (by kernel_rfl) ?_
          change wpAnyH _ _ _ _ _ 24 #[false, false, false, false, false, false, false, false, false, false, false, false, false, false, false, false, false, false, false, false, false, false, false, false] _ (wr).drew
          have hS0 : Below wr.heap.size wr wr.drew := ⟨rfl, rfl, rfl, Nat.le_refl _, fun _ _ => rfl⟩
          obtain ⟨v0, hv0⟩ : ∃ v, v = wr.drew := ⟨_, rfl⟩
          rw [← hv0] at hS0 ⊢
          clear hv0
          refine takeR (fuel := 23) (i := 0) (v := .slice (some ⟨blk, off, none⟩) xs.length ce) rfl (by kernel_rfl) (by kernel_rfl) (by kernel_rfl) (fun _ _ _ h => h) (Or.inl ⟨rfl, fun W hW => by go_simp⟩) hS0 ?_
          simp only [Act.put, List.setIfInBounds_toArray, List.set_cons_zero, List.set_cons_succ]
          refine takeR (fuel := 22) (i := 1) (v := .int .i64 k) rfl (by kernel_rfl) (by kernel_rfl) (by kernel_rfl) (fun _ _ _ h => h) (Or.inl ⟨rfl, fun W hW => by go_simp⟩) hS0 ?_
          simp only [Act.put, List.setIfInBounds_toArray, List.set_cons_zero, List.set_cons_succ]
          refine takeR (fuel := 21) (i := 2) (v := .pointer (some ⟨blk, off + k * 6, none⟩)) rfl (by kernel_rfl) (by kernel_rfl) (by kernel_rfl) (fun _ _ _ h => h) (Or.inl ⟨rfl, fun W hW => by go_simp⟩) hS0 ?_
          simp only [Act.put, List.setIfInBounds_toArray, List.set_cons_zero, List.set_cons_succ]
          refine takeR (fuel := 20) (i := 3) (v := .pointer (some ⟨blk, off + k * 6, none⟩)) rfl (by kernel_rfl) (by kernel_rfl) (by kernel_rfl) (fun _ _ _ h => h) (Or.inl ⟨rfl, fun W hW => by go_simp⟩) hS0 ?_
          simp only [Act.put, List.setIfInBounds_toArray, List.set_cons_zero, List.set_cons_succ]
          refine takeR (fuel := 19) (i := 4) (v := .int .i64 f) rfl (by kernel_rfl) (by kernel_rfl) (by kernel_rfl) (fun _ _ _ h => h) (Or.inl ⟨rfl, fun W hW => by have cj : W.cell? ⟨blk, off + k * 6, none⟩ = some (.int .i64 f) := (hW.cell (p := ⟨blk, _, none⟩) hblw).trans c0; go_simp⟩) hS0 ?_
          simp only [Act.put, List.setIfInBounds_toArray, List.set_cons_zero, List.set_cons_succ]
          refine takeR (fuel := 18) (i := 5) (v := .slice (some ⟨blk, off, none⟩) xs.length ce) rfl (by kernel_rfl) (by kernel_rfl) (by kernel_rfl) (fun _ _ _ h => h) (Or.inl ⟨rfl, fun W hW => by go_simp⟩) hS0 ?_
          simp only [Act.put, List.setIfInBounds_toArray, List.set_cons_zero, List.set_cons_succ]
          refine takeR (fuel := 17) (i := 6) (v := .int .i64 k) rfl (by kernel_rfl) (by kernel_rfl) (by kernel_rfl) (fun _ _ _ h => h) (Or.inl ⟨rfl, fun W hW => by go_simp⟩) hS0 ?_
          simp only [Act.put, List.setIfInBounds_toArray, List.set_cons_zero, List.set_cons_succ]
          refine takeR (fuel := 16) (i := 7) (v := .pointer (some ⟨blk, off + k * 6, none⟩)) rfl (by kernel_rfl) (by kernel_rfl) (by kernel_rfl) (fun _ _ _ h => h) (Or.inl ⟨rfl, fun W hW => by go_simp⟩) hS0 ?_
          simp only [Act.put, List.setIfInBounds_toArray, List.set_cons_zero, List.set_cons_succ]
          refine takeR (fuel := 15) (i := 8) (v := .pointer (some ⟨blk, off + k * 6 + 1, none⟩)) rfl (by kernel_rfl) (by kernel_rfl) (by kernel_rfl) (fun _ _ _ h => h) (Or.inl ⟨rfl, fun W hW => by go_simp⟩) hS0 ?_
          simp only [Act.put, List.setIfInBounds_toArray, List.set_cons_zero, List.set_cons_succ]
          refine takeR (fuel := 14) (i := 9) (v := .int .i64 b) rfl (by kernel_rfl) (by kernel_rfl) (by kernel_rfl) (fun _ _ _ h => h) (Or.inl ⟨rfl, fun W hW => by have cj : W.cell? ⟨blk, off + k * 6 + 1, none⟩ = some (.int .i64 b) := (hW.cell (p := ⟨blk, _, none⟩) hblw).trans c1; go_simp⟩) hS0 ?_
          simp only [Act.put, List.setIfInBounds_toArray, List.set_cons_zero, List.set_cons_succ]
          refine consR (fuel := 13) (i := 10) rfl (by kernel_rfl) (fun K hK => ?_)
          rw [if_pos (by rfl)]
          go_simp
          refine (H1.out v0).mono ?_
          rintro e v1 ⟨rfl, hv1⟩
          refine hK.out _ _ (by rw [hv1]; exact hS0) (fun hS1 => ?_)
          clear hK hv1
          try simp only [Act.put, List.setIfInBounds_toArray, List.set_cons_zero, List.set_cons_succ]
          refine takeR (fuel := 12) (i := 11) (v := .bool false) rfl (by kernel_rfl) (by kernel_rfl) (by kernel_rfl) (fun _ _ _ h => h) (Or.inl ⟨rfl, fun W hW => by go_simp⟩) hS1 ?_
          simp only [Act.put, List.setIfInBounds_toArray, List.set_cons_zero, List.set_cons_succ]
          refine takeR (fuel := 11) (i := 12) (v := .slice (some ⟨blk, off, none⟩) xs.length ce) rfl (by kernel_rfl) (by kernel_rfl) (by kernel_rfl) (fun _ _ _ h => h) (Or.inl ⟨rfl, fun W hW => by go_simp⟩) hS1 ?_
          simp only [Act.put, List.setIfInBounds_toArray, List.set_cons_zero, List.set_cons_succ]
          refine takeR (fuel := 10) (i := 13) (v := .int .i64 k) rfl (by kernel_rfl) (by kernel_rfl) (by kernel_rfl) (fun _ _ _ h => h) (Or.inl ⟨rfl, fun W hW => by go_simp⟩) hS1 ?_
          simp only [Act.put, List.setIfInBounds_toArray, List.set_cons_zero, List.set_cons_succ]
          refine takeR (fuel := 9) (i := 14) (v := .pointer (some ⟨blk, off + k * 6, none⟩)) rfl (by kernel_rfl) (by kernel_rfl) (by kernel_rfl) (fun _ _ _ h => h) (Or.inl ⟨rfl, fun W hW => by go_simp⟩) hS1 ?_
          simp only [Act.put, List.setIfInBounds_toArray, List.set_cons_zero, List.set_cons_succ]
          refine takeR (fuel := 8) (i := 15) (v := .pointer (some ⟨blk, off + k * 6 + 2, none⟩)) rfl (by kernel_rfl) (by kernel_rfl) (by kernel_rfl) (fun _ _ _ h => h) (Or.inl ⟨rfl, fun W hW => by go_simp⟩) hS1 ?_
          simp only [Act.put, List.setIfInBounds_toArray, List.set_cons_zero, List.set_cons_succ]
          refine takeR (fuel := 7) (i := 16) (v := .int .i64 t) rfl (by kernel_rfl) (by kernel_rfl) (by kernel_rfl) (fun _ _ _ h => h) (Or.inl ⟨rfl, fun W hW => by have cj : W.cell? ⟨blk, off + k * 6 + 2, none⟩ = some (.int .i64 t) := (hW.cell (p := ⟨blk, _, none⟩) hblw).trans c2; go_simp⟩) hS1 ?_
          simp only [Act.put, List.setIfInBounds_toArray, List.set_cons_zero, List.set_cons_succ]
          refine takeR (fuel := 6) (i := 17) (v := .slice (some ⟨blk, off, none⟩) xs.length ce) rfl (by kernel_rfl) (by kernel_rfl) (by kernel_rfl) (fun _ _ _ h => h) (Or.inl ⟨rfl, fun W hW => by go_simp⟩) hS1 ?_
          simp only [Act.put, List.setIfInBounds_toArray, List.set_cons_zero, List.set_cons_succ]
          refine takeR (fuel := 5) (i := 18) (v := .int .i64 k) rfl (by kernel_rfl) (by kernel_rfl) (by kernel_rfl) (fun _ _ _ h => h) (Or.inl ⟨rfl, fun W hW => by go_simp⟩) hS1 ?_
          simp only [Act.put, List.setIfInBounds_toArray, List.set_cons_zero, List.set_cons_succ]
          refine takeR (fuel := 4) (i := 19) (v := .pointer (some ⟨blk, off + k * 6, none⟩)) rfl (by kernel_rfl) (by kernel_rfl) (by kernel_rfl) (fun _ _ _ h => h) (Or.inl ⟨rfl, fun W hW => by go_simp⟩) hS1 ?_
          simp only [Act.put, List.setIfInBounds_toArray, List.set_cons_zero, List.set_cons_succ]
          refine takeR (fuel := 3) (i := 20) (v := .pointer (some ⟨blk, off + k * 6 + 3, none⟩)) rfl (by kernel_rfl) (by kernel_rfl) (by kernel_rfl) (fun _ _ _ h => h) (Or.inl ⟨rfl, fun W hW => by go_simp⟩) hS1 ?_
          simp only [Act.put, List.setIfInBounds_toArray, List.set_cons_zero, List.set_cons_succ]
          refine takeR (fuel := 2) (i := 21) (v := .int .i64 i) rfl (by kernel_rfl) (by kernel_rfl) (by kernel_rfl) (fun _ _ _ h => h) (Or.inl ⟨rfl, fun W hW => by have cj : W.cell? ⟨blk, off + k * 6 + 3, none⟩ = some (.int .i64 i) := (hW.cell (p := ⟨blk, _, none⟩) hblw).trans c3; go_simp⟩) hS1 ?_
          simp only [Act.put, List.setIfInBounds_toArray, List.set_cons_zero, List.set_cons_succ]
          refine consR (fuel := 1) (i := 22) rfl (by kernel_rfl) (fun K hK => ?_)
          rw [if_pos (by rfl)]
          go_simp
          refine (H2.out v1).mono ?_
          rintro e v2 ⟨rfl, hv2⟩
          refine hK.out _ _ (by rw [hv2]; exact hS1) (fun hS2 => ?_)
          clear hK hv2
          try simp only [Act.put, List.setIfInBounds_toArray, List.set_cons_zero, List.set_cons_succ]
          refine takeR (fuel := 0) (i := 23) (v := .bool true) rfl (by kernel_rfl) (by kernel_rfl) (by kernel_rfl) (fun _ _ _ h => h) (Or.inl ⟨rfl, fun W hW => by go_simp⟩) hS2 ?_
          simp only [Act.put, List.setIfInBounds_toArray, List.set_cons_zero, List.set_cons_succ]
          refine wpAnyH_done (by kernel_rfl) ?_ _
          go_wp2_with fail
          go_returns
          exact HY2.out _ (HBw.out _ hS2)
      · have HY2 : Hid (∀ w', Below w.heap.size w w' → RmP (mvL L xs) (mvN L xs) (mvE L xs) w (.returned (.tuple #[.slice a L.length cap, .int .i64 (k : Int), .int .i64 22])) w') := HY.out (by rw [HSt.out, hB1]; rfl)
        clear HY HN HSt HR hB hO
        have H1 : Hid (∀ w, Calls Try.prog 44 #[.int .i64 f, .int .i64 b] w fun e w' => e = .returned (.bool true) ∧ w' = w) := by rw [← hB1]; exact rwrm' f b
        go_upto_region 5 with fail
        refine wp_region_held (S := fun W => Below wr.heap.size wr W) (by kernel_rfl) ?_
        change wpAnyH _ _ _ _ _ 24 #[false, false, false, false, false, false, false, false, false, false, false, false, false, false, false, false, false, false, false, false, false, false, false, false] _ (wr).drew
        have hS0 : Below wr.heap.size wr wr.drew := ⟨rfl, rfl, rfl, Nat.le_refl _, fun _ _ => rfl⟩
        obtain ⟨v0, hv0⟩ : ∃ v, v = wr.drew := ⟨_, rfl⟩
        rw [← hv0] at hS0 ⊢
        clear hv0
        refine takeR (fuel := 23) (i := 0) (v := .slice (some ⟨blk, off, none⟩) xs.length ce) rfl (by kernel_rfl) (by kernel_rfl) (by kernel_rfl) (fun _ _ _ h => h) (Or.inl ⟨rfl, fun W hW => by go_simp⟩) hS0 ?_
        simp only [Act.put, List.setIfInBounds_toArray, List.set_cons_zero, List.set_cons_succ]
        refine takeR (fuel := 22) (i := 1) (v := .int .i64 k) rfl (by kernel_rfl) (by kernel_rfl) (by kernel_rfl) (fun _ _ _ h => h) (Or.inl ⟨rfl, fun W hW => by go_simp⟩) hS0 ?_
        simp only [Act.put, List.setIfInBounds_toArray, List.set_cons_zero, List.set_cons_succ]
        refine takeR (fuel := 21) (i := 2) (v := .pointer (some ⟨blk, off + k * 6, none⟩)) rfl (by kernel_rfl) (by kernel_rfl) (by kernel_rfl) (fun _ _ _ h => h) (Or.inl ⟨rfl, fun W hW => by go_simp⟩) hS0 ?_
        simp only [Act.put, List.setIfInBounds_toArray, List.set_cons_zero, List.set_cons_succ]
        refine takeR (fuel := 20) (i := 3) (v := .pointer (some ⟨blk, off + k * 6, none⟩)) rfl (by kernel_rfl) (by kernel_rfl) (by kernel_rfl) (fun _ _ _ h => h) (Or.inl ⟨rfl, fun W hW => by go_simp⟩) hS0 ?_
        simp only [Act.put, List.setIfInBounds_toArray, List.set_cons_zero, List.set_cons_succ]
        refine takeR (fuel := 19) (i := 4) (v := .int .i64 f) rfl (by kernel_rfl) (by kernel_rfl) (by kernel_rfl) (fun _ _ _ h => h) (Or.inl ⟨rfl, fun W hW => by have cj : W.cell? ⟨blk, off + k * 6, none⟩ = some (.int .i64 f) := (hW.cell (p := ⟨blk, _, none⟩) hblw).trans c0; go_simp⟩) hS0 ?_
        simp only [Act.put, List.setIfInBounds_toArray, List.set_cons_zero, List.set_cons_succ]
        refine takeR (fuel := 18) (i := 5) (v := .slice (some ⟨blk, off, none⟩) xs.length ce) rfl (by kernel_rfl) (by kernel_rfl) (by kernel_rfl) (fun _ _ _ h => h) (Or.inl ⟨rfl, fun W hW => by go_simp⟩) hS0 ?_
        simp only [Act.put, List.setIfInBounds_toArray, List.set_cons_zero, List.set_cons_succ]
        refine takeR (fuel := 17) (i := 6) (v := .int .i64 k) rfl (by kernel_rfl) (by kernel_rfl) (by kernel_rfl) (fun _ _ _ h => h) (Or.inl ⟨rfl, fun W hW => by go_simp⟩) hS0 ?_
        simp only [Act.put, List.setIfInBounds_toArray, List.set_cons_zero, List.set_cons_succ]
        refine takeR (fuel := 16) (i := 7) (v := .pointer (some ⟨blk, off + k * 6, none⟩)) rfl (by kernel_rfl) (by kernel_rfl) (by kernel_rfl) (fun _ _ _ h => h) (Or.inl ⟨rfl, fun W hW => by go_simp⟩) hS0 ?_
        simp only [Act.put, List.setIfInBounds_toArray, List.set_cons_zero, List.set_cons_succ]
        refine takeR (fuel := 15) (i := 8) (v := .pointer (some ⟨blk, off + k * 6 + 1, none⟩)) rfl (by kernel_rfl) (by kernel_rfl) (by kernel_rfl) (fun _ _ _ h => h) (Or.inl ⟨rfl, fun W hW => by go_simp⟩) hS0 ?_
        simp only [Act.put, List.setIfInBounds_toArray, List.set_cons_zero, List.set_cons_succ]
        refine takeR (fuel := 14) (i := 9) (v := .int .i64 b) rfl (by kernel_rfl) (by kernel_rfl) (by kernel_rfl) (fun _ _ _ h => h) (Or.inl ⟨rfl, fun W hW => by have cj : W.cell? ⟨blk, off + k * 6 + 1, none⟩ = some (.int .i64 b) := (hW.cell (p := ⟨blk, _, none⟩) hblw).trans c1; go_simp⟩) hS0 ?_
        simp only [Act.put, List.setIfInBounds_toArray, List.set_cons_zero, List.set_cons_succ]
        refine consR (fuel := 13) (i := 10) rfl (by kernel_rfl) (fun K hK => ?_)
        rw [if_pos (by rfl)]
        go_simp
        refine (H1.out v0).mono ?_
        rintro e v1 ⟨rfl, hv1⟩
        refine hK.out _ _ (by rw [hv1]; exact hS0) (fun hS1 => ?_)
        clear hK hv1
        try simp only [Act.put, List.setIfInBounds_toArray, List.set_cons_zero, List.set_cons_succ]
        refine takeR (fuel := 12) (i := 11) (v := .bool true) rfl (by kernel_rfl) (by kernel_rfl) (by kernel_rfl) (fun _ _ _ h => h) (Or.inl ⟨rfl, fun W hW => by go_simp⟩) hS1 ?_
        simp only [Act.put, List.setIfInBounds_toArray, List.set_cons_zero, List.set_cons_succ]
        refine takeR (fuel := 11) (i := 12) (v := undef) rfl (by kernel_rfl) (by kernel_rfl) (by kernel_rfl) (fun _ _ _ h => h) (Or.inr ⟨rfl, rfl⟩) hS1 ?_
        simp only [Act.put, List.setIfInBounds_toArray, List.set_cons_zero, List.set_cons_succ]
        refine takeR (fuel := 10) (i := 13) (v := undef) rfl (by kernel_rfl) (by kernel_rfl) (by kernel_rfl) (fun _ _ _ h => h) (Or.inr ⟨rfl, rfl⟩) hS1 ?_
        simp only [Act.put, List.setIfInBounds_toArray, List.set_cons_zero, List.set_cons_succ]
        refine takeR (fuel := 9) (i := 14) (v := undef) rfl (by kernel_rfl) (by kernel_rfl) (by kernel_rfl) (fun _ _ _ h => h) (Or.inr ⟨rfl, rfl⟩) hS1 ?_
        simp only [Act.put, List.setIfInBounds_toArray, List.set_cons_zero, List.set_cons_succ]
        refine takeR (fuel := 8) (i := 15) (v := undef) rfl (by kernel_rfl) (by kernel_rfl) (by kernel_rfl) (fun _ _ _ h => h) (Or.inr ⟨rfl, rfl⟩) hS1 ?_
        simp only [Act.put, List.setIfInBounds_toArray, List.set_cons_zero, List.set_cons_succ]
        refine takeR (fuel := 7) (i := 16) (v := undef) rfl (by kernel_rfl) (by kernel_rfl) (by kernel_rfl) (fun _ _ _ h => h) (Or.inr ⟨rfl, rfl⟩) hS1 ?_
        simp only [Act.put, List.setIfInBounds_toArray, List.set_cons_zero, List.set_cons_succ]
        refine takeR (fuel := 6) (i := 17) (v := undef) rfl (by kernel_rfl) (by kernel_rfl) (by kernel_rfl) (fun _ _ _ h => h) (Or.inr ⟨rfl, rfl⟩) hS1 ?_
        simp only [Act.put, List.setIfInBounds_toArray, List.set_cons_zero, List.set_cons_succ]
        refine takeR (fuel := 5) (i := 18) (v := undef) rfl (by kernel_rfl) (by kernel_rfl) (by kernel_rfl) (fun _ _ _ h => h) (Or.inr ⟨rfl, rfl⟩) hS1 ?_
        simp only [Act.put, List.setIfInBounds_toArray, List.set_cons_zero, List.set_cons_succ]
        refine takeR (fuel := 4) (i := 19) (v := undef) rfl (by kernel_rfl) (by kernel_rfl) (by kernel_rfl) (fun _ _ _ h => h) (Or.inr ⟨rfl, rfl⟩) hS1 ?_
        simp only [Act.put, List.setIfInBounds_toArray, List.set_cons_zero, List.set_cons_succ]
        refine takeR (fuel := 3) (i := 20) (v := undef) rfl (by kernel_rfl) (by kernel_rfl) (by kernel_rfl) (fun _ _ _ h => h) (Or.inr ⟨rfl, rfl⟩) hS1 ?_
        simp only [Act.put, List.setIfInBounds_toArray, List.set_cons_zero, List.set_cons_succ]
        refine takeR (fuel := 2) (i := 21) (v := undef) rfl (by kernel_rfl) (by kernel_rfl) (by kernel_rfl) (fun _ _ _ h => h) (Or.inr ⟨rfl, rfl⟩) hS1 ?_
        simp only [Act.put, List.setIfInBounds_toArray, List.set_cons_zero, List.set_cons_succ]
        refine takeR (fuel := 1) (i := 22) (v := undef) rfl (by kernel_rfl) (by kernel_rfl) (by kernel_rfl) (fun _ _ _ h => h) (Or.inr ⟨rfl, rfl⟩) hS1 ?_
        simp only [Act.put, List.setIfInBounds_toArray, List.set_cons_zero, List.set_cons_succ]
        refine takeR (fuel := 0) (i := 23) (v := .bool true) rfl (by kernel_rfl) (by kernel_rfl) (by kernel_rfl) (fun _ _ _ h => h) (Or.inl ⟨rfl, fun W hW => by go_simp⟩) hS1 ?_
        simp only [Act.put, List.setIfInBounds_toArray, List.set_cons_zero, List.set_cons_succ]
        refine wpAnyH_done (by kernel_rfl) ?_ _
        go_wp2_with fail
        go_returns
        exact HY2.out _ (HBw.out _ hS1)
    · have hkz : ¬ (k : Int) < (xs.length : Int) := by omega
      have hkl : k = (xs.map Ln.ex).length := by simp; omega
      have HZ : Hid (Calls Try.prog 59 #[.slice a L.length cap, u7] wr fun e w' => ∃ v1 n1 s1, e = .returned (.tuple #[v1, .int .i64 n1, .int .i64 s1]) ∧ Hid (RmP (mvL L xs) (mvN L xs) (mvE L xs) w (.returned (.tuple #[v1, .int .i64 n1, .int .i64 s1])) w')) := by
        obtain ⟨h1, h2, h3⟩ := HR.out
        refine HNONE.out u7 wr (fidx_none (fun j hj => h3 j hj (by omega))) ?_ h2
        rw [hkl, List.take_length] at h1
        rw [List.length_map] at h1
        exact h1
      clear HSOME HNONE HR HE
      go_wp2_with (go_at_call 59; refine HZ.out.mono ?_; rintro e w5 ⟨v1, n1, s1, rfl, HF⟩)
      go_returns
      exact HF.out
end Go.Proofs.Ytbfnfebmmhhegaa
