/- Layer 10: Encode of the reference. -/
import Derived.Test.YtdmlgheajblcdaaGreatK25
import Derived.WalkKit
import Derived.ProofKit
import Derived.Handy
import Derived.WalkLawsBesides
import Derived.WalkSpells
import Derived.BigQuiet
import Derived.BigCall
import Derived.Deep.QuietTactic
import Derived.Deep.Light
import Derived.Deep.OwnRows
import Derived.Laws.AppendOwnNone
import Derived.Laws.Strings3
import Derived.Laws.RangeAny
import Derived.Deep.RegionWith
import Derived.Lib.BitFns
import Derived.Lib.Walk
import Derived.Lib.Strings
import Derived.Lib.OthersKept
import Derived.Deep.CutBlock
import Derived.Deep.DeepCutAuto
import Derived.Deep.LoopGhost
import Derived.Deep.RegionHeld3
import Derived.Lib.SmallJoins
import Derived.Maps.AppendAt
import Derived.Laws.IdiomStrings
import Derived.Lib.AppendZeros
import Derived.Deep.WholeRow
import Derived.Laws.BitsAllLaws
import Derived.Lib.ConvBytes
import Derived.Deep.RegionLaw
namespace Go.Proofs.YtdmlgheajblcdaaGreat
open Go.RowKit
set_option linter.unusedVariables false
set_option linter.unusedSimpArgs false
set_option maxRecDepth 100000
set_option maxHeartbeats 16000000 in
theorem rEncOk (m : Mg) (pa ia ca ba : Option Addr) (pc ic cc bc : Nat) (w : World) (h13 : ∀ W, Below w.heap.size w W → Calls Tryz.prog 13 #[.agg (mcs m pa ia ca ba pc ic cc bc)] W (KP (.int .i64 0) W)) (hW : m.Wf) (hH : Hld w.heap.size w m pa ia ca ba) (hSh : Shrt m) (h54 : ∀ W, Below w.heap.size w W → Calls Tryz.prog 54 #[.agg (mcs m pa ia ca ba pc ic cc bc)] W (SB (bhL m) W)) (hz54 : (bhL m).length ≤ 1000000) (h15 : inn m.k 1 15 = true) : Calls Tryz.prog 19 #[.agg (mcs m pa ia ca ba pc ic cc bc)] w (KP (.tuple #[.string ⟨(encL m).toArray⟩, .int .i64 0]) w) := by
  have H13 : Hid (∀ W, Below w.heap.size w W → Calls Tryz.prog 13 #[.agg (mcs m pa ia ca ba pc ic cc bc)] W (KP (.int .i64 0) W)) := h13
  have H49 : Hid (∀ W, Calls Tryz.prog 49 #[.int .i64 m.k] W (TB' ⟨(intL m.k).toArray⟩ W)) := fun W => TB'.of (rint m.k hW.k W) rfl
  have H54 : Hid (∀ W, Below w.heap.size w W → Calls Tryz.prog 54 #[.agg (mcs m pa ia ca ba pc ic cc bc)] W (TB' ⟨(bhL m).toArray⟩ W)) := fun W hb => TB'.of (h54 W hb) rfl
  have HWf : Hid m.Wf := hW
  have HH : Hid (Hld w.heap.size w m pa ia ca ba) := hH
  have HSh : Hid (Shrt m) := hSh
  have hz0 : (⟨(intL m.k).toArray⟩ : ByteArray).size ≤ 10 := intL_len hW.k
  have hzb : (⟨(bhL m).toArray⟩ : ByteArray).size ≤ 1000000 := hz54
  have HS0 : Hid ((⟨(intL m.k).toArray⟩ : ByteArray).data.toList = intL m.k) := rfl
  have HSb : Hid ((⟨(bhL m).toArray⟩ : ByteArray).data.toList = bhL m) := rfl
  have HRes : Hid (∀ T : ByteArray, T.data.toList = encL m → T = ⟨(encL m).toArray⟩) := fun T h => by rw [← h]
  have HK : Hid (inn m.k 1 15 = true) := h15
  clear h13 hW hH hSh h54 hz54 h15
  generalize (⟨(intL m.k).toArray⟩ : ByteArray) = S0 at *
  generalize (⟨(bhL m).toArray⟩ : ByteArray) = Sb at *
  generalize (⟨(encL m).toArray⟩ : ByteArray) = SR at *
  have HX0 : Hid (Bx (w.alloc (.cells (mcs m pa ia ca ba pc ic cc bc) 35)) w.heap.size (mcs m pa ia ca ba pc ic cc bc) 35) := Bx.new _ _ _
  have HB0 : Hid (Below w.heap.size w (w.alloc (.cells (mcs m pa ia ca ba pc ic cc bc) 35))) := below_a w _
  have HLD : Hid (∀ W, Bx W w.heap.size (mcs m pa ia ca ba pc ic cc bc) 35 → (Instr.loadAt 35 (.pointer (some ⟨w.heap.size, 0, none⟩))).run Tryz.prog W = .ok (.agg (mcs m pa ia ca ba pc ic cc bc)) W) := fun W h => hloadAt W w.heap.size _ (mcs_size _ _ _ _ _ _ _ _ _) h
  go_enter Tryz.func19, Tryz.ntmps19
  go_upto_region 1 with fail
  generalize hw1 : w.alloc (.cells (mcs m pa ia ca ba pc ic cc bc) 35) = w1 at *
  have HX : Hid (Bx w1 w.heap.size (mcs m pa ia ca ba pc ic cc bc) 35) := HX0.out
  have HB : Hid (Below w.heap.size w w1) := HB0.out
  clear HX0 HB0 hw1
  go_wp2_with (guard_target =~ wpList _ _ _ (⟨_, Op.load 35 _, _, _, _, _⟩ :: _) _ _; refine wl_load _ rfl 35 _ rfl _ rfl _ (HLD.out _ HX.out) ?_; go_simp)
  refine (H13.out _ HB.out).mono ?_
  rintro e w2 ⟨rfl, hb2⟩
  have HX2 : Hid (Bx w2 w.heap.size (mcs m pa ia ca ba pc ic cc bc) 35) := HX.out.keep hb2.out
  have HB2 : Hid (Below w.heap.size w w2) := bt HB.out hb2.out
  have c0 : w2.cell? ⟨w.heap.size, 0, none⟩ = some (.int .i64 m.k) := HX2.out.cell 0
  clear hb2 HX HB H13
  go_wp2_with fail
  refine (H49.out _).mono ?_
  rintro e w3 ⟨rfl, hb3⟩
  have HX3 : Hid (Bx w3 w.heap.size (mcs m pa ia ca ba pc ic cc bc) 35) := HX2.out.keep hb3.out
  have HB3 : Hid (Below w.heap.size w w3) := bt HB2.out hb3.out
  clear hb3 HX2 HB2 c0 H49
  go_upto_region 4 with fail
  go_cut [5, 6, 7] from 10 to 23 (fun v5 v6 v7 wx => ∃ p5 p6 p7 : Nat, v5 = .pointer (some ⟨p5, 0, none⟩) ∧ v6 = .pointer (some ⟨p6, 0, none⟩) ∧ v7 = .pointer (some ⟨p7, 0, none⟩) ∧ Hid (Bx wx w.heap.size (mcs m pa ia ca ba pc ic cc bc) 35) ∧ Hid (Bx wx p5 #[.string ⟨m.a.i.toArray⟩, .int .i64 m.a.iss, .int .i64 m.a.rat, .int .i64 m.a.mat, .string ⟨m.a.cur.toArray⟩] 23) ∧ Hid (Bx wx p6 #[.int .i64 m.b.id, .int .i64 m.b.ver, .string ⟨m.b.cur.toArray⟩, .int .i64 m.b.rat, .int .i64 m.b.least, .int .i64 m.b.most, .slice ca m.b.cuts.length cc, .int .i64 m.b.iss, .int .i64 m.b.ass, .slice ba m.b.bar.length bc] 27) ∧ Hid (Bx wx p7 #[.int .i64 m.q.id, .int .i64 m.q.mem, .int .i64 m.q.side, .int .i64 m.q.bas, .int .i64 m.q.am, .int .i64 m.q.rate, .int .i64 m.q.st, .int .i64 m.q.en] 30) ∧ Hid (Below w.heap.size w wx))
  case first =>
    refine wp_region_held (S := fun W => Bx W w.heap.size (mcs m pa ia ca ba pc ic cc bc) 35 ∧ Below w.heap.size w W) (by kernel_rfl) ?_
    change wpAnyH _ _ _ _ _ 12 #[false, false, false, false, false, false, false, false, false, false, false, false] _ w3.drew
    have hS : Bx w3.drew w.heap.size (mcs m pa ia ca ba pc ic cc bc) 35 ∧ Below w.heap.size w w3.drew := ⟨HX3.out, bdrw HB3.out 1⟩
    clear HX3 HB3 HLD
    obtain ⟨v0, hv0⟩ : ∃ v, v = w3.drew := ⟨_, rfl⟩
    rw [← hv0] at hS ⊢
    clear hv0
    refine takeR (fuel := 11) (i := 0) (v := .pointer (some ⟨w.heap.size, 3, none⟩)) rfl (by kernel_rfl) (by kernel_rfl) (by kernel_rfl) (fun _ _ _ h => h) (Or.inl ⟨rfl, fun W hW => by go_simp⟩) hS ?_
    simp only [Act.put, List.setIfInBounds_toArray, List.set_cons_zero, List.set_cons_succ]
    refine takeR (fuel := 10) (i := 1) (v := .agg #[.string ⟨m.a.i.toArray⟩, .int .i64 m.a.iss, .int .i64 m.a.rat, .int .i64 m.a.mat, .string ⟨m.a.cur.toArray⟩]) rfl (by kernel_rfl) (by kernel_rfl) (by kernel_rfl) (fun _ _ _ h => h) (Or.inl ⟨rfl, fun W hW => exl _ _ _ _ rfl _ _ rfl (load23 W _ _ _ _ _ _ (hW.1.cell 3) (hW.1.cell 4) (hW.1.cell 5) (hW.1.cell 6) (hW.1.cell 7))⟩) hS ?_
    simp only [Act.put, List.setIfInBounds_toArray, List.set_cons_zero, List.set_cons_succ]
    refine takeR (fuel := 9) (i := 2) (v := .pointer (some ⟨w.heap.size, 8, none⟩)) rfl (by kernel_rfl) (by kernel_rfl) (by kernel_rfl) (fun _ _ _ h => h) (Or.inl ⟨rfl, fun W hW => by go_simp⟩) hS ?_
    simp only [Act.put, List.setIfInBounds_toArray, List.set_cons_zero, List.set_cons_succ]
    refine takeR (fuel := 8) (i := 3) (v := .agg #[.int .i64 m.b.id, .int .i64 m.b.ver, .string ⟨m.b.cur.toArray⟩, .int .i64 m.b.rat, .int .i64 m.b.least, .int .i64 m.b.most, .slice ca m.b.cuts.length cc, .int .i64 m.b.iss, .int .i64 m.b.ass, .slice ba m.b.bar.length bc]) rfl (by kernel_rfl) (by kernel_rfl) (by kernel_rfl) (fun _ _ _ h => h) (Or.inl ⟨rfl, fun W hW => exl _ _ _ _ rfl _ _ rfl (load27 W _ _ _ _ _ _ _ _ _ _ _ (hW.1.cell 8) (hW.1.cell 9) (hW.1.cell 10) (hW.1.cell 11) (hW.1.cell 12) (hW.1.cell 13) (hW.1.cell 14) (hW.1.cell 15) (hW.1.cell 16) (hW.1.cell 17))⟩) hS ?_
    simp only [Act.put, List.setIfInBounds_toArray, List.set_cons_zero, List.set_cons_succ]
    refine takeR (fuel := 7) (i := 4) (v := .pointer (some ⟨w.heap.size, 22, none⟩)) rfl (by kernel_rfl) (by kernel_rfl) (by kernel_rfl) (fun _ _ _ h => h) (Or.inl ⟨rfl, fun W hW => by go_simp⟩) hS ?_
    simp only [Act.put, List.setIfInBounds_toArray, List.set_cons_zero, List.set_cons_succ]
    refine takeR (fuel := 6) (i := 5) (v := .agg #[.int .i64 m.q.id, .int .i64 m.q.mem, .int .i64 m.q.side, .int .i64 m.q.bas, .int .i64 m.q.am, .int .i64 m.q.rate, .int .i64 m.q.st, .int .i64 m.q.en]) rfl (by kernel_rfl) (by kernel_rfl) (by kernel_rfl) (fun _ _ _ h => h) (Or.inl ⟨rfl, fun W hW => exl _ _ _ _ rfl _ _ rfl (load30 W _ _ _ _ _ _ _ _ _ (hW.1.cell 22) (hW.1.cell 23) (hW.1.cell 24) (hW.1.cell 25) (hW.1.cell 26) (hW.1.cell 27) (hW.1.cell 28) (hW.1.cell 29))⟩) hS ?_
    simp only [Act.put, List.setIfInBounds_toArray, List.set_cons_zero, List.set_cons_succ]
    refine consR3 (fuel := 5) (i := 6) (j := 7) (k := 8) rfl rfl rfl (by kernel_rfl) (fun K hK => ?_) (fun K hK => ?_) (fun K hK => ?_)
    · rw [if_pos (by rfl)]
      go_simp
      refine hK.out _ _ ⟨hS.1.keep (below_a _ _), bt hS.2 (below_a _ _)⟩ (fun hS1 => ?_)
      clear hK
      try simp only [Act.put, List.setIfInBounds_toArray, List.set_cons_zero, List.set_cons_succ]
      have hn6 : Bx (v0.alloc (.cells #[.string ⟨#[]⟩, .int .i64 0, .int .i64 0, .int .i64 0, .string ⟨#[]⟩] 23)) v0.heap.size #[.string ⟨#[]⟩, .int .i64 0, .int .i64 0, .int .i64 0, .string ⟨#[]⟩] 23 := Bx.new _ _ _
      have hle6 : w.heap.size ≤ v0.heap.size := hS.2.size
      generalize v0.heap.size = p6 at *
      generalize v0.alloc (.cells #[.string ⟨#[]⟩, .int .i64 0, .int .i64 0, .int .i64 0, .string ⟨#[]⟩] 23) = v1 at *
      refine consR2 (fuel := 4) (i := 7) (j := 8) rfl rfl (by kernel_rfl) (fun K hK => ?_) (fun K hK => ?_)
      · rw [if_pos (by rfl)]
        go_simp
        refine hK.out _ _ ⟨hS1.1.keep (below_a _ _), bt hS1.2 (below_a _ _)⟩ (fun hS2 => ?_)
        clear hK
        try simp only [Act.put, List.setIfInBounds_toArray, List.set_cons_zero, List.set_cons_succ]
        have hn7 : Bx (v1.alloc (.cells #[.int .i64 0, .int .i64 0, .string ⟨#[]⟩, .int .i64 0, .int .i64 0, .int .i64 0, .slice none 0 0, .int .i64 0, .int .i64 0, .slice none 0 0] 27)) v1.heap.size #[.int .i64 0, .int .i64 0, .string ⟨#[]⟩, .int .i64 0, .int .i64 0, .int .i64 0, .slice none 0 0, .int .i64 0, .int .i64 0, .slice none 0 0] 27 := Bx.new _ _ _
        have hn6 : Bx (v1.alloc (.cells #[.int .i64 0, .int .i64 0, .string ⟨#[]⟩, .int .i64 0, .int .i64 0, .int .i64 0, .slice none 0 0, .int .i64 0, .int .i64 0, .slice none 0 0] 27)) p6 #[.string ⟨#[]⟩, .int .i64 0, .int .i64 0, .int .i64 0, .string ⟨#[]⟩] 23 := hn6.keep (below_a _ _)
        have hle7 : w.heap.size ≤ v1.heap.size := hS1.2.size
        generalize v1.heap.size = p7 at *
        generalize v1.alloc (.cells #[.int .i64 0, .int .i64 0, .string ⟨#[]⟩, .int .i64 0, .int .i64 0, .int .i64 0, .slice none 0 0, .int .i64 0, .int .i64 0, .slice none 0 0] 27) = v2 at *
        refine consR (fuel := 3) (i := 8) rfl (by kernel_rfl) (fun K hK => ?_)
        · rw [if_pos (by rfl)]
          go_simp
          refine hK.out _ _ ⟨hS2.1.keep (below_a _ _), bt hS2.2 (below_a _ _)⟩ (fun hS3 => ?_)
          clear hK
          try simp only [Act.put, List.setIfInBounds_toArray, List.set_cons_zero, List.set_cons_succ]
          have hn8 : Bx (v2.alloc (.cells #[.int .i64 0, .int .i64 0, .int .i64 0, .int .i64 0, .int .i64 0, .int .i64 0, .int .i64 0, .int .i64 0] 30)) v2.heap.size #[.int .i64 0, .int .i64 0, .int .i64 0, .int .i64 0, .int .i64 0, .int .i64 0, .int .i64 0, .int .i64 0] 30 := Bx.new _ _ _
          have hn6 : Bx (v2.alloc (.cells #[.int .i64 0, .int .i64 0, .int .i64 0, .int .i64 0, .int .i64 0, .int .i64 0, .int .i64 0, .int .i64 0] 30)) p6 #[.string ⟨#[]⟩, .int .i64 0, .int .i64 0, .int .i64 0, .string ⟨#[]⟩] 23 := hn6.keep (below_a _ _)
          have hn7 : Bx (v2.alloc (.cells #[.int .i64 0, .int .i64 0, .int .i64 0, .int .i64 0, .int .i64 0, .int .i64 0, .int .i64 0, .int .i64 0] 30)) p7 #[.int .i64 0, .int .i64 0, .string ⟨#[]⟩, .int .i64 0, .int .i64 0, .int .i64 0, .slice none 0 0, .int .i64 0, .int .i64 0, .slice none 0 0] 27 := hn7.keep (below_a _ _)
          have hle8 : w.heap.size ≤ v2.heap.size := hS2.2.size
          generalize v2.heap.size = p8 at *
          generalize v2.alloc (.cells #[.int .i64 0, .int .i64 0, .int .i64 0, .int .i64 0, .int .i64 0, .int .i64 0, .int .i64 0, .int .i64 0] 30) = v3 at *
          have n67 : p6 ≠ p7 := Bx.ne hn6 hn7 (by decide)
          have n68 : p6 ≠ p8 := Bx.ne hn6 hn8 (by decide)
          have n78 : p7 ≠ p8 := Bx.ne hn7 hn8 (by decide)
          have nb6 : w.heap.size ≠ p6 := Bx.ne hS3.1 hn6 (by decide)
          have nb7 : w.heap.size ≠ p7 := Bx.ne hS3.1 hn7 (by decide)
          have nb8 : w.heap.size ≠ p8 := Bx.ne hS3.1 hn8 (by decide)
          refine consR (fuel := 2) (i := 9) rfl (by kernel_rfl) (fun K hK => ?_)
          rw [if_pos (by rfl)]
          refine ow_store _ _ 23 _ _ rfl _ _ rfl rfl (storeT _ p6 _ #[.string ⟨m.a.i.toArray⟩, .int .i64 m.a.iss, .int .i64 m.a.rat, .int .i64 m.a.mat, .string ⟨m.a.cur.toArray⟩] info23 hn6 rfl rfl (by simp [Value.oneCell'])) ?_
          refine hK.out _ _ ⟨hS3.1.other nb6, below_setRow' hS3.2 hle6⟩ (fun hT9 => ?_)
          clear hK
          try simp only [Act.put, List.setIfInBounds_toArray, List.set_cons_zero, List.set_cons_succ]
          have hn6 := hn6.set (ds := #[.string ⟨m.a.i.toArray⟩, .int .i64 m.a.iss, .int .i64 m.a.rat, .int .i64 m.a.mat, .string ⟨m.a.cur.toArray⟩])
          have hn7 := hn7.other (ds := #[.string ⟨m.a.i.toArray⟩, .int .i64 m.a.iss, .int .i64 m.a.rat, .int .i64 m.a.mat, .string ⟨m.a.cur.toArray⟩]) n67.symm
          have hn8 := hn8.other (ds := #[.string ⟨m.a.i.toArray⟩, .int .i64 m.a.iss, .int .i64 m.a.rat, .int .i64 m.a.mat, .string ⟨m.a.cur.toArray⟩]) n68.symm
          generalize v3.setRow p6 #[.string ⟨m.a.i.toArray⟩, .int .i64 m.a.iss, .int .i64 m.a.rat, .int .i64 m.a.mat, .string ⟨m.a.cur.toArray⟩] = s9 at *
          refine consR (fuel := 1) (i := 10) rfl (by kernel_rfl) (fun K hK => ?_)
          rw [if_pos (by rfl)]
          refine ow_store _ _ 27 _ _ rfl _ _ rfl rfl (storeT _ p7 _ #[.int .i64 m.b.id, .int .i64 m.b.ver, .string ⟨m.b.cur.toArray⟩, .int .i64 m.b.rat, .int .i64 m.b.least, .int .i64 m.b.most, .slice ca m.b.cuts.length cc, .int .i64 m.b.iss, .int .i64 m.b.ass, .slice ba m.b.bar.length bc] info27 hn7 rfl rfl (by simp [Value.oneCell'])) ?_
          refine hK.out _ _ ⟨hT9.1.other nb7, below_setRow' hT9.2 hle7⟩ (fun hT10 => ?_)
          clear hK
          try simp only [Act.put, List.setIfInBounds_toArray, List.set_cons_zero, List.set_cons_succ]
          have hn6 := hn6.other (ds := #[.int .i64 m.b.id, .int .i64 m.b.ver, .string ⟨m.b.cur.toArray⟩, .int .i64 m.b.rat, .int .i64 m.b.least, .int .i64 m.b.most, .slice ca m.b.cuts.length cc, .int .i64 m.b.iss, .int .i64 m.b.ass, .slice ba m.b.bar.length bc]) n67
          have hn7 := hn7.set (ds := #[.int .i64 m.b.id, .int .i64 m.b.ver, .string ⟨m.b.cur.toArray⟩, .int .i64 m.b.rat, .int .i64 m.b.least, .int .i64 m.b.most, .slice ca m.b.cuts.length cc, .int .i64 m.b.iss, .int .i64 m.b.ass, .slice ba m.b.bar.length bc])
          have hn8 := hn8.other (ds := #[.int .i64 m.b.id, .int .i64 m.b.ver, .string ⟨m.b.cur.toArray⟩, .int .i64 m.b.rat, .int .i64 m.b.least, .int .i64 m.b.most, .slice ca m.b.cuts.length cc, .int .i64 m.b.iss, .int .i64 m.b.ass, .slice ba m.b.bar.length bc]) n78.symm
          generalize s9.setRow p7 #[.int .i64 m.b.id, .int .i64 m.b.ver, .string ⟨m.b.cur.toArray⟩, .int .i64 m.b.rat, .int .i64 m.b.least, .int .i64 m.b.most, .slice ca m.b.cuts.length cc, .int .i64 m.b.iss, .int .i64 m.b.ass, .slice ba m.b.bar.length bc] = s10 at *
          refine consR (fuel := 0) (i := 11) rfl (by kernel_rfl) (fun K hK => ?_)
          rw [if_pos (by rfl)]
          refine ow_store _ _ 30 _ _ rfl _ _ rfl rfl (storeT _ p8 _ #[.int .i64 m.q.id, .int .i64 m.q.mem, .int .i64 m.q.side, .int .i64 m.q.bas, .int .i64 m.q.am, .int .i64 m.q.rate, .int .i64 m.q.st, .int .i64 m.q.en] info30 hn8 rfl rfl (by simp [Value.oneCell'])) ?_
          refine hK.out _ _ ⟨hT10.1.other nb8, below_setRow' hT10.2 hle8⟩ (fun hT11 => ?_)
          clear hK
          try simp only [Act.put, List.setIfInBounds_toArray, List.set_cons_zero, List.set_cons_succ]
          have hn6 := hn6.other (ds := #[.int .i64 m.q.id, .int .i64 m.q.mem, .int .i64 m.q.side, .int .i64 m.q.bas, .int .i64 m.q.am, .int .i64 m.q.rate, .int .i64 m.q.st, .int .i64 m.q.en]) n68
          have hn7 := hn7.other (ds := #[.int .i64 m.q.id, .int .i64 m.q.mem, .int .i64 m.q.side, .int .i64 m.q.bas, .int .i64 m.q.am, .int .i64 m.q.rate, .int .i64 m.q.st, .int .i64 m.q.en]) n78
          have hn8 := hn8.set (ds := #[.int .i64 m.q.id, .int .i64 m.q.mem, .int .i64 m.q.side, .int .i64 m.q.bas, .int .i64 m.q.am, .int .i64 m.q.rate, .int .i64 m.q.st, .int .i64 m.q.en])
          generalize s10.setRow p8 #[.int .i64 m.q.id, .int .i64 m.q.mem, .int .i64 m.q.side, .int .i64 m.q.bas, .int .i64 m.q.am, .int .i64 m.q.rate, .int .i64 m.q.st, .int .i64 m.q.en] = s11 at *
          refine wpAnyH_done (by kernel_rfl) ?_ _
          go_wp2_with fail
          go_meet
          exact ⟨p6, p7, p8, rfl, rfl, rfl, hT11.1, hn6, hn7, hn8, hT11.2⟩
      · rw [if_pos (by rfl)]
        go_simp
        refine hK.out _ _ ⟨hS1.1.keep (below_a _ _), bt hS1.2 (below_a _ _)⟩ (fun hS2 => ?_)
        clear hK
        try simp only [Act.put, List.setIfInBounds_toArray, List.set_cons_zero, List.set_cons_succ]
        have hn8 : Bx (v1.alloc (.cells #[.int .i64 0, .int .i64 0, .int .i64 0, .int .i64 0, .int .i64 0, .int .i64 0, .int .i64 0, .int .i64 0] 30)) v1.heap.size #[.int .i64 0, .int .i64 0, .int .i64 0, .int .i64 0, .int .i64 0, .int .i64 0, .int .i64 0, .int .i64 0] 30 := Bx.new _ _ _
        have hn6 : Bx (v1.alloc (.cells #[.int .i64 0, .int .i64 0, .int .i64 0, .int .i64 0, .int .i64 0, .int .i64 0, .int .i64 0, .int .i64 0] 30)) p6 #[.string ⟨#[]⟩, .int .i64 0, .int .i64 0, .int .i64 0, .string ⟨#[]⟩] 23 := hn6.keep (below_a _ _)
        have hle8 : w.heap.size ≤ v1.heap.size := hS1.2.size
        generalize v1.heap.size = p8 at *
        generalize v1.alloc (.cells #[.int .i64 0, .int .i64 0, .int .i64 0, .int .i64 0, .int .i64 0, .int .i64 0, .int .i64 0, .int .i64 0] 30) = v2 at *
        refine consR (fuel := 3) (i := 7) rfl (by kernel_rfl) (fun K hK => ?_)
        · rw [if_pos (by rfl)]
          go_simp
          refine hK.out _ _ ⟨hS2.1.keep (below_a _ _), bt hS2.2 (below_a _ _)⟩ (fun hS3 => ?_)
          clear hK
          try simp only [Act.put, List.setIfInBounds_toArray, List.set_cons_zero, List.set_cons_succ]
          have hn7 : Bx (v2.alloc (.cells #[.int .i64 0, .int .i64 0, .string ⟨#[]⟩, .int .i64 0, .int .i64 0, .int .i64 0, .slice none 0 0, .int .i64 0, .int .i64 0, .slice none 0 0] 27)) v2.heap.size #[.int .i64 0, .int .i64 0, .string ⟨#[]⟩, .int .i64 0, .int .i64 0, .int .i64 0, .slice none 0 0, .int .i64 0, .int .i64 0, .slice none 0 0] 27 := Bx.new _ _ _
          have hn6 : Bx (v2.alloc (.cells #[.int .i64 0, .int .i64 0, .string ⟨#[]⟩, .int .i64 0, .int .i64 0, .int .i64 0, .slice none 0 0, .int .i64 0, .int .i64 0, .slice none 0 0] 27)) p6 #[.string ⟨#[]⟩, .int .i64 0, .int .i64 0, .int .i64 0, .string ⟨#[]⟩] 23 := hn6.keep (below_a _ _)
          have hn8 : Bx (v2.alloc (.cells #[.int .i64 0, .int .i64 0, .string ⟨#[]⟩, .int .i64 0, .int .i64 0, .int .i64 0, .slice none 0 0, .int .i64 0, .int .i64 0, .slice none 0 0] 27)) p8 #[.int .i64 0, .int .i64 0, .int .i64 0, .int .i64 0, .int .i64 0, .int .i64 0, .int .i64 0, .int .i64 0] 30 := hn8.keep (below_a _ _)
          have hle7 : w.heap.size ≤ v2.heap.size := hS2.2.size
          generalize v2.heap.size = p7 at *
          generalize v2.alloc (.cells #[.int .i64 0, .int .i64 0, .string ⟨#[]⟩, .int .i64 0, .int .i64 0, .int .i64 0, .slice none 0 0, .int .i64 0, .int .i64 0, .slice none 0 0] 27) = v3 at *
          have n67 : p6 ≠ p7 := Bx.ne hn6 hn7 (by decide)
          have n68 : p6 ≠ p8 := Bx.ne hn6 hn8 (by decide)
          have n78 : p7 ≠ p8 := Bx.ne hn7 hn8 (by decide)
          have nb6 : w.heap.size ≠ p6 := Bx.ne hS3.1 hn6 (by decide)
          have nb7 : w.heap.size ≠ p7 := Bx.ne hS3.1 hn7 (by decide)
          have nb8 : w.heap.size ≠ p8 := Bx.ne hS3.1 hn8 (by decide)
          refine consR (fuel := 2) (i := 9) rfl (by kernel_rfl) (fun K hK => ?_)
          rw [if_pos (by rfl)]
          refine ow_store _ _ 23 _ _ rfl _ _ rfl rfl (storeT _ p6 _ #[.string ⟨m.a.i.toArray⟩, .int .i64 m.a.iss, .int .i64 m.a.rat, .int .i64 m.a.mat, .string ⟨m.a.cur.toArray⟩] info23 hn6 rfl rfl (by simp [Value.oneCell'])) ?_
          refine hK.out _ _ ⟨hS3.1.other nb6, below_setRow' hS3.2 hle6⟩ (fun hT9 => ?_)
          clear hK
          try simp only [Act.put, List.setIfInBounds_toArray, List.set_cons_zero, List.set_cons_succ]
          have hn6 := hn6.set (ds := #[.string ⟨m.a.i.toArray⟩, .int .i64 m.a.iss, .int .i64 m.a.rat, .int .i64 m.a.mat, .string ⟨m.a.cur.toArray⟩])
          have hn7 := hn7.other (ds := #[.string ⟨m.a.i.toArray⟩, .int .i64 m.a.iss, .int .i64 m.a.rat, .int .i64 m.a.mat, .string ⟨m.a.cur.toArray⟩]) n67.symm
          have hn8 := hn8.other (ds := #[.string ⟨m.a.i.toArray⟩, .int .i64 m.a.iss, .int .i64 m.a.rat, .int .i64 m.a.mat, .string ⟨m.a.cur.toArray⟩]) n68.symm
          generalize v3.setRow p6 #[.string ⟨m.a.i.toArray⟩, .int .i64 m.a.iss, .int .i64 m.a.rat, .int .i64 m.a.mat, .string ⟨m.a.cur.toArray⟩] = s9 at *
          refine consR (fuel := 1) (i := 10) rfl (by kernel_rfl) (fun K hK => ?_)
          rw [if_pos (by rfl)]
          refine ow_store _ _ 27 _ _ rfl _ _ rfl rfl (storeT _ p7 _ #[.int .i64 m.b.id, .int .i64 m.b.ver, .string ⟨m.b.cur.toArray⟩, .int .i64 m.b.rat, .int .i64 m.b.least, .int .i64 m.b.most, .slice ca m.b.cuts.length cc, .int .i64 m.b.iss, .int .i64 m.b.ass, .slice ba m.b.bar.length bc] info27 hn7 rfl rfl (by simp [Value.oneCell'])) ?_
          refine hK.out _ _ ⟨hT9.1.other nb7, below_setRow' hT9.2 hle7⟩ (fun hT10 => ?_)
          clear hK
          try simp only [Act.put, List.setIfInBounds_toArray, List.set_cons_zero, List.set_cons_succ]
          have hn6 := hn6.other (ds := #[.int .i64 m.b.id, .int .i64 m.b.ver, .string ⟨m.b.cur.toArray⟩, .int .i64 m.b.rat, .int .i64 m.b.least, .int .i64 m.b.most, .slice ca m.b.cuts.length cc, .int .i64 m.b.iss, .int .i64 m.b.ass, .slice ba m.b.bar.length bc]) n67
          have hn7 := hn7.set (ds := #[.int .i64 m.b.id, .int .i64 m.b.ver, .string ⟨m.b.cur.toArray⟩, .int .i64 m.b.rat, .int .i64 m.b.least, .int .i64 m.b.most, .slice ca m.b.cuts.length cc, .int .i64 m.b.iss, .int .i64 m.b.ass, .slice ba m.b.bar.length bc])
          have hn8 := hn8.other (ds := #[.int .i64 m.b.id, .int .i64 m.b.ver, .string ⟨m.b.cur.toArray⟩, .int .i64 m.b.rat, .int .i64 m.b.least, .int .i64 m.b.most, .slice ca m.b.cuts.length cc, .int .i64 m.b.iss, .int .i64 m.b.ass, .slice ba m.b.bar.length bc]) n78.symm
          generalize s9.setRow p7 #[.int .i64 m.b.id, .int .i64 m.b.ver, .string ⟨m.b.cur.toArray⟩, .int .i64 m.b.rat, .int .i64 m.b.least, .int .i64 m.b.most, .slice ca m.b.cuts.length cc, .int .i64 m.b.iss, .int .i64 m.b.ass, .slice ba m.b.bar.length bc] = s10 at *
          refine consR (fuel := 0) (i := 11) rfl (by kernel_rfl) (fun K hK => ?_)
          rw [if_pos (by rfl)]
          refine ow_store _ _ 30 _ _ rfl _ _ rfl rfl (storeT _ p8 _ #[.int .i64 m.q.id, .int .i64 m.q.mem, .int .i64 m.q.side, .int .i64 m.q.bas, .int .i64 m.q.am, .int .i64 m.q.rate, .int .i64 m.q.st, .int .i64 m.q.en] info30 hn8 rfl rfl (by simp [Value.oneCell'])) ?_
          refine hK.out _ _ ⟨hT10.1.other nb8, below_setRow' hT10.2 hle8⟩ (fun hT11 => ?_)
          clear hK
          try simp only [Act.put, List.setIfInBounds_toArray, List.set_cons_zero, List.set_cons_succ]
          have hn6 := hn6.other (ds := #[.int .i64 m.q.id, .int .i64 m.q.mem, .int .i64 m.q.side, .int .i64 m.q.bas, .int .i64 m.q.am, .int .i64 m.q.rate, .int .i64 m.q.st, .int .i64 m.q.en]) n68
          have hn7 := hn7.other (ds := #[.int .i64 m.q.id, .int .i64 m.q.mem, .int .i64 m.q.side, .int .i64 m.q.bas, .int .i64 m.q.am, .int .i64 m.q.rate, .int .i64 m.q.st, .int .i64 m.q.en]) n78
          have hn8 := hn8.set (ds := #[.int .i64 m.q.id, .int .i64 m.q.mem, .int .i64 m.q.side, .int .i64 m.q.bas, .int .i64 m.q.am, .int .i64 m.q.rate, .int .i64 m.q.st, .int .i64 m.q.en])
          generalize s10.setRow p8 #[.int .i64 m.q.id, .int .i64 m.q.mem, .int .i64 m.q.side, .int .i64 m.q.bas, .int .i64 m.q.am, .int .i64 m.q.rate, .int .i64 m.q.st, .int .i64 m.q.en] = s11 at *
          refine wpAnyH_done (by kernel_rfl) ?_ _
          go_wp2_with fail
          go_meet
          exact ⟨p6, p7, p8, rfl, rfl, rfl, hT11.1, hn6, hn7, hn8, hT11.2⟩
    · rw [if_pos (by rfl)]
      go_simp
      refine hK.out _ _ ⟨hS.1.keep (below_a _ _), bt hS.2 (below_a _ _)⟩ (fun hS1 => ?_)
      clear hK
      try simp only [Act.put, List.setIfInBounds_toArray, List.set_cons_zero, List.set_cons_succ]
      have hn7 : Bx (v0.alloc (.cells #[.int .i64 0, .int .i64 0, .string ⟨#[]⟩, .int .i64 0, .int .i64 0, .int .i64 0, .slice none 0 0, .int .i64 0, .int .i64 0, .slice none 0 0] 27)) v0.heap.size #[.int .i64 0, .int .i64 0, .string ⟨#[]⟩, .int .i64 0, .int .i64 0, .int .i64 0, .slice none 0 0, .int .i64 0, .int .i64 0, .slice none 0 0] 27 := Bx.new _ _ _
      have hle7 : w.heap.size ≤ v0.heap.size := hS.2.size
      generalize v0.heap.size = p7 at *
      generalize v0.alloc (.cells #[.int .i64 0, .int .i64 0, .string ⟨#[]⟩, .int .i64 0, .int .i64 0, .int .i64 0, .slice none 0 0, .int .i64 0, .int .i64 0, .slice none 0 0] 27) = v1 at *
      refine consR2 (fuel := 4) (i := 6) (j := 8) rfl rfl (by kernel_rfl) (fun K hK => ?_) (fun K hK => ?_)
      · rw [if_pos (by rfl)]
        go_simp
        refine hK.out _ _ ⟨hS1.1.keep (below_a _ _), bt hS1.2 (below_a _ _)⟩ (fun hS2 => ?_)
        clear hK
        try simp only [Act.put, List.setIfInBounds_toArray, List.set_cons_zero, List.set_cons_succ]
        have hn6 : Bx (v1.alloc (.cells #[.string ⟨#[]⟩, .int .i64 0, .int .i64 0, .int .i64 0, .string ⟨#[]⟩] 23)) v1.heap.size #[.string ⟨#[]⟩, .int .i64 0, .int .i64 0, .int .i64 0, .string ⟨#[]⟩] 23 := Bx.new _ _ _
        have hn7 : Bx (v1.alloc (.cells #[.string ⟨#[]⟩, .int .i64 0, .int .i64 0, .int .i64 0, .string ⟨#[]⟩] 23)) p7 #[.int .i64 0, .int .i64 0, .string ⟨#[]⟩, .int .i64 0, .int .i64 0, .int .i64 0, .slice none 0 0, .int .i64 0, .int .i64 0, .slice none 0 0] 27 := hn7.keep (below_a _ _)
        have hle6 : w.heap.size ≤ v1.heap.size := hS1.2.size
        generalize v1.heap.size = p6 at *
        generalize v1.alloc (.cells #[.string ⟨#[]⟩, .int .i64 0, .int .i64 0, .int .i64 0, .string ⟨#[]⟩] 23) = v2 at *
        refine consR (fuel := 3) (i := 8) rfl (by kernel_rfl) (fun K hK => ?_)
        · rw [if_pos (by rfl)]
          go_simp
          refine hK.out _ _ ⟨hS2.1.keep (below_a _ _), bt hS2.2 (below_a _ _)⟩ (fun hS3 => ?_)
          clear hK
          try simp only [Act.put, List.setIfInBounds_toArray, List.set_cons_zero, List.set_cons_succ]
          have hn8 : Bx (v2.alloc (.cells #[.int .i64 0, .int .i64 0, .int .i64 0, .int .i64 0, .int .i64 0, .int .i64 0, .int .i64 0, .int .i64 0] 30)) v2.heap.size #[.int .i64 0, .int .i64 0, .int .i64 0, .int .i64 0, .int .i64 0, .int .i64 0, .int .i64 0, .int .i64 0] 30 := Bx.new _ _ _
          have hn7 : Bx (v2.alloc (.cells #[.int .i64 0, .int .i64 0, .int .i64 0, .int .i64 0, .int .i64 0, .int .i64 0, .int .i64 0, .int .i64 0] 30)) p7 #[.int .i64 0, .int .i64 0, .string ⟨#[]⟩, .int .i64 0, .int .i64 0, .int .i64 0, .slice none 0 0, .int .i64 0, .int .i64 0, .slice none 0 0] 27 := hn7.keep (below_a _ _)
          have hn6 : Bx (v2.alloc (.cells #[.int .i64 0, .int .i64 0, .int .i64 0, .int .i64 0, .int .i64 0, .int .i64 0, .int .i64 0, .int .i64 0] 30)) p6 #[.string ⟨#[]⟩, .int .i64 0, .int .i64 0, .int .i64 0, .string ⟨#[]⟩] 23 := hn6.keep (below_a _ _)
          have hle8 : w.heap.size ≤ v2.heap.size := hS2.2.size
          generalize v2.heap.size = p8 at *
          generalize v2.alloc (.cells #[.int .i64 0, .int .i64 0, .int .i64 0, .int .i64 0, .int .i64 0, .int .i64 0, .int .i64 0, .int .i64 0] 30) = v3 at *
          have n67 : p6 ≠ p7 := Bx.ne hn6 hn7 (by decide)
          have n68 : p6 ≠ p8 := Bx.ne hn6 hn8 (by decide)
          have n78 : p7 ≠ p8 := Bx.ne hn7 hn8 (by decide)
          have nb6 : w.heap.size ≠ p6 := Bx.ne hS3.1 hn6 (by decide)
          have nb7 : w.heap.size ≠ p7 := Bx.ne hS3.1 hn7 (by decide)
          have nb8 : w.heap.size ≠ p8 := Bx.ne hS3.1 hn8 (by decide)
          refine consR (fuel := 2) (i := 9) rfl (by kernel_rfl) (fun K hK => ?_)
          rw [if_pos (by rfl)]
          refine ow_store _ _ 23 _ _ rfl _ _ rfl rfl (storeT _ p6 _ #[.string ⟨m.a.i.toArray⟩, .int .i64 m.a.iss, .int .i64 m.a.rat, .int .i64 m.a.mat, .string ⟨m.a.cur.toArray⟩] info23 hn6 rfl rfl (by simp [Value.oneCell'])) ?_
          refine hK.out _ _ ⟨hS3.1.other nb6, below_setRow' hS3.2 hle6⟩ (fun hT9 => ?_)
          clear hK
          try simp only [Act.put, List.setIfInBounds_toArray, List.set_cons_zero, List.set_cons_succ]
          have hn6 := hn6.set (ds := #[.string ⟨m.a.i.toArray⟩, .int .i64 m.a.iss, .int .i64 m.a.rat, .int .i64 m.a.mat, .string ⟨m.a.cur.toArray⟩])
          have hn7 := hn7.other (ds := #[.string ⟨m.a.i.toArray⟩, .int .i64 m.a.iss, .int .i64 m.a.rat, .int .i64 m.a.mat, .string ⟨m.a.cur.toArray⟩]) n67.symm
          have hn8 := hn8.other (ds := #[.string ⟨m.a.i.toArray⟩, .int .i64 m.a.iss, .int .i64 m.a.rat, .int .i64 m.a.mat, .string ⟨m.a.cur.toArray⟩]) n68.symm
          generalize v3.setRow p6 #[.string ⟨m.a.i.toArray⟩, .int .i64 m.a.iss, .int .i64 m.a.rat, .int .i64 m.a.mat, .string ⟨m.a.cur.toArray⟩] = s9 at *
          refine consR (fuel := 1) (i := 10) rfl (by kernel_rfl) (fun K hK => ?_)
          rw [if_pos (by rfl)]
          refine ow_store _ _ 27 _ _ rfl _ _ rfl rfl (storeT _ p7 _ #[.int .i64 m.b.id, .int .i64 m.b.ver, .string ⟨m.b.cur.toArray⟩, .int .i64 m.b.rat, .int .i64 m.b.least, .int .i64 m.b.most, .slice ca m.b.cuts.length cc, .int .i64 m.b.iss, .int .i64 m.b.ass, .slice ba m.b.bar.length bc] info27 hn7 rfl rfl (by simp [Value.oneCell'])) ?_
          refine hK.out _ _ ⟨hT9.1.other nb7, below_setRow' hT9.2 hle7⟩ (fun hT10 => ?_)
          clear hK
          try simp only [Act.put, List.setIfInBounds_toArray, List.set_cons_zero, List.set_cons_succ]
          have hn6 := hn6.other (ds := #[.int .i64 m.b.id, .int .i64 m.b.ver, .string ⟨m.b.cur.toArray⟩, .int .i64 m.b.rat, .int .i64 m.b.least, .int .i64 m.b.most, .slice ca m.b.cuts.length cc, .int .i64 m.b.iss, .int .i64 m.b.ass, .slice ba m.b.bar.length bc]) n67
          have hn7 := hn7.set (ds := #[.int .i64 m.b.id, .int .i64 m.b.ver, .string ⟨m.b.cur.toArray⟩, .int .i64 m.b.rat, .int .i64 m.b.least, .int .i64 m.b.most, .slice ca m.b.cuts.length cc, .int .i64 m.b.iss, .int .i64 m.b.ass, .slice ba m.b.bar.length bc])
          have hn8 := hn8.other (ds := #[.int .i64 m.b.id, .int .i64 m.b.ver, .string ⟨m.b.cur.toArray⟩, .int .i64 m.b.rat, .int .i64 m.b.least, .int .i64 m.b.most, .slice ca m.b.cuts.length cc, .int .i64 m.b.iss, .int .i64 m.b.ass, .slice ba m.b.bar.length bc]) n78.symm
          generalize s9.setRow p7 #[.int .i64 m.b.id, .int .i64 m.b.ver, .string ⟨m.b.cur.toArray⟩, .int .i64 m.b.rat, .int .i64 m.b.least, .int .i64 m.b.most, .slice ca m.b.cuts.length cc, .int .i64 m.b.iss, .int .i64 m.b.ass, .slice ba m.b.bar.length bc] = s10 at *
          refine consR (fuel := 0) (i := 11) rfl (by kernel_rfl) (fun K hK => ?_)
          rw [if_pos (by rfl)]
          refine ow_store _ _ 30 _ _ rfl _ _ rfl rfl (storeT _ p8 _ #[.int .i64 m.q.id, .int .i64 m.q.mem, .int .i64 m.q.side, .int .i64 m.q.bas, .int .i64 m.q.am, .int .i64 m.q.rate, .int .i64 m.q.st, .int .i64 m.q.en] info30 hn8 rfl rfl (by simp [Value.oneCell'])) ?_
          refine hK.out _ _ ⟨hT10.1.other nb8, below_setRow' hT10.2 hle8⟩ (fun hT11 => ?_)
          clear hK
          try simp only [Act.put, List.setIfInBounds_toArray, List.set_cons_zero, List.set_cons_succ]
          have hn6 := hn6.other (ds := #[.int .i64 m.q.id, .int .i64 m.q.mem, .int .i64 m.q.side, .int .i64 m.q.bas, .int .i64 m.q.am, .int .i64 m.q.rate, .int .i64 m.q.st, .int .i64 m.q.en]) n68
          have hn7 := hn7.other (ds := #[.int .i64 m.q.id, .int .i64 m.q.mem, .int .i64 m.q.side, .int .i64 m.q.bas, .int .i64 m.q.am, .int .i64 m.q.rate, .int .i64 m.q.st, .int .i64 m.q.en]) n78
          have hn8 := hn8.set (ds := #[.int .i64 m.q.id, .int .i64 m.q.mem, .int .i64 m.q.side, .int .i64 m.q.bas, .int .i64 m.q.am, .int .i64 m.q.rate, .int .i64 m.q.st, .int .i64 m.q.en])
          generalize s10.setRow p8 #[.int .i64 m.q.id, .int .i64 m.q.mem, .int .i64 m.q.side, .int .i64 m.q.bas, .int .i64 m.q.am, .int .i64 m.q.rate, .int .i64 m.q.st, .int .i64 m.q.en] = s11 at *
          refine wpAnyH_done (by kernel_rfl) ?_ _
          go_wp2_with fail
          go_meet
          exact ⟨p6, p7, p8, rfl, rfl, rfl, hT11.1, hn6, hn7, hn8, hT11.2⟩
      · rw [if_pos (by rfl)]
        go_simp
        refine hK.out _ _ ⟨hS1.1.keep (below_a _ _), bt hS1.2 (below_a _ _)⟩ (fun hS2 => ?_)
        clear hK
        try simp only [Act.put, List.setIfInBounds_toArray, List.set_cons_zero, List.set_cons_succ]
        have hn8 : Bx (v1.alloc (.cells #[.int .i64 0, .int .i64 0, .int .i64 0, .int .i64 0, .int .i64 0, .int .i64 0, .int .i64 0, .int .i64 0] 30)) v1.heap.size #[.int .i64 0, .int .i64 0, .int .i64 0, .int .i64 0, .int .i64 0, .int .i64 0, .int .i64 0, .int .i64 0] 30 := Bx.new _ _ _
        have hn7 : Bx (v1.alloc (.cells #[.int .i64 0, .int .i64 0, .int .i64 0, .int .i64 0, .int .i64 0, .int .i64 0, .int .i64 0, .int .i64 0] 30)) p7 #[.int .i64 0, .int .i64 0, .string ⟨#[]⟩, .int .i64 0, .int .i64 0, .int .i64 0, .slice none 0 0, .int .i64 0, .int .i64 0, .slice none 0 0] 27 := hn7.keep (below_a _ _)
        have hle8 : w.heap.size ≤ v1.heap.size := hS1.2.size
        generalize v1.heap.size = p8 at *
        generalize v1.alloc (.cells #[.int .i64 0, .int .i64 0, .int .i64 0, .int .i64 0, .int .i64 0, .int .i64 0, .int .i64 0, .int .i64 0] 30) = v2 at *
        refine consR (fuel := 3) (i := 6) rfl (by kernel_rfl) (fun K hK => ?_)
        · rw [if_pos (by rfl)]
          go_simp
          refine hK.out _ _ ⟨hS2.1.keep (below_a _ _), bt hS2.2 (below_a _ _)⟩ (fun hS3 => ?_)
          clear hK
          try simp only [Act.put, List.setIfInBounds_toArray, List.set_cons_zero, List.set_cons_succ]
          have hn6 : Bx (v2.alloc (.cells #[.string ⟨#[]⟩, .int .i64 0, .int .i64 0, .int .i64 0, .string ⟨#[]⟩] 23)) v2.heap.size #[.string ⟨#[]⟩, .int .i64 0, .int .i64 0, .int .i64 0, .string ⟨#[]⟩] 23 := Bx.new _ _ _
          have hn7 : Bx (v2.alloc (.cells #[.string ⟨#[]⟩, .int .i64 0, .int .i64 0, .int .i64 0, .string ⟨#[]⟩] 23)) p7 #[.int .i64 0, .int .i64 0, .string ⟨#[]⟩, .int .i64 0, .int .i64 0, .int .i64 0, .slice none 0 0, .int .i64 0, .int .i64 0, .slice none 0 0] 27 := hn7.keep (below_a _ _)
          have hn8 : Bx (v2.alloc (.cells #[.string ⟨#[]⟩, .int .i64 0, .int .i64 0, .int .i64 0, .string ⟨#[]⟩] 23)) p8 #[.int .i64 0, .int .i64 0, .int .i64 0, .int .i64 0, .int .i64 0, .int .i64 0, .int .i64 0, .int .i64 0] 30 := hn8.keep (below_a _ _)
          have hle6 : w.heap.size ≤ v2.heap.size := hS2.2.size
          generalize v2.heap.size = p6 at *
          generalize v2.alloc (.cells #[.string ⟨#[]⟩, .int .i64 0, .int .i64 0, .int .i64 0, .string ⟨#[]⟩] 23) = v3 at *
          have n67 : p6 ≠ p7 := Bx.ne hn6 hn7 (by decide)
          have n68 : p6 ≠ p8 := Bx.ne hn6 hn8 (by decide)
          have n78 : p7 ≠ p8 := Bx.ne hn7 hn8 (by decide)
          have nb6 : w.heap.size ≠ p6 := Bx.ne hS3.1 hn6 (by decide)
          have nb7 : w.heap.size ≠ p7 := Bx.ne hS3.1 hn7 (by decide)
          have nb8 : w.heap.size ≠ p8 := Bx.ne hS3.1 hn8 (by decide)
          refine consR (fuel := 2) (i := 9) rfl (by kernel_rfl) (fun K hK => ?_)
          rw [if_pos (by rfl)]
          refine ow_store _ _ 23 _ _ rfl _ _ rfl rfl (storeT _ p6 _ #[.string ⟨m.a.i.toArray⟩, .int .i64 m.a.iss, .int .i64 m.a.rat, .int .i64 m.a.mat, .string ⟨m.a.cur.toArray⟩] info23 hn6 rfl rfl (by simp [Value.oneCell'])) ?_
          refine hK.out _ _ ⟨hS3.1.other nb6, below_setRow' hS3.2 hle6⟩ (fun hT9 => ?_)
          clear hK
          try simp only [Act.put, List.setIfInBounds_toArray, List.set_cons_zero, List.set_cons_succ]
          have hn6 := hn6.set (ds := #[.string ⟨m.a.i.toArray⟩, .int .i64 m.a.iss, .int .i64 m.a.rat, .int .i64 m.a.mat, .string ⟨m.a.cur.toArray⟩])
          have hn7 := hn7.other (ds := #[.string ⟨m.a.i.toArray⟩, .int .i64 m.a.iss, .int .i64 m.a.rat, .int .i64 m.a.mat, .string ⟨m.a.cur.toArray⟩]) n67.symm
          have hn8 := hn8.other (ds := #[.string ⟨m.a.i.toArray⟩, .int .i64 m.a.iss, .int .i64 m.a.rat, .int .i64 m.a.mat, .string ⟨m.a.cur.toArray⟩]) n68.symm
          generalize v3.setRow p6 #[.string ⟨m.a.i.toArray⟩, .int .i64 m.a.iss, .int .i64 m.a.rat, .int .i64 m.a.mat, .string ⟨m.a.cur.toArray⟩] = s9 at *
          refine consR (fuel := 1) (i := 10) rfl (by kernel_rfl) (fun K hK => ?_)
          rw [if_pos (by rfl)]
          refine ow_store _ _ 27 _ _ rfl _ _ rfl rfl (storeT _ p7 _ #[.int .i64 m.b.id, .int .i64 m.b.ver, .string ⟨m.b.cur.toArray⟩, .int .i64 m.b.rat, .int .i64 m.b.least, .int .i64 m.b.most, .slice ca m.b.cuts.length cc, .int .i64 m.b.iss, .int .i64 m.b.ass, .slice ba m.b.bar.length bc] info27 hn7 rfl rfl (by simp [Value.oneCell'])) ?_
          refine hK.out _ _ ⟨hT9.1.other nb7, below_setRow' hT9.2 hle7⟩ (fun hT10 => ?_)
          clear hK
          try simp only [Act.put, List.setIfInBounds_toArray, List.set_cons_zero, List.set_cons_succ]
          have hn6 := hn6.other (ds := #[.int .i64 m.b.id, .int .i64 m.b.ver, .string ⟨m.b.cur.toArray⟩, .int .i64 m.b.rat, .int .i64 m.b.least, .int .i64 m.b.most, .slice ca m.b.cuts.length cc, .int .i64 m.b.iss, .int .i64 m.b.ass, .slice ba m.b.bar.length bc]) n67
          have hn7 := hn7.set (ds := #[.int .i64 m.b.id, .int .i64 m.b.ver, .string ⟨m.b.cur.toArray⟩, .int .i64 m.b.rat, .int .i64 m.b.least, .int .i64 m.b.most, .slice ca m.b.cuts.length cc, .int .i64 m.b.iss, .int .i64 m.b.ass, .slice ba m.b.bar.length bc])
          have hn8 := hn8.other (ds := #[.int .i64 m.b.id, .int .i64 m.b.ver, .string ⟨m.b.cur.toArray⟩, .int .i64 m.b.rat, .int .i64 m.b.least, .int .i64 m.b.most, .slice ca m.b.cuts.length cc, .int .i64 m.b.iss, .int .i64 m.b.ass, .slice ba m.b.bar.length bc]) n78.symm
          generalize s9.setRow p7 #[.int .i64 m.b.id, .int .i64 m.b.ver, .string ⟨m.b.cur.toArray⟩, .int .i64 m.b.rat, .int .i64 m.b.least, .int .i64 m.b.most, .slice ca m.b.cuts.length cc, .int .i64 m.b.iss, .int .i64 m.b.ass, .slice ba m.b.bar.length bc] = s10 at *
          refine consR (fuel := 0) (i := 11) rfl (by kernel_rfl) (fun K hK => ?_)
          rw [if_pos (by rfl)]
          refine ow_store _ _ 30 _ _ rfl _ _ rfl rfl (storeT _ p8 _ #[.int .i64 m.q.id, .int .i64 m.q.mem, .int .i64 m.q.side, .int .i64 m.q.bas, .int .i64 m.q.am, .int .i64 m.q.rate, .int .i64 m.q.st, .int .i64 m.q.en] info30 hn8 rfl rfl (by simp [Value.oneCell'])) ?_
          refine hK.out _ _ ⟨hT10.1.other nb8, below_setRow' hT10.2 hle8⟩ (fun hT11 => ?_)
          clear hK
          try simp only [Act.put, List.setIfInBounds_toArray, List.set_cons_zero, List.set_cons_succ]
          have hn6 := hn6.other (ds := #[.int .i64 m.q.id, .int .i64 m.q.mem, .int .i64 m.q.side, .int .i64 m.q.bas, .int .i64 m.q.am, .int .i64 m.q.rate, .int .i64 m.q.st, .int .i64 m.q.en]) n68
          have hn7 := hn7.other (ds := #[.int .i64 m.q.id, .int .i64 m.q.mem, .int .i64 m.q.side, .int .i64 m.q.bas, .int .i64 m.q.am, .int .i64 m.q.rate, .int .i64 m.q.st, .int .i64 m.q.en]) n78
          have hn8 := hn8.set (ds := #[.int .i64 m.q.id, .int .i64 m.q.mem, .int .i64 m.q.side, .int .i64 m.q.bas, .int .i64 m.q.am, .int .i64 m.q.rate, .int .i64 m.q.st, .int .i64 m.q.en])
          generalize s10.setRow p8 #[.int .i64 m.q.id, .int .i64 m.q.mem, .int .i64 m.q.side, .int .i64 m.q.bas, .int .i64 m.q.am, .int .i64 m.q.rate, .int .i64 m.q.st, .int .i64 m.q.en] = s11 at *
          refine wpAnyH_done (by kernel_rfl) ?_ _
          go_wp2_with fail
          go_meet
          exact ⟨p6, p7, p8, rfl, rfl, rfl, hT11.1, hn6, hn7, hn8, hT11.2⟩
    · rw [if_pos (by rfl)]
      go_simp
      refine hK.out _ _ ⟨hS.1.keep (below_a _ _), bt hS.2 (below_a _ _)⟩ (fun hS1 => ?_)
      clear hK
      try simp only [Act.put, List.setIfInBounds_toArray, List.set_cons_zero, List.set_cons_succ]
      have hn8 : Bx (v0.alloc (.cells #[.int .i64 0, .int .i64 0, .int .i64 0, .int .i64 0, .int .i64 0, .int .i64 0, .int .i64 0, .int .i64 0] 30)) v0.heap.size #[.int .i64 0, .int .i64 0, .int .i64 0, .int .i64 0, .int .i64 0, .int .i64 0, .int .i64 0, .int .i64 0] 30 := Bx.new _ _ _
      have hle8 : w.heap.size ≤ v0.heap.size := hS.2.size
      generalize v0.heap.size = p8 at *
      generalize v0.alloc (.cells #[.int .i64 0, .int .i64 0, .int .i64 0, .int .i64 0, .int .i64 0, .int .i64 0, .int .i64 0, .int .i64 0] 30) = v1 at *
      refine consR2 (fuel := 4) (i := 6) (j := 7) rfl rfl (by kernel_rfl) (fun K hK => ?_) (fun K hK => ?_)
      · rw [if_pos (by rfl)]
        go_simp
        refine hK.out _ _ ⟨hS1.1.keep (below_a _ _), bt hS1.2 (below_a _ _)⟩ (fun hS2 => ?_)
        clear hK
        try simp only [Act.put, List.setIfInBounds_toArray, List.set_cons_zero, List.set_cons_succ]
        have hn6 : Bx (v1.alloc (.cells #[.string ⟨#[]⟩, .int .i64 0, .int .i64 0, .int .i64 0, .string ⟨#[]⟩] 23)) v1.heap.size #[.string ⟨#[]⟩, .int .i64 0, .int .i64 0, .int .i64 0, .string ⟨#[]⟩] 23 := Bx.new _ _ _
        have hn8 : Bx (v1.alloc (.cells #[.string ⟨#[]⟩, .int .i64 0, .int .i64 0, .int .i64 0, .string ⟨#[]⟩] 23)) p8 #[.int .i64 0, .int .i64 0, .int .i64 0, .int .i64 0, .int .i64 0, .int .i64 0, .int .i64 0, .int .i64 0] 30 := hn8.keep (below_a _ _)
        have hle6 : w.heap.size ≤ v1.heap.size := hS1.2.size
        generalize v1.heap.size = p6 at *
        generalize v1.alloc (.cells #[.string ⟨#[]⟩, .int .i64 0, .int .i64 0, .int .i64 0, .string ⟨#[]⟩] 23) = v2 at *
        refine consR (fuel := 3) (i := 7) rfl (by kernel_rfl) (fun K hK => ?_)
        · rw [if_pos (by rfl)]
          go_simp
          refine hK.out _ _ ⟨hS2.1.keep (below_a _ _), bt hS2.2 (below_a _ _)⟩ (fun hS3 => ?_)
          clear hK
          try simp only [Act.put, List.setIfInBounds_toArray, List.set_cons_zero, List.set_cons_succ]
          have hn7 : Bx (v2.alloc (.cells #[.int .i64 0, .int .i64 0, .string ⟨#[]⟩, .int .i64 0, .int .i64 0, .int .i64 0, .slice none 0 0, .int .i64 0, .int .i64 0, .slice none 0 0] 27)) v2.heap.size #[.int .i64 0, .int .i64 0, .string ⟨#[]⟩, .int .i64 0, .int .i64 0, .int .i64 0, .slice none 0 0, .int .i64 0, .int .i64 0, .slice none 0 0] 27 := Bx.new _ _ _
          have hn8 : Bx (v2.alloc (.cells #[.int .i64 0, .int .i64 0, .string ⟨#[]⟩, .int .i64 0, .int .i64 0, .int .i64 0, .slice none 0 0, .int .i64 0, .int .i64 0, .slice none 0 0] 27)) p8 #[.int .i64 0, .int .i64 0, .int .i64 0, .int .i64 0, .int .i64 0, .int .i64 0, .int .i64 0, .int .i64 0] 30 := hn8.keep (below_a _ _)
          have hn6 : Bx (v2.alloc (.cells #[.int .i64 0, .int .i64 0, .string ⟨#[]⟩, .int .i64 0, .int .i64 0, .int .i64 0, .slice none 0 0, .int .i64 0, .int .i64 0, .slice none 0 0] 27)) p6 #[.string ⟨#[]⟩, .int .i64 0, .int .i64 0, .int .i64 0, .string ⟨#[]⟩] 23 := hn6.keep (below_a _ _)
          have hle7 : w.heap.size ≤ v2.heap.size := hS2.2.size
          generalize v2.heap.size = p7 at *
          generalize v2.alloc (.cells #[.int .i64 0, .int .i64 0, .string ⟨#[]⟩, .int .i64 0, .int .i64 0, .int .i64 0, .slice none 0 0, .int .i64 0, .int .i64 0, .slice none 0 0] 27) = v3 at *
          have n67 : p6 ≠ p7 := Bx.ne hn6 hn7 (by decide)
          have n68 : p6 ≠ p8 := Bx.ne hn6 hn8 (by decide)
          have n78 : p7 ≠ p8 := Bx.ne hn7 hn8 (by decide)
          have nb6 : w.heap.size ≠ p6 := Bx.ne hS3.1 hn6 (by decide)
          have nb7 : w.heap.size ≠ p7 := Bx.ne hS3.1 hn7 (by decide)
          have nb8 : w.heap.size ≠ p8 := Bx.ne hS3.1 hn8 (by decide)
          refine consR (fuel := 2) (i := 9) rfl (by kernel_rfl) (fun K hK => ?_)
          rw [if_pos (by rfl)]
          refine ow_store _ _ 23 _ _ rfl _ _ rfl rfl (storeT _ p6 _ #[.string ⟨m.a.i.toArray⟩, .int .i64 m.a.iss, .int .i64 m.a.rat, .int .i64 m.a.mat, .string ⟨m.a.cur.toArray⟩] info23 hn6 rfl rfl (by simp [Value.oneCell'])) ?_
          refine hK.out _ _ ⟨hS3.1.other nb6, below_setRow' hS3.2 hle6⟩ (fun hT9 => ?_)
          clear hK
          try simp only [Act.put, List.setIfInBounds_toArray, List.set_cons_zero, List.set_cons_succ]
          have hn6 := hn6.set (ds := #[.string ⟨m.a.i.toArray⟩, .int .i64 m.a.iss, .int .i64 m.a.rat, .int .i64 m.a.mat, .string ⟨m.a.cur.toArray⟩])
          have hn7 := hn7.other (ds := #[.string ⟨m.a.i.toArray⟩, .int .i64 m.a.iss, .int .i64 m.a.rat, .int .i64 m.a.mat, .string ⟨m.a.cur.toArray⟩]) n67.symm
          have hn8 := hn8.other (ds := #[.string ⟨m.a.i.toArray⟩, .int .i64 m.a.iss, .int .i64 m.a.rat, .int .i64 m.a.mat, .string ⟨m.a.cur.toArray⟩]) n68.symm
          generalize v3.setRow p6 #[.string ⟨m.a.i.toArray⟩, .int .i64 m.a.iss, .int .i64 m.a.rat, .int .i64 m.a.mat, .string ⟨m.a.cur.toArray⟩] = s9 at *
          refine consR (fuel := 1) (i := 10) rfl (by kernel_rfl) (fun K hK => ?_)
          rw [if_pos (by rfl)]
          refine ow_store _ _ 27 _ _ rfl _ _ rfl rfl (storeT _ p7 _ #[.int .i64 m.b.id, .int .i64 m.b.ver, .string ⟨m.b.cur.toArray⟩, .int .i64 m.b.rat, .int .i64 m.b.least, .int .i64 m.b.most, .slice ca m.b.cuts.length cc, .int .i64 m.b.iss, .int .i64 m.b.ass, .slice ba m.b.bar.length bc] info27 hn7 rfl rfl (by simp [Value.oneCell'])) ?_
          refine hK.out _ _ ⟨hT9.1.other nb7, below_setRow' hT9.2 hle7⟩ (fun hT10 => ?_)
          clear hK
          try simp only [Act.put, List.setIfInBounds_toArray, List.set_cons_zero, List.set_cons_succ]
          have hn6 := hn6.other (ds := #[.int .i64 m.b.id, .int .i64 m.b.ver, .string ⟨m.b.cur.toArray⟩, .int .i64 m.b.rat, .int .i64 m.b.least, .int .i64 m.b.most, .slice ca m.b.cuts.length cc, .int .i64 m.b.iss, .int .i64 m.b.ass, .slice ba m.b.bar.length bc]) n67
          have hn7 := hn7.set (ds := #[.int .i64 m.b.id, .int .i64 m.b.ver, .string ⟨m.b.cur.toArray⟩, .int .i64 m.b.rat, .int .i64 m.b.least, .int .i64 m.b.most, .slice ca m.b.cuts.length cc, .int .i64 m.b.iss, .int .i64 m.b.ass, .slice ba m.b.bar.length bc])
          have hn8 := hn8.other (ds := #[.int .i64 m.b.id, .int .i64 m.b.ver, .string ⟨m.b.cur.toArray⟩, .int .i64 m.b.rat, .int .i64 m.b.least, .int .i64 m.b.most, .slice ca m.b.cuts.length cc, .int .i64 m.b.iss, .int .i64 m.b.ass, .slice ba m.b.bar.length bc]) n78.symm
          generalize s9.setRow p7 #[.int .i64 m.b.id, .int .i64 m.b.ver, .string ⟨m.b.cur.toArray⟩, .int .i64 m.b.rat, .int .i64 m.b.least, .int .i64 m.b.most, .slice ca m.b.cuts.length cc, .int .i64 m.b.iss, .int .i64 m.b.ass, .slice ba m.b.bar.length bc] = s10 at *
          refine consR (fuel := 0) (i := 11) rfl (by kernel_rfl) (fun K hK => ?_)
          rw [if_pos (by rfl)]
          refine ow_store _ _ 30 _ _ rfl _ _ rfl rfl (storeT _ p8 _ #[.int .i64 m.q.id, .int .i64 m.q.mem, .int .i64 m.q.side, .int .i64 m.q.bas, .int .i64 m.q.am, .int .i64 m.q.rate, .int .i64 m.q.st, .int .i64 m.q.en] info30 hn8 rfl rfl (by simp [Value.oneCell'])) ?_
          refine hK.out _ _ ⟨hT10.1.other nb8, below_setRow' hT10.2 hle8⟩ (fun hT11 => ?_)
          clear hK
          try simp only [Act.put, List.setIfInBounds_toArray, List.set_cons_zero, List.set_cons_succ]
          have hn6 := hn6.other (ds := #[.int .i64 m.q.id, .int .i64 m.q.mem, .int .i64 m.q.side, .int .i64 m.q.bas, .int .i64 m.q.am, .int .i64 m.q.rate, .int .i64 m.q.st, .int .i64 m.q.en]) n68
          have hn7 := hn7.other (ds := #[.int .i64 m.q.id, .int .i64 m.q.mem, .int .i64 m.q.side, .int .i64 m.q.bas, .int .i64 m.q.am, .int .i64 m.q.rate, .int .i64 m.q.st, .int .i64 m.q.en]) n78
          have hn8 := hn8.set (ds := #[.int .i64 m.q.id, .int .i64 m.q.mem, .int .i64 m.q.side, .int .i64 m.q.bas, .int .i64 m.q.am, .int .i64 m.q.rate, .int .i64 m.q.st, .int .i64 m.q.en])
          generalize s10.setRow p8 #[.int .i64 m.q.id, .int .i64 m.q.mem, .int .i64 m.q.side, .int .i64 m.q.bas, .int .i64 m.q.am, .int .i64 m.q.rate, .int .i64 m.q.st, .int .i64 m.q.en] = s11 at *
          refine wpAnyH_done (by kernel_rfl) ?_ _
          go_wp2_with fail
          go_meet
          exact ⟨p6, p7, p8, rfl, rfl, rfl, hT11.1, hn6, hn7, hn8, hT11.2⟩
      · rw [if_pos (by rfl)]
        go_simp
        refine hK.out _ _ ⟨hS1.1.keep (below_a _ _), bt hS1.2 (below_a _ _)⟩ (fun hS2 => ?_)
        clear hK
        try simp only [Act.put, List.setIfInBounds_toArray, List.set_cons_zero, List.set_cons_succ]
        have hn7 : Bx (v1.alloc (.cells #[.int .i64 0, .int .i64 0, .string ⟨#[]⟩, .int .i64 0, .int .i64 0, .int .i64 0, .slice none 0 0, .int .i64 0, .int .i64 0, .slice none 0 0] 27)) v1.heap.size #[.int .i64 0, .int .i64 0, .string ⟨#[]⟩, .int .i64 0, .int .i64 0, .int .i64 0, .slice none 0 0, .int .i64 0, .int .i64 0, .slice none 0 0] 27 := Bx.new _ _ _
        have hn8 : Bx (v1.alloc (.cells #[.int .i64 0, .int .i64 0, .string ⟨#[]⟩, .int .i64 0, .int .i64 0, .int .i64 0, .slice none 0 0, .int .i64 0, .int .i64 0, .slice none 0 0] 27)) p8 #[.int .i64 0, .int .i64 0, .int .i64 0, .int .i64 0, .int .i64 0, .int .i64 0, .int .i64 0, .int .i64 0] 30 := hn8.keep (below_a _ _)
        have hle7 : w.heap.size ≤ v1.heap.size := hS1.2.size
        generalize v1.heap.size = p7 at *
        generalize v1.alloc (.cells #[.int .i64 0, .int .i64 0, .string ⟨#[]⟩, .int .i64 0, .int .i64 0, .int .i64 0, .slice none 0 0, .int .i64 0, .int .i64 0, .slice none 0 0] 27) = v2 at *
        refine consR (fuel := 3) (i := 6) rfl (by kernel_rfl) (fun K hK => ?_)
        · rw [if_pos (by rfl)]
          go_simp
          refine hK.out _ _ ⟨hS2.1.keep (below_a _ _), bt hS2.2 (below_a _ _)⟩ (fun hS3 => ?_)
          clear hK
          try simp only [Act.put, List.setIfInBounds_toArray, List.set_cons_zero, List.set_cons_succ]
          have hn6 : Bx (v2.alloc (.cells #[.string ⟨#[]⟩, .int .i64 0, .int .i64 0, .int .i64 0, .string ⟨#[]⟩] 23)) v2.heap.size #[.string ⟨#[]⟩, .int .i64 0, .int .i64 0, .int .i64 0, .string ⟨#[]⟩] 23 := Bx.new _ _ _
          have hn8 : Bx (v2.alloc (.cells #[.string ⟨#[]⟩, .int .i64 0, .int .i64 0, .int .i64 0, .string ⟨#[]⟩] 23)) p8 #[.int .i64 0, .int .i64 0, .int .i64 0, .int .i64 0, .int .i64 0, .int .i64 0, .int .i64 0, .int .i64 0] 30 := hn8.keep (below_a _ _)
          have hn7 : Bx (v2.alloc (.cells #[.string ⟨#[]⟩, .int .i64 0, .int .i64 0, .int .i64 0, .string ⟨#[]⟩] 23)) p7 #[.int .i64 0, .int .i64 0, .string ⟨#[]⟩, .int .i64 0, .int .i64 0, .int .i64 0, .slice none 0 0, .int .i64 0, .int .i64 0, .slice none 0 0] 27 := hn7.keep (below_a _ _)
          have hle6 : w.heap.size ≤ v2.heap.size := hS2.2.size
          generalize v2.heap.size = p6 at *
          generalize v2.alloc (.cells #[.string ⟨#[]⟩, .int .i64 0, .int .i64 0, .int .i64 0, .string ⟨#[]⟩] 23) = v3 at *
          have n67 : p6 ≠ p7 := Bx.ne hn6 hn7 (by decide)
          have n68 : p6 ≠ p8 := Bx.ne hn6 hn8 (by decide)
          have n78 : p7 ≠ p8 := Bx.ne hn7 hn8 (by decide)
          have nb6 : w.heap.size ≠ p6 := Bx.ne hS3.1 hn6 (by decide)
          have nb7 : w.heap.size ≠ p7 := Bx.ne hS3.1 hn7 (by decide)
          have nb8 : w.heap.size ≠ p8 := Bx.ne hS3.1 hn8 (by decide)
          refine consR (fuel := 2) (i := 9) rfl (by kernel_rfl) (fun K hK => ?_)
          rw [if_pos (by rfl)]
          refine ow_store _ _ 23 _ _ rfl _ _ rfl rfl (storeT _ p6 _ #[.string ⟨m.a.i.toArray⟩, .int .i64 m.a.iss, .int .i64 m.a.rat, .int .i64 m.a.mat, .string ⟨m.a.cur.toArray⟩] info23 hn6 rfl rfl (by simp [Value.oneCell'])) ?_
          refine hK.out _ _ ⟨hS3.1.other nb6, below_setRow' hS3.2 hle6⟩ (fun hT9 => ?_)
          clear hK
          try simp only [Act.put, List.setIfInBounds_toArray, List.set_cons_zero, List.set_cons_succ]
          have hn6 := hn6.set (ds := #[.string ⟨m.a.i.toArray⟩, .int .i64 m.a.iss, .int .i64 m.a.rat, .int .i64 m.a.mat, .string ⟨m.a.cur.toArray⟩])
          have hn7 := hn7.other (ds := #[.string ⟨m.a.i.toArray⟩, .int .i64 m.a.iss, .int .i64 m.a.rat, .int .i64 m.a.mat, .string ⟨m.a.cur.toArray⟩]) n67.symm
          have hn8 := hn8.other (ds := #[.string ⟨m.a.i.toArray⟩, .int .i64 m.a.iss, .int .i64 m.a.rat, .int .i64 m.a.mat, .string ⟨m.a.cur.toArray⟩]) n68.symm
          generalize v3.setRow p6 #[.string ⟨m.a.i.toArray⟩, .int .i64 m.a.iss, .int .i64 m.a.rat, .int .i64 m.a.mat, .string ⟨m.a.cur.toArray⟩] = s9 at *
          refine consR (fuel := 1) (i := 10) rfl (by kernel_rfl) (fun K hK => ?_)
          rw [if_pos (by rfl)]
          refine ow_store _ _ 27 _ _ rfl _ _ rfl rfl (storeT _ p7 _ #[.int .i64 m.b.id, .int .i64 m.b.ver, .string ⟨m.b.cur.toArray⟩, .int .i64 m.b.rat, .int .i64 m.b.least, .int .i64 m.b.most, .slice ca m.b.cuts.length cc, .int .i64 m.b.iss, .int .i64 m.b.ass, .slice ba m.b.bar.length bc] info27 hn7 rfl rfl (by simp [Value.oneCell'])) ?_
          refine hK.out _ _ ⟨hT9.1.other nb7, below_setRow' hT9.2 hle7⟩ (fun hT10 => ?_)
          clear hK
          try simp only [Act.put, List.setIfInBounds_toArray, List.set_cons_zero, List.set_cons_succ]
          have hn6 := hn6.other (ds := #[.int .i64 m.b.id, .int .i64 m.b.ver, .string ⟨m.b.cur.toArray⟩, .int .i64 m.b.rat, .int .i64 m.b.least, .int .i64 m.b.most, .slice ca m.b.cuts.length cc, .int .i64 m.b.iss, .int .i64 m.b.ass, .slice ba m.b.bar.length bc]) n67
          have hn7 := hn7.set (ds := #[.int .i64 m.b.id, .int .i64 m.b.ver, .string ⟨m.b.cur.toArray⟩, .int .i64 m.b.rat, .int .i64 m.b.least, .int .i64 m.b.most, .slice ca m.b.cuts.length cc, .int .i64 m.b.iss, .int .i64 m.b.ass, .slice ba m.b.bar.length bc])
          have hn8 := hn8.other (ds := #[.int .i64 m.b.id, .int .i64 m.b.ver, .string ⟨m.b.cur.toArray⟩, .int .i64 m.b.rat, .int .i64 m.b.least, .int .i64 m.b.most, .slice ca m.b.cuts.length cc, .int .i64 m.b.iss, .int .i64 m.b.ass, .slice ba m.b.bar.length bc]) n78.symm
          generalize s9.setRow p7 #[.int .i64 m.b.id, .int .i64 m.b.ver, .string ⟨m.b.cur.toArray⟩, .int .i64 m.b.rat, .int .i64 m.b.least, .int .i64 m.b.most, .slice ca m.b.cuts.length cc, .int .i64 m.b.iss, .int .i64 m.b.ass, .slice ba m.b.bar.length bc] = s10 at *
          refine consR (fuel := 0) (i := 11) rfl (by kernel_rfl) (fun K hK => ?_)
          rw [if_pos (by rfl)]
          refine ow_store _ _ 30 _ _ rfl _ _ rfl rfl (storeT _ p8 _ #[.int .i64 m.q.id, .int .i64 m.q.mem, .int .i64 m.q.side, .int .i64 m.q.bas, .int .i64 m.q.am, .int .i64 m.q.rate, .int .i64 m.q.st, .int .i64 m.q.en] info30 hn8 rfl rfl (by simp [Value.oneCell'])) ?_
          refine hK.out _ _ ⟨hT10.1.other nb8, below_setRow' hT10.2 hle8⟩ (fun hT11 => ?_)
          clear hK
          try simp only [Act.put, List.setIfInBounds_toArray, List.set_cons_zero, List.set_cons_succ]
          have hn6 := hn6.other (ds := #[.int .i64 m.q.id, .int .i64 m.q.mem, .int .i64 m.q.side, .int .i64 m.q.bas, .int .i64 m.q.am, .int .i64 m.q.rate, .int .i64 m.q.st, .int .i64 m.q.en]) n68
          have hn7 := hn7.other (ds := #[.int .i64 m.q.id, .int .i64 m.q.mem, .int .i64 m.q.side, .int .i64 m.q.bas, .int .i64 m.q.am, .int .i64 m.q.rate, .int .i64 m.q.st, .int .i64 m.q.en]) n78
          have hn8 := hn8.set (ds := #[.int .i64 m.q.id, .int .i64 m.q.mem, .int .i64 m.q.side, .int .i64 m.q.bas, .int .i64 m.q.am, .int .i64 m.q.rate, .int .i64 m.q.st, .int .i64 m.q.en])
          generalize s10.setRow p8 #[.int .i64 m.q.id, .int .i64 m.q.mem, .int .i64 m.q.side, .int .i64 m.q.bas, .int .i64 m.q.am, .int .i64 m.q.rate, .int .i64 m.q.st, .int .i64 m.q.en] = s11 at *
          refine wpAnyH_done (by kernel_rfl) ?_ _
          go_wp2_with fail
          go_meet
          exact ⟨p6, p7, p8, rfl, rfl, rfl, hT11.1, hn6, hn7, hn8, hT11.2⟩
  case rest =>
    obtain ⟨p5, p6, p7, rfl, rfl, rfl, HX, H5, H6, H7, HB⟩ := hcut
    rcases kinds m.k with h0 | hk | hk | hk | hk | hk | hk | hk | hk | hk | hk | hk | hk | hk | hk | hk
    · have := HK.out; rw [h0] at this; cases this
    · have c0 : wc.cell? ⟨w.heap.size, 0, none⟩ = some (.int .i64 1) := by have := HX.out.cell 0; rw [show (mcs m pa ia ca ba pc ic cc bc)[0]? = some (.int .i64 m.k) from rfl, hk] at this; exact this
      have c1 : wc.cell? ⟨w.heap.size, 1, none⟩ = some (.int .i64 m.mem) := HX.out.cell 1
      have c2 : wc.cell? ⟨w.heap.size, 2, none⟩ = some (.string ⟨m.name.toArray⟩) := HX.out.cell 2
      have hz1 : (⟨(intL m.mem).toArray⟩ : ByteArray).size ≤ 10 := intL_len HWf.out.mem
      have HS1 : Hid ((⟨(intL m.mem).toArray⟩ : ByteArray).data.toList = intL m.mem) := rfl
      have HC1 : Hid (∀ W, Calls Tryz.prog 49 #[.int .i64 m.mem] W (TB' ⟨(intL m.mem).toArray⟩ W)) := fun W => TB'.of (rint m.mem HWf.out.mem W) rfl
      generalize (⟨(intL m.mem).toArray⟩ : ByteArray) = S1 at *
      have hz2 : (⟨(textL m.name).toArray⟩ : ByteArray).size ≤ 1010 := textL_len (HSh.out.n hk)
      have HS2 : Hid ((⟨(textL m.name).toArray⟩ : ByteArray).data.toList = textL m.name) := rfl
      have HC2 : Hid (∀ W, Calls Tryz.prog 50 #[.string ⟨m.name.toArray⟩] W (TB' ⟨(textL m.name).toArray⟩ W)) := fun W => TB'.of (rtext ⟨m.name.toArray⟩ (by have := (HSh.out.n hk); show m.name.length ≤ _; omega) W) rfl
      generalize (⟨(textL m.name).toArray⟩ : ByteArray) = S2 at *
      have hq1 : ¬ S0.size + S1.size > 9223372036854775807 := by omega
      have hq2 : ¬ S0.size + S1.size + S2.size > 9223372036854775807 := by omega
      have hr2 : ¬ (S0 ++ S1).size + S2.size > 9223372036854775807 := by simp only [ByteArray.size_append]; omega
      have HKP : Hid (∀ (W W2 : World), Bx W w.heap.size (mcs m pa ia ca ba pc ic cc bc) 35 → Below W.heap.size W W2 → (W2.cell? ⟨w.heap.size, 1, none⟩ = some (.int .i64 m.mem) ∧ W2.cell? ⟨w.heap.size, 2, none⟩ = some (.string ⟨m.name.toArray⟩))) := fun W W2 h hb => ⟨(h.keep hb).cell 1, (h.keep hb).cell 2⟩
      go_wp2_with fail
      go_region_held3 (fun w' => w'.cell? ⟨w.heap.size, 1, none⟩ = some (.int .i64 m.mem) ∧ w'.cell? ⟨w.heap.size, 2, none⟩ = some (.string ⟨m.name.toArray⟩)) (first | go_keep | exact HKP.out _ _ ((HX.out.drewN _).keep hb2.out) hb3.out | exact HKP.out _ _ (HX.out.drewN _) hb2.out) (first | (go_at_call 49; go_must (refine (HC1.out _).mono ?_; rintro e w2 ⟨rfl, hb2⟩)) | (go_at_call 50; go_must (refine (HC2.out _).mono ?_; rintro e w3 ⟨rfl, hb3⟩)))
      rename_i hHeld
      have HX5 : Hid (Bx w3 w.heap.size (mcs m pa ia ca ba pc ic cc bc) 35) := ((HX.out.drewN _).keep hb2.out).keep hb3.out
      have HB5 : Hid (Below w.heap.size w w3) := bt (bt (bdrw HB.out _) hb2.out) hb3.out
      have HT5 : Hid ((S0 ++ S1 ++ S2).data.toList = intL m.k ++ (intL m.mem ++ textL m.name)) := by unfold Hid; simp only [ByteArray.data_append, Array.toList_append, HS0.out, HS1.out, HS2.out, List.append_assoc]
      have hz5 : (S0 ++ S1 ++ S2).size ≤ 10000 := by simp only [ByteArray.size_append]; omega
      clear hHeld hb2 hb3 HX HB HC1 HC2 HKP c0 c1 c2
      have c0 : w3.cell? ⟨w.heap.size, 0, none⟩ = some (.int .i64 1) := by have := HX5.out.cell 0; rw [show (mcs m pa ia ca ba pc ic cc bc)[0]? = some (.int .i64 m.k) from rfl, hk] at this; exact this
      have HLT : Hid ((Instr.loadAt 35 (.pointer (some ⟨w.heap.size, 0, none⟩))).run Tryz.prog w3 = .ok (.agg (mcs m pa ia ca ba pc ic cc bc)) w3) := HLD.out _ HX5.out
      have HCT : Hid (Calls Tryz.prog 54 #[.agg (mcs m pa ia ca ba pc ic cc bc)] w3 (TB' Sb w3)) := H54.out _ HB5.out
      clear HLD H54
      go_wp2_with (guard_target =~ wpList _ _ _ (⟨_, Op.load 35 _, _, _, _, _⟩ :: _) _ _; refine wl_load _ rfl 35 _ rfl _ rfl _ HLT.out ?_; go_simp)
      refine HCT.out.mono ?_
      rintro e wT ⟨rfl, hbT⟩
      have HBT : Hid (Below w.heap.size w wT) := bt HB5.out hbT.out
      clear hbT HCT HLT
      have HRT : Hid ((S0 ++ S1 ++ S2) ++ Sb = SR) := HRes.out _ (by rw [ByteArray.data_append, Array.toList_append, HT5.out, HSb.out]; unfold bhL encL bodL; simp [hk, inn, flatI, bkL, quL, List.append_assoc])
      go_wp2_with fail
      go_ret2
      exact ⟨by rw [HRT.out]; rfl, HBT.out⟩
    · have c0 : wc.cell? ⟨w.heap.size, 0, none⟩ = some (.int .i64 2) := by have := HX.out.cell 0; rw [show (mcs m pa ia ca ba pc ic cc bc)[0]? = some (.int .i64 m.k) from rfl, hk] at this; exact this
      have b0 : wc.cell? ⟨p5, 0, none⟩ = some (.string ⟨m.a.i.toArray⟩) := H5.out.cell 0
      have b1 : wc.cell? ⟨p5, 1, none⟩ = some (.int .i64 m.a.iss) := H5.out.cell 1
      have b2 : wc.cell? ⟨p5, 2, none⟩ = some (.int .i64 m.a.rat) := H5.out.cell 2
      have b3 : wc.cell? ⟨p5, 3, none⟩ = some (.int .i64 m.a.mat) := H5.out.cell 3
      have b4 : wc.cell? ⟨p5, 4, none⟩ = some (.string ⟨m.a.cur.toArray⟩) := H5.out.cell 4
      have hz1 : (⟨(textL m.a.i).toArray⟩ : ByteArray).size ≤ 1010 := textL_len (HSh.out.a hk).1
      have HS1 : Hid ((⟨(textL m.a.i).toArray⟩ : ByteArray).data.toList = textL m.a.i) := rfl
      have HC1 : Hid (∀ W, Calls Tryz.prog 50 #[.string ⟨m.a.i.toArray⟩] W (TB' ⟨(textL m.a.i).toArray⟩ W)) := fun W => TB'.of (rtext ⟨m.a.i.toArray⟩ (by have := (HSh.out.a hk).1; show m.a.i.length ≤ _; omega) W) rfl
      generalize hne1 : (⟨(textL m.a.i).toArray⟩ : ByteArray) = S1 at *
      have HN2 : Hid (∀ n ∈ [m.a.iss, m.a.rat, m.a.mat], I64 n) := by unfold Hid; intro n hn; simp only [List.mem_cons, List.not_mem_nil, or_false] at hn; rcases hn with rfl | rfl | rfl; exact HWf.out.a.1; exact HWf.out.a.2.1; exact HWf.out.a.2.2
      have hz2 : (⟨(flatI [m.a.iss, m.a.rat, m.a.mat]).toArray⟩ : ByteArray).size ≤ 30 := by rw [ba_size]; exact flatI_len _ HN2.out
      have HS2 : Hid ((⟨(flatI [m.a.iss, m.a.rat, m.a.mat]).toArray⟩ : ByteArray).data.toList = flatI [m.a.iss, m.a.rat, m.a.mat]) := rfl
      have HC2 : Hid (∀ (W : World) (b c : Nat), Bx W b (icells [m.a.iss, m.a.rat, m.a.mat]).toArray 3 → Calls Tryz.prog 51 #[.slice (some ⟨b, 0, none⟩) 3 c] W (TB' ⟨(flatI [m.a.iss, m.a.rat, m.a.mat]).toArray⟩ W)) := fun W b c h => TB'.of (rnums [m.a.iss, m.a.rat, m.a.mat] b c W h HN2.out (by show 3 ≤ _; omega)) rfl
      generalize (⟨(flatI [m.a.iss, m.a.rat, m.a.mat]).toArray⟩ : ByteArray) = S2 at *
      have hz3 : (⟨(textL m.a.cur).toArray⟩ : ByteArray).size ≤ 1010 := textL_len (HSh.out.a hk).2
      have HS3 : Hid ((⟨(textL m.a.cur).toArray⟩ : ByteArray).data.toList = textL m.a.cur) := rfl
      have HC3 : Hid (∀ W, Calls Tryz.prog 50 #[.string ⟨m.a.cur.toArray⟩] W (TB' ⟨(textL m.a.cur).toArray⟩ W)) := fun W => TB'.of (rtext ⟨m.a.cur.toArray⟩ (by have := (HSh.out.a hk).2; show m.a.cur.length ≤ _; omega) W) rfl
      generalize (⟨(textL m.a.cur).toArray⟩ : ByteArray) = S3 at *
      have hq1 : ¬ S0.size + S1.size > 9223372036854775807 := by omega
      have hq2 : ¬ S0.size + S1.size + S2.size > 9223372036854775807 := by omega
      have hr2 : ¬ (S0 ++ S1).size + S2.size > 9223372036854775807 := by simp only [ByteArray.size_append]; omega
      have hq3 : ¬ S0.size + S1.size + S2.size + S3.size > 9223372036854775807 := by omega
      have hr3 : ¬ (S0 ++ S1 ++ S2).size + S3.size > 9223372036854775807 := by simp only [ByteArray.size_append]; omega
      clear hne1
      generalize (⟨m.a.i.toArray⟩ : ByteArray) = xi at *
      generalize (⟨m.a.cur.toArray⟩ : ByteArray) = xc at *
      have HT3 : Hid (Tr5 m pa ia ca ba pc ic cc bc w p5 xi xc wc) := ⟨H5.out, HX.out, HB.out⟩
      go_wp2_with fail
      refine wp_region_held (S := fun W => Tr5 m pa ia ca ba pc ic cc bc w p5 xi xc W) (by kernel_rfl) ?_
      change wpAnyH _ _ _ _ _ 19 #[false, false, false, false, false, false, false, false, false, false, false, false, false, false, false, false, false, false, false] _ wc.drew
      have hS : Tr5 m pa ia ca ba pc ic cc bc w p5 xi xc wc.drew := HT3.out.drewN 1
      clear HT3
      obtain ⟨v0, hv0⟩ : ∃ v, v = wc.drew := ⟨_, rfl⟩
      rw [← hv0] at hS ⊢
      clear hv0 HX HB H5 b0 b1 b2 b3 b4 c0
      refine takeR (fuel := 18) (i := 0) (v := .string S0) rfl (by kernel_rfl) (by kernel_rfl) (by kernel_rfl) (fun _ _ _ h => h) (Or.inl ⟨rfl, fun _ _ => rfl⟩) hS ?_
      simp only [Act.put, List.setIfInBounds_toArray, List.set_cons_zero, List.set_cons_succ]
      refine takeR (fuel := 17) (i := 1) (v := .pointer (some ⟨p5, 0, none⟩)) rfl (by kernel_rfl) (by kernel_rfl) (by kernel_rfl) (fun _ _ _ h => h) (Or.inl ⟨rfl, fun W hW => by go_simp⟩) hS ?_
      simp only [Act.put, List.setIfInBounds_toArray, List.set_cons_zero, List.set_cons_succ]
      refine takeR (fuel := 16) (i := 2) (v := .string xi) rfl (by kernel_rfl) (by kernel_rfl) (by kernel_rfl) (fun _ _ _ h => h) (Or.inl ⟨rfl, fun W hW => by have cj := (hW.a.cell 0 : W.cell? ⟨p5, 0, none⟩ = some (.string xi)); go_simp⟩) hS ?_
      simp only [Act.put, List.setIfInBounds_toArray, List.set_cons_zero, List.set_cons_succ]
      refine takeR (fuel := 15) (i := 5) (v := .pointer (some ⟨p5, 1, none⟩)) rfl (by kernel_rfl) (by kernel_rfl) (by kernel_rfl) (fun _ _ _ h => h) (Or.inl ⟨rfl, fun W hW => by go_simp⟩) hS ?_
      simp only [Act.put, List.setIfInBounds_toArray, List.set_cons_zero, List.set_cons_succ]
      refine takeR (fuel := 14) (i := 6) (v := .int .i64 m.a.iss) rfl (by kernel_rfl) (by kernel_rfl) (by kernel_rfl) (fun _ _ _ h => h) (Or.inl ⟨rfl, fun W hW => by have cj := (hW.a.cell 1 : W.cell? ⟨p5, 1, none⟩ = some (.int .i64 m.a.iss)); go_simp⟩) hS ?_
      simp only [Act.put, List.setIfInBounds_toArray, List.set_cons_zero, List.set_cons_succ]
      refine takeR (fuel := 13) (i := 7) (v := .pointer (some ⟨p5, 2, none⟩)) rfl (by kernel_rfl) (by kernel_rfl) (by kernel_rfl) (fun _ _ _ h => h) (Or.inl ⟨rfl, fun W hW => by go_simp⟩) hS ?_
      simp only [Act.put, List.setIfInBounds_toArray, List.set_cons_zero, List.set_cons_succ]
      refine takeR (fuel := 12) (i := 8) (v := .int .i64 m.a.rat) rfl (by kernel_rfl) (by kernel_rfl) (by kernel_rfl) (fun _ _ _ h => h) (Or.inl ⟨rfl, fun W hW => by have cj := (hW.a.cell 2 : W.cell? ⟨p5, 2, none⟩ = some (.int .i64 m.a.rat)); go_simp⟩) hS ?_
      simp only [Act.put, List.setIfInBounds_toArray, List.set_cons_zero, List.set_cons_succ]
      refine takeR (fuel := 11) (i := 9) (v := .pointer (some ⟨p5, 3, none⟩)) rfl (by kernel_rfl) (by kernel_rfl) (by kernel_rfl) (fun _ _ _ h => h) (Or.inl ⟨rfl, fun W hW => by go_simp⟩) hS ?_
      simp only [Act.put, List.setIfInBounds_toArray, List.set_cons_zero, List.set_cons_succ]
      refine takeR (fuel := 10) (i := 10) (v := .int .i64 m.a.mat) rfl (by kernel_rfl) (by kernel_rfl) (by kernel_rfl) (fun _ _ _ h => h) (Or.inl ⟨rfl, fun W hW => by have cj := (hW.a.cell 3 : W.cell? ⟨p5, 3, none⟩ = some (.int .i64 m.a.mat)); go_simp⟩) hS ?_
      simp only [Act.put, List.setIfInBounds_toArray, List.set_cons_zero, List.set_cons_succ]
      refine takeR (fuel := 9) (i := 14) (v := .pointer (some ⟨p5, 4, none⟩)) rfl (by kernel_rfl) (by kernel_rfl) (by kernel_rfl) (fun _ _ _ h => h) (Or.inl ⟨rfl, fun W hW => by go_simp⟩) hS ?_
      simp only [Act.put, List.setIfInBounds_toArray, List.set_cons_zero, List.set_cons_succ]
      refine takeR (fuel := 8) (i := 15) (v := .string xc) rfl (by kernel_rfl) (by kernel_rfl) (by kernel_rfl) (fun _ _ _ h => h) (Or.inl ⟨rfl, fun W hW => by have cj := (hW.a.cell 4 : W.cell? ⟨p5, 4, none⟩ = some (.string xc)); go_simp⟩) hS ?_
      simp only [Act.put, List.setIfInBounds_toArray, List.set_cons_zero, List.set_cons_succ]
      refine consR2 (fuel := 7) (i := 3) (j := 11) rfl rfl (by kernel_rfl) (fun K hK => ?_) (fun K hK => ?_)
      · rw [if_pos (by rfl)]
        go_simp
        refine (HC1.out _).mono ?_
        rintro e w2 ⟨rfl, hb2⟩
        refine hK.out _ _ (hS.keep hb2.out) (fun hS2 => ?_)
        clear hK
        try simp only [Act.put, List.setIfInBounds_toArray, List.set_cons_zero, List.set_cons_succ]
        refine takeR (fuel := 6) (i := 4) (v := .string (S0 ++ S1)) rfl (by kernel_rfl) (by kernel_rfl) (by kernel_rfl) (fun _ _ _ h => h) (Or.inl ⟨rfl, fun W hW => by go_simp⟩) hS2 ?_
        simp only [Act.put, List.setIfInBounds_toArray, List.set_cons_zero, List.set_cons_succ]
        refine consR (fuel := 5) (i := 11) rfl (by kernel_rfl) (fun K hK => ?_)
        rw [if_pos (by rfl)]
        go_simp
        refine hK.out _ _ (hS2.alloc _) (fun hS3 => ?_)
        clear hK
        try simp only [Act.put, List.setIfInBounds_toArray, List.set_cons_zero, List.set_cons_succ]
        have hsl : Bx (w2.alloc (.cells #[.int .i64 m.a.iss, .int .i64 m.a.rat, .int .i64 m.a.mat] 3)) w2.heap.size #[.int .i64 m.a.iss, .int .i64 m.a.rat, .int .i64 m.a.mat] 3 := Bx.new _ _ _
        generalize w2.heap.size = ps at *
        generalize w2.alloc (.cells #[.int .i64 m.a.iss, .int .i64 m.a.rat, .int .i64 m.a.mat] 3) = va at *
        refine consR (fuel := 4) (i := 12) rfl (by kernel_rfl) (fun K hK => ?_)
        rw [if_pos (by rfl)]
        go_simp
        refine (HC2.out _ ps _ hsl).mono ?_
        rintro e w3 ⟨rfl, hb3⟩
        refine hK.out _ _ (hS3.keep hb3.out) (fun hS4 => ?_)
        clear hK
        try simp only [Act.put, List.setIfInBounds_toArray, List.set_cons_zero, List.set_cons_succ]
        refine takeR (fuel := 3) (i := 13) (v := .string (S0 ++ S1 ++ S2)) rfl (by kernel_rfl) (by kernel_rfl) (by kernel_rfl) (fun _ _ _ h => h) (Or.inl ⟨rfl, fun W hW => by go_simp⟩) hS4 ?_
        simp only [Act.put, List.setIfInBounds_toArray, List.set_cons_zero, List.set_cons_succ]
        refine consR (fuel := 2) (i := 16) rfl (by kernel_rfl) (fun K hK => ?_)
        rw [if_pos (by rfl)]
        go_simp
        refine (HC3.out _).mono ?_
        rintro e w4 ⟨rfl, hb4⟩
        refine hK.out _ _ (hS4.keep hb4.out) (fun hS5 => ?_)
        clear hK
        try simp only [Act.put, List.setIfInBounds_toArray, List.set_cons_zero, List.set_cons_succ]
        refine takeR (fuel := 1) (i := 17) (v := .string (S0 ++ S1 ++ S2 ++ S3)) rfl (by kernel_rfl) (by kernel_rfl) (by kernel_rfl) (fun _ _ _ h => h) (Or.inl ⟨rfl, fun W hW => by go_simp⟩) hS5 ?_
        simp only [Act.put, List.setIfInBounds_toArray, List.set_cons_zero, List.set_cons_succ]
        refine takeR (fuel := 0) (i := 18) (v := .string (S0 ++ S1 ++ S2 ++ S3)) rfl (by kernel_rfl) (by kernel_rfl) (by kernel_rfl) (fun _ _ _ h => h) (Or.inl ⟨rfl, fun _ _ => rfl⟩) hS5 ?_
        simp only [Act.put, List.setIfInBounds_toArray, List.set_cons_zero, List.set_cons_succ]
        refine wpAnyH_done (by kernel_rfl) ?_ _
        have HX5 : Hid (Bx w4 w.heap.size (mcs m pa ia ca ba pc ic cc bc) 35) := hS5.b
        have HB5 : Hid (Below w.heap.size w w4) := hS5.c
        have HT5 : Hid ((S0 ++ S1 ++ S2 ++ S3).data.toList = intL m.k ++ (textL m.a.i ++ (flatI [m.a.iss, m.a.rat, m.a.mat] ++ textL m.a.cur))) := by unfold Hid; simp only [ByteArray.data_append, Array.toList_append, HS0.out, HS1.out, HS2.out, HS3.out, List.append_assoc]
        have hz5 : (S0 ++ S1 ++ S2 ++ S3).size ≤ 10000 := by simp only [ByteArray.size_append]; omega
        clear HC1 HC2 HC3 hS5
        have c0 : w4.cell? ⟨w.heap.size, 0, none⟩ = some (.int .i64 2) := by have := HX5.out.cell 0; rw [show (mcs m pa ia ca ba pc ic cc bc)[0]? = some (.int .i64 m.k) from rfl, hk] at this; exact this
        have HLT : Hid ((Instr.loadAt 35 (.pointer (some ⟨w.heap.size, 0, none⟩))).run Tryz.prog w4 = .ok (.agg (mcs m pa ia ca ba pc ic cc bc)) w4) := HLD.out _ HX5.out
        have HCT : Hid (Calls Tryz.prog 54 #[.agg (mcs m pa ia ca ba pc ic cc bc)] w4 (TB' Sb w4)) := H54.out _ HB5.out
        clear HLD H54
        go_wp2_with (guard_target =~ wpList _ _ _ (⟨_, Op.load 35 _, _, _, _, _⟩ :: _) _ _; refine wl_load _ rfl 35 _ rfl _ rfl _ HLT.out ?_; go_simp)
        refine HCT.out.mono ?_
        rintro e wT ⟨rfl, hbT⟩
        have HBT : Hid (Below w.heap.size w wT) := bt HB5.out hbT.out
        clear hbT HCT HLT
        have HRT : Hid ((S0 ++ S1 ++ S2 ++ S3) ++ Sb = SR) := HRes.out _ (by rw [ByteArray.data_append, Array.toList_append, HT5.out, HSb.out]; unfold bhL encL bodL; simp [hk, inn, flatI, bkL, quL, List.append_assoc])
        go_wp2_with fail
        go_ret2
        exact ⟨by rw [HRT.out]; rfl, HBT.out⟩
      · rw [if_pos (by rfl)]
        go_simp
        refine hK.out _ _ (hS.alloc _) (fun hS2 => ?_)
        clear hK
        try simp only [Act.put, List.setIfInBounds_toArray, List.set_cons_zero, List.set_cons_succ]
        have hsl : Bx (v0.alloc (.cells #[.int .i64 m.a.iss, .int .i64 m.a.rat, .int .i64 m.a.mat] 3)) v0.heap.size #[.int .i64 m.a.iss, .int .i64 m.a.rat, .int .i64 m.a.mat] 3 := Bx.new _ _ _
        generalize v0.heap.size = ps at *
        generalize v0.alloc (.cells #[.int .i64 m.a.iss, .int .i64 m.a.rat, .int .i64 m.a.mat] 3) = va at *
        refine consR (fuel := 6) (i := 3) rfl (by kernel_rfl) (fun K hK => ?_)
        rw [if_pos (by rfl)]
        go_simp
        refine (HC1.out _).mono ?_
        rintro e w2 ⟨rfl, hb2⟩
        refine hK.out _ _ (hS2.keep hb2.out) (fun hS3 => ?_)
        clear hK
        try simp only [Act.put, List.setIfInBounds_toArray, List.set_cons_zero, List.set_cons_succ]
        have hsl := hsl.keep hb2.out
        refine takeR (fuel := 5) (i := 4) (v := .string (S0 ++ S1)) rfl (by kernel_rfl) (by kernel_rfl) (by kernel_rfl) (fun _ _ _ h => h) (Or.inl ⟨rfl, fun W hW => by go_simp⟩) hS3 ?_
        simp only [Act.put, List.setIfInBounds_toArray, List.set_cons_zero, List.set_cons_succ]
        refine consR (fuel := 4) (i := 12) rfl (by kernel_rfl) (fun K hK => ?_)
        rw [if_pos (by rfl)]
        go_simp
        refine (HC2.out _ ps _ hsl).mono ?_
        rintro e w3 ⟨rfl, hb3⟩
        refine hK.out _ _ (hS3.keep hb3.out) (fun hS4 => ?_)
        clear hK
        try simp only [Act.put, List.setIfInBounds_toArray, List.set_cons_zero, List.set_cons_succ]
        refine takeR (fuel := 3) (i := 13) (v := .string (S0 ++ S1 ++ S2)) rfl (by kernel_rfl) (by kernel_rfl) (by kernel_rfl) (fun _ _ _ h => h) (Or.inl ⟨rfl, fun W hW => by go_simp⟩) hS4 ?_
        simp only [Act.put, List.setIfInBounds_toArray, List.set_cons_zero, List.set_cons_succ]
        refine consR (fuel := 2) (i := 16) rfl (by kernel_rfl) (fun K hK => ?_)
        rw [if_pos (by rfl)]
        go_simp
        refine (HC3.out _).mono ?_
        rintro e w4 ⟨rfl, hb4⟩
        refine hK.out _ _ (hS4.keep hb4.out) (fun hS5 => ?_)
        clear hK
        try simp only [Act.put, List.setIfInBounds_toArray, List.set_cons_zero, List.set_cons_succ]
        refine takeR (fuel := 1) (i := 17) (v := .string (S0 ++ S1 ++ S2 ++ S3)) rfl (by kernel_rfl) (by kernel_rfl) (by kernel_rfl) (fun _ _ _ h => h) (Or.inl ⟨rfl, fun W hW => by go_simp⟩) hS5 ?_
        simp only [Act.put, List.setIfInBounds_toArray, List.set_cons_zero, List.set_cons_succ]
        refine takeR (fuel := 0) (i := 18) (v := .string (S0 ++ S1 ++ S2 ++ S3)) rfl (by kernel_rfl) (by kernel_rfl) (by kernel_rfl) (fun _ _ _ h => h) (Or.inl ⟨rfl, fun _ _ => rfl⟩) hS5 ?_
        simp only [Act.put, List.setIfInBounds_toArray, List.set_cons_zero, List.set_cons_succ]
        refine wpAnyH_done (by kernel_rfl) ?_ _
        have HX5 : Hid (Bx w4 w.heap.size (mcs m pa ia ca ba pc ic cc bc) 35) := hS5.b
        have HB5 : Hid (Below w.heap.size w w4) := hS5.c
        have HT5 : Hid ((S0 ++ S1 ++ S2 ++ S3).data.toList = intL m.k ++ (textL m.a.i ++ (flatI [m.a.iss, m.a.rat, m.a.mat] ++ textL m.a.cur))) := by unfold Hid; simp only [ByteArray.data_append, Array.toList_append, HS0.out, HS1.out, HS2.out, HS3.out, List.append_assoc]
        have hz5 : (S0 ++ S1 ++ S2 ++ S3).size ≤ 10000 := by simp only [ByteArray.size_append]; omega
        clear HC1 HC2 HC3 hS5
        have c0 : w4.cell? ⟨w.heap.size, 0, none⟩ = some (.int .i64 2) := by have := HX5.out.cell 0; rw [show (mcs m pa ia ca ba pc ic cc bc)[0]? = some (.int .i64 m.k) from rfl, hk] at this; exact this
        have HLT : Hid ((Instr.loadAt 35 (.pointer (some ⟨w.heap.size, 0, none⟩))).run Tryz.prog w4 = .ok (.agg (mcs m pa ia ca ba pc ic cc bc)) w4) := HLD.out _ HX5.out
        have HCT : Hid (Calls Tryz.prog 54 #[.agg (mcs m pa ia ca ba pc ic cc bc)] w4 (TB' Sb w4)) := H54.out _ HB5.out
        clear HLD H54
        go_wp2_with (guard_target =~ wpList _ _ _ (⟨_, Op.load 35 _, _, _, _, _⟩ :: _) _ _; refine wl_load _ rfl 35 _ rfl _ rfl _ HLT.out ?_; go_simp)
        refine HCT.out.mono ?_
        rintro e wT ⟨rfl, hbT⟩
        have HBT : Hid (Below w.heap.size w wT) := bt HB5.out hbT.out
        clear hbT HCT HLT
        have HRT : Hid ((S0 ++ S1 ++ S2 ++ S3) ++ Sb = SR) := HRes.out _ (by rw [ByteArray.data_append, Array.toList_append, HT5.out, HSb.out]; unfold bhL encL bodL; simp [hk, inn, flatI, bkL, quL, List.append_assoc])
        go_wp2_with fail
        go_ret2
        exact ⟨by rw [HRT.out]; rfl, HBT.out⟩
    · have c0 : wc.cell? ⟨w.heap.size, 0, none⟩ = some (.int .i64 3) := by have := HX.out.cell 0; rw [show (mcs m pa ia ca ba pc ic cc bc)[0]? = some (.int .i64 m.k) from rfl, hk] at this; exact this
      have b0 : wc.cell? ⟨p6, 0, none⟩ = some (.int .i64 m.b.id) := H6.out.cell 0
      have b1 : wc.cell? ⟨p6, 1, none⟩ = some (.int .i64 m.b.ver) := H6.out.cell 1
      have b3 : wc.cell? ⟨p6, 3, none⟩ = some (.int .i64 m.b.rat) := H6.out.cell 3
      have b4 : wc.cell? ⟨p6, 4, none⟩ = some (.int .i64 m.b.least) := H6.out.cell 4
      have b5 : wc.cell? ⟨p6, 5, none⟩ = some (.int .i64 m.b.most) := H6.out.cell 5
      have b7 : wc.cell? ⟨p6, 7, none⟩ = some (.int .i64 m.b.iss) := H6.out.cell 7
      have b8 : wc.cell? ⟨p6, 8, none⟩ = some (.int .i64 m.b.ass) := H6.out.cell 8
      have b2 : wc.cell? ⟨p6, 2, none⟩ = some (.string ⟨m.b.cur.toArray⟩) := H6.out.cell 2
      have b6 : wc.cell? ⟨p6, 6, none⟩ = some (.slice ca m.b.cuts.length cc) := H6.out.cell 6
      have HN1 : Hid (∀ n ∈ [m.b.id, m.b.ver, m.b.rat, m.b.least, m.b.most, m.b.iss, m.b.ass], I64 n) := by unfold Hid; intro n hn; simp only [List.mem_cons, List.not_mem_nil, or_false] at hn; rcases hn with rfl | rfl | rfl | rfl | rfl | rfl | rfl; exact HWf.out.b.1; exact HWf.out.b.2.1; exact HWf.out.b.2.2.1; exact HWf.out.b.2.2.2.1; exact HWf.out.b.2.2.2.2.1; exact HWf.out.b.2.2.2.2.2.1; exact HWf.out.b.2.2.2.2.2.2.1
      have hz1 : (⟨(flatI [m.b.id, m.b.ver, m.b.rat, m.b.least, m.b.most, m.b.iss, m.b.ass]).toArray⟩ : ByteArray).size ≤ 70 := by rw [ba_size]; exact flatI_len _ HN1.out
      have HS1 : Hid ((⟨(flatI [m.b.id, m.b.ver, m.b.rat, m.b.least, m.b.most, m.b.iss, m.b.ass]).toArray⟩ : ByteArray).data.toList = flatI [m.b.id, m.b.ver, m.b.rat, m.b.least, m.b.most, m.b.iss, m.b.ass]) := rfl
      have HC1 : Hid (∀ (W : World) (b c : Nat), Bx W b (icells [m.b.id, m.b.ver, m.b.rat, m.b.least, m.b.most, m.b.iss, m.b.ass]).toArray 3 → Calls Tryz.prog 51 #[.slice (some ⟨b, 0, none⟩) 7 c] W (TB' ⟨(flatI [m.b.id, m.b.ver, m.b.rat, m.b.least, m.b.most, m.b.iss, m.b.ass]).toArray⟩ W)) := fun W b c h => TB'.of (rnums [m.b.id, m.b.ver, m.b.rat, m.b.least, m.b.most, m.b.iss, m.b.ass] b c W h HN1.out (by show 7 ≤ _; omega)) rfl
      generalize (⟨(flatI [m.b.id, m.b.ver, m.b.rat, m.b.least, m.b.most, m.b.iss, m.b.ass]).toArray⟩ : ByteArray) = S1 at *
      have hz2 : (⟨(textL m.b.cur).toArray⟩ : ByteArray).size ≤ 1010 := textL_len (HSh.out.b hk).1
      have HS2 : Hid ((⟨(textL m.b.cur).toArray⟩ : ByteArray).data.toList = textL m.b.cur) := rfl
      have HC2 : Hid (∀ W, Calls Tryz.prog 50 #[.string ⟨m.b.cur.toArray⟩] W (TB' ⟨(textL m.b.cur).toArray⟩ W)) := fun W => TB'.of (rtext ⟨m.b.cur.toArray⟩ (by have := (HSh.out.b hk).1; show m.b.cur.length ≤ _; omega) W) rfl
      generalize (⟨(textL m.b.cur).toArray⟩ : ByteArray) = S2 at *
      have hn1 : m.b.cuts.length ≤ 64 := (HSh.out.b hk).2.1
      have hz3 : (⟨(uintL m.b.cuts.length).toArray⟩ : ByteArray).size ≤ 10 := uintL_len (by omega)
      have HS3 : Hid ((⟨(uintL m.b.cuts.length).toArray⟩ : ByteArray).data.toList = uintL m.b.cuts.length) := rfl
      have HC3 : Hid (∀ W, Calls Tryz.prog 52 #[.int .u64 (IntKind.u64.wrap (m.b.cuts.length : Int))] W (TB' ⟨(uintL m.b.cuts.length).toArray⟩ W)) := fun W => TB'.of (ruintW m.b.cuts.length (by omega) W) rfl
      generalize (⟨(uintL m.b.cuts.length).toArray⟩ : ByteArray) = S3 at *
      have hq1 : ¬ S0.size + S1.size > 9223372036854775807 := by omega
      have hq2 : ¬ S0.size + S1.size + S2.size > 9223372036854775807 := by omega
      have hr2 : ¬ (S0 ++ S1).size + S2.size > 9223372036854775807 := by simp only [ByteArray.size_append]; omega
      have hq3 : ¬ S0.size + S1.size + S2.size + S3.size > 9223372036854775807 := by omega
      have hr3 : ¬ (S0 ++ S1 ++ S2).size + S3.size > 9223372036854775807 := by simp only [ByteArray.size_append]; omega
      have HKP : Hid (∀ (W W2 : World), Bx W p6 #[.int .i64 m.b.id, .int .i64 m.b.ver, .string ⟨m.b.cur.toArray⟩, .int .i64 m.b.rat, .int .i64 m.b.least, .int .i64 m.b.most, .slice ca m.b.cuts.length cc, .int .i64 m.b.iss, .int .i64 m.b.ass, .slice ba m.b.bar.length bc] 27 → Below W.heap.size W W2 → (W2.cell? ⟨p6, 0, none⟩ = some (.int .i64 m.b.id) ∧ W2.cell? ⟨p6, 1, none⟩ = some (.int .i64 m.b.ver) ∧ W2.cell? ⟨p6, 3, none⟩ = some (.int .i64 m.b.rat) ∧ W2.cell? ⟨p6, 4, none⟩ = some (.int .i64 m.b.least) ∧ W2.cell? ⟨p6, 5, none⟩ = some (.int .i64 m.b.most) ∧ W2.cell? ⟨p6, 7, none⟩ = some (.int .i64 m.b.iss) ∧ W2.cell? ⟨p6, 8, none⟩ = some (.int .i64 m.b.ass) ∧ W2.cell? ⟨p6, 2, none⟩ = some (.string ⟨m.b.cur.toArray⟩) ∧ W2.cell? ⟨p6, 6, none⟩ = some (.slice ca m.b.cuts.length cc))) := fun W W2 h hb => ⟨(h.keep hb).cell 0, (h.keep hb).cell 1, (h.keep hb).cell 3, (h.keep hb).cell 4, (h.keep hb).cell 5, (h.keep hb).cell 7, (h.keep hb).cell 8, (h.keep hb).cell 2, (h.keep hb).cell 6⟩
      go_wp2_with fail
      go_region_held3 (fun w' => w'.cell? ⟨p6, 0, none⟩ = some (.int .i64 m.b.id) ∧ w'.cell? ⟨p6, 1, none⟩ = some (.int .i64 m.b.ver) ∧ w'.cell? ⟨p6, 3, none⟩ = some (.int .i64 m.b.rat) ∧ w'.cell? ⟨p6, 4, none⟩ = some (.int .i64 m.b.least) ∧ w'.cell? ⟨p6, 5, none⟩ = some (.int .i64 m.b.most) ∧ w'.cell? ⟨p6, 7, none⟩ = some (.int .i64 m.b.iss) ∧ w'.cell? ⟨p6, 8, none⟩ = some (.int .i64 m.b.ass) ∧ w'.cell? ⟨p6, 2, none⟩ = some (.string ⟨m.b.cur.toArray⟩) ∧ w'.cell? ⟨p6, 6, none⟩ = some (.slice ca m.b.cuts.length cc)) (first | go_keep | exact HKP.out _ _ ((((H6.out.keep (below_a _ _)).drewN _).keep hb2.out).keep hb3.out) hb4.out | exact HKP.out _ _ (((H6.out.keep (below_a _ _)).drewN _).keep hb2.out) hb3.out | exact HKP.out _ _ ((H6.out.keep (below_a _ _)).drewN _) hb2.out) (first | (go_at_call 51; go_must (refine (HC1.out _ wc.heap.size _ (show Bx ((wc.alloc (.cells #[.int .i64 m.b.id, .int .i64 m.b.ver, .int .i64 m.b.rat, .int .i64 m.b.least, .int .i64 m.b.most, .int .i64 m.b.iss, .int .i64 m.b.ass] 3)).drewN _) wc.heap.size (icells [m.b.id, m.b.ver, m.b.rat, m.b.least, m.b.most, m.b.iss, m.b.ass]).toArray 3 from Bx.new wc _ 3)).mono ?_; rintro e w2 ⟨rfl, hb2⟩)) | (go_at_call 50; go_must (refine (HC2.out _).mono ?_; rintro e w3 ⟨rfl, hb3⟩)) | (go_at_call 52; go_must (refine (HC3.out _).mono ?_; rintro e w4 ⟨rfl, hb4⟩)))
      rename_i hHeld
      have HXq : Hid (Bx w4 w.heap.size (mcs m pa ia ca ba pc ic cc bc) 35) := ((((HX.out.keep (below_a _ _)).drewN _).keep hb2.out).keep hb3.out).keep hb4.out
      have H6q : Hid (Bx w4 p6 #[.int .i64 m.b.id, .int .i64 m.b.ver, .string ⟨m.b.cur.toArray⟩, .int .i64 m.b.rat, .int .i64 m.b.least, .int .i64 m.b.most, .slice ca m.b.cuts.length cc, .int .i64 m.b.iss, .int .i64 m.b.ass, .slice ba m.b.bar.length bc] 27) := ((((H6.out.keep (below_a _ _)).drewN _).keep hb2.out).keep hb3.out).keep hb4.out
      have HBq : Hid (Below w.heap.size w w4) := bt (bt (bt (bdrw (bt HB.out (below_a _ _)) _) hb2.out) hb3.out) hb4.out
      have HTq : Hid ((S0 ++ S1 ++ S2 ++ S3).data.toList = (intL m.k ++ (flatI [m.b.id, m.b.ver, m.b.rat, m.b.least, m.b.most, m.b.iss, m.b.ass] ++ (textL m.b.cur ++ uintL m.b.cuts.length)))) := by unfold Hid; simp only [ByteArray.data_append, Array.toList_append, HS0.out, HS1.out, HS2.out, HS3.out, List.append_assoc]
      have hzq : (S0 ++ S1 ++ S2 ++ S3).size ≤ 3000 := by simp only [ByteArray.size_append]; omega
      clear hHeld hb2 hb3 hb4 HX HB H6 HC1 HC2 HC3 HKP c0 b0 b1 b3 b4 b5 b7 b8 b2 b6
      go_wp2_with fail
      have HLk : Hid (Cts w.heap.size w ca m.b.cuts) := HH.out.cuts
      have HQ : Hid (∀ y ∈ m.b.cuts, I64 y.d ∧ I64 y.r ∧ I64 y.c) := HWf.out.b.2.2.2.2.2.2.2.1
      go_loopw [4, 8] (fun v i wr => ∃ (k : Nat) (T : ByteArray), i = .int .i64 k ∧ v = .string T ∧ k ≤ m.b.cuts.length ∧ Hid (T.data.toList = (intL m.k ++ (flatI [m.b.id, m.b.ver, m.b.rat, m.b.least, m.b.most, m.b.iss, m.b.ass] ++ (textL m.b.cur ++ uintL m.b.cuts.length))) ++ flatM cutL (m.b.cuts.take k)) ∧ T.size ≤ 4000 + 30 * k ∧ Hid (Below w.heap.size w wr) ∧ Hid (Bx wr w.heap.size (mcs m pa ia ca ba pc ic cc bc) 35) ∧ Hid (Bx wr p6 #[.int .i64 m.b.id, .int .i64 m.b.ver, .string ⟨m.b.cur.toArray⟩, .int .i64 m.b.rat, .int .i64 m.b.least, .int .i64 m.b.most, .slice ca m.b.cuts.length cc, .int .i64 m.b.iss, .int .i64 m.b.ass, .slice ba m.b.bar.length bc] 27)) (fun _ i _ => m.b.cuts.length - (Lib.intOf i).toNat)
      case atStart => exact ⟨0, _, rfl, rfl, Nat.zero_le _, by unfold Hid; rw [List.take_zero]; show _ = _ ++ []; rw [List.append_nil]; exact HTq.out, by omega, HBq, HXq, H6q⟩
      case round =>
        clear HBq HXq HTq H6q
        obtain ⟨k, T, rfl, rfl, hkk, HT, hzT, HBk, HXk, H6k⟩ := hrel
        have d6 : wr.cell? ⟨p6, 6, none⟩ = some (.slice ca m.b.cuts.length cc) := H6k.out.cell 6
        by_cases hkn : k < m.b.cuts.length
        · have hkz : (k : Int) < (m.b.cuts.length : Int) := by omega
          have hk0 : (0 : Int) ≤ (k : Int) := by omega
          obtain ⟨bb, off, hca, hbl, hce⟩ := HLk.out (by omega)
          rw [hca] at d6
          have hc0 : wr.cell? ⟨bb, off + k * 3, none⟩ = some (.int .i64 m.b.cuts[k].d) := (HBk.out.cell (by exact hbl)).trans (hce k hkn).1
          have hc1 : wr.cell? ⟨bb, off + k * 3 + 1, none⟩ = some (.int .i64 m.b.cuts[k].r) := (HBk.out.cell (by exact hbl)).trans (hce k hkn).2.1
          have hc2 : wr.cell? ⟨bb, off + k * 3 + 2, none⟩ = some (.int .i64 m.b.cuts[k].c) := (HBk.out.cell (by exact hbl)).trans (hce k hkn).2.2
          have HNk : Hid (∀ n ∈ [m.b.cuts[k].d, m.b.cuts[k].r, m.b.cuts[k].c], I64 n) := by unfold Hid; intro n hn; have q := HQ.out _ (List.getElem_mem hkn); simp only [List.mem_cons, List.not_mem_nil, or_false] at hn; rcases hn with rfl | rfl | rfl; exact q.1; exact q.2.1; exact q.2.2
          have HT2 : Hid ((T ++ (⟨(flatI [m.b.cuts[k].d, m.b.cuts[k].r, m.b.cuts[k].c]).toArray⟩ : ByteArray)).data.toList = (intL m.k ++ (flatI [m.b.id, m.b.ver, m.b.rat, m.b.least, m.b.most, m.b.iss, m.b.ass] ++ (textL m.b.cur ++ uintL m.b.cuts.length))) ++ flatM cutL (m.b.cuts.take (k + 1))) := by
            unfold Hid
            rw [flatM_take cutL hkn, ByteArray.data_append, Array.toList_append, HT.out, List.append_assoc]
            simp only [flatI, cutL, List.append_nil]
          have hz1 : (⟨(flatI [m.b.cuts[k].d, m.b.cuts[k].r, m.b.cuts[k].c]).toArray⟩ : ByteArray).size ≤ 30 := by rw [ba_size]; exact flatI_len _ HNk.out
          have HC1 : Hid (∀ (W : World) (b c : Nat), Bx W b (icells [m.b.cuts[k].d, m.b.cuts[k].r, m.b.cuts[k].c]).toArray 3 → Calls Tryz.prog 51 #[.slice (some ⟨b, 0, none⟩) 3 c] W (TB' ⟨(flatI [m.b.cuts[k].d, m.b.cuts[k].r, m.b.cuts[k].c]).toArray⟩ W)) := fun W b c h => TB'.of (rnums [m.b.cuts[k].d, m.b.cuts[k].r, m.b.cuts[k].c] b c W h HNk.out (by show 3 ≤ _; omega)) rfl
          have hbl2 : bb < wr.heap.size := Nat.lt_of_lt_of_le hbl HBk.out.size
          generalize (⟨(flatI [m.b.cuts[k].d, m.b.cuts[k].r, m.b.cuts[k].c]).toArray⟩ : ByteArray) = S1 at *
          generalize m.b.cuts[k].d = z0 at *
          generalize m.b.cuts[k].r = z1 at *
          generalize m.b.cuts[k].c = z2 at *
          have HKP : Hid (∀ (W W2 : World), Bx W p6 #[.int .i64 m.b.id, .int .i64 m.b.ver, .string ⟨m.b.cur.toArray⟩, .int .i64 m.b.rat, .int .i64 m.b.least, .int .i64 m.b.most, .slice ca m.b.cuts.length cc, .int .i64 m.b.iss, .int .i64 m.b.ass, .slice ba m.b.bar.length bc] 27 → W.cell? ⟨bb, off + k * 3, none⟩ = some (.int .i64 z0) → W.cell? ⟨bb, off + k * 3 + 1, none⟩ = some (.int .i64 z1) → W.cell? ⟨bb, off + k * 3 + 2, none⟩ = some (.int .i64 z2) → bb < W.heap.size → Below W.heap.size W W2 → (W2.cell? ⟨p6, 6, none⟩ = some (.slice (some ⟨bb, off, none⟩) m.b.cuts.length cc) ∧ W2.cell? ⟨bb, off + k * 3, none⟩ = some (.int .i64 z0) ∧ W2.cell? ⟨bb, off + k * 3 + 1, none⟩ = some (.int .i64 z1) ∧ W2.cell? ⟨bb, off + k * 3 + 2, none⟩ = some (.int .i64 z2))) := fun W W2 h c1 c2 c3 hl hb => ⟨by have := (h.keep hb).cell 6; rw [this, ← hca]; rfl, (hb.cell (by exact hl)).trans c1, (hb.cell (by exact hl)).trans c2, (hb.cell (by exact hl)).trans c3⟩
          have hqa : ¬ T.size + S1.size > 9223372036854775807 := by omega
          have HKA : Hid (∀ n, (((wr.alloc (.cells #[.int .i64 z0, .int .i64 z1, .int .i64 z2] 3)).drewN n).cell? ⟨bb, off + k * 3, none⟩ = some (.int .i64 z0)) ∧ (((wr.alloc (.cells #[.int .i64 z0, .int .i64 z1, .int .i64 z2] 3)).drewN n).cell? ⟨bb, off + k * 3 + 1, none⟩ = some (.int .i64 z1)) ∧ (((wr.alloc (.cells #[.int .i64 z0, .int .i64 z1, .int .i64 z2] 3)).drewN n).cell? ⟨bb, off + k * 3 + 2, none⟩ = some (.int .i64 z2)) ∧ bb < ((wr.alloc (.cells #[.int .i64 z0, .int .i64 z1, .int .i64 z2] 3)).drewN n).heap.size) := fun n => ⟨((below_a wr _).cell (by exact hbl2)).trans hc0, ((below_a wr _).cell (by exact hbl2)).trans hc1, ((below_a wr _).cell (by exact hbl2)).trans hc2, by show bb < (wr.alloc _).heap.size; rw [size_a]; omega⟩
          clear hce HT hca
          go_wp2_with fail
          go_region_held3 (fun w' => w'.cell? ⟨p6, 6, none⟩ = some (.slice (some ⟨bb, off, none⟩) m.b.cuts.length cc) ∧ w'.cell? ⟨bb, off + k * 3, none⟩ = some (.int .i64 z0) ∧ w'.cell? ⟨bb, off + k * 3 + 1, none⟩ = some (.int .i64 z1) ∧ w'.cell? ⟨bb, off + k * 3 + 2, none⟩ = some (.int .i64 z2)) (first | go_keep | exact HKP.out _ _ ((H6k.out.keep (below_a _ _)).drewN _) (HKA.out _).1 (HKA.out _).2.1 (HKA.out _).2.2.1 (HKA.out _).2.2.2 hb2.out) (first | (go_at_call 51; go_must (refine (HC1.out _ wr.heap.size _ (show Bx ((wr.alloc (.cells #[.int .i64 z0, .int .i64 z1, .int .i64 z2] 3)).drewN _) wr.heap.size (icells [z0, z1, z2]).toArray 3 from Bx.new wr _ 3)).mono ?_; rintro e w2 ⟨rfl, hb2⟩)))
          rename_i hHeld
          have HX5 : Hid (Bx w2 w.heap.size (mcs m pa ia ca ba pc ic cc bc) 35) := ((HXk.out.keep (below_a _ _)).drewN _).keep hb2.out
          have H65 : Hid (Bx w2 p6 #[.int .i64 m.b.id, .int .i64 m.b.ver, .string ⟨m.b.cur.toArray⟩, .int .i64 m.b.rat, .int .i64 m.b.least, .int .i64 m.b.most, .slice ca m.b.cuts.length cc, .int .i64 m.b.iss, .int .i64 m.b.ass, .slice ba m.b.bar.length bc] 27) := ((H6k.out.keep (below_a _ _)).drewN _).keep hb2.out
          have HB5 : Hid (Below w.heap.size w w2) := bt (bdrw (bt HBk.out (below_a _ _)) _) hb2.out
          have hz5 : (T ++ S1).size ≤ 4000 + 30 * (k + 1) := by simp only [ByteArray.size_append]; omega
          clear hHeld hb2 HXk HBk HKP HKA H6k
          go_wp2_with fail
          exact ⟨⟨k + 1, _, by go_num, rfl, by omega, HT2.out, hz5, HB5.out, HX5.out, H65.out⟩, by simp [Lib.intOf]; omega⟩
        · have hkz : ¬ (k : Int) < (m.b.cuts.length : Int) := by omega
          have HTe : Hid (T.data.toList = (intL m.k ++ (flatI [m.b.id, m.b.ver, m.b.rat, m.b.least, m.b.most, m.b.iss, m.b.ass] ++ (textL m.b.cur ++ uintL m.b.cuts.length))) ++ flatM cutL m.b.cuts) := by unfold Hid; rw [HT.out, List.take_of_length_le (by omega)]
          have hze : T.size ≤ 10000 := by omega
          have hn9 : m.b.bar.length ≤ 64 := (HSh.out.b hk).2.2
          have d9 : wr.cell? ⟨p6, 9, none⟩ = some (.slice ba m.b.bar.length bc) := H6k.out.cell 9
          have HC9 : Hid (Calls Tryz.prog 53 #[.slice ba m.b.bar.length bc] wr (TB' ⟨(intsL m.b.bar).toArray⟩ wr)) := TB'.of (rints m.b.bar ba bc wr ((HH.out.bar.keep HBk.out).mono HBk.out.size) HWf.out.b.2.2.2.2.2.2.2.2 (by omega)) rfl
          have hz9 : (⟨(intsL m.b.bar).toArray⟩ : ByteArray).size ≤ 1000 := by rw [ba_size]; unfold intsL; rw [List.length_append]; have a1 := (uint_len (n := m.b.bar.length) (by omega)).2; have a2 := flatI_len m.b.bar HWf.out.b.2.2.2.2.2.2.2.2; omega
          have HS9 : Hid ((⟨(intsL m.b.bar).toArray⟩ : ByteArray).data.toList = intsL m.b.bar) := rfl
          generalize (⟨(intsL m.b.bar).toArray⟩ : ByteArray) = S9 at *
          go_wp2_with fail
          refine HC9.out.mono ?_
          rintro e w9 ⟨rfl, hb9⟩
          have HX9 : Hid (Bx w9 w.heap.size (mcs m pa ia ca ba pc ic cc bc) 35) := HXk.out.keep hb9.out
          have HB9 : Hid (Below w.heap.size w w9) := bt HBk.out hb9.out
          have HT9 : Hid ((T ++ S9).data.toList = (intL m.k ++ (flatI [m.b.id, m.b.ver, m.b.rat, m.b.least, m.b.most, m.b.iss, m.b.ass] ++ (textL m.b.cur ++ uintL m.b.cuts.length))) ++ (flatM cutL m.b.cuts ++ intsL m.b.bar)) := by unfold Hid; rw [ByteArray.data_append, Array.toList_append, HTe.out, HS9.out, List.append_assoc]
          have hzz : (T ++ S9).size ≤ 100000 := by rw [ByteArray.size_append]; omega
          clear hb9 HXk HBk H6k d6 d9 HC9
          have c0 : w9.cell? ⟨w.heap.size, 0, none⟩ = some (.int .i64 3) := by have := HX9.out.cell 0; rw [show (mcs m pa ia ca ba pc ic cc bc)[0]? = some (.int .i64 m.k) from rfl, hk] at this; exact this
          have HLT : Hid ((Instr.loadAt 35 (.pointer (some ⟨w.heap.size, 0, none⟩))).run Tryz.prog w9 = .ok (.agg (mcs m pa ia ca ba pc ic cc bc)) w9) := HLD.out _ HX9.out
          have HCT : Hid (Calls Tryz.prog 54 #[.agg (mcs m pa ia ca ba pc ic cc bc)] w9 (TB' Sb w9)) := H54.out _ HB9.out
          clear HLD H54
          go_wp2_with (guard_target =~ wpList _ _ _ (⟨_, Op.load 35 _, _, _, _, _⟩ :: _) _ _; refine wl_load _ rfl 35 _ rfl _ rfl _ HLT.out ?_; go_simp)
          refine HCT.out.mono ?_
          rintro e wT ⟨rfl, hbT⟩
          have HBT : Hid (Below w.heap.size w wT) := bt HB9.out hbT.out
          clear hbT HCT HLT
          have HRT : Hid ((T ++ S9) ++ Sb = SR) := HRes.out _ (by rw [ByteArray.data_append, Array.toList_append, HT9.out, HSb.out]; unfold bhL encL bodL; simp [hk, inn, flatI, bkL, quL, List.append_assoc])
          go_wp2_with fail
          go_ret2
          exact ⟨by rw [HRT.out]; rfl, HBT.out⟩
    · have c0 : wc.cell? ⟨w.heap.size, 0, none⟩ = some (.int .i64 4) := by have := HX.out.cell 0; rw [show (mcs m pa ia ca ba pc ic cc bc)[0]? = some (.int .i64 m.k) from rfl, hk] at this; exact this
      have c18 : wc.cell? ⟨w.heap.size, 18, none⟩ = some (.slice pa m.ps.length pc) := HX.out.cell 18
      have hn1 : m.ps.length ≤ 64 := (HSh.out.p hk).1
      have hz1 : (⟨(uintL m.ps.length).toArray⟩ : ByteArray).size ≤ 10 := uintL_len (by omega)
      have HS1 : Hid ((⟨(uintL m.ps.length).toArray⟩ : ByteArray).data.toList = uintL m.ps.length) := rfl
      have HC1 : Hid (∀ W, Calls Tryz.prog 52 #[.int .u64 (m.ps.length : Int)] W (TB' ⟨(uintL m.ps.length).toArray⟩ W)) := fun W => TB'.of (ruint m.ps.length (by omega) W) rfl
      generalize (⟨(uintL m.ps.length).toArray⟩ : ByteArray) = S1 at *
      go_wp2_with fail
      refine (HC1.out _).mono ?_
      rintro e w5 ⟨rfl, hb5⟩
      have HXq : Hid (Bx w5 w.heap.size (mcs m pa ia ca ba pc ic cc bc) 35) := HX.out.keep hb5.out
      have HBq : Hid (Below w.heap.size w w5) := bt HB.out hb5.out
      have HTq : Hid ((S0 ++ S1).data.toList = (intL m.k ++ uintL m.ps.length)) := by unfold Hid; rw [ByteArray.data_append, Array.toList_append, HS0.out, HS1.out]
      have hzq : (S0 ++ S1).size ≤ 1000 := by rw [ByteArray.size_append]; omega
      clear hb5 HX HB HC1 c0 c18
      go_wp2_with fail
      have HLk : Hid (Lts w.heap.size w pa m.ps) := HH.out.ps
      have hn64 : m.ps.length ≤ 64 := (HSh.out.p hk).1
      have HQ : Hid (∀ y ∈ m.ps, y.i.length ≤ 1000 ∧ I64 y.q) := fun y hy => ⟨(HSh.out.p hk).2 y hy, HWf.out.ps y hy⟩
      go_loopw [4, 9] (fun v i wr => ∃ (k : Nat) (T : ByteArray), i = .int .i64 k ∧ v = .string T ∧ k ≤ m.ps.length ∧ Hid (T.data.toList = (intL m.k ++ uintL m.ps.length) ++ flatM lotL (m.ps.take k)) ∧ T.size ≤ 4000 + 1020 * k ∧ Hid (Below w.heap.size w wr) ∧ Hid (Bx wr w.heap.size (mcs m pa ia ca ba pc ic cc bc) 35)) (fun _ i _ => m.ps.length - (Lib.intOf i).toNat)
      case atStart => exact ⟨0, _, rfl, rfl, Nat.zero_le _, by unfold Hid; rw [List.take_zero]; show _ = _ ++ []; rw [List.append_nil]; exact HTq.out, by omega, HBq, HXq⟩
      case round =>
        clear HBq HXq HTq
        obtain ⟨k, T, rfl, rfl, hkk, HT, hzT, HBk, HXk⟩ := hrel
        have d0 : wr.cell? ⟨w.heap.size, 18, none⟩ = some (.slice pa m.ps.length pc) := HXk.out.cell 18
        by_cases hkn : k < m.ps.length
        · have hkz : (k : Int) < (m.ps.length : Int) := by omega
          have hk0 : (0 : Int) ≤ (k : Int) := by omega
          obtain ⟨bb, off, rfl, hbl, hce⟩ := HLk.out (by omega)
          have hc0 : wr.cell? ⟨bb, off + k * 2, none⟩ = some (.string ⟨m.ps[k].i.toArray⟩) := (HBk.out.cell (by exact hbl)).trans (hce k hkn).1
          have hc1 : wr.cell? ⟨bb, off + k * 2 + 1, none⟩ = some (.int .i64 m.ps[k].q) := (HBk.out.cell (by exact hbl)).trans (hce k hkn).2
          have hq0 := (HQ.out _ (List.getElem_mem hkn)).1
          have hq1 := (HQ.out _ (List.getElem_mem hkn)).2
          have hz1 : (⟨(textL m.ps[k].i).toArray⟩ : ByteArray).size ≤ 1010 := textL_len hq0
          have HC1 : Hid (∀ W, Calls Tryz.prog 50 #[.string ⟨m.ps[k].i.toArray⟩] W (TB' ⟨(textL m.ps[k].i).toArray⟩ W)) := fun W => TB'.of (rtext ⟨m.ps[k].i.toArray⟩ (by show m.ps[k].i.length ≤ _; omega) W) rfl
          have hz2 : (⟨(intL m.ps[k].q).toArray⟩ : ByteArray).size ≤ 10 := intL_len hq1
          have HC2 : Hid (∀ W, Calls Tryz.prog 49 #[.int .i64 m.ps[k].q] W (TB' ⟨(intL m.ps[k].q).toArray⟩ W)) := fun W => TB'.of (rint m.ps[k].q hq1 W) rfl
          have HT2 : Hid ((T ++ (⟨(textL m.ps[k].i).toArray⟩ : ByteArray) ++ (⟨(intL m.ps[k].q).toArray⟩ : ByteArray)).data.toList = (intL m.k ++ uintL m.ps.length) ++ flatM lotL (m.ps.take (k + 1))) := by
            unfold Hid
            rw [flatM_take lotL hkn]
            simp only [ByteArray.data_append, Array.toList_append, HT.out, List.append_assoc]
            rfl
          have HKP : Hid (∀ (W W2 : World), Bx W w.heap.size (mcs m (some ⟨bb, off, none⟩) ia ca ba pc ic cc bc) 35 → W.cell? ⟨bb, off + k * 2, none⟩ = some (.string ⟨m.ps[k].i.toArray⟩) → W.cell? ⟨bb, off + k * 2 + 1, none⟩ = some (.int .i64 m.ps[k].q) → bb < W.heap.size → Below W.heap.size W W2 → (W2.cell? ⟨w.heap.size, 18, none⟩ = some (.slice (some ⟨bb, off, none⟩) m.ps.length pc) ∧ W2.cell? ⟨bb, off + k * 2, none⟩ = some (.string ⟨m.ps[k].i.toArray⟩) ∧ W2.cell? ⟨bb, off + k * 2 + 1, none⟩ = some (.int .i64 m.ps[k].q))) := fun W W2 h c1 c2 hl hb => ⟨(h.keep hb).cell 18, (hb.cell (by exact hl)).trans c1, (hb.cell (by exact hl)).trans c2⟩
          have hbl2 : bb < wr.heap.size := Nat.lt_of_lt_of_le hbl HBk.out.size
          generalize (⟨(textL m.ps[k].i).toArray⟩ : ByteArray) = S1 at *
          generalize (⟨(intL m.ps[k].q).toArray⟩ : ByteArray) = S2 at *
          generalize (⟨m.ps[k].i.toArray⟩ : ByteArray) = x0 at *
          generalize m.ps[k].q = x1 at *
          have hq1 : ¬ T.size + S1.size > 9223372036854775807 := by omega
          have hq2 : ¬ T.size + S1.size + S2.size > 9223372036854775807 := by omega
          have hq3 : ¬ (T ++ S1).size + S2.size > 9223372036854775807 := by simp only [ByteArray.size_append]; omega
          clear hce hq0 HT
          go_wp2_with fail
          go_region_held3 (fun w' => w'.cell? ⟨w.heap.size, 18, none⟩ = some (.slice (some ⟨bb, off, none⟩) m.ps.length pc) ∧ w'.cell? ⟨bb, off + k * 2, none⟩ = some (.string x0) ∧ w'.cell? ⟨bb, off + k * 2 + 1, none⟩ = some (.int .i64 x1)) (first | go_keep | exact HKP.out _ _ ((HXk.out.drewN _).keep hb2.out) (HKP.out _ _ (HXk.out.drewN _) hc0 hc1 hbl2 hb2.out).2.1 (HKP.out _ _ (HXk.out.drewN _) hc0 hc1 hbl2 hb2.out).2.2 (Nat.lt_of_lt_of_le hbl2 hb2.out.size) hb3.out | exact HKP.out _ _ (HXk.out.drewN _) hc0 hc1 hbl2 hb2.out) (first | (go_at_call 50; go_must (refine (HC1.out _).mono ?_; rintro e w2 ⟨rfl, hb2⟩)) | (go_at_call 49; go_must (refine (HC2.out _).mono ?_; rintro e w3 ⟨rfl, hb3⟩)))
          rename_i hHeld
          have HX5 : Hid (Bx w3 w.heap.size (mcs m (some ⟨bb, off, none⟩) ia ca ba pc ic cc bc) 35) := ((HXk.out.drewN _).keep hb2.out).keep hb3.out
          have HB5 : Hid (Below w.heap.size w w3) := bt (bt (bdrw HBk.out _) hb2.out) hb3.out
          have hz5 : (T ++ S1 ++ S2).size ≤ 4000 + 1020 * (k + 1) := by simp only [ByteArray.size_append]; omega
          clear hHeld hb2 hb3 HXk HBk HKP
          go_wp2_with fail
          exact ⟨⟨k + 1, _, by go_num, rfl, by omega, HT2.out, hz5, HB5.out, HX5.out⟩, by simp [Lib.intOf]; omega⟩
        · have hkz : ¬ (k : Int) < (m.ps.length : Int) := by omega
          have HTe : Hid (T.data.toList = (intL m.k ++ uintL m.ps.length) ++ flatM lotL m.ps) := by unfold Hid; rw [HT.out, List.take_of_length_le (by omega)]
          have hze : T.size ≤ 100000 := by omega
          have c0 : wr.cell? ⟨w.heap.size, 0, none⟩ = some (.int .i64 4) := by have := HXk.out.cell 0; rw [show (mcs m pa ia ca ba pc ic cc bc)[0]? = some (.int .i64 m.k) from rfl, hk] at this; exact this
          have HLT : Hid ((Instr.loadAt 35 (.pointer (some ⟨w.heap.size, 0, none⟩))).run Tryz.prog wr = .ok (.agg (mcs m pa ia ca ba pc ic cc bc)) wr) := HLD.out _ HXk.out
          have HCT : Hid (Calls Tryz.prog 54 #[.agg (mcs m pa ia ca ba pc ic cc bc)] wr (TB' Sb wr)) := H54.out _ HBk.out
          clear HLD H54
          go_wp2_with (guard_target =~ wpList _ _ _ (⟨_, Op.load 35 _, _, _, _, _⟩ :: _) _ _; refine wl_load _ rfl 35 _ rfl _ rfl _ HLT.out ?_; go_simp)
          refine HCT.out.mono ?_
          rintro e wT ⟨rfl, hbT⟩
          have HBT : Hid (Below w.heap.size w wT) := bt HBk.out hbT.out
          clear hbT HCT HLT
          have HRT : Hid (T ++ Sb = SR) := HRes.out _ (by rw [ByteArray.data_append, Array.toList_append, HTe.out, HSb.out]; unfold bhL encL bodL; simp [hk, inn, flatI, bkL, quL, List.append_assoc])
          go_wp2_with fail
          go_ret2
          exact ⟨by rw [HRT.out]; rfl, HBT.out⟩
    · have c0 : wc.cell? ⟨w.heap.size, 0, none⟩ = some (.int .i64 5) := by have := HX.out.cell 0; rw [show (mcs m pa ia ca ba pc ic cc bc)[0]? = some (.int .i64 m.k) from rfl, hk] at this; exact this
      have c19 : wc.cell? ⟨w.heap.size, 19, none⟩ = some (.int .i64 m.day) := HX.out.cell 19
      have hz1 : (⟨(intL m.day).toArray⟩ : ByteArray).size ≤ 10 := intL_len HWf.out.day
      have HS1 : Hid ((⟨(intL m.day).toArray⟩ : ByteArray).data.toList = intL m.day) := rfl
      have HC1 : Hid (∀ W, Calls Tryz.prog 49 #[.int .i64 m.day] W (TB' ⟨(intL m.day).toArray⟩ W)) := fun W => TB'.of (rint m.day HWf.out.day W) rfl
      generalize (⟨(intL m.day).toArray⟩ : ByteArray) = S1 at *
      go_wp2_with fail
      refine (HC1.out _).mono ?_
      rintro e w5 ⟨rfl, hb5⟩
      have HX5 : Hid (Bx w5 w.heap.size (mcs m pa ia ca ba pc ic cc bc) 35) := HX.out.keep hb5.out
      have HB5 : Hid (Below w.heap.size w w5) := bt HB.out hb5.out
      have HT5 : Hid ((S0 ++ S1).data.toList = intL m.k ++ intL m.day) := by unfold Hid; rw [ByteArray.data_append, Array.toList_append, HS0.out, HS1.out]
      have hz5 : (S0 ++ S1).size ≤ 1000 := by rw [ByteArray.size_append]; omega
      clear hb5 HX HB HC1 c0 c19
      have c0 : w5.cell? ⟨w.heap.size, 0, none⟩ = some (.int .i64 5) := by have := HX5.out.cell 0; rw [show (mcs m pa ia ca ba pc ic cc bc)[0]? = some (.int .i64 m.k) from rfl, hk] at this; exact this
      have HLT : Hid ((Instr.loadAt 35 (.pointer (some ⟨w.heap.size, 0, none⟩))).run Tryz.prog w5 = .ok (.agg (mcs m pa ia ca ba pc ic cc bc)) w5) := HLD.out _ HX5.out
      have HCT : Hid (Calls Tryz.prog 54 #[.agg (mcs m pa ia ca ba pc ic cc bc)] w5 (TB' Sb w5)) := H54.out _ HB5.out
      clear HLD H54
      go_wp2_with (guard_target =~ wpList _ _ _ (⟨_, Op.load 35 _, _, _, _, _⟩ :: _) _ _; refine wl_load _ rfl 35 _ rfl _ rfl _ HLT.out ?_; go_simp)
      refine HCT.out.mono ?_
      rintro e wT ⟨rfl, hbT⟩
      have HBT : Hid (Below w.heap.size w wT) := bt HB5.out hbT.out
      clear hbT HCT HLT
      have HRT : Hid ((S0 ++ S1) ++ Sb = SR) := HRes.out _ (by rw [ByteArray.data_append, Array.toList_append, HT5.out, HSb.out]; unfold bhL encL bodL; simp [hk, inn, flatI, bkL, quL, List.append_assoc])
      go_wp2_with fail
      go_ret2
      exact ⟨by rw [HRT.out]; rfl, HBT.out⟩
    · have c0 : wc.cell? ⟨w.heap.size, 0, none⟩ = some (.int .i64 6) := by have := HX.out.cell 0; rw [show (mcs m pa ia ca ba pc ic cc bc)[0]? = some (.int .i64 m.k) from rfl, hk] at this; exact this
      have c1 : wc.cell? ⟨w.heap.size, 1, none⟩ = some (.int .i64 m.mem) := HX.out.cell 1
      have c21 : wc.cell? ⟨w.heap.size, 21, none⟩ = some (.int .i64 m.n) := HX.out.cell 21
      have c20 : wc.cell? ⟨w.heap.size, 20, none⟩ = some (.string ⟨m.t.toArray⟩) := HX.out.cell 20
      have HN1 : Hid (∀ n ∈ [m.mem, m.n], I64 n) := by unfold Hid; intro n hn; simp only [List.mem_cons, List.not_mem_nil, or_false] at hn; rcases hn with rfl | rfl; exact HWf.out.mem; exact HWf.out.n
      have hz1 : (⟨(flatI [m.mem, m.n]).toArray⟩ : ByteArray).size ≤ 20 := by rw [ba_size]; exact flatI_len _ HN1.out
      have HS1 : Hid ((⟨(flatI [m.mem, m.n]).toArray⟩ : ByteArray).data.toList = flatI [m.mem, m.n]) := rfl
      have HC1 : Hid (∀ (W : World) (b c : Nat), Bx W b (icells [m.mem, m.n]).toArray 3 → Calls Tryz.prog 51 #[.slice (some ⟨b, 0, none⟩) 2 c] W (TB' ⟨(flatI [m.mem, m.n]).toArray⟩ W)) := fun W b c h => TB'.of (rnums [m.mem, m.n] b c W h HN1.out (by show 2 ≤ _; omega)) rfl
      generalize (⟨(flatI [m.mem, m.n]).toArray⟩ : ByteArray) = S1 at *
      have hz2 : (⟨(textL m.t).toArray⟩ : ByteArray).size ≤ 1010 := textL_len (HSh.out.t (Or.inl hk))
      have HS2 : Hid ((⟨(textL m.t).toArray⟩ : ByteArray).data.toList = textL m.t) := rfl
      have HC2 : Hid (∀ W, Calls Tryz.prog 50 #[.string ⟨m.t.toArray⟩] W (TB' ⟨(textL m.t).toArray⟩ W)) := fun W => TB'.of (rtext ⟨m.t.toArray⟩ (by have := (HSh.out.t (Or.inl hk)); show m.t.length ≤ _; omega) W) rfl
      generalize (⟨(textL m.t).toArray⟩ : ByteArray) = S2 at *
      have hq1 : ¬ S0.size + S1.size > 9223372036854775807 := by omega
      have hq2 : ¬ S0.size + S1.size + S2.size > 9223372036854775807 := by omega
      have hr2 : ¬ (S0 ++ S1).size + S2.size > 9223372036854775807 := by simp only [ByteArray.size_append]; omega
      have HKP : Hid (∀ (W W2 : World), Bx W w.heap.size (mcs m pa ia ca ba pc ic cc bc) 35 → Below W.heap.size W W2 → (W2.cell? ⟨w.heap.size, 1, none⟩ = some (.int .i64 m.mem) ∧ W2.cell? ⟨w.heap.size, 21, none⟩ = some (.int .i64 m.n) ∧ W2.cell? ⟨w.heap.size, 20, none⟩ = some (.string ⟨m.t.toArray⟩))) := fun W W2 h hb => ⟨(h.keep hb).cell 1, (h.keep hb).cell 21, (h.keep hb).cell 20⟩
      go_wp2_with fail
      go_region_held3 (fun w' => w'.cell? ⟨w.heap.size, 1, none⟩ = some (.int .i64 m.mem) ∧ w'.cell? ⟨w.heap.size, 21, none⟩ = some (.int .i64 m.n) ∧ w'.cell? ⟨w.heap.size, 20, none⟩ = some (.string ⟨m.t.toArray⟩)) (first | go_keep | exact HKP.out _ _ (((HX.out.keep (below_a _ _)).drewN _).keep hb2.out) hb3.out | exact HKP.out _ _ ((HX.out.keep (below_a _ _)).drewN _) hb2.out) (first | (go_at_call 51; go_must (refine (HC1.out _ wc.heap.size _ (show Bx ((wc.alloc (.cells #[.int .i64 m.mem, .int .i64 m.n] 3)).drewN _) wc.heap.size (icells [m.mem, m.n]).toArray 3 from Bx.new wc _ 3)).mono ?_; rintro e w2 ⟨rfl, hb2⟩)) | (go_at_call 50; go_must (refine (HC2.out _).mono ?_; rintro e w3 ⟨rfl, hb3⟩)))
      rename_i hHeld
      have HX5 : Hid (Bx w3 w.heap.size (mcs m pa ia ca ba pc ic cc bc) 35) := (((HX.out.keep (below_a _ _)).drewN _).keep hb2.out).keep hb3.out
      have HB5 : Hid (Below w.heap.size w w3) := bt (bt (bdrw (bt HB.out (below_a _ _)) _) hb2.out) hb3.out
      have HT5 : Hid ((S0 ++ S1 ++ S2).data.toList = intL m.k ++ (flatI [m.mem, m.n] ++ textL m.t)) := by unfold Hid; simp only [ByteArray.data_append, Array.toList_append, HS0.out, HS1.out, HS2.out, List.append_assoc]
      have hz5 : (S0 ++ S1 ++ S2).size ≤ 10000 := by simp only [ByteArray.size_append]; omega
      clear hHeld hb2 hb3 HX HB HC1 HC2 HKP c0 c1 c21 c20
      have c0 : w3.cell? ⟨w.heap.size, 0, none⟩ = some (.int .i64 6) := by have := HX5.out.cell 0; rw [show (mcs m pa ia ca ba pc ic cc bc)[0]? = some (.int .i64 m.k) from rfl, hk] at this; exact this
      have HLT : Hid ((Instr.loadAt 35 (.pointer (some ⟨w.heap.size, 0, none⟩))).run Tryz.prog w3 = .ok (.agg (mcs m pa ia ca ba pc ic cc bc)) w3) := HLD.out _ HX5.out
      have HCT : Hid (Calls Tryz.prog 54 #[.agg (mcs m pa ia ca ba pc ic cc bc)] w3 (TB' Sb w3)) := H54.out _ HB5.out
      clear HLD H54
      go_wp2_with (guard_target =~ wpList _ _ _ (⟨_, Op.load 35 _, _, _, _, _⟩ :: _) _ _; refine wl_load _ rfl 35 _ rfl _ rfl _ HLT.out ?_; go_simp)
      refine HCT.out.mono ?_
      rintro e wT ⟨rfl, hbT⟩
      have HBT : Hid (Below w.heap.size w wT) := bt HB5.out hbT.out
      clear hbT HCT HLT
      have HRT : Hid ((S0 ++ S1 ++ S2) ++ Sb = SR) := HRes.out _ (by rw [ByteArray.data_append, Array.toList_append, HT5.out, HSb.out]; unfold bhL encL bodL; simp [hk, inn, flatI, bkL, quL, List.append_assoc])
      go_wp2_with fail
      go_ret2
      exact ⟨by rw [HRT.out]; rfl, HBT.out⟩
    · have c0 : wc.cell? ⟨w.heap.size, 0, none⟩ = some (.int .i64 7) := by have := HX.out.cell 0; rw [show (mcs m pa ia ca ba pc ic cc bc)[0]? = some (.int .i64 m.k) from rfl, hk] at this; exact this
      have c1 : wc.cell? ⟨w.heap.size, 1, none⟩ = some (.int .i64 m.mem) := HX.out.cell 1
      have c21 : wc.cell? ⟨w.heap.size, 21, none⟩ = some (.int .i64 m.n) := HX.out.cell 21
      have c20 : wc.cell? ⟨w.heap.size, 20, none⟩ = some (.string ⟨m.t.toArray⟩) := HX.out.cell 20
      have HN1 : Hid (∀ n ∈ [m.mem, m.n], I64 n) := by unfold Hid; intro n hn; simp only [List.mem_cons, List.not_mem_nil, or_false] at hn; rcases hn with rfl | rfl; exact HWf.out.mem; exact HWf.out.n
      have hz1 : (⟨(flatI [m.mem, m.n]).toArray⟩ : ByteArray).size ≤ 20 := by rw [ba_size]; exact flatI_len _ HN1.out
      have HS1 : Hid ((⟨(flatI [m.mem, m.n]).toArray⟩ : ByteArray).data.toList = flatI [m.mem, m.n]) := rfl
      have HC1 : Hid (∀ (W : World) (b c : Nat), Bx W b (icells [m.mem, m.n]).toArray 3 → Calls Tryz.prog 51 #[.slice (some ⟨b, 0, none⟩) 2 c] W (TB' ⟨(flatI [m.mem, m.n]).toArray⟩ W)) := fun W b c h => TB'.of (rnums [m.mem, m.n] b c W h HN1.out (by show 2 ≤ _; omega)) rfl
      generalize (⟨(flatI [m.mem, m.n]).toArray⟩ : ByteArray) = S1 at *
      have hz2 : (⟨(textL m.t).toArray⟩ : ByteArray).size ≤ 1010 := textL_len (HSh.out.t (Or.inr hk))
      have HS2 : Hid ((⟨(textL m.t).toArray⟩ : ByteArray).data.toList = textL m.t) := rfl
      have HC2 : Hid (∀ W, Calls Tryz.prog 50 #[.string ⟨m.t.toArray⟩] W (TB' ⟨(textL m.t).toArray⟩ W)) := fun W => TB'.of (rtext ⟨m.t.toArray⟩ (by have := (HSh.out.t (Or.inr hk)); show m.t.length ≤ _; omega) W) rfl
      generalize (⟨(textL m.t).toArray⟩ : ByteArray) = S2 at *
      have hq1 : ¬ S0.size + S1.size > 9223372036854775807 := by omega
      have hq2 : ¬ S0.size + S1.size + S2.size > 9223372036854775807 := by omega
      have hr2 : ¬ (S0 ++ S1).size + S2.size > 9223372036854775807 := by simp only [ByteArray.size_append]; omega
      have HKP : Hid (∀ (W W2 : World), Bx W w.heap.size (mcs m pa ia ca ba pc ic cc bc) 35 → Below W.heap.size W W2 → (W2.cell? ⟨w.heap.size, 1, none⟩ = some (.int .i64 m.mem) ∧ W2.cell? ⟨w.heap.size, 21, none⟩ = some (.int .i64 m.n) ∧ W2.cell? ⟨w.heap.size, 20, none⟩ = some (.string ⟨m.t.toArray⟩))) := fun W W2 h hb => ⟨(h.keep hb).cell 1, (h.keep hb).cell 21, (h.keep hb).cell 20⟩
      go_wp2_with fail
      go_region_held3 (fun w' => w'.cell? ⟨w.heap.size, 1, none⟩ = some (.int .i64 m.mem) ∧ w'.cell? ⟨w.heap.size, 21, none⟩ = some (.int .i64 m.n) ∧ w'.cell? ⟨w.heap.size, 20, none⟩ = some (.string ⟨m.t.toArray⟩)) (first | go_keep | exact HKP.out _ _ (((HX.out.keep (below_a _ _)).drewN _).keep hb2.out) hb3.out | exact HKP.out _ _ ((HX.out.keep (below_a _ _)).drewN _) hb2.out) (first | (go_at_call 51; go_must (refine (HC1.out _ wc.heap.size _ (show Bx ((wc.alloc (.cells #[.int .i64 m.mem, .int .i64 m.n] 3)).drewN _) wc.heap.size (icells [m.mem, m.n]).toArray 3 from Bx.new wc _ 3)).mono ?_; rintro e w2 ⟨rfl, hb2⟩)) | (go_at_call 50; go_must (refine (HC2.out _).mono ?_; rintro e w3 ⟨rfl, hb3⟩)))
      rename_i hHeld
      have HX5 : Hid (Bx w3 w.heap.size (mcs m pa ia ca ba pc ic cc bc) 35) := (((HX.out.keep (below_a _ _)).drewN _).keep hb2.out).keep hb3.out
      have HB5 : Hid (Below w.heap.size w w3) := bt (bt (bdrw (bt HB.out (below_a _ _)) _) hb2.out) hb3.out
      have HT5 : Hid ((S0 ++ S1 ++ S2).data.toList = intL m.k ++ (flatI [m.mem, m.n] ++ textL m.t)) := by unfold Hid; simp only [ByteArray.data_append, Array.toList_append, HS0.out, HS1.out, HS2.out, List.append_assoc]
      have hz5 : (S0 ++ S1 ++ S2).size ≤ 10000 := by simp only [ByteArray.size_append]; omega
      clear hHeld hb2 hb3 HX HB HC1 HC2 HKP c0 c1 c21 c20
      have c0 : w3.cell? ⟨w.heap.size, 0, none⟩ = some (.int .i64 7) := by have := HX5.out.cell 0; rw [show (mcs m pa ia ca ba pc ic cc bc)[0]? = some (.int .i64 m.k) from rfl, hk] at this; exact this
      have HLT : Hid ((Instr.loadAt 35 (.pointer (some ⟨w.heap.size, 0, none⟩))).run Tryz.prog w3 = .ok (.agg (mcs m pa ia ca ba pc ic cc bc)) w3) := HLD.out _ HX5.out
      have HCT : Hid (Calls Tryz.prog 54 #[.agg (mcs m pa ia ca ba pc ic cc bc)] w3 (TB' Sb w3)) := H54.out _ HB5.out
      clear HLD H54
      go_wp2_with (guard_target =~ wpList _ _ _ (⟨_, Op.load 35 _, _, _, _, _⟩ :: _) _ _; refine wl_load _ rfl 35 _ rfl _ rfl _ HLT.out ?_; go_simp)
      refine HCT.out.mono ?_
      rintro e wT ⟨rfl, hbT⟩
      have HBT : Hid (Below w.heap.size w wT) := bt HB5.out hbT.out
      clear hbT HCT HLT
      have HRT : Hid ((S0 ++ S1 ++ S2) ++ Sb = SR) := HRes.out _ (by rw [ByteArray.data_append, Array.toList_append, HT5.out, HSb.out]; unfold bhL encL bodL; simp [hk, inn, flatI, bkL, quL, List.append_assoc])
      go_wp2_with fail
      go_ret2
      exact ⟨by rw [HRT.out]; rfl, HBT.out⟩
    · have c0 : wc.cell? ⟨w.heap.size, 0, none⟩ = some (.int .i64 8) := by have := HX.out.cell 0; rw [show (mcs m pa ia ca ba pc ic cc bc)[0]? = some (.int .i64 m.k) from rfl, hk] at this; exact this
      have b0 : wc.cell? ⟨p7, 0, none⟩ = some (.int .i64 m.q.id) := H7.out.cell 0
      have b1 : wc.cell? ⟨p7, 1, none⟩ = some (.int .i64 m.q.mem) := H7.out.cell 1
      have b2 : wc.cell? ⟨p7, 2, none⟩ = some (.int .i64 m.q.side) := H7.out.cell 2
      have b3 : wc.cell? ⟨p7, 3, none⟩ = some (.int .i64 m.q.bas) := H7.out.cell 3
      have b4 : wc.cell? ⟨p7, 4, none⟩ = some (.int .i64 m.q.am) := H7.out.cell 4
      have b5 : wc.cell? ⟨p7, 5, none⟩ = some (.int .i64 m.q.rate) := H7.out.cell 5
      have b6 : wc.cell? ⟨p7, 6, none⟩ = some (.int .i64 m.q.st) := H7.out.cell 6
      have b7 : wc.cell? ⟨p7, 7, none⟩ = some (.int .i64 m.q.en) := H7.out.cell 7
      have HN1 : Hid (∀ n ∈ [m.q.id, m.q.mem, m.q.side, m.q.bas, m.q.am, m.q.rate, m.q.st, m.q.en], I64 n) := by unfold Hid; intro n hn; simp only [List.mem_cons, List.not_mem_nil, or_false] at hn; rcases hn with rfl | rfl | rfl | rfl | rfl | rfl | rfl | rfl; exact HWf.out.q.1; exact HWf.out.q.2.1; exact HWf.out.q.2.2.1; exact HWf.out.q.2.2.2.1; exact HWf.out.q.2.2.2.2.1; exact HWf.out.q.2.2.2.2.2.1; exact HWf.out.q.2.2.2.2.2.2.1; exact HWf.out.q.2.2.2.2.2.2.2
      have hz1 : (⟨(flatI [m.q.id, m.q.mem, m.q.side, m.q.bas, m.q.am, m.q.rate, m.q.st, m.q.en]).toArray⟩ : ByteArray).size ≤ 80 := by rw [ba_size]; exact flatI_len _ HN1.out
      have HS1 : Hid ((⟨(flatI [m.q.id, m.q.mem, m.q.side, m.q.bas, m.q.am, m.q.rate, m.q.st, m.q.en]).toArray⟩ : ByteArray).data.toList = flatI [m.q.id, m.q.mem, m.q.side, m.q.bas, m.q.am, m.q.rate, m.q.st, m.q.en]) := rfl
      have HC1 : Hid (∀ (W : World) (b c : Nat), Bx W b (icells [m.q.id, m.q.mem, m.q.side, m.q.bas, m.q.am, m.q.rate, m.q.st, m.q.en]).toArray 3 → Calls Tryz.prog 51 #[.slice (some ⟨b, 0, none⟩) 8 c] W (TB' ⟨(flatI [m.q.id, m.q.mem, m.q.side, m.q.bas, m.q.am, m.q.rate, m.q.st, m.q.en]).toArray⟩ W)) := fun W b c h => TB'.of (rnums [m.q.id, m.q.mem, m.q.side, m.q.bas, m.q.am, m.q.rate, m.q.st, m.q.en] b c W h HN1.out (by show 8 ≤ _; omega)) rfl
      generalize (⟨(flatI [m.q.id, m.q.mem, m.q.side, m.q.bas, m.q.am, m.q.rate, m.q.st, m.q.en]).toArray⟩ : ByteArray) = S1 at *
      have hq1 : ¬ S0.size + S1.size > 9223372036854775807 := by omega
      go_wp2_with fail
      refine (HC1.out _ wc.heap.size _ (Bx.new wc _ 3)).mono ?_
      rintro e w2 ⟨rfl, hb2⟩
      have HX5 : Hid (Bx w2 w.heap.size (mcs m pa ia ca ba pc ic cc bc) 35) := (HX.out.keep (below_a _ _)).keep hb2.out
      have HB5 : Hid (Below w.heap.size w w2) := bt (bt HB.out (below_a _ _)) hb2.out
      have HT5 : Hid ((S0 ++ S1).data.toList = intL m.k ++ flatI [m.q.id, m.q.mem, m.q.side, m.q.bas, m.q.am, m.q.rate, m.q.st, m.q.en]) := by unfold Hid; simp only [ByteArray.data_append, Array.toList_append, HS0.out, HS1.out, List.append_assoc]
      have hz5 : (S0 ++ S1).size ≤ 10000 := by simp only [ByteArray.size_append]; omega
      clear hb2 HX HB HC1 c0 b0 b1 b2 b3 b4 b5 b6 b7
      have c0 : w2.cell? ⟨w.heap.size, 0, none⟩ = some (.int .i64 8) := by have := HX5.out.cell 0; rw [show (mcs m pa ia ca ba pc ic cc bc)[0]? = some (.int .i64 m.k) from rfl, hk] at this; exact this
      have HLT : Hid ((Instr.loadAt 35 (.pointer (some ⟨w.heap.size, 0, none⟩))).run Tryz.prog w2 = .ok (.agg (mcs m pa ia ca ba pc ic cc bc)) w2) := HLD.out _ HX5.out
      have HCT : Hid (Calls Tryz.prog 54 #[.agg (mcs m pa ia ca ba pc ic cc bc)] w2 (TB' Sb w2)) := H54.out _ HB5.out
      clear HLD H54
      go_wp2_with (guard_target =~ wpList _ _ _ (⟨_, Op.load 35 _, _, _, _, _⟩ :: _) _ _; refine wl_load _ rfl 35 _ rfl _ rfl _ HLT.out ?_; go_simp)
      refine HCT.out.mono ?_
      rintro e wT ⟨rfl, hbT⟩
      have HBT : Hid (Below w.heap.size w wT) := bt HB5.out hbT.out
      clear hbT HCT HLT
      have HRT : Hid ((S0 ++ S1) ++ Sb = SR) := HRes.out _ (by rw [ByteArray.data_append, Array.toList_append, HT5.out, HSb.out]; unfold bhL encL bodL; simp [hk, inn, flatI, bkL, quL, List.append_assoc])
      go_wp2_with fail
      go_ret2
      exact ⟨by rw [HRT.out]; rfl, HBT.out⟩
    · have c0 : wc.cell? ⟨w.heap.size, 0, none⟩ = some (.int .i64 9) := by have := HX.out.cell 0; rw [show (mcs m pa ia ca ba pc ic cc bc)[0]? = some (.int .i64 m.k) from rfl, hk] at this; exact this
      have HLT : Hid ((Instr.loadAt 35 (.pointer (some ⟨w.heap.size, 0, none⟩))).run Tryz.prog wc = .ok (.agg (mcs m pa ia ca ba pc ic cc bc)) wc) := HLD.out _ HX.out
      have HCT : Hid (Calls Tryz.prog 54 #[.agg (mcs m pa ia ca ba pc ic cc bc)] wc (TB' Sb wc)) := H54.out _ HB.out
      clear HLD H54
      go_wp2_with (guard_target =~ wpList _ _ _ (⟨_, Op.load 35 _, _, _, _, _⟩ :: _) _ _; refine wl_load _ rfl 35 _ rfl _ rfl _ HLT.out ?_; go_simp)
      refine HCT.out.mono ?_
      rintro e wT ⟨rfl, hbT⟩
      have HBT : Hid (Below w.heap.size w wT) := bt HB.out hbT.out
      clear hbT HCT HLT
      have HRT : Hid (S0 ++ Sb = SR) := HRes.out _ (by rw [ByteArray.data_append, Array.toList_append, HS0.out, HSb.out]; unfold bhL encL; simp [hk, inn])
      go_wp2_with fail
      go_ret2
      exact ⟨by rw [HRT.out]; rfl, HBT.out⟩
    · have c0 : wc.cell? ⟨w.heap.size, 0, none⟩ = some (.int .i64 10) := by have := HX.out.cell 0; rw [show (mcs m pa ia ca ba pc ic cc bc)[0]? = some (.int .i64 m.k) from rfl, hk] at this; exact this
      have HLT : Hid ((Instr.loadAt 35 (.pointer (some ⟨w.heap.size, 0, none⟩))).run Tryz.prog wc = .ok (.agg (mcs m pa ia ca ba pc ic cc bc)) wc) := HLD.out _ HX.out
      have HCT : Hid (Calls Tryz.prog 54 #[.agg (mcs m pa ia ca ba pc ic cc bc)] wc (TB' Sb wc)) := H54.out _ HB.out
      clear HLD H54
      go_wp2_with (guard_target =~ wpList _ _ _ (⟨_, Op.load 35 _, _, _, _, _⟩ :: _) _ _; refine wl_load _ rfl 35 _ rfl _ rfl _ HLT.out ?_; go_simp)
      refine HCT.out.mono ?_
      rintro e wT ⟨rfl, hbT⟩
      have HBT : Hid (Below w.heap.size w wT) := bt HB.out hbT.out
      clear hbT HCT HLT
      have HRT : Hid (S0 ++ Sb = SR) := HRes.out _ (by rw [ByteArray.data_append, Array.toList_append, HS0.out, HSb.out]; unfold bhL encL; simp [hk, inn])
      go_wp2_with fail
      go_ret2
      exact ⟨by rw [HRT.out]; rfl, HBT.out⟩
    · have c0 : wc.cell? ⟨w.heap.size, 0, none⟩ = some (.int .i64 11) := by have := HX.out.cell 0; rw [show (mcs m pa ia ca ba pc ic cc bc)[0]? = some (.int .i64 m.k) from rfl, hk] at this; exact this
      have HLT : Hid ((Instr.loadAt 35 (.pointer (some ⟨w.heap.size, 0, none⟩))).run Tryz.prog wc = .ok (.agg (mcs m pa ia ca ba pc ic cc bc)) wc) := HLD.out _ HX.out
      have HCT : Hid (Calls Tryz.prog 54 #[.agg (mcs m pa ia ca ba pc ic cc bc)] wc (TB' Sb wc)) := H54.out _ HB.out
      clear HLD H54
      go_wp2_with (guard_target =~ wpList _ _ _ (⟨_, Op.load 35 _, _, _, _, _⟩ :: _) _ _; refine wl_load _ rfl 35 _ rfl _ rfl _ HLT.out ?_; go_simp)
      refine HCT.out.mono ?_
      rintro e wT ⟨rfl, hbT⟩
      have HBT : Hid (Below w.heap.size w wT) := bt HB.out hbT.out
      clear hbT HCT HLT
      have HRT : Hid (S0 ++ Sb = SR) := HRes.out _ (by rw [ByteArray.data_append, Array.toList_append, HS0.out, HSb.out]; unfold bhL encL; simp [hk, inn])
      go_wp2_with fail
      go_ret2
      exact ⟨by rw [HRT.out]; rfl, HBT.out⟩
    · have c0 : wc.cell? ⟨w.heap.size, 0, none⟩ = some (.int .i64 12) := by have := HX.out.cell 0; rw [show (mcs m pa ia ca ba pc ic cc bc)[0]? = some (.int .i64 m.k) from rfl, hk] at this; exact this
      have HLT : Hid ((Instr.loadAt 35 (.pointer (some ⟨w.heap.size, 0, none⟩))).run Tryz.prog wc = .ok (.agg (mcs m pa ia ca ba pc ic cc bc)) wc) := HLD.out _ HX.out
      have HCT : Hid (Calls Tryz.prog 54 #[.agg (mcs m pa ia ca ba pc ic cc bc)] wc (TB' Sb wc)) := H54.out _ HB.out
      clear HLD H54
      go_wp2_with (guard_target =~ wpList _ _ _ (⟨_, Op.load 35 _, _, _, _, _⟩ :: _) _ _; refine wl_load _ rfl 35 _ rfl _ rfl _ HLT.out ?_; go_simp)
      refine HCT.out.mono ?_
      rintro e wT ⟨rfl, hbT⟩
      have HBT : Hid (Below w.heap.size w wT) := bt HB.out hbT.out
      clear hbT HCT HLT
      have HRT : Hid (S0 ++ Sb = SR) := HRes.out _ (by rw [ByteArray.data_append, Array.toList_append, HS0.out, HSb.out]; unfold bhL encL; simp [hk, inn])
      go_wp2_with fail
      go_ret2
      exact ⟨by rw [HRT.out]; rfl, HBT.out⟩
    · have c0 : wc.cell? ⟨w.heap.size, 0, none⟩ = some (.int .i64 13) := by have := HX.out.cell 0; rw [show (mcs m pa ia ca ba pc ic cc bc)[0]? = some (.int .i64 m.k) from rfl, hk] at this; exact this
      have HLT : Hid ((Instr.loadAt 35 (.pointer (some ⟨w.heap.size, 0, none⟩))).run Tryz.prog wc = .ok (.agg (mcs m pa ia ca ba pc ic cc bc)) wc) := HLD.out _ HX.out
      have HCT : Hid (Calls Tryz.prog 54 #[.agg (mcs m pa ia ca ba pc ic cc bc)] wc (TB' Sb wc)) := H54.out _ HB.out
      clear HLD H54
      go_wp2_with (guard_target =~ wpList _ _ _ (⟨_, Op.load 35 _, _, _, _, _⟩ :: _) _ _; refine wl_load _ rfl 35 _ rfl _ rfl _ HLT.out ?_; go_simp)
      refine HCT.out.mono ?_
      rintro e wT ⟨rfl, hbT⟩
      have HBT : Hid (Below w.heap.size w wT) := bt HB.out hbT.out
      clear hbT HCT HLT
      have HRT : Hid (S0 ++ Sb = SR) := HRes.out _ (by rw [ByteArray.data_append, Array.toList_append, HS0.out, HSb.out]; unfold bhL encL; simp [hk, inn])
      go_wp2_with fail
      go_ret2
      exact ⟨by rw [HRT.out]; rfl, HBT.out⟩
    · have c0 : wc.cell? ⟨w.heap.size, 0, none⟩ = some (.int .i64 14) := by have := HX.out.cell 0; rw [show (mcs m pa ia ca ba pc ic cc bc)[0]? = some (.int .i64 m.k) from rfl, hk] at this; exact this
      have HLT : Hid ((Instr.loadAt 35 (.pointer (some ⟨w.heap.size, 0, none⟩))).run Tryz.prog wc = .ok (.agg (mcs m pa ia ca ba pc ic cc bc)) wc) := HLD.out _ HX.out
      have HCT : Hid (Calls Tryz.prog 54 #[.agg (mcs m pa ia ca ba pc ic cc bc)] wc (TB' Sb wc)) := H54.out _ HB.out
      clear HLD H54
      go_wp2_with (guard_target =~ wpList _ _ _ (⟨_, Op.load 35 _, _, _, _, _⟩ :: _) _ _; refine wl_load _ rfl 35 _ rfl _ rfl _ HLT.out ?_; go_simp)
      refine HCT.out.mono ?_
      rintro e wT ⟨rfl, hbT⟩
      have HBT : Hid (Below w.heap.size w wT) := bt HB.out hbT.out
      clear hbT HCT HLT
      have HRT : Hid (S0 ++ Sb = SR) := HRes.out _ (by rw [ByteArray.data_append, Array.toList_append, HS0.out, HSb.out]; unfold bhL encL; simp [hk, inn])
      go_wp2_with fail
      go_ret2
      exact ⟨by rw [HRT.out]; rfl, HBT.out⟩
    · have c0 : wc.cell? ⟨w.heap.size, 0, none⟩ = some (.int .i64 15) := by have := HX.out.cell 0; rw [show (mcs m pa ia ca ba pc ic cc bc)[0]? = some (.int .i64 m.k) from rfl, hk] at this; exact this
      have HLT : Hid ((Instr.loadAt 35 (.pointer (some ⟨w.heap.size, 0, none⟩))).run Tryz.prog wc = .ok (.agg (mcs m pa ia ca ba pc ic cc bc)) wc) := HLD.out _ HX.out
      have HCT : Hid (Calls Tryz.prog 54 #[.agg (mcs m pa ia ca ba pc ic cc bc)] wc (TB' Sb wc)) := H54.out _ HB.out
      clear HLD H54
      go_wp2_with (guard_target =~ wpList _ _ _ (⟨_, Op.load 35 _, _, _, _, _⟩ :: _) _ _; refine wl_load _ rfl 35 _ rfl _ rfl _ HLT.out ?_; go_simp)
      refine HCT.out.mono ?_
      rintro e wT ⟨rfl, hbT⟩
      have HBT : Hid (Below w.heap.size w wT) := bt HB.out hbT.out
      clear hbT HCT HLT
      have HRT : Hid (S0 ++ Sb = SR) := HRes.out _ (by rw [ByteArray.data_append, Array.toList_append, HS0.out, HSb.out]; unfold bhL encL; simp [hk, inn])
      go_wp2_with fail
      go_ret2
      exact ⟨by rw [HRT.out]; rfl, HBT.out⟩
end Go.Proofs.YtdmlgheajblcdaaGreat
