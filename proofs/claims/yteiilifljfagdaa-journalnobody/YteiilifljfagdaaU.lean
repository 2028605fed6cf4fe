/- Law Nobody. -/
import Derived.Test.YteiilifljfagdaaT
import Derived.WalkKit
import Derived.ProofKit
import Derived.Handy
import Derived.WalkLawsBesides
import Derived.WalkSpells
import Derived.BigQuiet
import Derived.BigCall
import Derived.Deep.QuietTactic
import Derived.Deep.Light
import Derived.Deep.OwnRows
import Derived.Laws.AppendOwnNone
import Derived.Laws.Strings3
import Derived.Laws.RangeAny
import Derived.Deep.RegionWith
import Derived.Lib.BitFns
import Derived.Lib.Walk
import Derived.Lib.Strings
import Derived.Lib.OthersKept
import Derived.Deep.CutBlock
import Derived.Deep.DeepCutAuto
import Derived.Deep.LoopGhost
import Derived.Deep.RegionHeld3
import Derived.Lib.SmallJoins
import Derived.Maps.AppendAt
import Derived.Laws.IdiomStrings
import Derived.Lib.AppendZeros
import Derived.Deep.WholeRow
import Derived.Laws.BitsAllLaws
import Derived.Lib.ConvBytes
import Derived.Deep.RegionLaw
namespace Go.Proofs.Yteiilifljfagdaa
open Go.RowKit
set_option linter.unusedVariables false
set_option linter.unusedSimpArgs false
theorem pick_new : pick new = none := rfl
theorem open_new {B p : Nat} {w w' : World} {e : Ending} (h : OpP B p new w e w') : e = .returned (.tuple #[.pointer none, .int .i64 15]) ∧ Below B w w' := by
  obtain ⟨_, hf, h⟩ := h
  have ho : opn new = (new, 15) := opn_none rfl pick_new
  rcases h with ⟨h1, _⟩ | ⟨_, h2⟩
  · rw [ho] at h1
    exact absurd h1 (by decide : ¬ (15 : Int) = 0)
  · rw [ho] at h2
    exact ⟨h2, hf.out.1⟩
set_option maxHeartbeats 4000000 in
set_option maxRecDepth 100000 in
theorem lnobody (c : ByteArray) (w : World) : Calls Try.prog 7 #[.string c] w (BB true w) := by
  obtain ⟨B, hB⟩ : ∃ B, B = w.heap.size := ⟨_, rfl⟩
  have HBE : Hid (B = w.heap.size) := hB
  have h1 : ((w.alloc (.cells zero8 73)).alloc (.cells #[.pointer none, .pointer (some ⟨w.heap.size, 0, none⟩)] 26)).heap[w.heap.size + 1]? = some (.cells #[.pointer none, .pointer (some ⟨w.heap.size, 0, none⟩)] 26 (0, 0)) := by
    have := heap_alloc_new (w.alloc (.cells zero8 73)) (.cells #[.pointer none, .pointer (some ⟨w.heap.size, 0, none⟩)] 26)
    simpa using this
  have h2 : ((w.alloc (.cells zero8 73)).alloc (.cells #[.pointer none, .pointer (some ⟨w.heap.size, 0, none⟩)] 26)).heap[w.heap.size]? = some (.cells zero8 73 (0, 0)) := by
    rw [Below.heap_alloc _ _ _ (by simp)]
    exact heap_alloc_new w _
  have HB0 : Hid (Below w.heap.size w ((w.alloc (.cells zero8 73)).alloc (.cells #[.pointer none, .pointer (some ⟨w.heap.size, 0, none⟩)] 26))) := (below_new w _).alloc (by simp) _
  have H1 : Hid _ := h1
  have H2 : Hid _ := h2
  clear h1 h2 hB
  go_enter Try.func7, Try.ntmps7
  go_upto_region 2 with fail
  show Code.wp _ _ _ _ ((w.alloc (.cells zero8 73)).alloc (.cells #[.pointer none, .pointer (some ⟨w.heap.size, 0, none⟩)] 26))
  have H1 : Hid (((w.alloc (.cells zero8 73)).alloc (.cells #[.pointer none, .pointer (some ⟨w.heap.size, 0, none⟩)] 26)).heap[w.heap.size + 1]? = some (.cells #[.pointer none, .pointer (some ⟨w.heap.size, 0, none⟩)] 26 (0, 0))) := H1.out
  have H2 : Hid (((w.alloc (.cells zero8 73)).alloc (.cells #[.pointer none, .pointer (some ⟨w.heap.size, 0, none⟩)] 26)).heap[w.heap.size]? = some (.cells zero8 73 (0, 0))) := H2.out
  generalize (w.alloc (.cells zero8 73)).alloc (.cells #[.pointer none, .pointer (some ⟨w.heap.size, 0, none⟩)] 26) = w0 at *
  rw [← HBE.out] at H1 H2 HB0 ⊢
  go_loopw [15] (fun i wr => ∃ (k : Nat), i = .int .i64 k ∧ k ≤ 2 ∧ Hid (Below B w wr ∧ wr.heap[B]? = some (.cells zero8 73 (0, 0)) ∧ wr.heap[B + 1]? = some (.cells #[.pointer none, .pointer (some ⟨B, 0, none⟩)] 26 (0, 0)))) (fun i _ => 2 - (Lib.intOf i).toNat)
  case atStart => exact ⟨0, rfl, by omega, HB0.out, H2.out, H1.out⟩
  case round =>
    clear H1 H2 HB0
    obtain ⟨k, rfl, hk, HR⟩ := hrel
    have HK : Hid (∀ w3, Below wr.heap.size wr w3 → Hid (Below B w w3 ∧ w3.heap[B]? = some (.cells zero8 73 (0, 0)) ∧ w3.heap[B + 1]? = some (.cells #[.pointer none, .pointer (some ⟨B, 0, none⟩)] 26 (0, 0)))) := by
      intro w3 hb
      obtain ⟨r1, r2, r3⟩ := HR.out
      exact ⟨r1.trans (hb.mono (by rw [HBE.out]; exact r1.size)), (hb.block _ (Array.getElem?_eq_some_iff.1 r2).1).trans r2, (hb.block _ (Array.getElem?_eq_some_iff.1 r3).1).trans r3⟩
    have k0 : wr.cell? ⟨B + 1, 0, none⟩ = some (.pointer none) := cell_of_row wr _ 0 _ 26 (0, 0) HR.out.2.2
    have k1 : wr.cell? ⟨B + 1, 1, none⟩ = some (.pointer (some ⟨B, 0, none⟩)) := cell_of_row wr _ 1 _ 26 (0, 0) HR.out.2.2
    have hk3 : k = 0 ∨ k = 1 ∨ k = 2 := by omega
    rcases hk3 with rfl | rfl | rfl
    · have HN : Hid (Nj wr (.pointer none)) := .inl rfl
      clear HR
      go_wp2_with fail
      refine (nadd _ _ HN.out c).mono ?_
      rintro e w1 ⟨rfl, rfl⟩
      go_wp2_with fail
      refine (nturn _ _ HN.out c).mono ?_
      rintro e w1 ⟨rfl, rfl⟩
      go_wp2_with fail
      refine (nstate _ _ HN.out).mono ?_
      rintro e w1 ⟨rfl, hb1⟩
      have HN1 : Hid (Nj w1 (.pointer none)) := HN.out.keep hb1
      have HB1 : Hid (Below wr.heap.size wr w1) := hb1
      clear hb1
      go_wp2_with fail
      refine (ncommands _ _ HN1.out).mono ?_
      rintro e w2 ⟨x2, c2, rfl, hb2⟩
      have HN2 : Hid (Nj w2 (.pointer none)) := HN1.out.keep hb2
      have HB2 : Hid (Below wr.heap.size wr w2) := HB1.out.trans (hb2.mono HB1.out.size)
      clear hb2
      go_wp2_with fail
      refine (nseq _ _ HN2.out).mono ?_
      rintro e w3 ⟨rfl, hb3⟩
      have HN3 : Hid (Nj w3 (.pointer none)) := HN2.out.keep hb3
      have HB3 : Hid (Below wr.heap.size wr w3) := HB2.out.trans (hb3.mono HB2.out.size)
      clear hb3
      go_wp2_with fail
      refine (nroom _ _ HN3.out).mono ?_
      rintro e w4 ⟨rfl, rfl⟩
      go_wp2_with fail
      exact ⟨⟨1, by rfl, by omega, HK.out w3 HB3.out⟩, by simp [Lib.intOf]⟩
    · have HN : Hid (Nj wr (.pointer (some ⟨B, 0, none⟩))) := .inr ⟨B, rfl, HR.out.2.1⟩
      clear HR
      go_wp2_with fail
      refine (nadd _ _ HN.out c).mono ?_
      rintro e w1 ⟨rfl, rfl⟩
      go_wp2_with fail
      refine (nturn _ _ HN.out c).mono ?_
      rintro e w1 ⟨rfl, rfl⟩
      go_wp2_with fail
      refine (nstate _ _ HN.out).mono ?_
      rintro e w1 ⟨rfl, hb1⟩
      have HN1 : Hid (Nj w1 (.pointer (some ⟨B, 0, none⟩))) := HN.out.keep hb1
      have HB1 : Hid (Below wr.heap.size wr w1) := hb1
      clear hb1
      go_wp2_with fail
      refine (ncommands _ _ HN1.out).mono ?_
      rintro e w2 ⟨x2, c2, rfl, hb2⟩
      have HN2 : Hid (Nj w2 (.pointer (some ⟨B, 0, none⟩))) := HN1.out.keep hb2
      have HB2 : Hid (Below wr.heap.size wr w2) := HB1.out.trans (hb2.mono HB1.out.size)
      clear hb2
      go_wp2_with fail
      refine (nseq _ _ HN2.out).mono ?_
      rintro e w3 ⟨rfl, hb3⟩
      have HN3 : Hid (Nj w3 (.pointer (some ⟨B, 0, none⟩))) := HN2.out.keep hb3
      have HB3 : Hid (Below wr.heap.size wr w3) := HB2.out.trans (hb3.mono HB2.out.size)
      clear hb3
      go_wp2_with fail
      refine (nroom _ _ HN3.out).mono ?_
      rintro e w4 ⟨rfl, rfl⟩
      go_wp2_with fail
      exact ⟨⟨2, by rfl, by omega, HK.out w3 HB3.out⟩, by simp [Lib.intOf]⟩
    · have HB0 : Hid (Below B w wr) := HR.out.1
      have HN0 : Hid (Calls Try.prog 9 #[] wr fun e w' => e = .returned (.pointer (some ⟨wr.heap.size, 0, none⟩)) ∧ (∃ V, Hid (Dk wr.heap.size w' wr.heap.size new V)) ∧ Hid (Below wr.heap.size wr w')) := fnew wr wr.heap.size rfl
      clear HR HK k0 k1
      go_wp2_with fail
      refine HN0.out.mono ?_
      rintro e w1 ⟨rfl, ⟨V1, hd⟩, hb1⟩
      have HB1 : Hid (Below B w w1) := HB0.out.trans (hb1.out.mono (by rw [HBE.out]; exact HB0.out.size))
      have HO : Hid (Calls Try.prog 28 #[.pointer (some ⟨wr.heap.size, 0, none⟩)] w1 fun e w' => e = .returned (.tuple #[.pointer none, .int .i64 15]) ∧ Below wr.heap.size w1 w') := (xopen wr.heap.size wr.heap.size new V1 w1 hd.out new_ok rfl).mono fun e w' h => open_new h
      have hsz : Hid (B ≤ wr.heap.size) := by rw [HBE.out]; exact HB0.out.size
      clear hd hb1 HN0
      generalize wr.heap.size = z at *
      go_wp2_with fail
      refine HO.out.mono ?_
      rintro e w2 ⟨rfl, hb2⟩
      have HB2 : Hid (Below B w w2) := HB1.out.trans (hb2.mono hsz.out)
      clear hb2 HO HB1
      go_wp2_with fail
      refine (nopen _).mono ?_
      rintro e w3 ⟨rfl, rfl⟩
      go_wp2_with fail
      refine (nformat _ _).mono ?_
      rintro e w3 ⟨rfl, rfl⟩
      go_wp2_with fail
      refine (xawake _).mono ?_
      rintro e w4 ⟨rfl, hb4⟩
      have HB4 : Hid (Below B w w4) := HB2.out.trans (hb4.mono (by rw [HBE.out]; exact HB2.out.size))
      clear hb4
      go_wp2_with fail
      go_ret
      exact BB.mk rfl (by rw [← HBE.out]; exact HB4.out)
end Go.Proofs.Yteiilifljfagdaa
