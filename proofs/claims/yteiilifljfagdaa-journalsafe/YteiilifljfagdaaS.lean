/- awake, the chapter's example. -/
import Derived.Test.YteiilifljfagdaaR
import Derived.WalkKit
import Derived.ProofKit
import Derived.Handy
import Derived.WalkLawsBesides
import Derived.WalkSpells
import Derived.BigQuiet
import Derived.BigCall
import Derived.Deep.QuietTactic
import Derived.Deep.Light
import Derived.Deep.OwnRows
import Derived.Laws.AppendOwnNone
import Derived.Laws.Strings3
import Derived.Laws.RangeAny
import Derived.Deep.RegionWith
import Derived.Lib.BitFns
import Derived.Lib.Walk
import Derived.Lib.Strings
import Derived.Lib.OthersKept
import Derived.Deep.CutBlock
import Derived.Deep.DeepCutAuto
import Derived.Deep.LoopGhost
import Derived.Deep.RegionHeld3
import Derived.Lib.SmallJoins
import Derived.Maps.AppendAt
import Derived.Laws.IdiomStrings
import Derived.Lib.AppendZeros
import Derived.Deep.WholeRow
import Derived.Laws.BitsAllLaws
import Derived.Lib.ConvBytes
import Derived.Deep.RegionLaw
namespace Go.Proofs.Yteiilifljfagdaa
open Go.RowKit
set_option linter.unusedVariables false
set_option linter.unusedSimpArgs false
theorem FaP.ok {B p q f g a : Nat} {S : St} {s : ByteArray} {v : Value} {cs : List ByteArray} {c : ByteArray} {w w' : World} {e : Ending} (hl : S.lim < 0) (h : FaP B p q f g a S s v cs c w e w') :
    e = .returned (.int .i64 0) ∧ ∃ S' V' v', Hid (Lv B w' q p S' V' f g a s v' (cs ++ [c])) ∧ Hid (S'.lim < 0) ∧ Hid (Below B w w') := by
  obtain ⟨x, S', V', rfl, hd, hf, h1⟩ := h
  rcases h1 with ⟨rfl, h2, _, v', h3, _⟩ | ⟨_, h2, _⟩
  · exact ⟨rfl, S', V', v', h3, by unfold Hid; omega, hf.out.1⟩
  · omega
theorem FtP.ok {B p q f g a : Nat} {S : St} {s : ByteArray} {v : Value} {cs : List ByteArray} {t : ByteArray} {w w' : World} {e : Ending} (hl : S.lim < 0) (h : FtP B p q f g a S s v cs t w e w') :
    e = .returned (.int .i64 0) ∧ ∃ S' V', Hid (Lv B w' q p S' V' (1 - f) (g + 1) (a + cs.length) t (.slice none 0 0) []) ∧ Hid (S'.lim < 0) ∧ Hid (Below B w w') := by
  obtain ⟨x, S', V', rfl, hd, hf, h1⟩ := h
  rcases h1 with ⟨rfl, h2, h3⟩ | ⟨_, h2, _⟩
  · exact ⟨rfl, S', V', h3, by unfold Hid; omega, hf.out.1⟩
  · omega
/-- a new disk -/
theorem fnew (w : World) (B : Nat) (hB : B = w.heap.size) : Calls Try.prog 9 #[] w fun e w' => e = .returned (.pointer (some ⟨B, 0, none⟩)) ∧ (∃ V, Hid (Dk B w' B new V)) ∧ Hid (Below B w w') := by
  subst hB
  exact (xnew w.heap.size w (Nat.le_refl _)).mono fun e w' h => h
set_option maxHeartbeats 4000000 in
set_option maxRecDepth 100000 in
theorem xawake (w : World) : Calls Try.prog 8 #[] w (BB true w) := by
  obtain ⟨B, hB⟩ : ∃ B, B = w.heap.size := ⟨_, rfl⟩
  have HBE : Hid (B = w.heap.size) := hB
  have HN : Hid (Calls Try.prog 9 #[] w fun e w' => e = .returned (.pointer (some ⟨B, 0, none⟩)) ∧ (∃ V, Hid (Dk B w' B new V)) ∧ Hid (Below B w w')) := fnew w B hB
  clear hB
  go_enter Try.func8, Try.ntmps8
  go_wp2_with fail
  refine HN.out.mono ?_
  rintro e w1 ⟨rfl, ⟨V1, hd⟩, HB1⟩
  have HF : Hid (Calls Try.prog 10 #[.pointer (some ⟨B, 0, none⟩), .string ⟨#[115]⟩] w1 (FfP B B ⟨#[115]⟩ w1)) := fformat hd.out ⟨#[115]⟩ (by decide)
  clear hd HN
  go_wp2_with fail
  refine HF.out.mono ?_
  rintro e w2 ⟨q, S2, V2, rfl, HL2, hl2, hf2, _⟩
  have HB2 : Hid (Below B w w2) := HB1.out.trans hf2.out.1
  have HA : Hid (Calls Try.prog 26 #[.pointer (some ⟨q, 0, none⟩), .string ⟨#[97]⟩] w2 fun e w' => e = .returned (.int .i64 0) ∧ ∃ S' V' v', Hid (Lv B w' q B S' V' 0 1 0 ⟨#[115]⟩ v' [⟨#[97]⟩]) ∧ Hid (S'.lim < 0) ∧ Hid (Below B w2 w')) := (fadd HL2.out ⟨#[97]⟩ (by decide) (by decide)).mono fun e w' h => FaP.ok hl2 h
  clear hl2 hf2 HB1 HF HL2
  go_wp2_with fail
  refine HA.out.mono ?_
  rintro e w3 ⟨rfl, S3, V3, v3, HL3, hl3, hb3⟩
  have HB3 : Hid (Below B w w3) := HB2.out.trans hb3.out
  have HA3 : Hid (Calls Try.prog 26 #[.pointer (some ⟨q, 0, none⟩), .string ⟨#[98]⟩] w3 fun e w' => e = .returned (.int .i64 0) ∧ ∃ S' V' v', Hid (Lv B w' q B S' V' 0 1 0 ⟨#[115]⟩ v' [⟨#[97]⟩, ⟨#[98]⟩]) ∧ Hid (S'.lim < 0) ∧ Hid (Below B w3 w')) := (fadd HL3.out ⟨#[98]⟩ (by decide) (by decide)).mono fun e w' h => FaP.ok hl3.out h
  clear hl3 hb3 HB2 HA HL3
  go_wp2_with fail
  refine HA3.out.mono ?_
  rintro e w4 ⟨rfl, S4, V4, v4, HL4, hl4, hb4⟩
  have HB4 : Hid (Below B w w4) := HB3.out.trans hb4.out
  have HT4 : Hid (Calls Try.prog 24 #[.pointer (some ⟨q, 0, none⟩), .string ⟨#[116]⟩] w4 fun e w' => e = .returned (.int .i64 0) ∧ ∃ S' V', Hid (Lv B w' q B S' V' 1 2 2 ⟨#[116]⟩ (.slice none 0 0) []) ∧ Hid (S'.lim < 0) ∧ Hid (Below B w4 w')) := (fturn HL4.out ⟨#[116]⟩ ⟨by decide, by decide, by decide, by decide⟩ (by decide)).mono fun e w' h => FtP.ok hl4.out h
  clear hl4 hb4 HB3 HA3 HL4
  go_wp2_with fail
  refine HT4.out.mono ?_
  rintro e w5 ⟨rfl, S5, V5, HL5, hl5, hb5⟩
  have HB5 : Hid (Below B w w5) := HB4.out.trans hb5.out
  have HA5 : Hid (Calls Try.prog 26 #[.pointer (some ⟨q, 0, none⟩), .string ⟨#[99]⟩] w5 fun e w' => e = .returned (.int .i64 0) ∧ ∃ S' V' v', Hid (Lv B w' q B S' V' 1 2 2 ⟨#[116]⟩ v' [⟨#[99]⟩]) ∧ Hid (S'.lim < 0) ∧ Hid (Below B w5 w')) := (fadd HL5.out ⟨#[99]⟩ (by decide) (by decide)).mono fun e w' h => FaP.ok hl5.out h
  clear hl5 hb5 HB4 HT4 HL5
  go_wp2_with fail
  refine HA5.out.mono ?_
  rintro e w6 ⟨rfl, S6, V6, v6, HL6, hl6, hb6⟩
  have HB6 : Hid (Below B w w6) := HB5.out.trans hb6.out
  clear hl6 hb6 HB5 HA5
  go_wp2_with fail
  refine (xState HL6.out.j (by decide)).mono ?_
  rintro e w7 ⟨rfl, hb7⟩
  have HB7 : Hid (Below B w w7) := HB6.out.trans (hb7.mono HL6.out.d.bw)
  have HL7 : Hid (Lv B w7 q B S6 V6 1 2 2 ⟨#[116]⟩ v6 [⟨#[99]⟩]) := HL6.out.keep hb7
  clear hb7 HB6 HL6
  go_wp2_with fail
  refine (xCommands HL7.out.j (by decide) HL7.out.many.2.2).mono ?_
  rintro e w8 ⟨v8, rfl, ho8, hb8⟩
  obtain ⟨x8, c8, rfl, hst⟩ := Strs.of_owns ho8.out (by decide) (fun t ht => by have := HL7.out.many.2.2 t ht; omega)
  have HB8 : Hid (Below B w w8) := HB7.out.trans (hb8.out.mono HL7.out.d.bw)
  have HL8 : Hid (Lv B w8 q B S6 V6 1 2 2 ⟨#[116]⟩ v6 [⟨#[99]⟩]) := HL7.out.keep hb8.out
  have HT8 : Hid (Calls Try.prog 18 #[.slice x8 1 c8, .slice (some ⟨w8.heap.size, 0, none⟩) 1 1] (w8.alloc (.cells #[.string ⟨#[99]⟩] 9)) (BB true (w8.alloc (.cells #[.string ⟨#[99]⟩] 9)))) := rtexts [⟨#[99]⟩] x8 (some ⟨w8.heap.size, 0, none⟩) c8 1 _ (hst.below (below_new w8 _)) (Strs.sub (fun j hj => by
    have : j = 0 := by simpa using hj
    subst this
    exact cell_of_row _ _ 0 _ 9 (0, 0) (heap_alloc_new w8 _)) (by simp) (by decide))
  clear hst ho8 hb8 HL7 HB7
  go_wp2_with fail
  refine HT8.out.mono ?_
  rintro e w9 ⟨rfl, hb9⟩
  have hb9' : Below w8.heap.size w8 w9 := (below_new w8 _).trans (hb9.mono (by simp))
  have HB9 : Hid (Below B w w9) := HB8.out.trans (hb9'.mono HL8.out.d.bw)
  have HL9 : Hid (Lv B w9 q B S6 V6 1 2 2 ⟨#[116]⟩ v6 [⟨#[99]⟩]) := HL8.out.keep hb9'
  clear hb9 hb9' HT8 HB8 HL8
  go_wp2_with fail
  refine (xSeq HL9.out.j (by decide) (by decide)).mono ?_
  rintro e w10 ⟨rfl, hb10⟩
  have HB10 : Hid (Below B w w10) := HB9.out.trans (hb10.mono HL9.out.d.bw)
  clear hb10
  go_wp2_with fail
  go_ret
  exact BB.mk rfl (by rw [← HBE.out]; exact HB10.out)
end Go.Proofs.Yteiilifljfagdaa
