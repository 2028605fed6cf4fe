/- The law DiskFull. -/
import Derived.Test.YtfdebooimbbdbaaR
import Derived.WalkKit
import Derived.ProofKit
import Derived.Handy
import Derived.WalkLawsBesides
import Derived.WalkSpells
import Derived.BigQuiet
import Derived.BigCall
import Derived.Deep.QuietTactic
import Derived.Deep.Light
import Derived.Deep.OwnRows
import Derived.Laws.AppendOwnNone
import Derived.Laws.Strings3
import Derived.Laws.RangeAny
import Derived.Deep.RegionWith
import Derived.Lib.BitFns
import Derived.Lib.Walk
import Derived.Lib.Strings
import Derived.Lib.OthersKept
import Derived.Deep.CutBlock
import Derived.Deep.DeepCutAuto
import Derived.Deep.LoopGhost
import Derived.Deep.RegionHeld3
import Derived.Lib.SmallJoins
import Derived.Maps.AppendAt
import Derived.Laws.IdiomStrings
import Derived.Lib.AppendZeros
import Derived.Deep.WholeRow
namespace Go.Proofs.Ytfdebooimbbdbaa
open Go.RowKit
set_option linter.unusedVariables false
set_option linter.unusedSimpArgs false
def zs (n : Nat) : ByteArray := ⟨Array.replicate n 0⟩
theorem zs_size (n : Nat) : (zs n).size = n := by show (Array.replicate n (0 : UInt8)).size = n; simp
theorem made_zs (n : Nat) : (madeCells #[Value.int .u8 0] n).toList = Lib.strCells (zs n) := by
  apply List.ext_getElem
  · rw [Lib.strCells_length, zs_size]; simp [madeCells]
  · intro i h1 h2
    simp [madeCells, Lib.strCells, zs, Nat.mod_one]
theorem zs_text (w : World) (n : Nat) (hn : n ≤ maxLen) : (convert 51 9 (.slice (some ⟨w.heap.size, 0, none⟩) n n)).run Try.prog (w.alloc (.cells (madeCells #[Value.int .u8 0] n) 5)) = .ok (.string (zs n)) (w.alloc (.cells (madeCells #[Value.int .u8 0] n) 5)) := by
  refine own_text (B := 0) (b := zs n) ?_
  rw [zs_size]
  have hsz : (madeCells #[Value.int .u8 0] n).size = n := by simp [madeCells]
  refine ⟨by rw [Lib.strCells_length, zs_size]; omega, .inr ⟨w.heap.size, n, _, rfl, Nat.zero_le _, heap_alloc_new w _, Nat.le_refl _, hn, by omega, ?_⟩⟩
  rw [made_zs, List.take_of_length_le (by rw [Lib.strCells_length, zs_size]; omega)]
theorem app_full {S : St} {i : Nat} (h : S.gone = false) (hi : i < 4) (t : ByteArray) (ht : 1048576 < (S.f i).size + t.size) : app S i t = (S, 18) := by
  unfold app full
  rw [chk_free h hi, if_neg (by simp), if_pos (by simp; omega), chg_e _ _ _ (by omega)]
set_option maxRecDepth 100000 in
set_option maxHeartbeats 2000000 in
theorem lfull (a m : Nat) (ha : a < 256) (hm : m < 65536) (w : World) : Calls Try.prog 6 #[.int .u8 a, .int .u16 m] w fun e w' => e = .returned (.bool true) ∧ Below w.heap.size w w' := by
  obtain ⟨r, hr⟩ : ∃ r, a % 4 = r := ⟨_, rfl⟩
  have hr4 : r < 4 := by omega
  have hri : (a : Int) % 4 = r := by omega
  obtain ⟨N, hN⟩ : ∃ N, 1048576 - m = N := ⟨_, rfl⟩
  have hNi : (1048576 : Int) - m = N := by omega
  have hNb : N ≤ 1048576 := by omega
  obtain ⟨M, hM⟩ : ∃ M, m + 1 = M := ⟨_, rfl⟩
  have hm1 : (m : Int) + 1 = M := by omega
  have st1 := app_free (S := new) (i := r) rfl (by decide) hr4 (zs N) (by rw [zs_size]; show 0 + N ≤ _; omega)
  have ok1 := app_ok new_ok r (zs N)
  rw [st1] at ok1
  have hs1 : ((({ new with f := put new.f r (new.f r ++ zs N) } : St)).f r).size = N := by
    show (put new.f r (new.f r ++ zs N) r).size = N
    rw [put_eq, ByteArray.size_append, zs_size]; show 0 + N = N; omega
  have hg1 : (({ new with f := put new.f r (new.f r ++ zs N) } : St)).gone = false := rfl
  have hl1 : (({ new with f := put new.f r (new.f r ++ zs N) } : St)).lim < 0 := by show (-1 : Int) < 0; decide
  generalize ({ new with f := put new.f r (new.f r ++ zs N) } : St) = S1 at *
  have st2 := app_full hg1 hr4 (zs M) (by rw [hs1, zs_size]; omega)
  have st3 := app_free hg1 hl1 hr4 (zs m) (by rw [hs1, zs_size]; omega)
  have ok3 := app_ok ok1 r (zs m)
  rw [st3] at ok3
  have hs3 : ((({ S1 with f := put S1.f r (S1.f r ++ zs m) } : St)).f r).size = 1048576 := by
    show (put S1.f r (S1.f r ++ zs m) r).size = 1048576
    rw [put_eq, ByteArray.size_append, hs1, zs_size]; omega
  have hg3 : (({ S1 with f := put S1.f r (S1.f r ++ zs m) } : St)).gone = false := hg1
  generalize ({ S1 with f := put S1.f r (S1.f r ++ zs m) } : St) = S3 at *
  have st4 := app_full hg3 hr4 ⟨#[120]⟩ (by rw [hs3]; decide)
  have hc3 : chk S3 r = 0 := chk_free hg3 hr4
  have hln : ln S3 r = 1048576 := by rw [ln_ok hc3, hs3]; rfl
  have HX : Hid ((∀ (p : Nat) (V : Nat → Value) (w' : World), Dk p w' p new V → Calls Try.prog 17 #[.pointer (some ⟨p, 0, none⟩), .int .i64 r, .string (zs N)] w' fun e w2 => e = .returned (.int .i64 0) ∧ ∃ V', Ch p p S1 V' w' w2)
      ∧ (∀ (p : Nat) (V : Nat → Value) (w' : World), Dk p w' p S1 V → Calls Try.prog 17 #[.pointer (some ⟨p, 0, none⟩), .int .i64 r, .string (zs M)] w' fun e w2 => e = .returned (.int .i64 18) ∧ ∃ V', Ch p p S1 V' w' w2)
      ∧ (∀ (p : Nat) (V : Nat → Value) (w' : World), Dk p w' p S1 V → Calls Try.prog 17 #[.pointer (some ⟨p, 0, none⟩), .int .i64 r, .string (zs m)] w' fun e w2 => e = .returned (.int .i64 0) ∧ ∃ V', Ch p p S3 V' w' w2)
      ∧ (∀ (p : Nat) (V : Nat → Value) (w' : World), Dk p w' p S3 V → Calls Try.prog 17 #[.pointer (some ⟨p, 0, none⟩), .int .i64 r, .string ⟨#[120]⟩] w' fun e w2 => e = .returned (.int .i64 18) ∧ ∃ V', Ch p p S3 V' w' w2)
      ∧ (∀ (p : Nat) (V : Nat → Value) (w' : World), Dk p w' p S3 V → Calls Try.prog 19 #[.pointer (some ⟨p, 0, none⟩), .int .i64 r] w' fun e w2 => e = .returned (.tuple #[.int .i64 1048576, .int .i64 0]) ∧ w' = w2)) := by
    refine ⟨fun p V w' hd => ?_, fun p V w' hd => ?_, fun p V w' hd => ?_, fun p V w' hd => ?_, fun p V w' hd => ?_⟩
    · have := xappend p p new V w' hd new_ok r (zs N) (by rw [zs_size]; unfold maxLen; omega)
      rw [st1] at this; exact this
    · have := xappend p p S1 V w' hd ok1 r (zs M) (by rw [zs_size]; unfold maxLen; omega)
      rw [st2] at this; exact this
    · have := xappend p p S1 V w' hd ok1 r (zs m) (by rw [zs_size]; unfold maxLen; omega)
      rw [st3] at this; exact this
    · have := xappend p p S3 V w' hd ok3 r ⟨#[120]⟩ (by unfold maxLen; decide)
      rw [st4] at this; exact this
    · have := xlen p p S3 V w' hd r
      rw [hln, hc3] at this; exact this
  clear st1 st2 st3 st4 ok1 ok3 hs1 hs3 hg1 hg3 hl1 hc3 hln hr hN
  have hMb : M ≤ 65536 := by omega
  clear hM
  have hmk1 := run_make_row' (P := Try.prog) 51 5 (.int .u8 0) 1 Try.u51 Try.info5 rfl .i64 .i64 N (by omega) (by omega)
  have hmk2 := run_make_row' (P := Try.prog) 51 5 (.int .u8 0) 1 Try.u51 Try.info5 rfl .i64 .i64 M (by omega) (by omega)
  have hmk3 := run_make_row' (P := Try.prog) 51 5 (.int .u8 0) 1 Try.u51 Try.info5 rfl .i64 .i64 m (by omega) (by omega)
  have HT : Hid (∀ (w : World) (n : Nat), n ≤ 1048576 → (convert 51 9 (.slice (some ⟨w.heap.size, 0, none⟩) n n)).run Try.prog (w.alloc (.cells (madeCells #[Value.int .u8 0] n) 5)) = .ok (.string (zs n)) (w.alloc (.cells (madeCells #[Value.int .u8 0] n) 5))) := fun w n hn => zs_text w n (by unfold maxLen; omega)
  go_enter Try.func6, Try.ntmps6
  go_wp2_with fail
  refine (xnew w.heap.size _ (Nat.le_refl _)).mono ?_
  rintro e w1 ⟨rfl, ⟨V1, hd1⟩, hb1⟩
  have D1 : Hid (Dk w.heap.size w1 w.heap.size new V1) := hd1
  have B1 : Hid (Below w.heap.size w w1) := hb1
  clear hd1 hb1
  have hcv1 := HT.out w1 N (by omega)
  go_wp2_with fail
  refine (HX.out.1 _ V1 _ (D1.out.alloc _)).mono ?_
  rintro e w2 ⟨rfl, V2, hd2⟩
  have D2 : Hid (Dk w.heap.size w2 w.heap.size S1 V2) := hd2.1
  have B2 : Hid (Below w.heap.size w w2) := (B1.out.alloc B1.out.size _).trans hd2.2.1
  clear hd2 D1 B1 hcv1 hmk1
  have hcv2 := HT.out w2 M (by omega)
  go_wp2_with fail
  refine (HX.out.2.1 _ V2 _ (D2.out.alloc _)).mono ?_
  rintro e w3 ⟨rfl, V3, hd3⟩
  have D3 : Hid (Dk w.heap.size w3 w.heap.size S1 V3) := hd3.1
  have B3 : Hid (Below w.heap.size w w3) := (B2.out.alloc B2.out.size _).trans hd3.2.1
  clear hd3 D2 B2 hcv2 hmk2
  have hcv3 := HT.out w3 m (by omega)
  go_wp2_with fail
  refine (HX.out.2.2.1 _ V3 _ (D3.out.alloc _)).mono ?_
  rintro e w4 ⟨rfl, V4, hd4⟩
  have D4 : Hid (Dk w.heap.size w4 w.heap.size S3 V4) := hd4.1
  have B4 : Hid (Below w.heap.size w w4) := (B3.out.alloc B3.out.size _).trans hd4.2.1
  clear hd4 D3 B3 hcv3 hmk3
  go_wp2_with fail
  refine (HX.out.2.2.2.1 _ V4 _ D4.out).mono ?_
  rintro e w5 ⟨rfl, V5, hd5⟩
  have D5 : Hid (Dk w.heap.size w5 w.heap.size S3 V5) := hd5.1
  have B5 : Hid (Below w.heap.size w w5) := B4.out.trans hd5.2.1
  clear hd5 D4 B4
  go_wp2_with fail
  refine (HX.out.2.2.2.2 _ V5 _ D5.out).mono ?_
  rintro e w6 ⟨rfl, rfl⟩
  go_wp2_with fail
  refine (xawake w5).mono ?_
  rintro e w7 ⟨rfl, hb7⟩
  have B7 : Hid (Below w.heap.size w w7) := B5.out.trans (hb7.mono B5.out.size)
  clear hb7
  go_wp2_with fail
  go_ret
  exact ⟨rfl, B7.out⟩
end Go.Proofs.Ytfdebooimbbdbaa
