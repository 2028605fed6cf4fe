/- The journal's lay and write. -/
import Derived.Test.YteiilifljfagdaaH
import Derived.WalkKit
import Derived.ProofKit
import Derived.Handy
import Derived.WalkLawsBesides
import Derived.WalkSpells
import Derived.BigQuiet
import Derived.BigCall
import Derived.Deep.QuietTactic
import Derived.Deep.Light
import Derived.Deep.OwnRows
import Derived.Laws.AppendOwnNone
import Derived.Laws.Strings3
import Derived.Laws.RangeAny
import Derived.Deep.RegionWith
import Derived.Lib.BitFns
import Derived.Lib.Walk
import Derived.Lib.Strings
import Derived.Lib.OthersKept
import Derived.Deep.CutBlock
import Derived.Deep.DeepCutAuto
import Derived.Deep.LoopGhost
import Derived.Deep.RegionHeld3
import Derived.Lib.SmallJoins
import Derived.Maps.AppendAt
import Derived.Laws.IdiomStrings
import Derived.Lib.AppendZeros
import Derived.Deep.WholeRow
import Derived.Laws.BitsAllLaws
import Derived.Lib.ConvBytes
namespace Go.Proofs.Yteiilifljfagdaa
open Go.RowKit
set_option linter.unusedVariables false
set_option linter.unusedSimpArgs false
theorem tot_ls (l : List ByteArray) : (flat (ls l)).length = tot l + 12 * l.length := flat_len l
theorem allE_lay (g a : Nat) (s : List UInt8) : allE (hd3 g a (cuts s).length :: cuts s) = 0 ∧ allL (hd3 g a (cuts s).length :: cuts s) = lay g a s := by
  have h := recs_ok (g := g) (a := a) (s := s) (ds := []) rfl
  unfold recs at h
  rw [List.append_nil] at h
  exact ⟨allE_yes h, allL_yes h⟩
theorem own_one {w : World} {g : Nat} {s : ByteArray} (h : w.heap[g]? = some (.cells #[.string s] 9 (0, 0))) : w.ownsRow 0 9 1 (.slice (some ⟨g, 0, none⟩) 1 1) [s].length (scells [s]) :=
  ⟨rfl, .inr ⟨g, 1, _, rfl, Nat.zero_le _, h, Nat.le_refl _, by decide, rfl, rfl⟩⟩
theorem Strs.own {w : World} {B : Nat} {v : Value} {xs : List ByteArray} (h : w.ownsRow B 9 1 v xs.length (scells xs)) (h2 : tot xs + 12 * xs.length ≤ 140737488355328) : ∃ a cap, v = .slice a xs.length cap ∧ Strs w a xs := by
  refine Strs.of_owns h (by omega) fun s hs => ?_
  obtain ⟨i, hi, rfl⟩ := List.getElem_of_mem hs
  have e2 := tot_take hi
  have e3 := tot_le xs (i + 1)
  omega
set_option maxHeartbeats 4000000 in
set_option maxRecDepth 100000 in
theorem xlay (g a : Nat) (s : ByteArray) (w : World) (hf : Fit g a s.data.toList) (hz : (lay g a s.data.toList).length ≤ 1048576) : Calls Try.prog 33 #[.agg #[.int .i64 g, .int .i64 a, .string s, .slice none 0 0]] w (MB (lay g a s.data.toList) 0 w) := by
  have HF : Hid (Fit g a s.data.toList) := hf
  have HZ : Hid ((lay g a s.data.toList).length ≤ 1048576) := hz
  have g1 : (g : Int) ≤ 72057594037927935 := by have := hf.g; omega
  have a1 : (a : Int) ≤ 72057594037927935 := by have := hf.a; omega
  have g2 : ¬ (72057594037927935 : Int) < (g : Int) := by omega
  have a2 : ¬ (72057594037927935 : Int) < (a : Int) := by omega
  have hl := lay_len g a s.data.toList
  have hsz : s.size ≤ 1048576 := by
    have : s.data.toList.length = s.size := rfl
    omega
  clear hf hz hl
  go_enter Try.func33, Try.ntmps33
  go_wp2_with fail
  refine (xpieces s (by omega) _).mono ?_
  rintro e w1 ⟨v1, xs, rfl, HO1, HL1, HB1⟩
  obtain ⟨x1, c1, rfl⟩ := own_slice HO1.out
  have hbb : Below w.heap.size w w1 := ((Below.refl _ w).alloc (Nat.le_refl _) _).trans (HB1.out.mono (by simp))
  have HBW : Hid (Below w.heap.size w w1) := hbb
  have hblk : w1.heap[w.heap.size]? = some (.cells #[.int .i64 g, .int .i64 a, .string s, .slice none 0 0] 71 (0, 0)) := (HB1.out.block _ (by simp)).trans (heap_alloc_new w _)
  have q0 : w1.cell? ⟨w.heap.size, 0, none⟩ = some (.int .i64 g) := cell_of_row w1 _ 0 _ 71 (0, 0) hblk
  have q1 : w1.cell? ⟨w.heap.size, 1, none⟩ = some (.int .i64 a) := cell_of_row w1 _ 1 _ 71 (0, 0) hblk
  have HO2 : Hid (w1.ownsRow w.heap.size 9 1 (.slice x1 xs.length c1) xs.length (scells xs)) := ⟨HO1.out.1, by
    rcases HO1.out.2 with z | ⟨g', cap, cur, hv, hb, z⟩
    · exact .inl z
    · exact .inr ⟨g', cap, cur, hv, by simp at hb; omega, z⟩⟩
  have hxl : Hid (xs.length = (cuts s.data.toList).length) := by unfold Hid; rw [← HL1.out, ls_len]
  have hxb : xs.length ≤ 1048576 := by
    have := cuts_count s.data.toList
    have e2 : s.data.toList.length = s.size := rfl
    rw [hxl.out]
    omega
  have HT : Hid (tot xs + 12 * xs.length + 33 ≤ 1048576) := by
    have e1 := tot_ls xs
    have e2 := HZ.out
    rw [HL1.out] at e1
    unfold lay at e2
    rw [flat_cons, List.length_append, putL_len, hd3_len, e1] at e2
    unfold Hid
    omega
  have HG : Hid (∀ w, Calls Try.prog 61 #[.int .i64 g, .int .i64 a, .int .i64 xs.length] w (SB (hd3 g a xs.length) w)) := fun w => xhead g a xs.length (by omega) (by omega) (by omega) w
  have HD : Hid ((⟨(hd3 g a xs.length).toArray⟩ : ByteArray).data.toList = hd3 g a (cuts s.data.toList).length) := by unfold Hid; rw [← hxl.out]
  have hds : Hid ((⟨(hd3 g a xs.length).toArray⟩ : ByteArray).size = 21) := hd3_len g a xs.length
  unfold SB at HG
  generalize (⟨(hd3 g a xs.length).toArray⟩ : ByteArray) = D at *
  clear hbb hblk HB1 HO1
  go_wp2_with fail
  refine (HG.out _).mono ?_
  rintro e w2 ⟨rfl, hb2⟩
  have HB2 : Hid (Below w.heap.size w w2) := HBW.out.trans (hb2.mono HBW.out.size)
  have HO3 : Hid (w2.ownsRow w.heap.size 9 1 (.slice x1 xs.length c1) xs.length (scells xs)) := own_keep HO2.out hb2
  have HW3 : Hid (Below w.heap.size w ((w2.alloc (.cells #[.string D] 9)).alloc (.cells #[.slice (some ⟨w2.heap.size, 0, none⟩) 1 1, .slice x1 xs.length c1] 35))) := (HB2.out.alloc HB2.out.size _).alloc (by have := HB2.out.size; simp; omega) _
  have HCC : Hid (Calls Try.prog 60 #[.slice (some ⟨w2.heap.size + 1, 0, none⟩) 2 2] ((w2.alloc (.cells #[.string D] 9)).alloc (.cells #[.slice (some ⟨w2.heap.size, 0, none⟩) 1 1, .slice x1 xs.length c1] 35)) fun e w' => ∃ v, e = .returned v ∧ Hid (w'.ownsRow 0 9 1 v (D :: xs).length (scells (D :: xs))) ∧ Hid (Below w.heap.size w w')) := by
    refine (xconcat (w2.heap.size + 1) 35 0 w.heap.size _ _ [D] xs _ (by have := heap_alloc_new (w2.alloc (.cells #[.string D] 9)) (.cells #[.slice (some ⟨w2.heap.size, 0, none⟩) 1 1, .slice x1 xs.length c1] 35); simpa using this) (own_one (by rw [Below.heap_alloc _ _ _ (by simp)]; exact heap_alloc_new _ _)) ((HO3.out.alloc _).alloc _) (by simp) (by simp; omega)).mono ?_
    rintro e w' ⟨v, rfl, ho, hb⟩
    refine ⟨v, rfl, ⟨ho.out.1, ?_⟩, HW3.out.trans (hb.out.mono HW3.out.size)⟩
    rcases ho.out.2 with z | ⟨g', cap, cur, hv, hb, z⟩
    · exact .inl z
    · exact .inr ⟨g', cap, cur, hv, Nat.zero_le _, z⟩
  clear hb2 HO2 HBW q0 q1 HG HO3 HB2 HW3
  go_wp2_with fail
  refine HCC.out.mono ?_
  rintro e w3 ⟨v3, rfl, HO4, HB3⟩
  have ht : Hid (tot (D :: xs) + 12 * (D :: xs).length ≤ 1048576) := by
    have e1 := HT.out
    have e2 := hds.out
    show D.size + tot xs + 12 * (xs.length + 1) ≤ _
    omega
  have hfew : Hid ((D :: xs).length ≤ 65536) := by
    have := cuts_few s.data.toList
    have e2 : s.data.toList.length = s.size := rfl
    have e3 := hxl.out
    show xs.length + 1 ≤ _
    omega
  have HLZ : Hid (ls (D :: xs) = hd3 g a (cuts s.data.toList).length :: cuts s.data.toList) := by
    show D.data.toList :: ls xs = _
    rw [HD.out, HL1.out]
  obtain ⟨x3, c3, rfl, HS⟩ := Strs.own HO4.out (by have := ht.out; omega)
  have HZ1 : Hid (∀ w, Strs w x3 (D :: xs) → Calls Try.prog 62 #[.slice x3 (D :: xs).length c3] w (NP .i64 ((tot (D :: xs) + 12 * (D :: xs).length : Nat) : Int) w)) := fun w h => xsizes (D :: xs) x3 c3 w h (by have := ht.out; omega) (by have := ht.out; omega)
  have HA : Hid (∀ w, Strs w x3 (D :: xs) → Calls Try.prog 63 #[.slice x3 (D :: xs).length c3] w (MB (lay g a s.data.toList) 0 w)) := fun w h => by
    have := xall (D :: xs) x3 c3 w h hfew.out (by have := ht.out; omega)
    obtain ⟨e1, e2⟩ := allE_lay g a s.data.toList
    rw [HLZ.out, e1, e2] at this
    exact this
  have HS3 : Hid (Strs w3 x3 (D :: xs)) := HS
  have hle : ((tot (D :: xs) + 12 * (D :: xs).length : Nat) : Int) ≤ 1048576 := by have := ht.out; omega
  generalize ((tot (D :: xs) + 12 * (D :: xs).length : Nat) : Int) = T at *
  generalize (D :: xs).length = N at *
  generalize (D :: xs) = zs at *
  generalize lay g a s.data.toList = Y at *
  unfold MB at HA
  have hzz : Hid ((⟨Y.toArray⟩ : ByteArray).data.toList = Y) := rfl
  generalize (⟨Y.toArray⟩ : ByteArray) = Z at *
  clear HS HO4 HLZ ht hfew
  go_wp2_with fail
  refine (HZ1.out _ HS3.out).mono ?_
  rintro e w4 ⟨rfl, rfl⟩
  go_wp2_with fail
  refine (HA.out _ HS3.out).mono ?_
  rintro e w5 ⟨rfl, hb5⟩
  have HB5 : Hid (Below w.heap.size w w5) := HB3.out.trans (hb5.mono HB3.out.size)
  clear hb5
  go_wp2_with fail
  go_ret2
  exact MB.mk hzz.out rfl HB5.out
/-- write: Append, and Sync -/
def wrt (S : St) (i : Int) (t : ByteArray) : St × Int := thn (app S i t) fun D => syn D i
set_option maxHeartbeats 4000000 in
theorem xwrite (B p : Nat) (S : St) (V : Nat → Value) (w : World) (h : Dk B w p S V) (ok : Ok S) (i : Int) (t : ByteArray) (ht : t.size ≤ maxLen) : Calls Try.prog 34 #[.pointer (some ⟨p, 0, none⟩), .int .i64 i, .string t] w fun e w' => e = .returned (.int .i64 (wrt S i t).2) ∧ ∃ V', Ch B p (wrt S i t).1 V' w w' := by
  have H1 : Hid (Calls Try.prog 43 #[.pointer (some ⟨p, 0, none⟩), .int .i64 i, .string t] w fun e w' => e = .returned (.int .i64 (app S i t).2) ∧ ∃ V', Ch B p (app S i t).1 V' w w') := xappend B p S V w h ok i t ht
  have HO : Hid (Ok (app S i t).1) := app_ok ok i t
  clear h ok
  unfold wrt
  by_cases h0 : (app S i t).2 = 0
  · rw [thn_ok h0]
    rw [h0] at H1
    generalize (app S i t).1 = D at *
    have H2 : Hid (∀ w1 V1, Dk B w1 p D V1 → Calls Try.prog 56 #[.pointer (some ⟨p, 0, none⟩), .int .i64 i] w1 fun e w' => e = .returned (.int .i64 (syn D i).2) ∧ Ch B p (syn D i).1 V1 w1 w') := fun w1 V1 hd => xsyncD B p D V1 w1 hd HO.out i
    clear h0
    generalize syn D i = R at *
    obtain ⟨R, x⟩ := R
    simp only at H2 ⊢
    go_enter Try.func34, Try.ntmps34
    go_wp2_with fail
    refine H1.out.mono ?_
    rintro e w1 ⟨rfl, V1, hc⟩
    have HC : Hid (Ch B p D V1 w w1) := hc
    clear hc
    go_wp2_with fail
    refine (H2.out _ _ HC.out.1).mono ?_
    rintro e w2 ⟨rfl, hc2⟩
    have HC2 : Hid (Ch B p R V1 w w2) := HC.out.trans hc2
    clear hc2
    go_wp2_with fail
    go_ret
    exact ⟨rfl, V1, HC2.out⟩
  · rw [thn_no h0]
    have h1 : ((app S i t).2 == 0) = false := by simpa using h0
    have h2 : ((app S i t).2 != 0) = true := by simpa using h0
    generalize (app S i t).2 = x at *
    generalize (app S i t).1 = D at *
    go_enter Try.func34, Try.ntmps34
    go_wp2_with fail
    refine H1.out.mono ?_
    rintro e w1 ⟨rfl, V1, hc⟩
    have HC : Hid (Ch B p D V1 w w1) := hc
    clear hc
    go_wp2_with fail
    go_ret
    exact ⟨rfl, V1, HC.out⟩
end Go.Proofs.Yteiilifljfagdaa
