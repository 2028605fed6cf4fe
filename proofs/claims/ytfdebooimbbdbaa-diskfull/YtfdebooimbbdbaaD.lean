/- Read, Len, Late, Limit, Append, Sync, Cut of a disk. -/
import Derived.Test.YtfdebooimbbdbaaC
import Derived.WalkKit
import Derived.ProofKit
import Derived.Handy
import Derived.WalkLawsBesides
import Derived.WalkSpells
import Derived.BigQuiet
import Derived.BigCall
import Derived.Deep.QuietTactic
import Derived.Deep.Light
import Derived.Deep.OwnRows
import Derived.Laws.AppendOwnNone
import Derived.Laws.Strings3
import Derived.Laws.RangeAny
import Derived.Deep.RegionWith
import Derived.Lib.BitFns
import Derived.Lib.Walk
import Derived.Lib.Strings
import Derived.Lib.OthersKept
import Derived.Deep.CutBlock
import Derived.Deep.DeepCutAuto
import Derived.Deep.LoopGhost
import Derived.Deep.RegionHeld3
import Derived.Lib.SmallJoins
import Derived.Maps.AppendAt
import Derived.Laws.IdiomStrings
namespace Go.Proofs.Ytfdebooimbbdbaa
open Go.RowKit
set_option linter.unusedVariables false
set_option linter.unusedSimpArgs false
theorem chk_cases (S : St) (i : Int) : (S.gone = true ∧ chk S i = 13) ∨ (S.gone = false ∧ (i < 0 ∨ 3 < i) ∧ chk S i = 6) ∨ (S.gone = false ∧ ∃ n : Nat, n < 4 ∧ i = n ∧ chk S i = 0) := by
  unfold chk
  cases hg : S.gone
  · right
    by_cases h : i < 0 ∨ 3 < i
    · left; exact ⟨rfl, h, by rw [if_neg (by simp), if_pos h]⟩
    · right; exact ⟨rfl, i.toNat, by omega, by omega, by rw [if_neg (by simp), if_neg h]⟩
  · left; exact ⟨rfl, by simp⟩
theorem chk_zero {S : St} {i : Int} (h : chk S i = 0) : S.gone = false ∧ ∃ n : Nat, n < 4 ∧ i = n := by
  rcases chk_cases S i with ⟨_, e⟩ | ⟨_, _, e⟩ | ⟨g, n, h1, h2, e⟩
  · omega
  · omega
  · exact ⟨g, n, h1, h2⟩
theorem xfindE (B p : Nat) (S : St) (V : Nat → Value) (w : World) (h : Dk B w p S V) (i c : Int) (hc : chk S i = c) (h0 : ¬ c = 0) : Calls Try.prog 26 #[.pointer (some ⟨p, 0, none⟩), .int .i64 i] w fun e w' => e = .returned (.tuple #[.pointer none, .int .i64 c]) ∧ w = w' := by
  rcases chk_cases S i with ⟨g, e⟩ | ⟨g, hi, e⟩ | ⟨g, n, h1, h2, e⟩
  · rw [← hc, e]; exact xfindg B p S V w h i g
  · rw [← hc, e]; exact xfindo B p S V w h i hi g
  · exact absurd (hc ▸ e) h0
def rd (S : St) (i : Int) : ByteArray := if chk S i = 0 then S.f i.toNat else ⟨#[]⟩
def ln (S : St) (i : Int) : Int := if chk S i = 0 then (S.f i.toNat).size else 0
def lt (S : St) (i : Int) : Int := if chk S i = 0 then ((S.f i.toNat).size - S.s i.toNat : Nat) else 0
theorem Try.u51 : Try.prog.underlying 51 = some (.slice 5) := by kernel_rfl
theorem Try.u5 : Try.prog.underlying 5 = some (.int .u8) := by kernel_rfl
theorem Try.u9 : Try.prog.underlying 9 = some .string := by kernel_rfl
/-- the text of an own row -/
theorem own_text {B : Nat} {w : World} {v : Value} {b : ByteArray} (h : w.ownsRow B 5 1 v b.size (Lib.strCells b)) : (convert 51 9 v).run Try.prog w = .ok (.string b) w := by
  rcases h.2 with ⟨rfl, h0⟩ | ⟨g, cap, cur, rfl, hb, hg, h1, h2, h3, h4⟩
  · have hb : b = ⟨#[]⟩ := by
      have := ByteArray.size_eq_zero_iff.1 h0
      rw [this]; rfl
    rw [hb, run_convert_bytes_string w 51 9 5 none 0 0 Try.u51 Try.u5 Try.u9]
    rfl
  · have := run_convert_bytes_back (P := Try.prog) w 51 9 5 ⟨g, 0, none⟩ cap b.data.toList Try.u51 Try.u5 Try.u9 (fun j hj => by
      refine h.cells (g := g) rfl j _ ?_
      simp only [Lib.strCells, List.getElem?_map, List.getElem?_eq_getElem hj]
      rfl)
    have hl : b.data.toList.length = b.size := by rw [Array.length_toList]; rfl
    rw [hl] at this
    exact this
set_option maxHeartbeats 400000 in
theorem xread (B p : Nat) (S : St) (V : Nat → Value) (w : World) (h : Dk B w p S V) (i : Int) : Calls Try.prog 13 #[.pointer (some ⟨p, 0, none⟩), .int .i64 i] w fun e w' => e = .returned (.tuple #[.string (rd S i), .int .i64 (chk S i)]) ∧ w = w' := by
  have H : Hid (Dk B w p S V) := h
  by_cases h0 : chk S i = 0
  · obtain ⟨hg, n, hn, rfl⟩ := chk_zero h0
    have HR : Hid (rd S n = S.f n) := by show rd S n = S.f n; unfold rd; rw [if_pos h0]; rfl
    have hr := own_text (h.own n hn)
    have hv := h.cV hn
    have HG : Hid (S.gone = false) := hg
    rw [h0, HR.out]
    clear h hg h0 HR
    go_enter Try.func13, Try.ntmps13
    go_wp2_with fail
    refine (xfind B p S V _ H.out n hn HG.out).mono ?_
    rintro e w1 ⟨rfl, rfl⟩
    go_wp2_with fail
    go_ret2
    exact ⟨rfl, rfl⟩
  · have HR : Hid (rd S i = ⟨#[]⟩) := by show rd S i = ⟨#[]⟩; unfold rd; rw [if_neg h0]
    rw [HR.out]
    generalize hc : chk S i = c at *
    have h1 : (c == 0) = false := by simpa using h0
    have HC : Hid (chk S i = c) := hc
    have H0 : Hid (¬ c = 0) := h0
    clear h hc
    go_enter Try.func13, Try.ntmps13
    go_wp2_with fail
    refine (xfindE B p S V _ H.out i c HC.out H0.out).mono ?_
    rintro e w1 ⟨rfl, rfl⟩
    go_wp2_with fail
    go_ret2
    exact ⟨rfl, rfl⟩
set_option maxHeartbeats 400000 in
theorem xlen (B p : Nat) (S : St) (V : Nat → Value) (w : World) (h : Dk B w p S V) (i : Int) : Calls Try.prog 19 #[.pointer (some ⟨p, 0, none⟩), .int .i64 i] w fun e w' => e = .returned (.tuple #[.int .i64 (ln S i), .int .i64 (chk S i)]) ∧ w = w' := by
  have H : Hid (Dk B w p S V) := h
  by_cases h0 : chk S i = 0
  · obtain ⟨hg, n, hn, rfl⟩ := chk_zero h0
    have HR : Hid (ln S n = (S.f n).size) := by show ln S n = (S.f n).size; unfold ln; rw [if_pos h0]; rfl
    obtain ⟨a, cap, hw, _⟩ := own_sl (h.own n hn)
    have hv := h.cV hn
    rw [hw] at hv
    have HG : Hid (S.gone = false) := hg
    rw [h0, HR.out]
    clear h hg h0 HR hw
    go_enter Try.func19, Try.ntmps19
    go_wp2_with fail
    refine (xfind B p S V _ H.out n hn HG.out).mono ?_
    rintro e w1 ⟨rfl, rfl⟩
    go_wp2_with fail
    go_ret2
    exact ⟨rfl, rfl⟩
  · have HR : Hid (ln S i = 0) := by show ln S i = 0; unfold ln; rw [if_neg h0]
    rw [HR.out]
    generalize hc : chk S i = c at *
    have h1 : (c == 0) = false := by simpa using h0
    have HC : Hid (chk S i = c) := hc
    have H0 : Hid (¬ c = 0) := h0
    clear h hc
    go_enter Try.func19, Try.ntmps19
    go_wp2_with fail
    refine (xfindE B p S V _ H.out i c HC.out H0.out).mono ?_
    rintro e w1 ⟨rfl, rfl⟩
    go_wp2_with fail
    go_ret2
    exact ⟨rfl, rfl⟩
set_option maxHeartbeats 400000 in
theorem xlateD (B p : Nat) (S : St) (V : Nat → Value) (w : World) (h : Dk B w p S V) (ok : Ok S) (i : Int) : Calls Try.prog 14 #[.pointer (some ⟨p, 0, none⟩), .int .i64 i] w fun e w' => e = .returned (.int .i64 (lt S i)) ∧ ∃ n, w' = w.drewN n := by
  have H : Hid (Dk B w p S V) := h
  have HO : Hid (Ok S) := ok
  by_cases h0 : chk S i = 0
  · obtain ⟨hg, n, hn, rfl⟩ := chk_zero h0
    have HR : Hid (lt S n = ((S.f n).size - S.s n : Nat)) := by show lt S n = ((S.f n).size - S.s n : Nat); unfold lt; rw [if_pos h0]; rfl
    have HG : Hid (S.gone = false) := hg
    rw [HR.out]
    clear h hg h0 HR ok
    go_enter Try.func14, Try.ntmps14
    go_wp2_with fail
    refine (xfind B p S V _ H.out n hn HG.out).mono ?_
    rintro e w1 ⟨rfl, rfl⟩
    go_wp2_with fail
    refine (xlate B p S V _ H.out HO.out n hn).mono ?_
    rintro e w1 ⟨rfl, q, rfl⟩
    go_wp2_with fail
    go_ret
    exact ⟨rfl, _, rfl⟩
  · have HR : Hid (lt S i = 0) := by show lt S i = 0; unfold lt; rw [if_neg h0]
    rw [HR.out]
    clear ok
    generalize hc : chk S i = c at *
    have h1 : (c == 0) = false := by simpa using h0
    have HC : Hid (chk S i = c) := hc
    have H0 : Hid (¬ c = 0) := h0
    clear h hc
    go_enter Try.func14, Try.ntmps14
    go_wp2_with fail
    refine (xfindE B p S V _ H.out i c HC.out H0.out).mono ?_
    rintro e w1 ⟨rfl, rfl⟩
    go_wp2_with fail
    go_ret
    exact ⟨rfl, 0, rfl⟩
theorem xlimit (B p : Nat) (S : St) (V : Nat → Value) (w : World) (h : Dk B w p S V) (n : Int) : Calls Try.prog 16 #[.pointer (some ⟨p, 0, none⟩), .int .i64 n] w fun e w' => e = .returned (.tuple #[]) ∧ Ch B p { S with lim := n } V w w' := by
  have H : Hid (Dk B w p S V) := h
  have hc := h.c2
  have hf := h.froz 2
  have HP : Hid (Dk B (w.setCell ⟨p, 2, none⟩ (.int .i64 n)) p { S with lim := n } V) := h.setL n
  clear h
  go_enter Try.func16, Try.ntmps16
  go_wp2_with fail
  refine (xlack B p S V _ H.out).mono ?_
  rintro e w1 ⟨rfl, rfl⟩
  go_wp2_with fail
  go_end0
  exact ⟨rfl, HP.out, Fr.set H.out.base _ _⟩
/-- a change's error -/
theorem chg_e (S : St) (e : Int) (g : St → St) (h : ¬ e = 0) : chg S e g = (S, e) := by unfold chg; rw [if_pos h]
theorem chg_0 (S : St) (g : St → St) (h : (spd S).2 = 0) : chg S 0 g = (g (spd S).1, 0) := by unfold chg; rw [if_neg (by simp), if_neg (by simp [h])]
theorem chg_c (S : St) (g : St → St) (h : ¬ (spd S).2 = 0) : chg S 0 g = spd S := by unfold chg; rw [if_neg (by simp), if_pos h]
set_option maxHeartbeats 400000 in
theorem xsyncD (B p : Nat) (S : St) (V : Nat → Value) (w : World) (h : Dk B w p S V) (ok : Ok S) (i : Int) : Calls Try.prog 18 #[.pointer (some ⟨p, 0, none⟩), .int .i64 i] w fun e w' => e = .returned (.int .i64 (syn S i).2) ∧ Ch B p (syn S i).1 V w w' := by
  have H : Hid (Dk B w p S V) := h
  have HO : Hid (Ok S) := ok
  by_cases h0 : chk S i = 0
  · obtain ⟨hg, n, hn, rfl⟩ := chk_zero h0
    have HG : Hid (S.gone = false) := hg
    unfold syn
    rw [h0]
    by_cases h1 : (spd S).2 = 0
    · rw [chg_0 _ _ h1]
      have HS : Hid ((spd S).2 = 0) := h1
      clear h hg h0 ok h1
      go_enter Try.func18, Try.ntmps18
      go_wp2_with fail
      refine (xfind B p S V _ H.out n hn HG.out).mono ?_
      rintro e w1 ⟨rfl, rfl⟩
      go_wp2_with fail
      refine (xspend B p S V _ H.out HO.out).mono ?_
      rw [HS.out]
      rintro e w1 ⟨rfl, h1⟩
      have H1 : Hid (Ch B p (spd S).1 V w w1) := h1
      clear h1
      go_wp2_with fail
      refine (xsync B p (spd S).1 V _ H1.out.1 n hn).mono ?_
      rintro e w2 ⟨rfl, h2⟩
      have H2 : Hid (Ch B p _ V w1 w2) := h2
      clear h2
      go_wp2_with fail
      go_ret
      exact ⟨rfl, H1.out.trans H2.out⟩
    · rw [chg_c _ _ h1]
      generalize hc : (spd S).2 = c at *
      have HS : Hid ((spd S).2 = c) := hc
      have h2 : (c == 0) = false := by simpa using h1
      clear h hg h0 ok h1 hc
      go_enter Try.func18, Try.ntmps18
      go_wp2_with fail
      refine (xfind B p S V _ H.out n hn HG.out).mono ?_
      rintro e w1 ⟨rfl, rfl⟩
      go_wp2_with fail
      refine (xspend B p S V _ H.out HO.out).mono ?_
      rw [HS.out]
      rintro e w1 ⟨rfl, h1⟩
      have H1 : Hid (Ch B p (spd S).1 V w w1) := h1
      clear h1
      go_wp2_with fail
      go_ret
      exact ⟨rfl, H1.out⟩
  · unfold syn
    rw [chg_e _ _ _ h0]
    clear ok
    generalize hc : chk S i = c at *
    have h1 : (c == 0) = false := by simpa using h0
    have HC : Hid (chk S i = c) := hc
    have H0 : Hid (¬ c = 0) := h0
    clear h hc
    go_enter Try.func18, Try.ntmps18
    go_wp2_with fail
    refine (xfindE B p S V _ H.out i c HC.out H0.out).mono ?_
    rintro e w1 ⟨rfl, rfl⟩
    go_wp2_with fail
    go_ret
    exact ⟨rfl, H.out, Fr.refl _ _ _⟩
end Go.Proofs.Ytfdebooimbbdbaa
