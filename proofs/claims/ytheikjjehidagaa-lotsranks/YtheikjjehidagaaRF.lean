/- layer 17: the stable sort, by the program -/
import Derived.Test.YtheikjjehidagaaRE
import Derived.WalkKit
import Derived.ProofKit
import Derived.Handy
import Derived.WalkLawsBesides
import Derived.WalkSpells
import Derived.BigQuiet
import Derived.BigCall
import Derived.Deep.QuietTactic
import Derived.Deep.Light
import Derived.Deep.OwnRows
import Derived.Laws.AppendOwnNone
import Derived.Laws.Strings3
import Derived.Laws.RangeAny
import Derived.Deep.RegionWith
import Derived.Lib.BitFns
import Derived.Lib.Walk
import Derived.Lib.Strings
import Derived.Lib.OthersKept
import Derived.Deep.CutBlock
import Derived.Deep.DeepCutAuto
import Derived.Deep.LoopGhost
import Derived.Deep.RegionHeld3
import Derived.Lib.SmallJoins
import Derived.Maps.AppendAt
import Derived.Laws.IdiomStrings
import Derived.Lib.AppendZeros
import Derived.Deep.WholeRow
import Derived.Laws.BitsAllLaws
import Derived.Lib.ConvBytes
import Derived.Deep.RegionLaw
import Derived.Maps.OwnSet
import Derived.Maps.OwnOps
import Derived.Maps.RangeWalk
import Derived.Maps.Ext
import Derived.DeepKeys4
import Derived.Laws.StructEq
import Derived.Deep.MidRow
import Derived.Lib.Bytealg
import Derived.Lib.AppendZerosOnto
import Derived.Laws.MakeOwn
import Derived.Deep.Upon
import Derived.Sort.KeysCollected
import Derived.Shelf.SlSortCmp.KitK
namespace Go.Proofs.Ytheikjjehidagaa
open Go.RowKit
set_option linter.unusedVariables false
set_option linter.unusedSimpArgs false
open Go.Sort (grow SWO PermIn SortedIn HoldsK swp permIn_refl permIn_trans permIn_all swp_permIn insertionSort)
open H5 (It its its_len its_one)
set_option maxRecDepth 20000
set_option linter.unusedSectionVars false
theorem num_s1 {a m b N : Nat} (h : b - a ≤ N + 1) (a' b' : Nat) (h2 : b' - a' < b - a) : b' - a' ≤ N := by omega
section
variable [Inhabited It]
theorem xsym {w0 : World} {blk off cap n : Nat} {d0 : Array Ei} (R : Ro w0 blk off d0) (hn : d0.size = n) : ∀ (N a m b : Nat) (d : Array Ei) (W : World), b - a ≤ N → d.size = d0.size → Sv w0 blk off d W → a < m → m < b → b ≤ d.size →
    Calls Try.prog 97 #[.slice (some ⟨blk, off, none⟩) n cap, .int .i64 a, .int .i64 m, .int .i64 b, .func (.func 49) #[] #[]] W (SrP w0 blk off (SS.SmP ltI a m b d))
  | 0, a, m, b, d, W, h, _, _, h1, h2, _ => by omega
  | N + 1, a, m, b, d, W, h, hd, hW, h1, h2, h3 => by
    have ih := xsym R hn N (cap := cap)
    by_cases c1 : m = a + 1
    · exact xsymL R hd (hd.trans hn) hW c1 h2 h3
    · by_cases c2 : b = m + 1
      · exact xsymR R hd (hd.trans hn) hW (by omega) c2 h3
      · exact xsymC R hd (hd.trans hn) hW (by omega) (by omega) h3 fun a' m' b' d' W' g1 g2 g3 g4 g5 g6 => ih a' m' b' d' W' (num_s1 (m := m) h a' b' g1) g2 g3 g4 g5 g6
theorem xinsr {w0 W : World} {blk off cap n : Nat} {d0 d : Array Ei} (R : Ro w0 blk off d0) (hn : d0.size = n) (hd : d.size = d0.size) (hW : Sv w0 blk off d W) {a b : Nat} (hab : a ≤ b) (hb : b ≤ d.size) (hp : (insertionSort (SS.lt1 ltI) d a b).size = d.size) :
    Calls Try.prog 96 #[.slice (some ⟨blk, off, none⟩) n cap, .int .i64 a, .int .i64 b, .func (.func 49) #[] #[]] W fun x w' => x = .returned (.tuple #[]) ∧ Hid (Sv w0 blk off (insertionSort (SS.lt1 ltI) d a b) w') := by
  have hblk : blk < W.heap.size := SWK.lt hW R.r.hblk
  have hH := SWK.holds hW R.r.hblk R.r.hH hd
  have h1 := Go.Proofs.AnyQ.insertionSortCmpFunc (P := Try.prog) Try.ins20 9 Try.isAgg47 Try.sizeOf47 ies ies_len ies_one cfE 49 #[] blk off cap a b d W (enters_of Try.func49 (by kernel_rfl) rfl) (claysE blk off d.size W) hH hblk hab hb (by have := R.s; omega)
  have e : d.size = n := hd.trans hn
  rw [e] at h1
  refine Calls.mono (show Calls Try.prog 96 _ _ _ from h1) ?_
  rintro x w' ⟨rfl, q, os, rfl⟩
  rw [ltE_eq]
  exact ⟨rfl, SWK.on hW R.r.hblk q _ os hp⟩
/-- blocks being sorted -/
structure S1 (w0 : World) (blk off n : Nat) (d : Array Ei) (wr : World) (A B : Nat) (e : Array Ei) : Prop where
  v : Sv w0 blk off e wr
  p : PermIn 0 n d e
  q : ∃ q0, A = q0 * 20 ∧ SS.Ph1 ltI 20 n (q0 * 20) e
  b : B = A + 20
  l : A ≤ n
/-- all blocks are sorted -/
structure S2 (w0 : World) (blk off n : Nat) (d : Array Ei) (wr : World) (s : Nat) (e : Array Ei) : Prop where
  v : Sv w0 blk off e wr
  p : PermIn 0 n d e
  f : SS.Full ltI s n e
  s : 0 < s ∧ s ≤ 2 * n + 40
/-- blocks being merged -/
structure S3 (w0 : World) (blk off n : Nat) (d : Array Ei) (wr : World) (s A B : Nat) (e : Array Ei) : Prop where
  v : Sv w0 blk off e wr
  p : PermIn 0 n d e
  q : ∃ q0, A = q0 * (2 * s) ∧ SS.Ph2 ltI s n (q0 * (2 * s)) e
  b : B = A + 2 * s
  l : A ≤ n
  s : 0 < s ∧ s < n
variable {w0 wr : World} {blk off cap n : Nat} {d e : Array Ei}
theorem S1.step (R : Ro w0 blk off d) (hn : d.size = n) {A B : Nat} (h : S1 w0 blk off n d wr A B e) (hB : B ≤ n) :
    Calls Try.prog 96 #[.slice (some ⟨blk, off, none⟩) n cap, .int .i64 A, .int .i64 B, .func (.func 49) #[] #[]] wr fun x w' => x = .returned (.tuple #[]) ∧ ∃ e', Hid (S1 w0 blk off n d w' B (B + 20) e') := by
  obtain ⟨q0, hq, hph⟩ := h.q
  have hs : e.size = n := h.p.1.trans hn
  have hB2 : q0 * 20 + 20 ≤ n := by rw [← hq, ← h.b]; exact hB
  obtain ⟨hp, hph2⟩ := SS.ph1_step swoI (by decide) hs.symm hph hB2
  have e1 : B = q0 * 20 + 20 := by rw [← hq]; exact h.b
  rw [hq, e1]
  refine (xinsr R hn (hs.trans hn.symm) h.v (Nat.le_add_right _ _) (by rw [hs]; exact hB2) hp.1).mono ?_
  rintro x w' ⟨rfl, hv⟩
  refine ⟨rfl, _, hv.out, permIn_trans _ _ _ _ _ h.p (SS.permIn_wide (Nat.zero_le _) (Nat.le_add_right _ _) hB2 (by rw [hs]; exact Nat.le_refl _) hp), ⟨q0 + 1, by omega, ?_⟩, rfl, hB2⟩
  rw [show (q0 + 1) * 20 = q0 * 20 + 20 by omega]
  exact hph2
theorem S1.last (R : Ro w0 blk off d) (hn : d.size = n) {A B : Nat} (h : S1 w0 blk off n d wr A B e) (hB : ¬ B ≤ n) :
    Calls Try.prog 96 #[.slice (some ⟨blk, off, none⟩) n cap, .int .i64 A, .int .i64 n, .func (.func 49) #[] #[]] wr fun x w' => x = .returned (.tuple #[]) ∧ ∃ e', Hid (S2 w0 blk off n d w' 20 e') := by
  obtain ⟨q0, hq, hph⟩ := h.q
  have hs : e.size = n := h.p.1.trans hn
  have ha : q0 * 20 ≤ n := by rw [← hq]; exact h.l
  obtain ⟨hp, hf⟩ := SS.ph1_end swoI (by decide) hs.symm hph ha (by rw [← hq, ← h.b]; exact hB)
  rw [hq]
  refine (xinsr R hn (hs.trans hn.symm) h.v ha (by rw [hs]; exact Nat.le_refl _) hp.1).mono ?_
  rintro x w' ⟨rfl, hv⟩
  exact ⟨rfl, _, hv.out, permIn_trans _ _ _ _ _ h.p (SS.permIn_wide (Nat.zero_le _) ha (Nat.le_refl _) (by rw [hs]; exact Nat.le_refl _) hp), hf, by omega⟩
theorem S3.step (R : Ro w0 blk off d) (hn : d.size = n) {s A B : Nat} (h : S3 w0 blk off n d wr s A B e) (hB : B ≤ n) :
    Calls Try.prog 97 #[.slice (some ⟨blk, off, none⟩) n cap, .int .i64 A, .int .i64 ((A + s : Nat) : Int), .int .i64 B, .func (.func 49) #[] #[]] wr fun x w' => x = .returned (.tuple #[]) ∧ ∃ e', Hid (S3 w0 blk off n d w' s B (B + 2 * s) e') := by
  obtain ⟨q0, hq, hph⟩ := h.q
  have hs : e.size = n := h.p.1.trans hn
  have h0 := h.s.1
  have hb := h.b
  refine (xsym R hn (B - A) A (A + s) B e wr (Nat.le_refl _) (hs.trans hn.symm) h.v (by omega) (by omega) (by omega)).mono ?_
  rintro x w' ⟨rfl, e', hv, hm⟩
  have e1 : B = q0 * (2 * s) + 2 * s := by rw [← hq]; exact h.b
  have hm2 := hm
  rw [e1, hq] at hm2
  have hph2 := SS.ph2_step h0 hs.symm hph (by rw [← e1]; exact hB) hm2
  refine ⟨rfl, e', hv, permIn_trans _ _ _ _ _ h.p (SS.permIn_wide (Nat.zero_le _) (by omega) hB (by rw [hs]; exact Nat.le_refl _) hm.1), ⟨q0 + 1, by rw [Nat.add_mul, Nat.one_mul]; exact e1, ?_⟩, rfl, hB, h.s⟩
  rw [Nat.add_mul, Nat.one_mul]
  exact hph2
theorem S3.last (R : Ro w0 blk off d) (hn : d.size = n) {s A B : Nat} (h : S3 w0 blk off n d wr s A B e) (hB : ¬ B ≤ n) (hM : A + s < n) :
    Calls Try.prog 97 #[.slice (some ⟨blk, off, none⟩) n cap, .int .i64 A, .int .i64 ((A + s : Nat) : Int), .int .i64 n, .func (.func 49) #[] #[]] wr fun x w' => x = .returned (.tuple #[]) ∧ ∃ e', Hid (S2 w0 blk off n d w' (2 * s) e') := by
  obtain ⟨q0, hq, hph⟩ := h.q
  have hs : e.size = n := h.p.1.trans hn
  have h0 := h.s
  refine (xsym R hn (n - A) A (A + s) n e wr (Nat.le_refl _) (hs.trans hn.symm) h.v (by omega) hM (by omega)).mono ?_
  rintro x w' ⟨rfl, e', hv, hm⟩
  have hm2 := hm
  rw [hq] at hm2
  have hf := SS.ph2_last h0.1 hs.symm hph (by rw [← hq]; exact hM) (by rw [← hq, ← h.b]; exact hB) hm2
  exact ⟨rfl, e', hv, permIn_trans _ _ _ _ _ h.p (SS.permIn_wide (Nat.zero_le _) h.l (Nat.le_refl _) (by rw [hs]; exact Nat.le_refl _) hm.1), hf, by omega⟩
theorem S3.idle (hn : d.size = n) {s A B : Nat} (h : S3 w0 blk off n d wr s A B e) (hM : ¬ A + s < n) : S2 w0 blk off n d wr (2 * s) e := by
  obtain ⟨q0, hq, hph⟩ := h.q
  have hs : e.size = n := h.p.1.trans hn
  have h0 := h.s
  exact ⟨h.v, h.p, SS.ph2_idle h0.1 hs.symm hph (by rw [← hq]; exact h.l) (by rw [← hq]; exact hM), by omega⟩
theorem S2.go {s : Nat} (h : S2 w0 blk off n d wr s e) (hs : s < n) : S3 w0 blk off n d wr s 0 (2 * s) e := ⟨h.v, h.p, ⟨0, by omega, by rw [Nat.zero_mul]; exact SS.ph2_start h.s.1 h.f⟩, by omega, Nat.zero_le _, h.s.1, hs⟩
theorem num_t1 {n A B : Nat} (h6 : n ≤ 1000000) (hB : B ≤ n) : ∃ B2 : Nat, B2 = B + 20 ∧ (B : Int) + 20 = (B2 : Int) ∧ wrap64 (B2 : Int) = (B2 : Int) := ⟨B + 20, rfl, by omega, by unfold wrap64; omega⟩
theorem num_t2 {n s : Nat} (h6 : n ≤ 1000000) (hs : s ≤ 2 * n + 40) : ∃ T : Nat, T = 2 * s ∧ 2 * (s : Int) = (T : Int) ∧ (s : Int) * 2 = (T : Int) ∧ wrap64 (T : Int) = (T : Int) := ⟨2 * s, rfl, by omega, by omega, by unfold wrap64; omega⟩
theorem num_t3 {n s A B : Nat} (h6 : n ≤ 1000000) (hs : s < n) (hA : A ≤ n) : ∃ M : Nat, M = A + s ∧ (A : Int) + (s : Int) = (M : Int) ∧ wrap64 (M : Int) = (M : Int) := ⟨A + s, rfl, by omega, by unfold wrap64; omega⟩
theorem num_t4 {n s B T : Nat} (h6 : n ≤ 1000000) (hs : s < n) (hT : T = 2 * s) (hB : B ≤ n) : ∃ B2 : Nat, B2 = B + 2 * s ∧ (B : Int) + (T : Int) = (B2 : Int) ∧ wrap64 (B2 : Int) = (B2 : Int) := ⟨B + 2 * s, rfl, by omega, by unfold wrap64; omega⟩
theorem num_t5 {n A B : Nat} (hB : B ≤ n) (h : B = A + 20) : n - B < n - A := by omega
theorem num_t6 {n s A B : Nat} (hB : B ≤ n) (h : B = A + 2 * s) (h0 : 0 < s) : n - B < n - A := by omega
theorem num_t7 {n s T : Nat} (h : T = 2 * s) (h0 : 0 < s) (hs : s < n) : n - T < n - s := by omega
set_option maxHeartbeats 16000000 in
theorem xstable (R : Ro wr blk off d) (hn : d.size = n) (ht : ∀ i j, i < j → j < n → d[i]!.2 < d[j]!.2) :
    Calls Try.prog 71 #[.slice (some ⟨blk, off, none⟩) n cap, .int .i64 n, .func (.func 49) #[] #[]] wr (SrP wr blk off (fun e => PermIn 0 n d e ∧ SortedIn (SS.lex ltI) 0 n e)) := by
  have HR : Hid (Ro wr blk off d) := R
  have HN : Hid (d.size = n ∧ n ≤ 1000000) := ⟨hn, by rw [← hn]; exact R.s⟩
  have H10 : Hid (S1 wr blk off n d wr 0 20 d) := ⟨SWK.start R.r.hH, permIn_refl d 0 n, ⟨0, rfl, SS.ph1_start (by decide) ht⟩, rfl, Nat.zero_le _⟩
  clear R hn ht
  generalize hw : wr = w0 at HR H10
  have HW : Hid (wr = w0) := hw
  rw [← hw]
  go_enter Try.func71, Try.ntmps71
  rw [hw]
  clear hw HW
  go_wp2_with fail
  go_loopw [7, 8] (fun x y wr => ∃ (A B : Nat) (e : Array Ei), x = .int .i64 A ∧ y = .int .i64 B ∧ Hid (S1 w0 blk off n d wr A B e))
    (fun x _ _ => n - (Lib.intOf x).toNat)
  case atStart => exact ⟨0, 20, d, rfl, rfl, H10.out⟩
  case round =>
    clear H10
    obtain ⟨A, B, e, rfl, rfl, HS⟩ := hrel
    by_cases hB : B ≤ n
    · have hBz : (B : Int) ≤ (n : Int) := Int.ofNat_le.2 hB
      obtain ⟨B2, hB2, hB2z, hB2w⟩ := num_t1 (A := A) HN.out.2 hB
      have HC : Hid (Calls Try.prog 96 #[.slice (some ⟨blk, off, none⟩) n cap, .int .i64 A, .int .i64 B, .func (.func 49) #[] #[]] wr fun x w' => x = .returned (.tuple #[]) ∧ ∃ e', Hid (S1 w0 blk off n d w' B B2 e')) := by rw [hB2]; exact HS.out.step HR.out HN.out.1 hB
      have HMs : Hid (n - B < n - A) := num_t5 hB HS.out.b
      clear HS hB hB2
      go_wp2_with (go_at_call 96; refine HC.out.mono ?_; clear HC; rintro x w2 ⟨rfl, e', HZ⟩)
      go_roundw
      case rel => exact ⟨B, B2, e', rfl, by first | rfl | exact congrArg _ hB2w, HZ.out⟩
      case measure => exact HMs.out
    · have hBz : ¬ (B : Int) ≤ (n : Int) := fun h => hB (Int.ofNat_le.1 h)
      have HC := hid_in (HS.out.last (cap := cap) HR.out HN.out.1 hB)
      clear HS hB
      go_wp2_with (go_at_call 96; refine HC.out.mono ?_; clear HC; rintro x w2 ⟨rfl, e1, HZ0⟩)
      go_loopw [6] (fun x wr => ∃ (s : Nat) (e : Array Ei), x = .int .i64 s ∧ Hid (S2 w0 blk off n d wr s e))
        (fun x _ => n - (Lib.intOf x).toNat)
      case atStart => exact ⟨20, e1, rfl, HZ0.out⟩
      case round =>
        clear HZ0
        obtain ⟨s, e, rfl, HS⟩ := hrel
        by_cases hs : s < n
        · have hsz : (s : Int) < (n : Int) := Int.ofNat_lt.2 hs
          obtain ⟨T, hT, hTz, hTz2, hTw⟩ := num_t2 HN.out.2 HS.out.s.2
          have H30 : Hid (S3 w0 blk off n d wr s 0 T e) := by rw [hT]; exact HS.out.go hs
          have HMo : Hid (n - T < n - s) := num_t7 hT HS.out.s.1 hs
          have HT : Hid (T = 2 * s ∧ s < n) := ⟨hT, hs⟩
          clear HS hs hT
          go_wp2_with fail
          try simp only [hTz, hTw]
          go_loopw [7, 8] (fun x y wr => ∃ (A B : Nat) (e : Array Ei), x = .int .i64 A ∧ y = .int .i64 B ∧ Hid (S3 w0 blk off n d wr s A B e))
            (fun x _ _ => n - (Lib.intOf x).toNat)
          case atStart => exact ⟨0, T, e, rfl, by first | rfl | exact congrArg _ hTw, H30.out⟩
          case round =>
            clear H30
            obtain ⟨A, B, e, rfl, rfl, HS⟩ := hrel
            obtain ⟨M, hM, hMz, hMw⟩ := num_t3 (B := B) HN.out.2 HT.out.2 HS.out.l
            by_cases hB : B ≤ n
            · have hBz : (B : Int) ≤ (n : Int) := Int.ofNat_le.2 hB
              obtain ⟨B2, hB2, hB2z, hB2w⟩ := num_t4 HN.out.2 HT.out.2 HT.out.1 hB
              have HC : Hid (Calls Try.prog 97 #[.slice (some ⟨blk, off, none⟩) n cap, .int .i64 A, .int .i64 M, .int .i64 B, .func (.func 49) #[] #[]] wr fun x w' => x = .returned (.tuple #[]) ∧ ∃ e', Hid (S3 w0 blk off n d w' s B B2 e')) := by rw [hB2, hM]; exact HS.out.step HR.out HN.out.1 hB
              have HMs : Hid (n - B < n - A) := num_t6 hB HS.out.b HS.out.s.1
              clear HS hB hB2 hM
              go_wp2_with (go_at_call 97; refine HC.out.mono ?_; clear HC; rintro x w2 ⟨rfl, e', HZ⟩)
              go_roundw
              case rel => exact ⟨B, B2, e', rfl, by first | rfl | exact congrArg _ hB2w, HZ.out⟩
              case measure => exact HMs.out
            · have hBz : ¬ (B : Int) ≤ (n : Int) := fun h => hB (Int.ofNat_le.1 h)
              by_cases hMn : M < n
              · have hMnz : (M : Int) < (n : Int) := Int.ofNat_lt.2 hMn
                have HC : Hid (Calls Try.prog 97 #[.slice (some ⟨blk, off, none⟩) n cap, .int .i64 A, .int .i64 M, .int .i64 n, .func (.func 49) #[] #[]] wr fun x w' => x = .returned (.tuple #[]) ∧ ∃ e', Hid (S2 w0 blk off n d w' T e')) := by rw [hM, HT.out.1]; exact HS.out.last HR.out HN.out.1 hB (by rw [← hM]; exact hMn)
                clear HS hB hM hMn
                go_wp2_with (go_at_call 97; refine HC.out.mono ?_; clear HC; rintro x w2 ⟨rfl, e', HZ⟩)
                go_roundw
                case rel => exact ⟨T, e', by first | rfl | exact congrArg _ hTw, HZ.out⟩
                case measure => first | exact HMo.out | (rw [hTw]; exact HMo.out)
              · have hMnz : ¬ (M : Int) < (n : Int) := fun h => hMn (Int.ofNat_lt.1 h)
                have HZ : Hid (S2 w0 blk off n d wr T e) := by rw [HT.out.1]; exact HS.out.idle HN.out.1 (by rw [← hM]; exact hMn)
                clear HS hB hM hMn
                go_wp2_with fail
                go_roundw
                case rel => exact ⟨T, e, by first | rfl | exact congrArg _ hTw, HZ.out⟩
                case measure => first | exact HMo.out | (rw [hTw]; exact HMo.out)
        · have hsz : ¬ (s : Int) < (n : Int) := fun h => hs (Int.ofNat_lt.1 h)
          have HF : Hid (SrP w0 blk off (fun e => PermIn 0 n d e ∧ SortedIn (SS.lex ltI) 0 n e) (.returned (.tuple #[])) wr) := ⟨rfl, e, HS.out.v, HS.out.p, SS.full_end HS.out.f (Nat.le_of_not_lt hs)⟩
          clear HS hs
          go_wp2_with fail
          refine bodyPost_ret (results_none rfl _ _ _) rfl ?_
          exact HF.out
end
end Go.Proofs.Ytheikjjehidagaa
