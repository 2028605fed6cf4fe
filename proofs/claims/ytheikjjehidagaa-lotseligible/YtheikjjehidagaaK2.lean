/- layer 17: the stable sort, by the program -/
import Derived.Test.YtheikjjehidagaaRE
import Derived.WalkKit
import Derived.ProofKit
import Derived.Handy
import Derived.WalkLawsBesides
import Derived.WalkSpells
import Derived.BigQuiet
import Derived.BigCall
import Derived.Deep.QuietTactic
import Derived.Deep.Light
import Derived.Deep.OwnRows
import Derived.Laws.AppendOwnNone
import Derived.Laws.Strings3
import Derived.Laws.RangeAny
import Derived.Deep.RegionWith
import Derived.Lib.BitFns
import Derived.Lib.Walk
import Derived.Lib.Strings
import Derived.Lib.OthersKept
import Derived.Deep.CutBlock
import Derived.Deep.DeepCutAuto
import Derived.Deep.LoopGhost
import Derived.Deep.RegionHeld3
import Derived.Lib.SmallJoins
import Derived.Maps.AppendAt
import Derived.Laws.IdiomStrings
import Derived.Lib.AppendZeros
import Derived.Deep.WholeRow
import Derived.Laws.BitsAllLaws
import Derived.Lib.ConvBytes
import Derived.Deep.RegionLaw
import Derived.Maps.OwnSet
import Derived.Maps.OwnOps
import Derived.Maps.RangeWalk
import Derived.Maps.Ext
import Derived.DeepKeys4
import Derived.Laws.StructEq
import Derived.Deep.MidRow
import Derived.Lib.Bytealg
import Derived.Lib.AppendZerosOnto
import Derived.Laws.MakeOwn
import Derived.Deep.Upon
import Derived.Sort.KeysCollected
import Derived.Shelf.SlSortCmp.KitK
import Derived.Test.YtheikjjehidagaaND
import Derived.Test.YtheikjjehidagaaK4
namespace Go.Proofs.Ytheikjjehidagaa
open Go.RowKit
set_option linter.unusedVariables false
set_option linter.unusedSimpArgs false
open Go.Sort (grow SWO PermIn SortedIn HoldsK swp permIn_refl permIn_trans permIn_all swp_permIn insertionSort)
open H5 (It its its_len its_one)
set_option maxRecDepth 20000
set_option linter.unusedSectionVars false
theorem num_s1 {a m b N : Nat} (h : b - a ≤ N + 1) (a' b' : Nat) (h2 : b' - a' < b - a) : b' - a' ≤ N := by omega
section
variable [Inhabited It]
theorem xsym {w0 : World} {blk off cap n : Nat} {d0 : Array Ei} (R : Ro w0 blk off d0) (hn : d0.size = n) : ∀ (N a m b : Nat) (d : Array Ei) (W : World), b - a ≤ N → d.size = d0.size → Sv w0 blk off d W → a < m → m < b → b ≤ d.size →
    Calls Try.prog 97 #[.slice (some ⟨blk, off, none⟩) n cap, .int .i64 a, .int .i64 m, .int .i64 b, .func (.func 49) #[] #[]] W (SrP w0 blk off (SS.SmP ltI a m b d))
  | 0, a, m, b, d, W, h, _, _, h1, h2, _ => by omega
  | N + 1, a, m, b, d, W, h, hd, hW, h1, h2, h3 => by
    have ih := xsym R hn N (cap := cap)
    by_cases c1 : m = a + 1
    · exact xsymL R hd (hd.trans hn) hW c1 h2 h3
    · by_cases c2 : b = m + 1
      · exact xsymR R hd (hd.trans hn) hW (by omega) c2 h3
      · exact xsymC R hd (hd.trans hn) hW (by omega) (by omega) h3 fun a' m' b' d' W' g1 g2 g3 g4 g5 g6 => ih a' m' b' d' W' (num_s1 (m := m) h a' b' g1) g2 g3 g4 g5 g6
theorem xinsr {w0 W : World} {blk off cap n : Nat} {d0 d : Array Ei} (R : Ro w0 blk off d0) (hn : d0.size = n) (hd : d.size = d0.size) (hW : Sv w0 blk off d W) {a b : Nat} (hab : a ≤ b) (hb : b ≤ d.size) (hp : (insertionSort (SS.lt1 ltI) d a b).size = d.size) :
    Calls Try.prog 96 #[.slice (some ⟨blk, off, none⟩) n cap, .int .i64 a, .int .i64 b, .func (.func 49) #[] #[]] W fun x w' => x = .returned (.tuple #[]) ∧ Hid (Sv w0 blk off (insertionSort (SS.lt1 ltI) d a b) w') := by
  have hblk : blk < W.heap.size := SWK.lt hW R.r.hblk
  have hH := SWK.holds hW R.r.hblk R.r.hH hd
  have h1 := Go.Proofs.AnyQ.insertionSortCmpFunc (P := Try.prog) Try.ins20 9 Try.isAgg47 Try.sizeOf47 ies ies_len ies_one cfE 49 #[] blk off cap a b d W (enters_of Try.func49 (by kernel_rfl) rfl) (claysE blk off d.size W) hH hblk hab hb (by have := R.s; omega)
  have e : d.size = n := hd.trans hn
  rw [e] at h1
  refine Calls.mono (show Calls Try.prog 96 _ _ _ from h1) ?_
  rintro x w' ⟨rfl, q, os, rfl⟩
  rw [ltE_eq]
  exact ⟨rfl, SWK.on hW R.r.hblk q _ os hp⟩
/-- blocks being sorted -/
structure S1 (w0 : World) (blk off n : Nat) (d : Array Ei) (wr : World) (A B : Nat) (e : Array Ei) : Prop where
  v : Sv w0 blk off e wr
  p : PermIn 0 n d e
  q : ∃ q0, A = q0 * 20 ∧ SS.Ph1 ltI 20 n (q0 * 20) e
  b : B = A + 20
  l : A ≤ n
/-- all blocks are sorted -/
structure S2 (w0 : World) (blk off n : Nat) (d : Array Ei) (wr : World) (s : Nat) (e : Array Ei) : Prop where
  v : Sv w0 blk off e wr
  p : PermIn 0 n d e
  f : SS.Full ltI s n e
  s : 0 < s ∧ s ≤ 2 * n + 40
/-- blocks being merged -/
structure S3 (w0 : World) (blk off n : Nat) (d : Array Ei) (wr : World) (s A B : Nat) (e : Array Ei) : Prop where
  v : Sv w0 blk off e wr
  p : PermIn 0 n d e
  q : ∃ q0, A = q0 * (2 * s) ∧ SS.Ph2 ltI s n (q0 * (2 * s)) e
  b : B = A + 2 * s
  l : A ≤ n
  s : 0 < s ∧ s < n
variable {w0 wr : World} {blk off cap n : Nat} {d e : Array Ei}
theorem S1.step (R : Ro w0 blk off d) (hn : d.size = n) {A B : Nat} (h : S1 w0 blk off n d wr A B e) (hB : B ≤ n) :
    Calls Try.prog 96 #[.slice (some ⟨blk, off, none⟩) n cap, .int .i64 A, .int .i64 B, .func (.func 49) #[] #[]] wr fun x w' => x = .returned (.tuple #[]) ∧ ∃ e', Hid (S1 w0 blk off n d w' B (B + 20) e') := by
  obtain ⟨q0, hq, hph⟩ := h.q
  have hs : e.size = n := h.p.1.trans hn
  have hB2 : q0 * 20 + 20 ≤ n := by rw [← hq, ← h.b]; exact hB
  obtain ⟨hp, hph2⟩ := SS.ph1_step swoI (by decide) hs.symm hph hB2
  have e1 : B = q0 * 20 + 20 := by rw [← hq]; exact h.b
  rw [hq, e1]
  refine (xinsr R hn (hs.trans hn.symm) h.v (Nat.le_add_right _ _) (by rw [hs]; exact hB2) hp.1).mono ?_
  rintro x w' ⟨rfl, hv⟩
  refine ⟨rfl, _, hv.out, permIn_trans _ _ _ _ _ h.p (SS.permIn_wide (Nat.zero_le _) (Nat.le_add_right _ _) hB2 (by rw [hs]; exact Nat.le_refl _) hp), ⟨q0 + 1, by omega, ?_⟩, rfl, hB2⟩
  rw [show (q0 + 1) * 20 = q0 * 20 + 20 by omega]
  exact hph2
theorem S1.last (R : Ro w0 blk off d) (hn : d.size = n) {A B : Nat} (h : S1 w0 blk off n d wr A B e) (hB : ¬ B ≤ n) :
    Calls Try.prog 96 #[.slice (some ⟨blk, off, none⟩) n cap, .int .i64 A, .int .i64 n, .func (.func 49) #[] #[]] wr fun x w' => x = .returned (.tuple #[]) ∧ ∃ e', Hid (S2 w0 blk off n d w' 20 e') := by
  obtain ⟨q0, hq, hph⟩ := h.q
  have hs : e.size = n := h.p.1.trans hn
  have ha : q0 * 20 ≤ n := by rw [← hq]; exact h.l
  obtain ⟨hp, hf⟩ := SS.ph1_end swoI (by decide) hs.symm hph ha (by rw [← hq, ← h.b]; exact hB)
  rw [hq]
  refine (xinsr R hn (hs.trans hn.symm) h.v ha (by rw [hs]; exact Nat.le_refl _) hp.1).mono ?_
  rintro x w' ⟨rfl, hv⟩
  exact ⟨rfl, _, hv.out, permIn_trans _ _ _ _ _ h.p (SS.permIn_wide (Nat.zero_le _) ha (Nat.le_refl _) (by rw [hs]; exact Nat.le_refl _) hp), hf, by omega⟩
theorem S3.step (R : Ro w0 blk off d) (hn : d.size = n) {s A B : Nat} (h : S3 w0 blk off n d wr s A B e) (hB : B ≤ n) :
    Calls Try.prog 97 #[.slice (some ⟨blk, off, none⟩) n cap, .int .i64 A, .int .i64 ((A + s : Nat) : Int), .int .i64 B, .func (.func 49) #[] #[]] wr fun x w' => x = .returned (.tuple #[]) ∧ ∃ e', Hid (S3 w0 blk off n d w' s B (B + 2 * s) e') := by
  obtain ⟨q0, hq, hph⟩ := h.q
  have hs : e.size = n := h.p.1.trans hn
  have h0 := h.s.1
  have hb := h.b
  refine (xsym R hn (B - A) A (A + s) B e wr (Nat.le_refl _) (hs.trans hn.symm) h.v (by omega) (by omega) (by omega)).mono ?_
  rintro x w' ⟨rfl, e', hv, hm⟩
  have e1 : B = q0 * (2 * s) + 2 * s := by rw [← hq]; exact h.b
  have hm2 := hm
  rw [e1, hq] at hm2
  have hph2 := SS.ph2_step h0 hs.symm hph (by rw [← e1]; exact hB) hm2
  refine ⟨rfl, e', hv, permIn_trans _ _ _ _ _ h.p (SS.permIn_wide (Nat.zero_le _) (by omega) hB (by rw [hs]; exact Nat.le_refl _) hm.1), ⟨q0 + 1, by rw [Nat.add_mul, Nat.one_mul]; exact e1, ?_⟩, rfl, hB, h.s⟩
  rw [Nat.add_mul, Nat.one_mul]
  exact hph2
theorem S3.last (R : Ro w0 blk off d) (hn : d.size = n) {s A B : Nat} (h : S3 w0 blk off n d wr s A B e) (hB : ¬ B ≤ n) (hM : A + s < n) :
    Calls Try.prog 97 #[.slice (some ⟨blk, off, none⟩) n cap, .int .i64 A, .int .i64 ((A + s : Nat) : Int), .int .i64 n, .func (.func 49) #[] #[]] wr fun x w' => x = .returned (.tuple #[]) ∧ ∃ e', Hid (S2 w0 blk off n d w' (2 * s) e') := by
  obtain ⟨q0, hq, hph⟩ := h.q
  have hs : e.size = n := h.p.1.trans hn
  have h0 := h.s
  refine (xsym R hn (n - A) A (A + s) n e wr (Nat.le_refl _) (hs.trans hn.symm) h.v (by omega) hM (by omega)).mono ?_
  rintro x w' ⟨rfl, e', hv, hm⟩
  have hm2 := hm
  rw [hq] at hm2
  have hf := SS.ph2_last h0.1 hs.symm hph (by rw [← hq]; exact hM) (by rw [← hq, ← h.b]; exact hB) hm2
  exact ⟨rfl, e', hv, permIn_trans _ _ _ _ _ h.p (SS.permIn_wide (Nat.zero_le _) h.l (Nat.le_refl _) (by rw [hs]; exact Nat.le_refl _) hm.1), hf, by omega⟩
theorem S3.idle (hn : d.size = n) {s A B : Nat} (h : S3 w0 blk off n d wr s A B e) (hM : ¬ A + s < n) : S2 w0 blk off n d wr (2 * s) e := by
  obtain ⟨q0, hq, hph⟩ := h.q
  have hs : e.size = n := h.p.1.trans hn
  have h0 := h.s
  exact ⟨h.v, h.p, SS.ph2_idle h0.1 hs.symm hph (by rw [← hq]; exact h.l) (by rw [← hq]; exact hM), by omega⟩
theorem S2.go {s : Nat} (h : S2 w0 blk off n d wr s e) (hs : s < n) : S3 w0 blk off n d wr s 0 (2 * s) e := ⟨h.v, h.p, ⟨0, by omega, by rw [Nat.zero_mul]; exact SS.ph2_start h.s.1 h.f⟩, by omega, Nat.zero_le _, h.s.1, hs⟩
theorem num_t1 {n A B : Nat} (h6 : n ≤ 1000000) (hB : B ≤ n) : ∃ B2 : Nat, B2 = B + 20 ∧ (B : Int) + 20 = (B2 : Int) ∧ wrap64 (B2 : Int) = (B2 : Int) := ⟨B + 20, rfl, by omega, by unfold wrap64; omega⟩
theorem num_t2 {n s : Nat} (h6 : n ≤ 1000000) (hs : s ≤ 2 * n + 40) : ∃ T : Nat, T = 2 * s ∧ 2 * (s : Int) = (T : Int) ∧ (s : Int) * 2 = (T : Int) ∧ wrap64 (T : Int) = (T : Int) := ⟨2 * s, rfl, by omega, by omega, by unfold wrap64; omega⟩
theorem num_t3 {n s A B : Nat} (h6 : n ≤ 1000000) (hs : s < n) (hA : A ≤ n) : ∃ M : Nat, M = A + s ∧ (A : Int) + (s : Int) = (M : Int) ∧ wrap64 (M : Int) = (M : Int) := ⟨A + s, rfl, by omega, by unfold wrap64; omega⟩
theorem num_t4 {n s B T : Nat} (h6 : n ≤ 1000000) (hs : s < n) (hT : T = 2 * s) (hB : B ≤ n) : ∃ B2 : Nat, B2 = B + 2 * s ∧ (B : Int) + (T : Int) = (B2 : Int) ∧ wrap64 (B2 : Int) = (B2 : Int) := ⟨B + 2 * s, rfl, by omega, by unfold wrap64; omega⟩
theorem num_t5 {n A B : Nat} (hB : B ≤ n) (h : B = A + 20) : n - B < n - A := by omega
theorem num_t6 {n s A B : Nat} (hB : B ≤ n) (h : B = A + 2 * s) (h0 : 0 < s) : n - B < n - A := by omega
theorem num_t7 {n s T : Nat} (h : T = 2 * s) (h0 : 0 < s) (hs : s < n) : n - T < n - s := by omega
set_option maxHeartbeats 16000000 in
theorem xstable (R : Ro wr blk off d) (hn : d.size = n) (ht : ∀ i j, i < j → j < n → d[i]!.2 < d[j]!.2) :
    Calls Try.prog 71 #[.slice (some ⟨blk, off, none⟩) n cap, .int .i64 n, .func (.func 49) #[] #[]] wr (SrP wr blk off (fun e => PermIn 0 n d e ∧ SortedIn (SS.lex ltI) 0 n e)) := by
  have HR : Hid (Ro wr blk off d) := R
  have HN : Hid (d.size = n ∧ n ≤ 1000000) := ⟨hn, by rw [← hn]; exact R.s⟩
  have H10 : Hid (S1 wr blk off n d wr 0 20 d) := ⟨SWK.start R.r.hH, permIn_refl d 0 n, ⟨0, rfl, SS.ph1_start (by decide) ht⟩, rfl, Nat.zero_le _⟩
  clear R hn ht
  generalize hw : wr = w0 at HR H10
  have HW : Hid (wr = w0) := hw
  rw [← hw]
  go_enter Try.func71, Try.ntmps71
  rw [hw]
  clear hw HW
  go_wp2_with fail
  go_loopw [7, 8] (fun x y wr => ∃ (A B : Nat) (e : Array Ei), x = .int .i64 A ∧ y = .int .i64 B ∧ Hid (S1 w0 blk off n d wr A B e))
    (fun x _ _ => n - (Lib.intOf x).toNat)
  case atStart => exact ⟨0, 20, d, rfl, rfl, H10.out⟩
  case round =>
    clear H10
    obtain ⟨A, B, e, rfl, rfl, HS⟩ := hrel
    by_cases hB : B ≤ n
    · have hBz : (B : Int) ≤ (n : Int) := Int.ofNat_le.2 hB
      obtain ⟨B2, hB2, hB2z, hB2w⟩ := num_t1 (A := A) HN.out.2 hB
      have HC : Hid (Calls Try.prog 96 #[.slice (some ⟨blk, off, none⟩) n cap, .int .i64 A, .int .i64 B, .func (.func 49) #[] #[]] wr fun x w' => x = .returned (.tuple #[]) ∧ ∃ e', Hid (S1 w0 blk off n d w' B B2 e')) := by rw [hB2]; exact HS.out.step HR.out HN.out.1 hB
      have HMs : Hid (n - B < n - A) := num_t5 hB HS.out.b
      clear HS hB hB2
      go_wp2_with (go_at_call 96; refine HC.out.mono ?_; clear HC; rintro x w2 ⟨rfl, e', HZ⟩)
      go_roundw
      case rel => exact ⟨B, B2, e', rfl, by first | rfl | exact congrArg _ hB2w, HZ.out⟩
      case measure => exact HMs.out
    · have hBz : ¬ (B : Int) ≤ (n : Int) := fun h => hB (Int.ofNat_le.1 h)
      have HC := hid_in (HS.out.last (cap := cap) HR.out HN.out.1 hB)
      clear HS hB
      go_wp2_with (go_at_call 96; refine HC.out.mono ?_; clear HC; rintro x w2 ⟨rfl, e1, HZ0⟩)
      go_loopw [6] (fun x wr => ∃ (s : Nat) (e : Array Ei), x = .int .i64 s ∧ Hid (S2 w0 blk off n d wr s e))
        (fun x _ => n - (Lib.intOf x).toNat)
      case atStart => exact ⟨20, e1, rfl, HZ0.out⟩
      case round =>
        clear HZ0
        obtain ⟨s, e, rfl, HS⟩ := hrel
        by_cases hs : s < n
        · have hsz : (s : Int) < (n : Int) := Int.ofNat_lt.2 hs
          obtain ⟨T, hT, hTz, hTz2, hTw⟩ := num_t2 HN.out.2 HS.out.s.2
          have H30 : Hid (S3 w0 blk off n d wr s 0 T e) := by rw [hT]; exact HS.out.go hs
          have HMo : Hid (n - T < n - s) := num_t7 hT HS.out.s.1 hs
          have HT : Hid (T = 2 * s ∧ s < n) := ⟨hT, hs⟩
          clear HS hs hT
          go_wp2_with fail
          try simp only [hTz, hTw]
          go_loopw [7, 8] (fun x y wr => ∃ (A B : Nat) (e : Array Ei), x = .int .i64 A ∧ y = .int .i64 B ∧ Hid (S3 w0 blk off n d wr s A B e))
            (fun x _ _ => n - (Lib.intOf x).toNat)
          case atStart => exact ⟨0, T, e, rfl, by first | rfl | exact congrArg _ hTw, H30.out⟩
          case round =>
            clear H30
            obtain ⟨A, B, e, rfl, rfl, HS⟩ := hrel
            obtain ⟨M, hM, hMz, hMw⟩ := num_t3 (B := B) HN.out.2 HT.out.2 HS.out.l
            by_cases hB : B ≤ n
            · have hBz : (B : Int) ≤ (n : Int) := Int.ofNat_le.2 hB
              obtain ⟨B2, hB2, hB2z, hB2w⟩ := num_t4 HN.out.2 HT.out.2 HT.out.1 hB
              have HC : Hid (Calls Try.prog 97 #[.slice (some ⟨blk, off, none⟩) n cap, .int .i64 A, .int .i64 M, .int .i64 B, .func (.func 49) #[] #[]] wr fun x w' => x = .returned (.tuple #[]) ∧ ∃ e', Hid (S3 w0 blk off n d w' s B B2 e')) := by rw [hB2, hM]; exact HS.out.step HR.out HN.out.1 hB
              have HMs : Hid (n - B < n - A) := num_t6 hB HS.out.b HS.out.s.1
              clear HS hB hB2 hM
              go_wp2_with (go_at_call 97; refine HC.out.mono ?_; clear HC; rintro x w2 ⟨rfl, e', HZ⟩)
              go_roundw
              case rel => exact ⟨B, B2, e', rfl, by first | rfl | exact congrArg _ hB2w, HZ.out⟩
              case measure => exact HMs.out
            · have hBz : ¬ (B : Int) ≤ (n : Int) := fun h => hB (Int.ofNat_le.1 h)
              by_cases hMn : M < n
              · have hMnz : (M : Int) < (n : Int) := Int.ofNat_lt.2 hMn
                have HC : Hid (Calls Try.prog 97 #[.slice (some ⟨blk, off, none⟩) n cap, .int .i64 A, .int .i64 M, .int .i64 n, .func (.func 49) #[] #[]] wr fun x w' => x = .returned (.tuple #[]) ∧ ∃ e', Hid (S2 w0 blk off n d w' T e')) := by rw [hM, HT.out.1]; exact HS.out.last HR.out HN.out.1 hB (by rw [← hM]; exact hMn)
                clear HS hB hM hMn
                go_wp2_with (go_at_call 97; refine HC.out.mono ?_; clear HC; rintro x w2 ⟨rfl, e', HZ⟩)
                go_roundw
                case rel => exact ⟨T, e', by first | rfl | exact congrArg _ hTw, HZ.out⟩
                case measure => first | exact HMo.out | (rw [hTw]; exact HMo.out)
              · have hMnz : ¬ (M : Int) < (n : Int) := fun h => hMn (Int.ofNat_lt.1 h)
                have HZ : Hid (S2 w0 blk off n d wr T e) := by rw [HT.out.1]; exact HS.out.idle HN.out.1 (by rw [← hM]; exact hMn)
                clear HS hB hM hMn
                go_wp2_with fail
                go_roundw
                case rel => exact ⟨T, e, by first | rfl | exact congrArg _ hTw, HZ.out⟩
                case measure => first | exact HMo.out | (rw [hTw]; exact HMo.out)
        · have hsz : ¬ (s : Int) < (n : Int) := fun h => hs (Int.ofNat_lt.1 h)
          have HF : Hid (SrP w0 blk off (fun e => PermIn 0 n d e ∧ SortedIn (SS.lex ltI) 0 n e) (.returned (.tuple #[])) wr) := ⟨rfl, e, HS.out.v, HS.out.p, SS.full_end HS.out.f (Nat.le_of_not_lt hs)⟩
          clear HS hs
          go_wp2_with fail
          refine bodyPost_ret (results_none rfl _ _ _) rfl ?_
          exact HF.out
end
end Go.Proofs.Ytheikjjehidagaa

/- layer 17: items sorted, by the program -/
namespace Go.Proofs.Ytheikjjehidagaa
open Go.RowKit
set_option linter.unusedVariables false
set_option linter.unusedSimpArgs false
open Go.Sort (grow SWO PermIn SortedIn HoldsK swp putRowK permIn_refl permIn_trans insertionSort)
open H5 (It its its_len its_one)
set_option maxRecDepth 20000
set_option linter.unusedSectionVars false
theorem info47 : (Try.prog.info? 47).map (fun i => (i.zero, i.size, i.bytes)) = some (some (.agg #[.string ⟨#[]⟩, .int .i64 0, .string ⟨#[]⟩, .int .i64 0, .int .i64 0, .int .i64 0, .string ⟨#[]⟩, .int .i64 0, .int .i64 0]), 9, 96) := by kernel_rfl
abbrev Oi (B : Nat) (w : World) (v : Value) (L : List It) : Prop := w.ownsRow B 47 9 v L.length (rcs its L)
theorem xins0 (a : Option Addr) (cap : Nat) (W : World) : Calls Try.prog 96 #[.slice a 0 cap, .int .i64 0, .int .i64 0, .func (.func 49) #[] #[]] W fun x w' => x = .returned (.tuple #[]) ∧ W = w' := by
  go_enter Try.func96, Try.ntmps96
  go_wp2_with fail
  go_loopw [8] (fun i wr => i = .int .i64 1 ∧ W = wr) (fun _ _ => 0)
  case atStart => exact ⟨rfl, rfl⟩
  case round =>
    obtain ⟨rfl, rfl⟩ := hrel
    go_wp2_with fail
    go_end0
    exact ⟨rfl, rfl⟩
theorem xstable0 (a : Option Addr) (cap : Nat) (W : World) : Calls Try.prog 71 #[.slice a 0 cap, .int .i64 0, .func (.func 49) #[] #[]] W fun x w' => x = .returned (.tuple #[]) ∧ W = w' := by
  have HI : Hid (Calls Try.prog 96 #[.slice a 0 cap, .int .i64 0, .int .i64 0, .func (.func 49) #[] #[]] W fun x w' => x = .returned (.tuple #[]) ∧ W = w') := xins0 a cap W
  go_enter Try.func71, Try.ntmps71
  go_wp2_with fail
  go_loopw [7, 8] (fun x y wr => x = .int .i64 0 ∧ y = .int .i64 20 ∧ W = wr) (fun _ _ _ => 0)
  case atStart => exact ⟨rfl, rfl, rfl⟩
  case round =>
    obtain ⟨rfl, rfl, rfl⟩ := hrel
    go_wp2_with (go_at_call 96; refine HI.out.mono ?_; rintro x w1 ⟨rfl, rfl⟩)
    go_loopw [6] (fun x wr2 => x = .int .i64 20 ∧ W = wr2) (fun _ _ => 0)
    case atStart => exact ⟨rfl, rfl⟩
    case round =>
      obtain ⟨rfl, rfl⟩ := hrel
      go_wp2_with fail
      go_end0
      exact ⟨rfl, rfl⟩
/-- an append of an item -/
theorem ap_item {B : Nat} {w : World} {v : Value} {L : List It} (h : Oi B w v L) (hB : B ≤ w.heap.size) (hl : L.length ≤ 1000000) (x : It) {W : World} (hb : Below w.heap.size w W) :
    ∃ v' w6, (Builtin.append_ #[50, 50] 50 #[v, .slice (some ⟨W.heap.size, 0, none⟩) 1 1]).run Try.prog (W.alloc (.cells (its x).toArray 47)) = .ok v' w6 ∧ Hid (Oi B w6 v' (L ++ [x]) ∧ Below B w w6) := by
  have hO := own_below h hb
  obtain ⟨i0, hi, hz0, hz1, hz2⟩ := info_parts info47
  obtain ⟨v', w', hr, ho, hgr, _, hat⟩ := run_append_own_at (P := Try.prog) (w := W.alloc (.cells (its x).toArray 47)) B 50 50 47 i0 _ 9 96 Try.underlying50 hi hz0 hz1 hz2 rfl (by omega) v _ _ (hO.alloc _) ⟨W.heap.size, 0, none⟩ 1 1 (its x) rfl (cell_new (cs := its x)) (its_one x) (by unfold maxLen; omega) (by omega) (by have := hb.size; simp; omega)
  refine ⟨v', w', hr, ?_, ?_⟩
  · show w'.ownsRow B 47 9 v' (L ++ [x]).length _
    rw [rcs_snoc, List.length_append]
    exact ho
  · have hb2 : Below w.heap.size w (W.alloc (.cells (its x).toArray 47)) := hb.alloc hb.size _
    exact ⟨hgr.os.trans hb2.os, hgr.tape.trans hb2.tape, hgr.output.trans hb2.output, Nat.le_trans hb2.size hgr.size, fun k hk => (hgr.block k (by have := hb2.size; omega) (fun e => by have := (h.lt _ e.symm).1; omega)).trans (hb2.block k (by omega))⟩
section
variable [Inhabited It]
theorem sv_below {B : Nat} {w0 W : World} {g : Nat} {d : Array Ei} (h : Sv w0 g 0 d W) (hB : B ≤ w0.heap.size) (hg : B ≤ g) : Below B w0 W := by
  obtain ⟨q, os, rfl⟩ := h
  have hsz : w0.heap.size ≤ (Go.Proofs.sortWorldK ies 9 w0 g 0 q d os).heap.size := by
    unfold Go.Proofs.sortWorldK grow putRowK Go.Sort.putRow Go.Sort.mapBlock Go.Sort.ahead
    simp
  refine ⟨rfl, rfl, rfl, hsz, fun k hk => ?_⟩
  unfold Go.Proofs.sortWorldK grow putRowK Go.Sort.putRow Go.Sort.mapBlock Go.Sort.ahead
  simp only
  rw [Array.getElem?_append_left (by simp; omega), Array.getElem?_modify, if_neg (by omega)]
theorem holdsI {w : World} {g : Nat} {L : List It} (hc : ∀ i u, (rcs its L)[i]? = some u → w.cell? ⟨g, i, none⟩ = some u) (hf : ∀ i, w.frozen? ⟨g, i, none⟩ = false) : HoldsK ies 9 w g 0 (SS.tag L).toArray := by
  intro j hj
  rw [Go.Sort.size_flatK] at hj
  have hj' : j < L.length * 9 := by have := SS.tag_len L; simpa [this] using hj
  refine ⟨?_, hf _⟩
  have h1 : j / 9 < L.length := by omega
  have h2 := flat_at its 9 its_len L (j / 9) h1 (j % 9) (Nat.mod_lt _ (by omega))
  rw [show j / 9 * 9 + j % 9 = j by omega] at h2
  have h3 : j % 9 < (its L[j / 9]).length := by rw [its_len]; exact Nat.mod_lt _ (by omega)
  have h4 := hc j ((its L[j / 9])[j % 9]) (by unfold rcs; rw [h2, List.getElem?_eq_getElem h3])
  rw [Nat.zero_add, h4, Go.Sort.get_flatK _ _ _ _ hj]
  rw [SS.tag_at L (j / 9) h1]
  show some _ = some (id (its L[j / 9])[j % 9]!)
  rw [getElem!_pos (its L[j / 9]) (j % 9) h3]
  rfl
def StP (B : Nat) (L : List It) (a : Option Addr) (w : World) (e : Ending) (w' : World) : Prop := e = .returned (.tuple #[]) ∧ Hid (Rw 9 its w' a (SS.rnk ltI L) ∧ Below B w w')
theorem xsort {B : Nat} {w : World} {a : Option Addr} {cap : Nat} {L : List It} (h : Oi B w (.slice a L.length cap) L) (hB : B ≤ w.heap.size) (hl : L.length ≤ 1000000) : Calls Try.prog 48 #[.slice a L.length cap, .func (.func 49) #[] #[]] w (StP B L a w) := by
  have HC : Hid (Calls Try.prog 71 #[.slice a L.length cap, .int .i64 L.length, .func (.func 49) #[] #[]] w fun x w' => x = .returned (.tuple #[]) ∧ Hid (StP B L a w (.returned (.tuple #[])) w')) := by
    by_cases h0 : L.length = 0
    · obtain rfl : L = [] := List.length_eq_zero_iff.1 h0
      refine (xstable0 a cap w).mono ?_
      rintro x w' ⟨rfl, rfl⟩
      exact ⟨rfl, rfl, fun hh => by simp [SS.rnk] at hh, Below.refl _ _⟩
    · obtain ⟨a2, c2, e0, hcap, hrd⟩ := own_read h h.1
      injection e0 with e1 e2 e3
      subst e1
      obtain ⟨g, rfl, hBg, hgl, hcell⟩ := hrd (by omega)
      have hH := holdsI hcell (fun i => own_froz h i)
      have hsz : (SS.tag L).toArray.size = L.length := by simp [SS.tag_len]
      have R : Ro w g 0 (SS.tag L).toArray := ⟨⟨ies_len, ies_one, hH, hgl⟩, by rw [hsz]; exact hl⟩
      refine (xstable R hsz (fun i j hij hj => ?_)).mono ?_
      · rw [SS.tag_at L i (by omega), SS.tag_at L j hj]
        exact hij
      · rintro x w' ⟨rfl, d', hv, hp, hso⟩
        have hd := SS.is_rnk swoI L d' hp hso
        have hds : d'.size = L.length := hp.1.trans hsz
        refine ⟨rfl, rfl, fun _ => ⟨g, 0, rfl, SWK.lt hv hgl, fun i hi j hj => ?_⟩, sv_below hv hB hBg⟩
        have hi2 : i < d'.size := by rw [hds, ← SS.rnk_len ltI L]; exact hi
        have h1 := (SWK.holds hv hgl hH (hds.trans hsz.symm)).cell hi2 hj
        rw [h1.1]
        have e1 : (SS.rnk ltI L)[i] = d'[i]!.1 := by
          have : (SS.rnk ltI L)[i]? = some d'[i]!.1 := by
            rw [← hd, List.getElem?_map, Array.getElem?_toList, Array.getElem?_eq_getElem hi2, getElem!_pos d' i hi2]
            rfl
          exact (List.getElem?_eq_some_iff.1 this).2
        rw [e1]
        have h3 : j < (its d'[i]!.1).length := by rw [its_len]; exact hj
        show some (its d'[i]!.1)[j]! = _
        rw [getElem!_pos _ j h3, List.getElem?_eq_getElem h3]
  clear h hB hl
  generalize L.length = n at *
  go_enter Try.func48, Try.ntmps48
  go_wp2_with (go_at_call 71; refine HC.out.mono ?_; clear HC; rintro x w1 ⟨rfl, HZ⟩)
  refine bodyPost_ret (results_none rfl _ _ _) rfl ?_
  exact HZ.out
end
end Go.Proofs.Ytheikjjehidagaa

/- layer 17: an item with texts of its own; items ranked, by the program -/
namespace Go.Proofs.Ytheikjjehidagaa
open Go.RowKit
set_option linter.unusedVariables false
set_option linter.unusedSimpArgs false
open Go.Sort (grow SWO PermIn SortedIn HoldsK swp putRowK)
open H5 (It its its_len its_one)
set_option maxRecDepth 20000
set_option linter.unusedSectionVars false
def smI (x : It) : Prop := x.l.size ≤ 281474976710656 ∧ x.a.i.size ≤ 281474976710656 ∧ x.a.c.size ≤ 281474976710656
theorem res47 {w : World} {g : Nat} {v0 v1 v2 v3 v4 v5 v6 v7 v8 : Value} (h : Bx w g #[v0, v1, v2, v3, v4, v5, v6, v7, v8] 47) : (loadVar 47 ⟨g, 0, none⟩).run Try.prog w = .ok (.agg #[v0, v1, v2, v3, v4, v5, v6, v7, v8]) w :=
  run_loadVar_row w g 47 47 _ (0, 0) _ h Try.underlying47 rfl (by kernel_rfl)
/-- the box of an item behind a store of what it holds -/
theorem it_set {w w2 : World} {b j : Nat} {cs : Array Value} {v : Value} (h : Bx w2 b cs 47) (hb : Below w.heap.size w w2) (hbw : w.heap.size ≤ b) (hj : cs[j]? = some v) (hv : cs.setIfInBounds j v = cs) : Bx (w2.setCell ⟨b, j, none⟩ v) b cs 47 ∧ Below w.heap.size w (w2.setCell ⟨b, j, none⟩ v) := by
  have := h.setc j v
  rw [hv] at this
  exact ⟨this, hb.setCell (p := ⟨b, j, none⟩) hbw v⟩
def ItP (x : It) (w : World) (e : Ending) (w' : World) : Prop := e = .returned (.agg (its x).toArray) ∧ Below w.heap.size w w'
set_option maxHeartbeats 16000000 in
theorem xitem (x : It) (hx : smI x) (w : World) : Calls Try.prog 47 #[.agg (its x).toArray] w (ItP x w) := by
  obtain ⟨l, q, ⟨ai, a1, a2, am, ac⟩, p, c⟩ := x
  obtain ⟨hx1, hx2, hx3⟩ := hx
  simp only [its] at *
  unfold ItP
  simp only [its]
  have H1 : Hid (∀ w, Calls Try.prog 63 #[.agg #[.string l, .int .i64 q]] w fun e w' => e = .returned (.agg #[.string l, .int .i64 q]) ∧ Below w.heap.size w w') := fun w => xapart ⟨l, q⟩ hx1 w
  have H2 : Hid (∀ w, Calls Try.prog 70 #[.string ai] w fun e w' => e = .returned (.string ai) ∧ Below w.heap.size w w') := fun w => xclone ai hx2 w
  have H3 : Hid (∀ w, Calls Try.prog 70 #[.string ac] w fun e w' => e = .returned (.string ac) ∧ Below w.heap.size w w') := fun w => xclone ac hx3 w
  obtain ⟨w1, hw1⟩ : ∃ w1, w1 = (w.alloc (.cells #[.string l, .int .i64 q, .string ai, .int .i64 a1, .int .i64 a2, .int .i64 am, .string ac, .int .i64 p, .int .i64 c] 47)).alloc (.cells #[.string ⟨#[]⟩, .int .i64 0, .string ⟨#[]⟩, .int .i64 0, .int .i64 0, .int .i64 0, .string ⟨#[]⟩, .int .i64 0, .int .i64 0] 47) := ⟨_, rfl⟩
  have HW : Hid ((w.alloc (.cells #[.string l, .int .i64 q, .string ai, .int .i64 a1, .int .i64 a2, .int .i64 am, .string ac, .int .i64 p, .int .i64 c] 47)).alloc (.cells #[.string ⟨#[]⟩, .int .i64 0, .string ⟨#[]⟩, .int .i64 0, .int .i64 0, .int .i64 0, .string ⟨#[]⟩, .int .i64 0, .int .i64 0] 47) = w1) := hw1.symm
  have hX0 : Bx w1 w.heap.size #[.string l, .int .i64 q, .string ai, .int .i64 a1, .int .i64 a2, .int .i64 am, .string ac, .int .i64 p, .int .i64 c] 47 := by rw [hw1]; exact (Bx.new w _ _).kept (World.grownBy_alloc _ _ none) (by simp)
  have hX1 : Bx w1 (w.heap.size + 1) #[.string ⟨#[]⟩, .int .i64 0, .string ⟨#[]⟩, .int .i64 0, .int .i64 0, .int .i64 0, .string ⟨#[]⟩, .int .i64 0, .int .i64 0] 47 := by
    rw [hw1]
    have := Bx.new (w.alloc (.cells #[.string l, .int .i64 q, .string ai, .int .i64 a1, .int .i64 a2, .int .i64 am, .string ac, .int .i64 p, .int .i64 c] 47)) #[.string ⟨#[]⟩, .int .i64 0, .string ⟨#[]⟩, .int .i64 0, .int .i64 0, .int .i64 0, .string ⟨#[]⟩, .int .i64 0, .int .i64 0] 47
    rw [World.size_alloc] at this
    exact this
  have hB : Below w.heap.size w w1 := by rw [hw1]; exact ((Below.refl _ w).alloc (Nat.le_refl _) _).alloc (by simp) _
  -- what is kept along the way
  have HS : Hid (∀ W, (Bx W w.heap.size #[.string l, .int .i64 q, .string ai, .int .i64 a1, .int .i64 a2, .int .i64 am, .string ac, .int .i64 p, .int .i64 c] 47 ∧ Bx W (w.heap.size + 1) #[.string ⟨#[]⟩, .int .i64 0, .string ⟨#[]⟩, .int .i64 0, .int .i64 0, .int .i64 0, .string ⟨#[]⟩, .int .i64 0, .int .i64 0] 47 ∧ Below w.heap.size w W) → ∀ W', Below W.heap.size W W' → ∀ j v, (#[.string l, .int .i64 q, .string ai, .int .i64 a1, .int .i64 a2, .int .i64 am, .string ac, .int .i64 p, .int .i64 c] : Array Value)[j]? = some v → (#[.string l, .int .i64 q, .string ai, .int .i64 a1, .int .i64 a2, .int .i64 am, .string ac, .int .i64 p, .int .i64 c] : Array Value).setIfInBounds j v = #[.string l, .int .i64 q, .string ai, .int .i64 a1, .int .i64 a2, .int .i64 am, .string ac, .int .i64 p, .int .i64 c] →
      (Bx (W'.setCell ⟨w.heap.size, j, none⟩ v) w.heap.size #[.string l, .int .i64 q, .string ai, .int .i64 a1, .int .i64 a2, .int .i64 am, .string ac, .int .i64 p, .int .i64 c] 47 ∧ Bx (W'.setCell ⟨w.heap.size, j, none⟩ v) (w.heap.size + 1) #[.string ⟨#[]⟩, .int .i64 0, .string ⟨#[]⟩, .int .i64 0, .int .i64 0, .int .i64 0, .string ⟨#[]⟩, .int .i64 0, .int .i64 0] 47 ∧ Below w.heap.size w (W'.setCell ⟨w.heap.size, j, none⟩ v))) := fun W h W' hb j v hj hv => by
    have h0 := h.1.below hb h.1.lt
    have h1 := h.2.1.below hb h.2.1.lt
    have h2 := it_set h0 (h.2.2.trans (hb.mono h.2.2.size)) (Nat.le_refl _) hj hv
    exact ⟨h2.1, h1.oset (by omega) _ _, h2.2⟩
  have HS1 : Hid (Bx w1 w.heap.size #[.string l, .int .i64 q, .string ai, .int .i64 a1, .int .i64 a2, .int .i64 am, .string ac, .int .i64 p, .int .i64 c] 47 ∧ Bx w1 (w.heap.size + 1) #[.string ⟨#[]⟩, .int .i64 0, .string ⟨#[]⟩, .int .i64 0, .int .i64 0, .int .i64 0, .string ⟨#[]⟩, .int .i64 0, .int .i64 0] 47 ∧ Below w.heap.size w w1) := ⟨hX0, hX1, hB⟩
  have c0 : w1.cell? ⟨w.heap.size, 0, none⟩ = some (.string l) := hX0.cell 0
  have c1 : w1.cell? ⟨w.heap.size, 1, none⟩ = some (.int .i64 q) := hX0.cell 1
  clear hw1 hX0 hX1 hB hx1 hx2 hx3
  go_enter Try.func47, Try.ntmps47
  go_upto_region 1 with fail
  rw [HW.out]
  clear HW
  go_upto_region 2 with (go_at_call 63; refine (H1.out _).mono ?_; clear H1; rintro e w2 ⟨rfl, hb⟩; have HB2 := hid_in hb; have k0 := (HS1.out.1.below hb HS1.out.1.lt).cell 0; have k1 := (HS1.out.1.below hb HS1.out.1.lt).cell 1; have f0 := (HS1.out.1.below hb HS1.out.1.lt).froz 0; have f1 := (HS1.out.1.below hb HS1.out.1.lt).froz 1; simp at k0 k1; clear hb c0 c1)
  have HSa := hid_in (HS.out w1 HS1.out w2 HB2.out 0 (.string l) rfl rfl)
  have HS2 := hid_in (HS.out _ HSa.out _ (Below.refl _ _) 1 (.int .i64 q) rfl rfl)
  clear HSa HB2 HS1 k0 k1 f0 f1
  generalize (w2.setCell ⟨w.heap.size, 0, none⟩ (.string l)).setCell ⟨w.heap.size, 1, none⟩ (.int .i64 q) = w3 at *
  have c2 : w3.cell? ⟨w.heap.size, 2, none⟩ = some (.string ai) := HS2.out.1.cell 2
  go_upto_region 3 with (go_at_call 70; refine (H2.out _).mono ?_; clear H2; rintro e w4 ⟨rfl, hb⟩; have HB4 := hid_in hb; have k2 := (HS2.out.1.below hb HS2.out.1.lt).cell 2; have f2 := (HS2.out.1.below hb HS2.out.1.lt).froz 2; simp at k2; clear hb c2)
  have HS3 := hid_in (HS.out w3 HS2.out w4 HB4.out 2 (.string ai) rfl rfl)
  clear HS2 HB4 k2 f2
  generalize w4.setCell ⟨w.heap.size, 2, none⟩ (.string ai) = w5 at *
  have c6 : w5.cell? ⟨w.heap.size, 6, none⟩ = some (.string ac) := HS3.out.1.cell 6
  go_upto_region 4 with (go_at_call 70; refine (H3.out _).mono ?_; clear H3; rintro e w6 ⟨rfl, hb⟩; have HB6 := hid_in hb; have k6 := (HS3.out.1.below hb HS3.out.1.lt).cell 6; have f6 := (HS3.out.1.below hb HS3.out.1.lt).froz 6; simp at k6; clear hb c6)
  have HS4 := hid_in (HS.out w5 HS3.out w6 HB6.out 6 (.string ac) rfl rfl)
  clear HS3 HB6 k6 f6 HS
  generalize w6.setCell ⟨w.heap.size, 6, none⟩ (.string ac) = w7 at *
  have d0 : w7.cell? ⟨w.heap.size, 0, none⟩ = some (.string l) := HS4.out.1.cell 0
  have d1 : w7.cell? ⟨w.heap.size, 1, none⟩ = some (.int .i64 q) := HS4.out.1.cell 1
  have d2 : w7.cell? ⟨w.heap.size, 2, none⟩ = some (.string ai) := HS4.out.1.cell 2
  have d3 : w7.cell? ⟨w.heap.size, 3, none⟩ = some (.int .i64 a1) := HS4.out.1.cell 3
  have d4 : w7.cell? ⟨w.heap.size, 4, none⟩ = some (.int .i64 a2) := HS4.out.1.cell 4
  have d5 : w7.cell? ⟨w.heap.size, 5, none⟩ = some (.int .i64 am) := HS4.out.1.cell 5
  have d6 : w7.cell? ⟨w.heap.size, 6, none⟩ = some (.string ac) := HS4.out.1.cell 6
  have d7 : w7.cell? ⟨w.heap.size, 7, none⟩ = some (.int .i64 p) := HS4.out.1.cell 7
  have d8 : w7.cell? ⟨w.heap.size, 8, none⟩ = some (.int .i64 c) := HS4.out.1.cell 8
  have e0 : w7.cell? ⟨w.heap.size + 1, 0, none⟩ = some (.string ⟨#[]⟩) := HS4.out.2.1.cell 0
  have f0 : w7.frozen? ⟨w.heap.size + 1, 0, none⟩ = false := HS4.out.2.1.froz 0
  have e1 : w7.cell? ⟨w.heap.size + 1, 1, none⟩ = some (.int .i64 0) := HS4.out.2.1.cell 1
  have f1 : w7.frozen? ⟨w.heap.size + 1, 1, none⟩ = false := HS4.out.2.1.froz 1
  have e2 : w7.cell? ⟨w.heap.size + 1, 2, none⟩ = some (.string ⟨#[]⟩) := HS4.out.2.1.cell 2
  have f2 : w7.frozen? ⟨w.heap.size + 1, 2, none⟩ = false := HS4.out.2.1.froz 2
  have e3 : w7.cell? ⟨w.heap.size + 1, 3, none⟩ = some (.int .i64 0) := HS4.out.2.1.cell 3
  have f3 : w7.frozen? ⟨w.heap.size + 1, 3, none⟩ = false := HS4.out.2.1.froz 3
  have e4 : w7.cell? ⟨w.heap.size + 1, 4, none⟩ = some (.int .i64 0) := HS4.out.2.1.cell 4
  have f4 : w7.frozen? ⟨w.heap.size + 1, 4, none⟩ = false := HS4.out.2.1.froz 4
  have e5 : w7.cell? ⟨w.heap.size + 1, 5, none⟩ = some (.int .i64 0) := HS4.out.2.1.cell 5
  have f5 : w7.frozen? ⟨w.heap.size + 1, 5, none⟩ = false := HS4.out.2.1.froz 5
  have e6 : w7.cell? ⟨w.heap.size + 1, 6, none⟩ = some (.string ⟨#[]⟩) := HS4.out.2.1.cell 6
  have f6 : w7.frozen? ⟨w.heap.size + 1, 6, none⟩ = false := HS4.out.2.1.froz 6
  have e7 : w7.cell? ⟨w.heap.size + 1, 7, none⟩ = some (.int .i64 0) := HS4.out.2.1.cell 7
  have f7 : w7.frozen? ⟨w.heap.size + 1, 7, none⟩ = false := HS4.out.2.1.froz 7
  have e8 : w7.cell? ⟨w.heap.size + 1, 8, none⟩ = some (.int .i64 0) := HS4.out.2.1.cell 8
  have f8 : w7.frozen? ⟨w.heap.size + 1, 8, none⟩ = false := HS4.out.2.1.froz 8
  go_wp2_with fail
  have HZ : Bx _ (w.heap.size + 1) #[.string l, .int .i64 q, .string ai, .int .i64 a1, .int .i64 a2, .int .i64 am, .string ac, .int .i64 p, .int .i64 c] 47 := (((((((((HS4.out.2.1.setc 0 (.string l)).setc 1 (.int .i64 q)).setc 2 (.string ai)).setc 3 (.int .i64 a1)).setc 4 (.int .i64 a2)).setc 5 (.int .i64 am)).setc 6 (.string ac)).setc 7 (.int .i64 p)).setc 8 (.int .i64 c))
  have HBz := (((((((((HS4.out.2.2.setCell (p := ⟨w.heap.size + 1, 0, none⟩) (by simp) (.string l)).setCell (p := ⟨w.heap.size + 1, 1, none⟩) (by simp) (.int .i64 q)).setCell (p := ⟨w.heap.size + 1, 2, none⟩) (by simp) (.string ai)).setCell (p := ⟨w.heap.size + 1, 3, none⟩) (by simp) (.int .i64 a1)).setCell (p := ⟨w.heap.size + 1, 4, none⟩) (by simp) (.int .i64 a2)).setCell (p := ⟨w.heap.size + 1, 5, none⟩) (by simp) (.int .i64 am)).setCell (p := ⟨w.heap.size + 1, 6, none⟩) (by simp) (.string ac)).setCell (p := ⟨w.heap.size + 1, 7, none⟩) (by simp) (.int .i64 p)).setCell (p := ⟨w.heap.size + 1, 8, none⟩) (by simp) (.int .i64 c))
  refine bodyPost_ret (res_cell _ _ 2 47 _ _ _ rfl rfl (res47 HZ)) rfl ?_
  exact ⟨rfl, HBz⟩
end Go.Proofs.Ytheikjjehidagaa

/- layer 17: items ranked, the last one, their lots, by the program -/
namespace Go.Proofs.Ytheikjjehidagaa
open Go.RowKit
set_option linter.unusedVariables false
set_option linter.unusedSimpArgs false
open Go.Sort (grow SWO PermIn SortedIn HoldsK swp putRowK)
open H5 (It its its_len its_one)
set_option maxRecDepth 20000
set_option linter.unusedSectionVars false
theorem its_at {w wr : World} {blk off : Nat} {L : List It} (h : ∀ i (h : i < L.length), ∀ j, j < 9 → w.cell? ⟨blk, off + i * 9 + j, none⟩ = (its L[i])[j]?) (hb : Below w.heap.size w wr) (hl : blk < w.heap.size) {k : Nat} (hk : k < L.length) : ∀ j, j < 9 → wr.cell? ⟨blk, off + k * 9 + j, none⟩ = (its L[k])[j]? := fun j hj => (hb.cell (p := ⟨blk, off + k * 9 + j, none⟩) hl).trans (h k hk j hj)
def RkP (L : List It) (n : Nat) (w : World) (e : Ending) (w' : World) : Prop := ∃ a cap, e = .returned (.slice a n cap) ∧ Hid (Rw 9 its w' a L ∧ Below w.heap.size w w')
section
variable [Inhabited It]
set_option maxHeartbeats 16000000 in
theorem xrankl (L : List It) (hl : L.length ≤ 1000000) (hs : ∀ x ∈ L, smI x) (a : Option Addr) (cap : Nat) (w : World) (h : Rw 9 its w a L) : Calls Try.prog 30 #[.slice a L.length cap] w (RkP (SS.rnk ltI L) L.length w) := by
  have HE : Hid (Rw 9 its w a L) := h
  have HS : Hid (∀ x ∈ L, smI x) := hs
  have HL : Hid (L.length ≤ 1000000) := hl
  have hlz : (L.length : Int) ≤ 1000000 := by omega
  clear h hs hl
  go_enter Try.func30, Try.ntmps30
  go_wp2_with fail
  go_loopw [3, 8] (fun s i wr => ∃ (k : Nat) (v : Value), k ≤ L.length ∧ v = s ∧ i = .int .i64 k ∧ Hid (Oi w.heap.size wr v (L.take k) ∧ Below w.heap.size w wr))
    (fun _ i _ => L.length - (intOf i).toNat)
  case atStart => exact ⟨0, _, Nat.zero_le _, rfl, rfl, World.ownsRow_nil _ _ _ _, Below.refl _ _⟩
  case round =>
    obtain ⟨k, v, hk, rfl, rfl, HR⟩ := hrel
    by_cases hkn : k < L.length
    · have hkz : (k : Int) < (L.length : Int) := by omega
      obtain ⟨blk, off, rfl, hbl, hcs⟩ := HE.out (by omega)
      have hc9 := its_at hcs HR.out.2 hbl hkn
      obtain ⟨wa, hwa⟩ : ∃ wa, wr.alloc (.cells (its L[k]).toArray 47) = wa := ⟨_, rfl⟩
      have hXa : Bx wa wr.heap.size (its L[k]).toArray 47 := by rw [← hwa]; exact Bx.new _ _ _
      have hba : Below wr.heap.size wr wa := by rw [← hwa]; exact below_a _ _
      have HC : Hid (Calls Try.prog 47 #[.agg (its L[k]).toArray] wa fun e w2 => e = .returned (.agg (its L[k]).toArray) ∧ ∃ v' w6, (Builtin.append_ #[50, 50] 50 #[v, .slice (some ⟨w2.heap.size, 0, none⟩) 1 1]).run Try.prog (w2.alloc (.cells (its L[k]).toArray 47)) = .ok v' w6 ∧ Hid (Oi w.heap.size w6 v' (L.take (k + 1)) ∧ Below w.heap.size w w6)) := (xitem L[k] (HS.out _ (List.getElem_mem hkn)) wa).mono fun e w2 hh => by
        obtain ⟨rfl, hb2⟩ := hh
        obtain ⟨v', w6, hr, HZ⟩ := ap_item HR.out.1 HR.out.2.size (by have := HL.out; rw [List.length_take]; omega) L[k] (hba.trans (hb2.mono hba.size))
        rw [List.take_append_getElem hkn] at HZ
        exact ⟨rfl, v', w6, hr, HZ.out.1, HR.out.2.trans HZ.out.2⟩
      clear hcs HR hba
      generalize L[k] = y at *
      obtain ⟨l, q, ⟨ai, a1, a2, am, ac⟩, p, c⟩ := y
      simp only [its] at *
      have c0 : wr.cell? ⟨blk, off + k * 9, none⟩ = some (.string l) := hc9 0 (by omega)
      have c1 : wr.cell? ⟨blk, off + k * 9 + 1, none⟩ = some (.int .i64 q) := hc9 1 (by omega)
      have c2 : wr.cell? ⟨blk, off + k * 9 + 2, none⟩ = some (.string ai) := hc9 2 (by omega)
      have c3 : wr.cell? ⟨blk, off + k * 9 + 3, none⟩ = some (.int .i64 a1) := hc9 3 (by omega)
      have c4 : wr.cell? ⟨blk, off + k * 9 + 4, none⟩ = some (.int .i64 a2) := hc9 4 (by omega)
      have c5 : wr.cell? ⟨blk, off + k * 9 + 5, none⟩ = some (.int .i64 am) := hc9 5 (by omega)
      have c6 : wr.cell? ⟨blk, off + k * 9 + 6, none⟩ = some (.string ac) := hc9 6 (by omega)
      have c7 : wr.cell? ⟨blk, off + k * 9 + 7, none⟩ = some (.int .i64 p) := hc9 7 (by omega)
      have c8 : wr.cell? ⟨blk, off + k * 9 + 8, none⟩ = some (.int .i64 c) := hc9 8 (by omega)
      have d0 : wa.cell? ⟨wr.heap.size, 0, none⟩ = some (.string l) := hXa.cell 0
      have d1 : wa.cell? ⟨wr.heap.size, 1, none⟩ = some (.int .i64 q) := hXa.cell 1
      have d2 : wa.cell? ⟨wr.heap.size, 2, none⟩ = some (.string ai) := hXa.cell 2
      have d3 : wa.cell? ⟨wr.heap.size, 3, none⟩ = some (.int .i64 a1) := hXa.cell 3
      have d4 : wa.cell? ⟨wr.heap.size, 4, none⟩ = some (.int .i64 a2) := hXa.cell 4
      have d5 : wa.cell? ⟨wr.heap.size, 5, none⟩ = some (.int .i64 am) := hXa.cell 5
      have d6 : wa.cell? ⟨wr.heap.size, 6, none⟩ = some (.string ac) := hXa.cell 6
      have d7 : wa.cell? ⟨wr.heap.size, 7, none⟩ = some (.int .i64 p) := hXa.cell 7
      have d8 : wa.cell? ⟨wr.heap.size, 8, none⟩ = some (.int .i64 c) := hXa.cell 8
      clear hc9 hXa
      go_upto_region 5 with fail
      try rw [hwa]
      clear hwa c0 c1 c2 c3 c4 c5 c6 c7 c8
      go_wp2_with (first | (go_at_call 47; refine HC.out.mono ?_; clear HC; rintro e w2 ⟨rfl, v', w6, hr6, HZ⟩) | (at_builtin; refine Lib.wpList_append_run _ rfl _ _ 50 50 rfl _ _ rfl rfl _ w6 hr6 ?_))
      go_roundw
      case rel => exact ⟨k + 1, v', by omega, rfl, by simp, HZ.out⟩
      case measure => simp [intOf]; omega
    · have hkz : ¬ (k : Int) < (L.length : Int) := by omega
      have hO : Oi w.heap.size wr v L := by
        have := HR.out.1
        rwa [List.take_of_length_le (by omega)] at this
      obtain ⟨a', cap', rfl, _, _⟩ := own_rw its_len hO rfl
      have HC : Hid (Calls Try.prog 48 #[.slice a' L.length cap', .func (.func 49) #[] #[]] wr fun x w' => x = .returned (.tuple #[]) ∧ Hid (Rw 9 its w' a' (SS.rnk ltI L) ∧ Below w.heap.size w w')) := (xsort hO HR.out.2.size HL.out).mono fun x w' hh => ⟨hh.1, hh.2.out.1, HR.out.2.trans hh.2.out.2⟩
      clear HR hO
      go_wp2_with (go_at_call 48; refine HC.out.mono ?_; clear HC; rintro x w2 ⟨rfl, HZ⟩)
      go_ret
      exact ⟨a', cap', rfl, HZ.out⟩
end
/-- the lots of items -/
def lotsOf (L : List It) : List Lt := L.map fun x => ⟨x.l, x.q⟩
theorem lotsOf_take {L : List It} {k : Nat} (h : k < L.length) : lotsOf (L.take (k + 1)) = lotsOf (L.take k) ++ [⟨L[k].l, L[k].q⟩] := by
  unfold lotsOf
  rw [List.take_succ_eq_append_getElem h, List.map_append]
  rfl
theorem lotsOf_len (L : List It) : (lotsOf L).length = L.length := by unfold lotsOf; simp
set_option maxHeartbeats 16000000 in
theorem xof (L : List It) (hl : L.length ≤ 1000000) (hs : ∀ x ∈ L, smI x) (a : Option Addr) (cap : Nat) (w : World) (h : Rw 9 its w a L) : Calls Try.prog 27 #[.slice a L.length cap] w (MgP [] (lotsOf L) w) := by
  have HE : Hid (Rw 9 its w a L) := h
  have HS : Hid (∀ x ∈ L, smI x) := hs
  have HL : Hid (L.length ≤ 1000000) := hl
  have hlz : (L.length : Int) ≤ 1000000 := by omega
  clear h hs hl
  go_enter Try.func27, Try.ntmps27
  go_wp2_with fail
  go_loopw [4, 9] (fun s i wr => ∃ (k : Nat) (v : Value), k ≤ L.length ∧ v = s ∧ i = .int .i64 k ∧ Hid (Ol w.heap.size wr v (lotsOf (L.take k)) ∧ Below w.heap.size w wr))
    (fun _ i _ => L.length - (intOf i).toNat)
  case atStart => exact ⟨0, _, Nat.zero_le _, rfl, rfl, World.ownsRow_nil _ _ _ _, Below.refl _ _⟩
  case round =>
    obtain ⟨k, v, hk, rfl, rfl, HR⟩ := hrel
    by_cases hkn : k < L.length
    · have hkz : (k : Int) < (L.length : Int) := by omega
      obtain ⟨blk, off, rfl, hbl, hcs⟩ := HE.out (by omega)
      have hc9 := its_at hcs HR.out.2 hbl hkn
      obtain ⟨wa, hwa⟩ : ∃ wa, wr.alloc (.cells (its L[k]).toArray 47) = wa := ⟨_, rfl⟩
      have hXa : Bx wa wr.heap.size (its L[k]).toArray 47 := by rw [← hwa]; exact Bx.new _ _ _
      have hba : Below wr.heap.size wr wa := by rw [← hwa]; exact below_a _ _
      obtain ⟨v', w6, hr6, HZ0⟩ := ap_lot HR.out.1 HR.out.2.size (by have := HL.out; rw [lotsOf_len, List.length_take]; omega) ⟨L[k].l, L[k].q⟩ hba
      have HZ : Hid (Ol w.heap.size w6 v' (lotsOf (L.take (k + 1))) ∧ Below w.heap.size w w6) := by
        refine ⟨?_, HR.out.2.trans (HZ0.out.below HR.out.1 HR.out.2.size)⟩
        rw [lotsOf_take hkn]
        exact HZ0.out.o
      clear hcs HR hba HZ0
      generalize L[k] = y at *
      obtain ⟨l, q, ⟨ai, a1, a2, am, ac⟩, p, c⟩ := y
      simp only [its] at *
      have c0 : wr.cell? ⟨blk, off + k * 9, none⟩ = some (.string l) := hc9 0 (by omega)
      have c1 : wr.cell? ⟨blk, off + k * 9 + 1, none⟩ = some (.int .i64 q) := hc9 1 (by omega)
      have c2 : wr.cell? ⟨blk, off + k * 9 + 2, none⟩ = some (.string ai) := hc9 2 (by omega)
      have c3 : wr.cell? ⟨blk, off + k * 9 + 3, none⟩ = some (.int .i64 a1) := hc9 3 (by omega)
      have c4 : wr.cell? ⟨blk, off + k * 9 + 4, none⟩ = some (.int .i64 a2) := hc9 4 (by omega)
      have c5 : wr.cell? ⟨blk, off + k * 9 + 5, none⟩ = some (.int .i64 am) := hc9 5 (by omega)
      have c6 : wr.cell? ⟨blk, off + k * 9 + 6, none⟩ = some (.string ac) := hc9 6 (by omega)
      have c7 : wr.cell? ⟨blk, off + k * 9 + 7, none⟩ = some (.int .i64 p) := hc9 7 (by omega)
      have c8 : wr.cell? ⟨blk, off + k * 9 + 8, none⟩ = some (.int .i64 c) := hc9 8 (by omega)
      have d0 : wa.cell? ⟨wr.heap.size, 0, none⟩ = some (.string l) := hXa.cell 0
      have d1 : wa.cell? ⟨wr.heap.size, 1, none⟩ = some (.int .i64 q) := hXa.cell 1
      have d2 : wa.cell? ⟨wr.heap.size, 2, none⟩ = some (.string ai) := hXa.cell 2
      have d3 : wa.cell? ⟨wr.heap.size, 3, none⟩ = some (.int .i64 a1) := hXa.cell 3
      have d4 : wa.cell? ⟨wr.heap.size, 4, none⟩ = some (.int .i64 a2) := hXa.cell 4
      have d5 : wa.cell? ⟨wr.heap.size, 5, none⟩ = some (.int .i64 am) := hXa.cell 5
      have d6 : wa.cell? ⟨wr.heap.size, 6, none⟩ = some (.string ac) := hXa.cell 6
      have d7 : wa.cell? ⟨wr.heap.size, 7, none⟩ = some (.int .i64 p) := hXa.cell 7
      have d8 : wa.cell? ⟨wr.heap.size, 8, none⟩ = some (.int .i64 c) := hXa.cell 8
      clear hc9 hXa
      go_upto_region 5 with fail
      try rw [hwa]
      clear hwa c0 c1 c2 c3 c4 c5 c6 c7 c8
      go_wp2_with (at_builtin; refine Lib.wpList_append_run _ rfl _ _ 22 22 rfl _ _ rfl rfl _ w6 hr6 ?_)
      go_roundw
      case rel => exact ⟨k + 1, v', by omega, rfl, by simp, HZ.out⟩
      case measure => simp [intOf]; omega
    · have hkz : ¬ (k : Int) < (L.length : Int) := by omega
      have hO : Ol w.heap.size wr v (lotsOf L) := by
        have := HR.out.1
        rwa [List.take_of_length_le (by omega)] at this
      obtain ⟨a', cap', rfl, _, hr⟩ := Ol.read hO
      have HC : Hid (Calls Try.prog 11 #[.slice a' (lotsOf L).length cap'] wr fun x w' => ∃ a2 c2, x = .returned (.tuple #[.slice a2 (mrg [] (lotsOf L)).1.length c2, .int .i64 (mrg [] (lotsOf L)).2]) ∧ Hid (MgP [] (lotsOf L) w (.returned (.tuple #[.slice a2 (mrg [] (lotsOf L)).1.length c2, .int .i64 (mrg [] (lotsOf L)).2])) w')) := (xmerge (lotsOf L) (by rw [lotsOf_len]; exact HL.out) (fun x hx => by
        obtain ⟨y, hy, rfl⟩ := List.mem_map.1 hx
        exact (HS.out y hy).1) a' cap' wr hr).mono fun x w' hh => by
        obtain ⟨a2, c2, rfl, HZ⟩ := hh
        exact ⟨a2, c2, rfl, a2, c2, rfl, HZ.out.1, HR.out.2.trans (HZ.out.2.mono HR.out.2.size)⟩
      clear HR hO hr
      generalize (lotsOf L).length = n at *
      go_wp2_with (go_at_call 11; refine HC.out.mono ?_; clear HC; rintro x w2 ⟨a2, c2, rfl, HZ⟩)
      go_ret2
      exact HZ.out
end Go.Proofs.Ytheikjjehidagaa
