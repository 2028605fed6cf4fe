/- layer 17: two runs merged, by the program: the halves -/
import Derived.Test.YtheikjjehidagaaK1
import Derived.WalkKit
import Derived.ProofKit
import Derived.Handy
import Derived.WalkLawsBesides
import Derived.WalkSpells
import Derived.BigQuiet
import Derived.BigCall
import Derived.Deep.QuietTactic
import Derived.Deep.Light
import Derived.Deep.OwnRows
import Derived.Laws.AppendOwnNone
import Derived.Laws.Strings3
import Derived.Laws.RangeAny
import Derived.Deep.RegionWith
import Derived.Lib.BitFns
import Derived.Lib.Walk
import Derived.Lib.Strings
import Derived.Lib.OthersKept
import Derived.Deep.CutBlock
import Derived.Deep.DeepCutAuto
import Derived.Deep.LoopGhost
import Derived.Deep.RegionHeld3
import Derived.Lib.SmallJoins
import Derived.Maps.AppendAt
import Derived.Laws.IdiomStrings
import Derived.Lib.AppendZeros
import Derived.Deep.WholeRow
import Derived.Laws.BitsAllLaws
import Derived.Lib.ConvBytes
import Derived.Deep.RegionLaw
import Derived.Maps.OwnSet
import Derived.Maps.OwnOps
import Derived.Maps.RangeWalk
import Derived.Maps.Ext
import Derived.DeepKeys4
import Derived.Laws.StructEq
import Derived.Deep.MidRow
import Derived.Lib.Bytealg
import Derived.Lib.AppendZerosOnto
import Derived.Laws.MakeOwn
import Derived.Deep.Upon
import Derived.Sort.KeysCollected
import Derived.Shelf.SlSortCmp.KitK
namespace Go.Proofs.Ytheikjjehidagaa
open Go.RowKit
set_option linter.unusedVariables false
set_option linter.unusedSimpArgs false
open Go.Sort (grow SWO PermIn SortedIn HoldsK swp permIn_refl permIn_trans permIn_all swp_permIn)
open H5 (It its its_len its_one)
set_option maxRecDepth 20000
set_option linter.unusedSectionVars false
theorem num_c0 {a m b n : Nat} (h0 : a + 1 < m) (h1 : m + 1 < b) (h : b ≤ n) (hn : n ≤ 1000000) : ∃ D1 D2 mid nn : Nat, ((m : Int) - (a : Int) = (D1 : Int) ∧ wrap64 (D1 : Int) = (D1 : Int) ∧ ((D1 : Int) == 1) = false) ∧ ((b : Int) - (m : Int) = (D2 : Int) ∧ wrap64 (D2 : Int) = (D2 : Int) ∧ ((D2 : Int) == 1) = false) ∧
    (mid = (a + b) / 2 ∧ wrap64 (IntKind.u64.wrap (wrap64 ((a : Int) + (b : Int))) / 2) = (mid : Int)) ∧ (nn = mid + m ∧ (mid : Int) + (m : Int) = (nn : Int) ∧ wrap64 (nn : Int) = (nn : Int)) := by
  refine ⟨m - a, b - m, (a + b) / 2, (a + b) / 2 + m, ⟨by omega, by unfold wrap64; omega, ?_⟩, ⟨by omega, by unfold wrap64; omega, ?_⟩, ⟨rfl, mid_w rfl (by omega)⟩, rfl, by omega, by unfold wrap64; omega⟩
  · rw [beq_eq_false_iff_ne]; omega
  · rw [beq_eq_false_iff_ne]; omega
theorem num_c5 {a m b mid nn p n : Nat} (hp : p + 1 = nn) (hn : nn = mid + m) (hm : mid = (a + b) / 2) (h0 : a + 1 < m) (h1 : m + 1 < b) (hb : b ≤ n) (hn6 : n ≤ 1000000) : p ≤ 4000000 := by omega
/-- where the search begins and ends -/
theorem num_c1 {a m b mid nn : Nat} (h0 : a + 1 < m) (h1 : m + 1 < b) (hm : mid = (a + b) / 2) (hn : nn = mid + m) : ∃ lo hi p : Nat, ((m > mid ∧ lo + b = nn ∧ hi = mid) ∨ (m ≤ mid ∧ lo = a ∧ hi = m)) ∧ lo ≤ hi ∧ a ≤ lo ∧ hi ≤ m ∧ hi ≤ mid ∧ (nn : Int) - 1 = (p : Int) ∧ p + 1 = nn ∧ (mid < m → (nn : Int) - (b : Int) = (lo : Int)) := by
  by_cases h : mid < m
  · exact ⟨nn - b, mid, nn - 1, .inl ⟨h, by omega, rfl⟩, by omega, by omega, by omega, by omega, by omega, by omega, fun _ => by omega⟩
  · exact ⟨a, m, nn - 1, .inr ⟨by omega, rfl, rfl⟩, by omega, by omega, by omega, by omega, by omega, by omega, fun h2 => absurd h2 h⟩
theorem num_c2 {a m b mid nn lo hi p i j H n : Nat} {Q : Nat → Prop} (h0 : a + 1 < m) (h1 : m + 1 < b) (hb : b ≤ n) (hn6 : n ≤ 1000000) (hm : mid = (a + b) / 2) (hn : nn = mid + m) (hx : (m > mid ∧ lo + b = nn ∧ hi = mid) ∨ (m ≤ mid ∧ lo = a ∧ hi = m)) (hp : p + 1 = nn) (s : Srh Q lo hi i j) (hH1 : i ≤ H) (hH2 : H < j) :
    ∃ q : Nat, q = nn - 1 - H ∧ (p : Int) - (H : Int) = (q : Int) ∧ q < n ∧ H < n ∧ i + j ≤ 4000000 ∧ q ≤ 4000000 := by
  obtain ⟨s1, s2, s3, _⟩ := s
  exact ⟨nn - 1 - H, rfl, by omega, by omega, by omega, by omega, by omega⟩
theorem num_c3 {a m b mid nn lo hi s n : Nat} {Q : Nat → Prop} (h0 : a + 1 < m) (h1 : m + 1 < b) (hb : b ≤ n) (hn6 : n ≤ 1000000) (hm : mid = (a + b) / 2) (hn : nn = mid + m) (hx : (m > mid ∧ lo + b = nn ∧ hi = mid) ∨ (m ≤ mid ∧ lo = a ∧ hi = m)) (f : SS.Fnd Q lo hi s) :
    ∃ e : Nat, e = nn - s ∧ (nn : Int) - (s : Int) = (e : Int) ∧ wrap64 (e : Int) = (e : Int) ∧ a ≤ s ∧ s ≤ m ∧ m ≤ e ∧ e ≤ b ∧ s ≤ mid ∧ mid ≤ e ∧ a < mid ∧ mid < b := by
  obtain ⟨f1, f2, _⟩ := f
  exact ⟨nn - s, rfl, by omega, by unfold wrap64; omega, by omega, by omega, by omega, by omega, by omega, by omega, by omega, by omega⟩
theorem num_c4 {a b mid : Nat} (h : a < mid) (h2 : mid < b) : b - mid < b - a ∧ mid - a < b - a := by omega
section
variable [Inhabited It]
theorem sym_fin {a m b mid nn lo hi s e : Nat} {d d1 d2 d3 : Array Ei} (h0 : a + 1 < m) (h1 : m + 1 < b) (hb : b ≤ d.size) (hm : mid = (a + b) / 2) (hn : nn = mid + m) (hx : (m > mid ∧ lo + b = nn ∧ hi = mid) ∨ (m ≤ mid ∧ lo = a ∧ hi = m)) (f : SS.Fnd (fun c => ltI d[nn - 1 - c]!.1 d[c]!.1 = false) lo hi s) (he : e = nn - s)
    (ha : a ≤ s) (hsm : s ≤ m) (hme : m ≤ e) (heb : e ≤ b) (hsd : s ≤ mid) (hde : mid ≤ e)
    (k1 : SS.Rot s m e d d1 ∧ PermIn s e d d1) (k2 : SS.SmP ltI a s mid d1 d2) (k3 : SS.SmP ltI mid e b d2 d3) : SS.SmP ltI a m b d d3 := by
  have hs1 : d1.size = d.size := k1.1.1
  have hs2 : d2.size = d1.size := k2.1.1
  have p1 := SS.permIn_wide (a' := a) (b' := b) ha (Nat.le_trans hsm hme) heb hb k1.2
  have p2 := SS.permIn_wide (a' := a) (b' := b) (Nat.le_refl a) (Nat.le_trans ha hsd) (Nat.le_trans hde heb) (by rw [hs1]; exact hb) k2.1
  have p3 := SS.permIn_wide (a' := a) (b' := b) (Nat.le_trans ha hsd) (Nat.le_trans hde heb) (Nat.le_refl b) (by rw [hs2, hs1]; exact hb) k3.1
  refine ⟨permIn_trans _ _ _ _ _ (permIn_trans _ _ _ _ _ p1 p2) p3, fun hr => ?_⟩
  have hr1 := k1.1
  rw [he] at hr1
  have hz := SS.halves swoI (Nat.lt_of_succ_lt h0) (Nat.lt_of_succ_lt h1) hm hn hx f hr1 hr
  rw [← he] at hz
  have s1 := k2.2 hz.x
  have hy := hz.y.other k2.1 (Nat.le_refl mid) hde
  exact SS.merged (by rw [hs1]; exact hb) ha hsd hde heb k2.1 k3.1 hz s1 (k3.2 hy)
theorem sm_none {a s m : Nat} {d : Array Ei} (h : ¬ (a < s ∧ s < m)) (h1 : a ≤ s) (h2 : s ≤ m) : SS.SmP ltI a s m d d := ⟨permIn_refl d a m, fun hr => SS.si_none h h1 h2 hr⟩
set_option maxHeartbeats 16000000 in
theorem xsymC {w0 W : World} {blk off cap n : Nat} {d0 d : Array Ei} (R : Ro w0 blk off d0) (hd : d.size = d0.size) (hn : d.size = n) (hW : Sv w0 blk off d W) {a m b : Nat} (h0 : a + 1 < m) (h1 : m + 1 < b) (h3 : b ≤ d.size)
    (HI : ∀ (a' m' b' : Nat) (d' : Array Ei) (W' : World), b' - a' < b - a → d'.size = d0.size → Sv w0 blk off d' W' → a' < m' → m' < b' → b' ≤ d'.size → Calls Try.prog 97 #[.slice (some ⟨blk, off, none⟩) n cap, .int .i64 a', .int .i64 m', .int .i64 b', .func (.func 49) #[] #[]] W' (SrP w0 blk off (SS.SmP ltI a' m' b' d'))) :
    Calls Try.prog 97 #[.slice (some ⟨blk, off, none⟩) n cap, .int .i64 a, .int .i64 m, .int .i64 b, .func (.func 49) #[] #[]] W (SrP w0 blk off (SS.SmP ltI a m b d)) := by
  have mixed := Try.ins20.mixed
  have HR : Hid (Ro w0 blk off d0) := R
  have HHI := hid_in HI
  have hds : d.size ≤ 1000000 := by rw [hd]; exact R.s
  have HH0 : Hid (Sv w0 blk off d W ∧ d.size = d0.size ∧ d.size = n) := ⟨hW, hd, hn⟩
  have HN : Hid (a + 1 < m ∧ m + 1 < b ∧ b ≤ d.size ∧ d.size ≤ 1000000) := ⟨h0, h1, h3, hds⟩
  obtain ⟨D1, D2, mid, nn, ⟨u1, u2, u3⟩, ⟨u4, u5, u6⟩, ⟨hm, u7⟩, hnn, u8, u9⟩ := num_c0 h0 h1 h3 hds
  obtain ⟨lo, hi, p, hx, hlh, hal, him, himd, hpz, hp, hlz⟩ := num_c1 h0 h1 hm hnn
  have HNUM : Hid (∀ i j H, Srh (fun c => ltI d[nn - 1 - c]!.1 d[c]!.1 = false) lo hi i j → i ≤ H → H < j → ∃ q : Nat, q = nn - 1 - H ∧ (p : Int) - (H : Int) = (q : Int) ∧ q < d.size ∧ H < d.size ∧ i + j ≤ 4000000 ∧ q ≤ 4000000) := fun i j H s g1 g2 => num_c2 h0 h1 h3 hds hm hnn hx hp s g1 g2
  have hlw : wrap64 (lo : Int) = (lo : Int) := wN (Nat.le_trans hlh (Nat.le_trans him (Nat.le_trans (Nat.le_of_lt (Nat.lt_of_succ_lt h1)) (Nat.le_trans h3 (Nat.le_trans hds (by decide))))))
  have hpw : wrap64 (p : Int) = (p : Int) := wN (num_c5 hp hnn hm h0 h1 h3 hds)
  have HLH : Hid (lo ≤ hi) := hlh
  have HFIN : Hid (∀ s, SS.Fnd (fun c => ltI d[nn - 1 - c]!.1 d[c]!.1 = false) lo hi s → ∃ e, e = nn - s ∧ (nn : Int) - (s : Int) = (e : Int) ∧ wrap64 (e : Int) = (e : Int) ∧ a ≤ s ∧ s ≤ m ∧ m ≤ e ∧ e ≤ b ∧ s ≤ mid ∧ mid ≤ e ∧ a < mid ∧ mid < b) := fun s hf => num_c3 h0 h1 h3 hds hm hnn hx hf
  have HG := hid_in (fun s e d1 d2 d3 => sym_fin (s := s) (e := e) (d1 := d1) (d2 := d2) (d3 := d3) h0 h1 h3 hm hnn hx)
  by_cases hmm : mid < m
  · have hmmz : (mid : Int) < (m : Int) := Int.ofNat_lt.2 hmm
    have hlz2 := hlz hmm
    have hhi : mid = hi := by rcases hx with h | h; exact h.2.2.symm; exact absurd hmm (Nat.not_lt.2 h.1)
    subst hhi
    clear hW hd R hn hds h0 h1 h3 HI hm hnn hx hlh hal him himd hp hlz hmm
    go_enter Try.func97, Try.ntmps97
    go_wp2_with fail
    try simp only [u1, u2, u4, u5, u7, u8, u9, hlz2, hlw, hpz, hpw]
    clear u1 u2 u4 u5 u7 u8 u9 hlz2 hlw hpz hpw
    go_loopw [20, 21] (fun x y wr => ∃ (i j : Nat), x = .int .i64 i ∧ y = .int .i64 j ∧ Hid (Sv w0 blk off d wr ∧ Srh (fun c => ltI d[nn - 1 - c]!.1 d[c]!.1 = false) lo mid i j))
      (fun x y _ => (Lib.intOf y).toNat - (Lib.intOf x).toNat)
    case atStart => exact ⟨lo, mid, rfl, rfl, HH0.out.1, Srh.start HLH.out⟩
    case round =>
      obtain ⟨i, j, rfl, rfl, HS⟩ := hrel
      by_cases hij : i < j
      · have hijz : (i : Int) < (j : Int) := Int.ofNat_lt.2 hij
        obtain ⟨H, hH⟩ : ∃ H, H = (i + j) / 2 := ⟨_, rfl⟩
        obtain ⟨hHz, hH1, hH2⟩ := mid_z hH hij
        have HSV : Hid (Sv w0 blk off d wr) := HS.out.1
        obtain ⟨q, hq, hqz, q1, q2, q3, q4⟩ := HNUM.out i j H HS.out.2 hH1 hH2
        have hHw := mid_w hH q3
        have hqw : wrap64 (q : Int) = (q : Int) := wN q4
        have hqv : IntKind.i64.wrap (q : Int) = (q : Int) := wK q4
        have hHs : wrap64 ((H : Int) + 1) = ((H + 1 : Nat) : Int) := wN1 (Nat.le_trans (Nat.le_of_lt q2) HN.out.2.2.2)
        have hHn : (H : Int) < (n : Int) := by rw [← HH0.out.2.2]; exact Int.ofNat_lt.2 q2
        have hqn : (q : Int) < (n : Int) := by rw [← HH0.out.2.2]; exact Int.ofNat_lt.2 q1
        have LX := hid_in (Sv.ld HR.out HH0.out.2.1 q1)
        have LY := hid_in (Sv.ld HR.out HH0.out.2.1 q2)
        have HCMP : Hid (∀ W, Sv w0 blk off d W → Calls Try.prog 49 #[.agg (ies d[q]!).toArray, .agg (ies d[H]!).toArray] W fun e w' => e = .returned (.int .i64 (cfE d[q]! d[H]!)) ∧ Hid (Sv w0 blk off d w')) := Sv.cmp d[q]! d[H]!
        by_cases hC : cfE d[q]! d[H]! < 0
        · have HZ : Hid (Srh (fun c => ltI d[nn - 1 - c]!.1 d[c]!.1 = false) lo mid i H) := HS.out.2.dn hH1 hH2 (by show ¬ ltI d[nn - 1 - H]!.1 d[H]!.1 = false; rw [← hq, ← cfI_lt]; intro h; exact of_decide_eq_false h hC)
          have HMs : Hid (H - i < j - i) := ms_dn hH1 hH2
          clear HS hij hH hHz hH1 hH2 q1 q2 q3 q4 hq
          generalize cfE d[q]! d[H]! = C at *
          generalize ies d[q]! = cX at *
          generalize ies d[H]! = cY at *
          go_upto_region 35 with fail
          refine wp_region_held (S := Sv w0 blk off d) (by kernel_rfl) ?_
          change wpAnyH _ _ _ _ _ 14 #[false, false, false, false, false, false, false, false, false, false, false, false, false, false] _ wr.drew
          have hS0 : Sv w0 blk off d wr.drew := HSV.out.drew
          refine takeR (fuel := 13) (i := 0) (v := .func (.func 49) #[] #[]) rfl (by kernel_rfl) (by kernel_rfl) (by kernel_rfl) (fun _ _ _ h => h) (Or.inl ⟨rfl, fun W hW => by go_simp⟩) hS0 ?_
          simp only [Act.put, List.setIfInBounds_toArray, List.set_cons_zero, List.set_cons_succ]
          refine takeR (fuel := 12) (i := 1) (v := .slice (some ⟨blk, off, none⟩) n cap) rfl (by kernel_rfl) (by kernel_rfl) (by kernel_rfl) (fun _ _ _ h => h) (Or.inl ⟨rfl, fun W hW => by go_simp⟩) hS0 ?_
          simp only [Act.put, List.setIfInBounds_toArray, List.set_cons_zero, List.set_cons_succ]
          refine takeR (fuel := 11) (i := 2) (v := .int .i64 p) rfl (by kernel_rfl) (by kernel_rfl) (by kernel_rfl) (fun _ _ _ h => h) (Or.inl ⟨rfl, fun W hW => by go_simp⟩) hS0 ?_
          simp only [Act.put, List.setIfInBounds_toArray, List.set_cons_zero, List.set_cons_succ]
          refine takeR (fuel := 10) (i := 3) (v := .int .i64 H) rfl (by kernel_rfl) (by kernel_rfl) (by kernel_rfl) (fun _ _ _ h => h) (Or.inl ⟨rfl, fun W hW => by go_simp⟩) hS0 ?_
          simp only [Act.put, List.setIfInBounds_toArray, List.set_cons_zero, List.set_cons_succ]
          refine takeR (fuel := 9) (i := 4) (v := .int .i64 q) rfl (by kernel_rfl) (by kernel_rfl) (by kernel_rfl) (fun _ _ _ h => h) (Or.inl ⟨rfl, fun W hW => by go_simp⟩) hS0 ?_
          simp only [Act.put, List.setIfInBounds_toArray, List.set_cons_zero, List.set_cons_succ]
          refine takeR (fuel := 8) (i := 5) (v := .pointer (some ⟨blk, off + q * 9, none⟩)) rfl (by kernel_rfl) (by kernel_rfl) (by kernel_rfl) (fun _ _ _ h => h) (Or.inl ⟨rfl, fun W hW => by go_simp⟩) hS0 ?_
          simp only [Act.put, List.setIfInBounds_toArray, List.set_cons_zero, List.set_cons_succ]
          refine takeR (fuel := 7) (i := 6) (v := .agg cX.toArray) rfl (by kernel_rfl) (by kernel_rfl) (by kernel_rfl) (fun _ _ _ h => h) (Or.inl ⟨rfl, fun W hW => exl _ _ _ _ rfl (.pointer (some ⟨blk, off + q * 9, none⟩)) _ rfl (LX.out W hW)⟩) hS0 ?_
          simp only [Act.put, List.setIfInBounds_toArray, List.set_cons_zero, List.set_cons_succ]
          refine takeR (fuel := 6) (i := 7) (v := .slice (some ⟨blk, off, none⟩) n cap) rfl (by kernel_rfl) (by kernel_rfl) (by kernel_rfl) (fun _ _ _ h => h) (Or.inl ⟨rfl, fun W hW => by go_simp⟩) hS0 ?_
          simp only [Act.put, List.setIfInBounds_toArray, List.set_cons_zero, List.set_cons_succ]
          refine takeR (fuel := 5) (i := 8) (v := .int .i64 H) rfl (by kernel_rfl) (by kernel_rfl) (by kernel_rfl) (fun _ _ _ h => h) (Or.inl ⟨rfl, fun W hW => by go_simp⟩) hS0 ?_
          simp only [Act.put, List.setIfInBounds_toArray, List.set_cons_zero, List.set_cons_succ]
          refine takeR (fuel := 4) (i := 9) (v := .pointer (some ⟨blk, off + H * 9, none⟩)) rfl (by kernel_rfl) (by kernel_rfl) (by kernel_rfl) (fun _ _ _ h => h) (Or.inl ⟨rfl, fun W hW => by go_simp⟩) hS0 ?_
          simp only [Act.put, List.setIfInBounds_toArray, List.set_cons_zero, List.set_cons_succ]
          refine takeR (fuel := 3) (i := 10) (v := .agg cY.toArray) rfl (by kernel_rfl) (by kernel_rfl) (by kernel_rfl) (fun _ _ _ h => h) (Or.inl ⟨rfl, fun W hW => exl _ _ _ _ rfl (.pointer (some ⟨blk, off + H * 9, none⟩)) _ rfl (LY.out W hW)⟩) hS0 ?_
          simp only [Act.put, List.setIfInBounds_toArray, List.set_cons_zero, List.set_cons_succ]
          refine consR (fuel := 2) (i := 11) rfl (by kernel_rfl) (fun K hK => ?_)
          rw [if_pos (by rfl)]
          go_simp
          refine (HCMP.out _ hS0).mono ?_
          rintro x v1 ⟨rfl, HV1⟩
          refine hK.out _ _ HV1.out (fun hS1 => ?_)
          clear hK
          try simp only [Act.put, List.setIfInBounds_toArray, List.set_cons_zero, List.set_cons_succ]
          refine takeR (fuel := 1) (i := 12) (v := .bool true) rfl (by kernel_rfl) (by kernel_rfl) (by kernel_rfl) (fun _ _ _ h => h) (Or.inl ⟨rfl, fun W hW => by go_simp⟩) hS1 ?_
          simp only [Act.put, List.setIfInBounds_toArray, List.set_cons_zero, List.set_cons_succ]
          refine takeR (fuel := 0) (i := 13) (v := .bool false) rfl (by kernel_rfl) (by kernel_rfl) (by kernel_rfl) (fun _ _ _ h => h) (Or.inl ⟨rfl, fun W hW => by go_simp⟩) hS1 ?_
          simp only [Act.put, List.setIfInBounds_toArray, List.set_cons_zero, List.set_cons_succ]
          refine wpAnyH_done (by kernel_rfl) ?_ _
          go_wp2_with fail
          go_roundw
          case rel => exact ⟨i, H, rfl, by first | rfl | exact congrArg _ hHw, HV1.out, HZ.out⟩
          case measure => first | exact HMs.out | (rw [hHw]; exact HMs.out)
        · have HZ : Hid (Srh (fun c => ltI d[nn - 1 - c]!.1 d[c]!.1 = false) lo mid (H + 1) j) := HS.out.2.up hH1 hH2 (by show ltI d[nn - 1 - H]!.1 d[H]!.1 = false; rw [← hq, ← cfI_lt]; exact decide_eq_false hC)
          have HMs : Hid (j - (H + 1) < j - i) := ms_up hH1 hH2
          clear HS hij hH hHz hH1 hH2 q1 q2 q3 q4 hq
          generalize cfE d[q]! d[H]! = C at *
          generalize ies d[q]! = cX at *
          generalize ies d[H]! = cY at *
          go_upto_region 35 with fail
          refine wp_region_held (S := Sv w0 blk off d) (by kernel_rfl) ?_
          change wpAnyH _ _ _ _ _ 14 #[false, false, false, false, false, false, false, false, false, false, false, false, false, false] _ wr.drew
          have hS0 : Sv w0 blk off d wr.drew := HSV.out.drew
          refine takeR (fuel := 13) (i := 0) (v := .func (.func 49) #[] #[]) rfl (by kernel_rfl) (by kernel_rfl) (by kernel_rfl) (fun _ _ _ h => h) (Or.inl ⟨rfl, fun W hW => by go_simp⟩) hS0 ?_
          simp only [Act.put, List.setIfInBounds_toArray, List.set_cons_zero, List.set_cons_succ]
          refine takeR (fuel := 12) (i := 1) (v := .slice (some ⟨blk, off, none⟩) n cap) rfl (by kernel_rfl) (by kernel_rfl) (by kernel_rfl) (fun _ _ _ h => h) (Or.inl ⟨rfl, fun W hW => by go_simp⟩) hS0 ?_
          simp only [Act.put, List.setIfInBounds_toArray, List.set_cons_zero, List.set_cons_succ]
          refine takeR (fuel := 11) (i := 2) (v := .int .i64 p) rfl (by kernel_rfl) (by kernel_rfl) (by kernel_rfl) (fun _ _ _ h => h) (Or.inl ⟨rfl, fun W hW => by go_simp⟩) hS0 ?_
          simp only [Act.put, List.setIfInBounds_toArray, List.set_cons_zero, List.set_cons_succ]
          refine takeR (fuel := 10) (i := 3) (v := .int .i64 H) rfl (by kernel_rfl) (by kernel_rfl) (by kernel_rfl) (fun _ _ _ h => h) (Or.inl ⟨rfl, fun W hW => by go_simp⟩) hS0 ?_
          simp only [Act.put, List.setIfInBounds_toArray, List.set_cons_zero, List.set_cons_succ]
          refine takeR (fuel := 9) (i := 4) (v := .int .i64 q) rfl (by kernel_rfl) (by kernel_rfl) (by kernel_rfl) (fun _ _ _ h => h) (Or.inl ⟨rfl, fun W hW => by go_simp⟩) hS0 ?_
          simp only [Act.put, List.setIfInBounds_toArray, List.set_cons_zero, List.set_cons_succ]
          refine takeR (fuel := 8) (i := 5) (v := .pointer (some ⟨blk, off + q * 9, none⟩)) rfl (by kernel_rfl) (by kernel_rfl) (by kernel_rfl) (fun _ _ _ h => h) (Or.inl ⟨rfl, fun W hW => by go_simp⟩) hS0 ?_
          simp only [Act.put, List.setIfInBounds_toArray, List.set_cons_zero, List.set_cons_succ]
          refine takeR (fuel := 7) (i := 6) (v := .agg cX.toArray) rfl (by kernel_rfl) (by kernel_rfl) (by kernel_rfl) (fun _ _ _ h => h) (Or.inl ⟨rfl, fun W hW => exl _ _ _ _ rfl (.pointer (some ⟨blk, off + q * 9, none⟩)) _ rfl (LX.out W hW)⟩) hS0 ?_
          simp only [Act.put, List.setIfInBounds_toArray, List.set_cons_zero, List.set_cons_succ]
          refine takeR (fuel := 6) (i := 7) (v := .slice (some ⟨blk, off, none⟩) n cap) rfl (by kernel_rfl) (by kernel_rfl) (by kernel_rfl) (fun _ _ _ h => h) (Or.inl ⟨rfl, fun W hW => by go_simp⟩) hS0 ?_
          simp only [Act.put, List.setIfInBounds_toArray, List.set_cons_zero, List.set_cons_succ]
          refine takeR (fuel := 5) (i := 8) (v := .int .i64 H) rfl (by kernel_rfl) (by kernel_rfl) (by kernel_rfl) (fun _ _ _ h => h) (Or.inl ⟨rfl, fun W hW => by go_simp⟩) hS0 ?_
          simp only [Act.put, List.setIfInBounds_toArray, List.set_cons_zero, List.set_cons_succ]
          refine takeR (fuel := 4) (i := 9) (v := .pointer (some ⟨blk, off + H * 9, none⟩)) rfl (by kernel_rfl) (by kernel_rfl) (by kernel_rfl) (fun _ _ _ h => h) (Or.inl ⟨rfl, fun W hW => by go_simp⟩) hS0 ?_
          simp only [Act.put, List.setIfInBounds_toArray, List.set_cons_zero, List.set_cons_succ]
          refine takeR (fuel := 3) (i := 10) (v := .agg cY.toArray) rfl (by kernel_rfl) (by kernel_rfl) (by kernel_rfl) (fun _ _ _ h => h) (Or.inl ⟨rfl, fun W hW => exl _ _ _ _ rfl (.pointer (some ⟨blk, off + H * 9, none⟩)) _ rfl (LY.out W hW)⟩) hS0 ?_
          simp only [Act.put, List.setIfInBounds_toArray, List.set_cons_zero, List.set_cons_succ]
          refine consR (fuel := 2) (i := 11) rfl (by kernel_rfl) (fun K hK => ?_)
          rw [if_pos (by rfl)]
          go_simp
          refine (HCMP.out _ hS0).mono ?_
          rintro x v1 ⟨rfl, HV1⟩
          refine hK.out _ _ HV1.out (fun hS1 => ?_)
          clear hK
          try simp only [Act.put, List.setIfInBounds_toArray, List.set_cons_zero, List.set_cons_succ]
          refine takeR (fuel := 1) (i := 12) (v := .bool false) rfl (by kernel_rfl) (by kernel_rfl) (by kernel_rfl) (fun _ _ _ h => h) (Or.inl ⟨rfl, fun W hW => by go_simp⟩) hS1 ?_
          simp only [Act.put, List.setIfInBounds_toArray, List.set_cons_zero, List.set_cons_succ]
          refine takeR (fuel := 0) (i := 13) (v := .bool true) rfl (by kernel_rfl) (by kernel_rfl) (by kernel_rfl) (fun _ _ _ h => h) (Or.inl ⟨rfl, fun W hW => by go_simp⟩) hS1 ?_
          simp only [Act.put, List.setIfInBounds_toArray, List.set_cons_zero, List.set_cons_succ]
          refine wpAnyH_done (by kernel_rfl) ?_ _
          go_wp2_with fail
          go_roundw
          case rel => exact ⟨H + 1, j, by first | rfl | exact congrArg _ hHs, rfl, HV1.out, HZ.out⟩
          case measure => first | exact HMs.out | (rw [hHs]; exact HMs.out)
      · have hijz : ¬ (i : Int) < (j : Int) := fun h => hij (Int.ofNat_lt.1 h)
        have HF := hid_in (HS.out.2.fnd hij)
        obtain ⟨e, he, hez, hew, b1, b2, b3, b4, b5, b6, b7, b8⟩ := HFIN.out i HF.out
        have HV := hid_in HS.out.1
        have HFN : Hid (∀ d1 d2 d3, SS.Rot i m e d d1 ∧ PermIn i e d d1 → SS.SmP ltI a i mid d1 d2 → SS.SmP ltI mid e b d2 d3 → SS.SmP ltI a m b d d3) := fun d1 d2 d3 k1 k2 k3 => HG.out i e d1 d2 d3 HF.out he b1 b2 b3 b4 b5 b6 k1 k2 k3
        have HC1 : Hid (i < m ∧ m < e → ∀ W, Sv w0 blk off d W → Calls Try.prog 109 #[.slice (some ⟨blk, off, none⟩) n cap, .int .i64 i, .int .i64 m, .int .i64 e, .func (.func 49) #[] #[]] W fun x w' => x = .returned (.tuple #[]) ∧ ∃ d1, Hid (Sv w0 blk off d1 w' ∧ (SS.Rot i m e d d1 ∧ PermIn i e d d1))) := fun hc W hv => (xrot HR.out HH0.out.2.1 HH0.out.2.2 hv hc.1 hc.2 (Nat.le_trans b4 HN.out.2.2.1)).mono fun x w' hh => by
          obtain ⟨rfl, d1, q1, q2⟩ := hh
          exact ⟨rfl, d1, q1, q2⟩
        have hba : b - mid < b - a ∧ mid - a < b - a := num_c4 b7 b8
        have HC2 : Hid (a < i ∧ i < mid → ∀ d1 W, Sv w0 blk off d1 W → (SS.Rot i m e d d1 ∧ PermIn i e d d1) → Calls Try.prog 97 #[.slice (some ⟨blk, off, none⟩) n cap, .int .i64 a, .int .i64 i, .int .i64 mid, .func (.func 49) #[] #[]] W fun x w' => x = .returned (.tuple #[]) ∧ ∃ d2, Hid (Sv w0 blk off d2 w' ∧ SS.SmP ltI a i mid d1 d2)) := fun hc d1 W hv hr => (HHI.out a i mid d1 W hba.2 (hr.1.1.trans HH0.out.2.1) hv hc.1 hc.2 (by rw [hr.1.1]; exact Nat.le_trans (Nat.le_of_lt b8) HN.out.2.2.1)).mono fun x w' hh => by
          obtain ⟨rfl, d2, q1, q2⟩ := hh
          exact ⟨rfl, d2, q1, q2⟩
        have HC3 : Hid (mid < e ∧ e < b → ∀ d1 d2 W, Sv w0 blk off d2 W → (SS.Rot i m e d d1 ∧ PermIn i e d d1) → SS.SmP ltI a i mid d1 d2 → Calls Try.prog 97 #[.slice (some ⟨blk, off, none⟩) n cap, .int .i64 mid, .int .i64 e, .int .i64 b, .func (.func 49) #[] #[]] W fun x w' => x = .returned (.tuple #[]) ∧ ∃ d3, Hid (Sv w0 blk off d3 w' ∧ SS.SmP ltI mid e b d2 d3)) := fun hc d1 d2 W hv hr hs2 => (HHI.out mid e b d2 W hba.1 ((hs2.1.1.trans hr.1.1).trans HH0.out.2.1) hv hc.1 hc.2 (by rw [hs2.1.1, hr.1.1]; exact HN.out.2.2.1)).mono fun x w' hh => by
          obtain ⟨rfl, d3, q1, q2⟩ := hh
          exact ⟨rfl, d3, q1, q2⟩
        have N1 : Hid (¬ (i < m ∧ m < e) → SS.Rot i m e d d ∧ PermIn i e d d) := fun h => ⟨SS.Rot.none h b2 b3, permIn_refl d i e⟩
        have N2 : Hid (¬ (a < i ∧ i < mid) → ∀ d1, SS.SmP ltI a i mid d1 d1) := fun h d1 => sm_none h b1 b5
        have N3 : Hid (¬ (mid < e ∧ e < b) → ∀ d1, SS.SmP ltI mid e b d1 d1) := fun h d1 => sm_none h b6 b4
        clear HS hij he b1 b2 b3 b4 b5 b6 b7 b8 hba
        by_cases p0 : i < m
        · have p0z : (i : Int) < (m : Int) := Int.ofNat_lt.2 p0
          by_cases p1 : m < e
          · have p1z : (m : Int) < (e : Int) := Int.ofNat_lt.2 p1
            by_cases p2 : a < i
            · have p2z : (a : Int) < (i : Int) := Int.ofNat_lt.2 p2
              by_cases p3 : i < mid
              · have p3z : (i : Int) < (mid : Int) := Int.ofNat_lt.2 p3
                by_cases p4 : mid < e
                · have p4z : (mid : Int) < (e : Int) := Int.ofNat_lt.2 p4
                  by_cases p5 : e < b
                  · have p5z : (e : Int) < (b : Int) := Int.ofNat_lt.2 p5
                    go_wp2_with (first | (go_at_call 109; refine (HC1.out ⟨p0, p1⟩ _ HV.out).mono ?_; clear HC1; rintro x w4 ⟨rfl, d1, H1⟩) | (go_at_call 97; refine (HC2.out ⟨p2, p3⟩ d1 _ H1.out.1 H1.out.2).mono ?_; clear HC2; rintro x w5 ⟨rfl, d2, H2⟩) | (go_at_call 97; refine (HC3.out ⟨p4, p5⟩ d1 d2 _ H2.out.1 H1.out.2 H2.out.2).mono ?_; clear HC3; rintro x w6 ⟨rfl, d3, H3⟩))
                    refine bodyPost_ret (results_none rfl _ _ _) rfl ?_
                    exact ⟨rfl, d3, H3.out.1, HFN.out d1 d2 d3 H1.out.2 H2.out.2 H3.out.2⟩
                  · have p5z : ¬ (e : Int) < (b : Int) := fun h => p5 (Int.ofNat_lt.1 h)
                    have p45 : ¬ (mid < e ∧ e < b) := fun h => p5 h.2
                    go_wp2_with (first | (go_at_call 109; refine (HC1.out ⟨p0, p1⟩ _ HV.out).mono ?_; clear HC1; rintro x w4 ⟨rfl, d1, H1⟩) | (go_at_call 97; refine (HC2.out ⟨p2, p3⟩ d1 _ H1.out.1 H1.out.2).mono ?_; clear HC2; rintro x w5 ⟨rfl, d2, H2⟩))
                    refine bodyPost_ret (results_none rfl _ _ _) rfl ?_
                    exact ⟨rfl, d2, H2.out.1, HFN.out d1 d2 d2 H1.out.2 H2.out.2 (N3.out p45 d2)⟩
                · have p4z : ¬ (mid : Int) < (e : Int) := fun h => p4 (Int.ofNat_lt.1 h)
                  have p45 : ¬ (mid < e ∧ e < b) := fun h => p4 h.1
                  go_wp2_with (first | (go_at_call 109; refine (HC1.out ⟨p0, p1⟩ _ HV.out).mono ?_; clear HC1; rintro x w4 ⟨rfl, d1, H1⟩) | (go_at_call 97; refine (HC2.out ⟨p2, p3⟩ d1 _ H1.out.1 H1.out.2).mono ?_; clear HC2; rintro x w5 ⟨rfl, d2, H2⟩))
                  refine bodyPost_ret (results_none rfl _ _ _) rfl ?_
                  exact ⟨rfl, d2, H2.out.1, HFN.out d1 d2 d2 H1.out.2 H2.out.2 (N3.out p45 d2)⟩
              · have p3z : ¬ (i : Int) < (mid : Int) := fun h => p3 (Int.ofNat_lt.1 h)
                have p23 : ¬ (a < i ∧ i < mid) := fun h => p3 h.2
                by_cases p4 : mid < e
                · have p4z : (mid : Int) < (e : Int) := Int.ofNat_lt.2 p4
                  by_cases p5 : e < b
                  · have p5z : (e : Int) < (b : Int) := Int.ofNat_lt.2 p5
                    go_wp2_with (first | (go_at_call 109; refine (HC1.out ⟨p0, p1⟩ _ HV.out).mono ?_; clear HC1; rintro x w4 ⟨rfl, d1, H1⟩) | (go_at_call 97; refine (HC3.out ⟨p4, p5⟩ d1 d1 _ H1.out.1 H1.out.2 (N2.out p23 d1)).mono ?_; clear HC3; rintro x w6 ⟨rfl, d3, H3⟩))
                    refine bodyPost_ret (results_none rfl _ _ _) rfl ?_
                    exact ⟨rfl, d3, H3.out.1, HFN.out d1 d1 d3 H1.out.2 (N2.out p23 d1) H3.out.2⟩
                  · have p5z : ¬ (e : Int) < (b : Int) := fun h => p5 (Int.ofNat_lt.1 h)
                    have p45 : ¬ (mid < e ∧ e < b) := fun h => p5 h.2
                    go_wp2_with (first | (go_at_call 109; refine (HC1.out ⟨p0, p1⟩ _ HV.out).mono ?_; clear HC1; rintro x w4 ⟨rfl, d1, H1⟩))
                    refine bodyPost_ret (results_none rfl _ _ _) rfl ?_
                    exact ⟨rfl, d1, H1.out.1, HFN.out d1 d1 d1 H1.out.2 (N2.out p23 d1) (N3.out p45 d1)⟩
                · have p4z : ¬ (mid : Int) < (e : Int) := fun h => p4 (Int.ofNat_lt.1 h)
                  have p45 : ¬ (mid < e ∧ e < b) := fun h => p4 h.1
                  go_wp2_with (first | (go_at_call 109; refine (HC1.out ⟨p0, p1⟩ _ HV.out).mono ?_; clear HC1; rintro x w4 ⟨rfl, d1, H1⟩))
                  refine bodyPost_ret (results_none rfl _ _ _) rfl ?_
                  exact ⟨rfl, d1, H1.out.1, HFN.out d1 d1 d1 H1.out.2 (N2.out p23 d1) (N3.out p45 d1)⟩
            · have p2z : ¬ (a : Int) < (i : Int) := fun h => p2 (Int.ofNat_lt.1 h)
              have p23 : ¬ (a < i ∧ i < mid) := fun h => p2 h.1
              by_cases p4 : mid < e
              · have p4z : (mid : Int) < (e : Int) := Int.ofNat_lt.2 p4
                by_cases p5 : e < b
                · have p5z : (e : Int) < (b : Int) := Int.ofNat_lt.2 p5
                  go_wp2_with (first | (go_at_call 109; refine (HC1.out ⟨p0, p1⟩ _ HV.out).mono ?_; clear HC1; rintro x w4 ⟨rfl, d1, H1⟩) | (go_at_call 97; refine (HC3.out ⟨p4, p5⟩ d1 d1 _ H1.out.1 H1.out.2 (N2.out p23 d1)).mono ?_; clear HC3; rintro x w6 ⟨rfl, d3, H3⟩))
                  refine bodyPost_ret (results_none rfl _ _ _) rfl ?_
                  exact ⟨rfl, d3, H3.out.1, HFN.out d1 d1 d3 H1.out.2 (N2.out p23 d1) H3.out.2⟩
                · have p5z : ¬ (e : Int) < (b : Int) := fun h => p5 (Int.ofNat_lt.1 h)
                  have p45 : ¬ (mid < e ∧ e < b) := fun h => p5 h.2
                  go_wp2_with (first | (go_at_call 109; refine (HC1.out ⟨p0, p1⟩ _ HV.out).mono ?_; clear HC1; rintro x w4 ⟨rfl, d1, H1⟩))
                  refine bodyPost_ret (results_none rfl _ _ _) rfl ?_
                  exact ⟨rfl, d1, H1.out.1, HFN.out d1 d1 d1 H1.out.2 (N2.out p23 d1) (N3.out p45 d1)⟩
              · have p4z : ¬ (mid : Int) < (e : Int) := fun h => p4 (Int.ofNat_lt.1 h)
                have p45 : ¬ (mid < e ∧ e < b) := fun h => p4 h.1
                go_wp2_with (first | (go_at_call 109; refine (HC1.out ⟨p0, p1⟩ _ HV.out).mono ?_; clear HC1; rintro x w4 ⟨rfl, d1, H1⟩))
                refine bodyPost_ret (results_none rfl _ _ _) rfl ?_
                exact ⟨rfl, d1, H1.out.1, HFN.out d1 d1 d1 H1.out.2 (N2.out p23 d1) (N3.out p45 d1)⟩
          · have p1z : ¬ (m : Int) < (e : Int) := fun h => p1 (Int.ofNat_lt.1 h)
            have p01 : ¬ (i < m ∧ m < e) := fun h => p1 h.2
            by_cases p2 : a < i
            · have p2z : (a : Int) < (i : Int) := Int.ofNat_lt.2 p2
              by_cases p3 : i < mid
              · have p3z : (i : Int) < (mid : Int) := Int.ofNat_lt.2 p3
                by_cases p4 : mid < e
                · have p4z : (mid : Int) < (e : Int) := Int.ofNat_lt.2 p4
                  by_cases p5 : e < b
                  · have p5z : (e : Int) < (b : Int) := Int.ofNat_lt.2 p5
                    have H1 : Hid (Sv w0 blk off d wr ∧ (SS.Rot i m e d d ∧ PermIn i e d d)) := ⟨HV.out, N1.out p01⟩
                    go_wp2_with (first | (go_at_call 97; refine (HC2.out ⟨p2, p3⟩ d _ H1.out.1 H1.out.2).mono ?_; clear HC2; rintro x w5 ⟨rfl, d2, H2⟩) | (go_at_call 97; refine (HC3.out ⟨p4, p5⟩ d d2 _ H2.out.1 H1.out.2 H2.out.2).mono ?_; clear HC3; rintro x w6 ⟨rfl, d3, H3⟩))
                    refine bodyPost_ret (results_none rfl _ _ _) rfl ?_
                    exact ⟨rfl, d3, H3.out.1, HFN.out d d2 d3 H1.out.2 H2.out.2 H3.out.2⟩
                  · have p5z : ¬ (e : Int) < (b : Int) := fun h => p5 (Int.ofNat_lt.1 h)
                    have p45 : ¬ (mid < e ∧ e < b) := fun h => p5 h.2
                    have H1 : Hid (Sv w0 blk off d wr ∧ (SS.Rot i m e d d ∧ PermIn i e d d)) := ⟨HV.out, N1.out p01⟩
                    go_wp2_with (first | (go_at_call 97; refine (HC2.out ⟨p2, p3⟩ d _ H1.out.1 H1.out.2).mono ?_; clear HC2; rintro x w5 ⟨rfl, d2, H2⟩))
                    refine bodyPost_ret (results_none rfl _ _ _) rfl ?_
                    exact ⟨rfl, d2, H2.out.1, HFN.out d d2 d2 H1.out.2 H2.out.2 (N3.out p45 d2)⟩
                · have p4z : ¬ (mid : Int) < (e : Int) := fun h => p4 (Int.ofNat_lt.1 h)
                  have p45 : ¬ (mid < e ∧ e < b) := fun h => p4 h.1
                  have H1 : Hid (Sv w0 blk off d wr ∧ (SS.Rot i m e d d ∧ PermIn i e d d)) := ⟨HV.out, N1.out p01⟩
                  go_wp2_with (first | (go_at_call 97; refine (HC2.out ⟨p2, p3⟩ d _ H1.out.1 H1.out.2).mono ?_; clear HC2; rintro x w5 ⟨rfl, d2, H2⟩))
                  refine bodyPost_ret (results_none rfl _ _ _) rfl ?_
                  exact ⟨rfl, d2, H2.out.1, HFN.out d d2 d2 H1.out.2 H2.out.2 (N3.out p45 d2)⟩
              · have p3z : ¬ (i : Int) < (mid : Int) := fun h => p3 (Int.ofNat_lt.1 h)
                have p23 : ¬ (a < i ∧ i < mid) := fun h => p3 h.2
                by_cases p4 : mid < e
                · have p4z : (mid : Int) < (e : Int) := Int.ofNat_lt.2 p4
                  by_cases p5 : e < b
                  · have p5z : (e : Int) < (b : Int) := Int.ofNat_lt.2 p5
                    have H1 : Hid (Sv w0 blk off d wr ∧ (SS.Rot i m e d d ∧ PermIn i e d d)) := ⟨HV.out, N1.out p01⟩
                    go_wp2_with (first | (go_at_call 97; refine (HC3.out ⟨p4, p5⟩ d d _ H1.out.1 H1.out.2 (N2.out p23 d)).mono ?_; clear HC3; rintro x w6 ⟨rfl, d3, H3⟩))
                    refine bodyPost_ret (results_none rfl _ _ _) rfl ?_
                    exact ⟨rfl, d3, H3.out.1, HFN.out d d d3 H1.out.2 (N2.out p23 d) H3.out.2⟩
                  · have p5z : ¬ (e : Int) < (b : Int) := fun h => p5 (Int.ofNat_lt.1 h)
                    have p45 : ¬ (mid < e ∧ e < b) := fun h => p5 h.2
                    have H1 : Hid (Sv w0 blk off d wr ∧ (SS.Rot i m e d d ∧ PermIn i e d d)) := ⟨HV.out, N1.out p01⟩
                    go_wp2_with fail
                    refine bodyPost_ret (results_none rfl _ _ _) rfl ?_
                    exact ⟨rfl, d, H1.out.1, HFN.out d d d H1.out.2 (N2.out p23 d) (N3.out p45 d)⟩
                · have p4z : ¬ (mid : Int) < (e : Int) := fun h => p4 (Int.ofNat_lt.1 h)
                  have p45 : ¬ (mid < e ∧ e < b) := fun h => p4 h.1
                  have H1 : Hid (Sv w0 blk off d wr ∧ (SS.Rot i m e d d ∧ PermIn i e d d)) := ⟨HV.out, N1.out p01⟩
                  go_wp2_with fail
                  refine bodyPost_ret (results_none rfl _ _ _) rfl ?_
                  exact ⟨rfl, d, H1.out.1, HFN.out d d d H1.out.2 (N2.out p23 d) (N3.out p45 d)⟩
            · have p2z : ¬ (a : Int) < (i : Int) := fun h => p2 (Int.ofNat_lt.1 h)
              have p23 : ¬ (a < i ∧ i < mid) := fun h => p2 h.1
              by_cases p4 : mid < e
              · have p4z : (mid : Int) < (e : Int) := Int.ofNat_lt.2 p4
                by_cases p5 : e < b
                · have p5z : (e : Int) < (b : Int) := Int.ofNat_lt.2 p5
                  have H1 : Hid (Sv w0 blk off d wr ∧ (SS.Rot i m e d d ∧ PermIn i e d d)) := ⟨HV.out, N1.out p01⟩
                  go_wp2_with (first | (go_at_call 97; refine (HC3.out ⟨p4, p5⟩ d d _ H1.out.1 H1.out.2 (N2.out p23 d)).mono ?_; clear HC3; rintro x w6 ⟨rfl, d3, H3⟩))
                  refine bodyPost_ret (results_none rfl _ _ _) rfl ?_
                  exact ⟨rfl, d3, H3.out.1, HFN.out d d d3 H1.out.2 (N2.out p23 d) H3.out.2⟩
                · have p5z : ¬ (e : Int) < (b : Int) := fun h => p5 (Int.ofNat_lt.1 h)
                  have p45 : ¬ (mid < e ∧ e < b) := fun h => p5 h.2
                  have H1 : Hid (Sv w0 blk off d wr ∧ (SS.Rot i m e d d ∧ PermIn i e d d)) := ⟨HV.out, N1.out p01⟩
                  go_wp2_with fail
                  refine bodyPost_ret (results_none rfl _ _ _) rfl ?_
                  exact ⟨rfl, d, H1.out.1, HFN.out d d d H1.out.2 (N2.out p23 d) (N3.out p45 d)⟩
              · have p4z : ¬ (mid : Int) < (e : Int) := fun h => p4 (Int.ofNat_lt.1 h)
                have p45 : ¬ (mid < e ∧ e < b) := fun h => p4 h.1
                have H1 : Hid (Sv w0 blk off d wr ∧ (SS.Rot i m e d d ∧ PermIn i e d d)) := ⟨HV.out, N1.out p01⟩
                go_wp2_with fail
                refine bodyPost_ret (results_none rfl _ _ _) rfl ?_
                exact ⟨rfl, d, H1.out.1, HFN.out d d d H1.out.2 (N2.out p23 d) (N3.out p45 d)⟩
        · have p0z : ¬ (i : Int) < (m : Int) := fun h => p0 (Int.ofNat_lt.1 h)
          have p01 : ¬ (i < m ∧ m < e) := fun h => p0 h.1
          by_cases p2 : a < i
          · have p2z : (a : Int) < (i : Int) := Int.ofNat_lt.2 p2
            by_cases p3 : i < mid
            · have p3z : (i : Int) < (mid : Int) := Int.ofNat_lt.2 p3
              by_cases p4 : mid < e
              · have p4z : (mid : Int) < (e : Int) := Int.ofNat_lt.2 p4
                by_cases p5 : e < b
                · have p5z : (e : Int) < (b : Int) := Int.ofNat_lt.2 p5
                  have H1 : Hid (Sv w0 blk off d wr ∧ (SS.Rot i m e d d ∧ PermIn i e d d)) := ⟨HV.out, N1.out p01⟩
                  go_wp2_with (first | (go_at_call 97; refine (HC2.out ⟨p2, p3⟩ d _ H1.out.1 H1.out.2).mono ?_; clear HC2; rintro x w5 ⟨rfl, d2, H2⟩) | (go_at_call 97; refine (HC3.out ⟨p4, p5⟩ d d2 _ H2.out.1 H1.out.2 H2.out.2).mono ?_; clear HC3; rintro x w6 ⟨rfl, d3, H3⟩))
                  refine bodyPost_ret (results_none rfl _ _ _) rfl ?_
                  exact ⟨rfl, d3, H3.out.1, HFN.out d d2 d3 H1.out.2 H2.out.2 H3.out.2⟩
                · have p5z : ¬ (e : Int) < (b : Int) := fun h => p5 (Int.ofNat_lt.1 h)
                  have p45 : ¬ (mid < e ∧ e < b) := fun h => p5 h.2
                  have H1 : Hid (Sv w0 blk off d wr ∧ (SS.Rot i m e d d ∧ PermIn i e d d)) := ⟨HV.out, N1.out p01⟩
                  go_wp2_with (first | (go_at_call 97; refine (HC2.out ⟨p2, p3⟩ d _ H1.out.1 H1.out.2).mono ?_; clear HC2; rintro x w5 ⟨rfl, d2, H2⟩))
                  refine bodyPost_ret (results_none rfl _ _ _) rfl ?_
                  exact ⟨rfl, d2, H2.out.1, HFN.out d d2 d2 H1.out.2 H2.out.2 (N3.out p45 d2)⟩
              · have p4z : ¬ (mid : Int) < (e : Int) := fun h => p4 (Int.ofNat_lt.1 h)
                have p45 : ¬ (mid < e ∧ e < b) := fun h => p4 h.1
                have H1 : Hid (Sv w0 blk off d wr ∧ (SS.Rot i m e d d ∧ PermIn i e d d)) := ⟨HV.out, N1.out p01⟩
                go_wp2_with (first | (go_at_call 97; refine (HC2.out ⟨p2, p3⟩ d _ H1.out.1 H1.out.2).mono ?_; clear HC2; rintro x w5 ⟨rfl, d2, H2⟩))
                refine bodyPost_ret (results_none rfl _ _ _) rfl ?_
                exact ⟨rfl, d2, H2.out.1, HFN.out d d2 d2 H1.out.2 H2.out.2 (N3.out p45 d2)⟩
            · have p3z : ¬ (i : Int) < (mid : Int) := fun h => p3 (Int.ofNat_lt.1 h)
              have p23 : ¬ (a < i ∧ i < mid) := fun h => p3 h.2
              by_cases p4 : mid < e
              · have p4z : (mid : Int) < (e : Int) := Int.ofNat_lt.2 p4
                by_cases p5 : e < b
                · have p5z : (e : Int) < (b : Int) := Int.ofNat_lt.2 p5
                  have H1 : Hid (Sv w0 blk off d wr ∧ (SS.Rot i m e d d ∧ PermIn i e d d)) := ⟨HV.out, N1.out p01⟩
                  go_wp2_with (first | (go_at_call 97; refine (HC3.out ⟨p4, p5⟩ d d _ H1.out.1 H1.out.2 (N2.out p23 d)).mono ?_; clear HC3; rintro x w6 ⟨rfl, d3, H3⟩))
                  refine bodyPost_ret (results_none rfl _ _ _) rfl ?_
                  exact ⟨rfl, d3, H3.out.1, HFN.out d d d3 H1.out.2 (N2.out p23 d) H3.out.2⟩
                · have p5z : ¬ (e : Int) < (b : Int) := fun h => p5 (Int.ofNat_lt.1 h)
                  have p45 : ¬ (mid < e ∧ e < b) := fun h => p5 h.2
                  have H1 : Hid (Sv w0 blk off d wr ∧ (SS.Rot i m e d d ∧ PermIn i e d d)) := ⟨HV.out, N1.out p01⟩
                  go_wp2_with fail
                  refine bodyPost_ret (results_none rfl _ _ _) rfl ?_
                  exact ⟨rfl, d, H1.out.1, HFN.out d d d H1.out.2 (N2.out p23 d) (N3.out p45 d)⟩
              · have p4z : ¬ (mid : Int) < (e : Int) := fun h => p4 (Int.ofNat_lt.1 h)
                have p45 : ¬ (mid < e ∧ e < b) := fun h => p4 h.1
                have H1 : Hid (Sv w0 blk off d wr ∧ (SS.Rot i m e d d ∧ PermIn i e d d)) := ⟨HV.out, N1.out p01⟩
                go_wp2_with fail
                refine bodyPost_ret (results_none rfl _ _ _) rfl ?_
                exact ⟨rfl, d, H1.out.1, HFN.out d d d H1.out.2 (N2.out p23 d) (N3.out p45 d)⟩
          · have p2z : ¬ (a : Int) < (i : Int) := fun h => p2 (Int.ofNat_lt.1 h)
            have p23 : ¬ (a < i ∧ i < mid) := fun h => p2 h.1
            by_cases p4 : mid < e
            · have p4z : (mid : Int) < (e : Int) := Int.ofNat_lt.2 p4
              by_cases p5 : e < b
              · have p5z : (e : Int) < (b : Int) := Int.ofNat_lt.2 p5
                have H1 : Hid (Sv w0 blk off d wr ∧ (SS.Rot i m e d d ∧ PermIn i e d d)) := ⟨HV.out, N1.out p01⟩
                go_wp2_with (first | (go_at_call 97; refine (HC3.out ⟨p4, p5⟩ d d _ H1.out.1 H1.out.2 (N2.out p23 d)).mono ?_; clear HC3; rintro x w6 ⟨rfl, d3, H3⟩))
                refine bodyPost_ret (results_none rfl _ _ _) rfl ?_
                exact ⟨rfl, d3, H3.out.1, HFN.out d d d3 H1.out.2 (N2.out p23 d) H3.out.2⟩
              · have p5z : ¬ (e : Int) < (b : Int) := fun h => p5 (Int.ofNat_lt.1 h)
                have p45 : ¬ (mid < e ∧ e < b) := fun h => p5 h.2
                have H1 : Hid (Sv w0 blk off d wr ∧ (SS.Rot i m e d d ∧ PermIn i e d d)) := ⟨HV.out, N1.out p01⟩
                go_wp2_with fail
                refine bodyPost_ret (results_none rfl _ _ _) rfl ?_
                exact ⟨rfl, d, H1.out.1, HFN.out d d d H1.out.2 (N2.out p23 d) (N3.out p45 d)⟩
            · have p4z : ¬ (mid : Int) < (e : Int) := fun h => p4 (Int.ofNat_lt.1 h)
              have p45 : ¬ (mid < e ∧ e < b) := fun h => p4 h.1
              have H1 : Hid (Sv w0 blk off d wr ∧ (SS.Rot i m e d d ∧ PermIn i e d d)) := ⟨HV.out, N1.out p01⟩
              go_wp2_with fail
              refine bodyPost_ret (results_none rfl _ _ _) rfl ?_
              exact ⟨rfl, d, H1.out.1, HFN.out d d d H1.out.2 (N2.out p23 d) (N3.out p45 d)⟩
  · have hmmz : ¬ (mid : Int) < (m : Int) := fun h => hmm (Int.ofNat_lt.1 h)
    have hlo : a = lo ∧ m = hi := by rcases hx with h | h; exact absurd h.1 hmm; exact ⟨h.2.1.symm, h.2.2.symm⟩
    obtain ⟨rfl, rfl⟩ := hlo
    clear hW hd R hn hds h0 h1 h3 HI hm hnn hx hlh hal him himd hp hlz hmm
    go_enter Try.func97, Try.ntmps97
    go_wp2_with fail
    try simp only [u1, u2, u4, u5, u7, u8, u9, hpz, hpw]
    clear u1 u2 u4 u5 u7 u8 u9 hlw hpz hpw
    go_loopw [20, 21] (fun x y wr => ∃ (i j : Nat), x = .int .i64 i ∧ y = .int .i64 j ∧ Hid (Sv w0 blk off d wr ∧ Srh (fun c => ltI d[nn - 1 - c]!.1 d[c]!.1 = false) a m i j))
      (fun x y _ => (Lib.intOf y).toNat - (Lib.intOf x).toNat)
    case atStart => exact ⟨a, m, rfl, rfl, HH0.out.1, Srh.start HLH.out⟩
    case round =>
      obtain ⟨i, j, rfl, rfl, HS⟩ := hrel
      by_cases hij : i < j
      · have hijz : (i : Int) < (j : Int) := Int.ofNat_lt.2 hij
        obtain ⟨H, hH⟩ : ∃ H, H = (i + j) / 2 := ⟨_, rfl⟩
        obtain ⟨hHz, hH1, hH2⟩ := mid_z hH hij
        have HSV : Hid (Sv w0 blk off d wr) := HS.out.1
        obtain ⟨q, hq, hqz, q1, q2, q3, q4⟩ := HNUM.out i j H HS.out.2 hH1 hH2
        have hHw := mid_w hH q3
        have hqw : wrap64 (q : Int) = (q : Int) := wN q4
        have hqv : IntKind.i64.wrap (q : Int) = (q : Int) := wK q4
        have hHs : wrap64 ((H : Int) + 1) = ((H + 1 : Nat) : Int) := wN1 (Nat.le_trans (Nat.le_of_lt q2) HN.out.2.2.2)
        have hHn : (H : Int) < (n : Int) := by rw [← HH0.out.2.2]; exact Int.ofNat_lt.2 q2
        have hqn : (q : Int) < (n : Int) := by rw [← HH0.out.2.2]; exact Int.ofNat_lt.2 q1
        have LX := hid_in (Sv.ld HR.out HH0.out.2.1 q1)
        have LY := hid_in (Sv.ld HR.out HH0.out.2.1 q2)
        have HCMP : Hid (∀ W, Sv w0 blk off d W → Calls Try.prog 49 #[.agg (ies d[q]!).toArray, .agg (ies d[H]!).toArray] W fun e w' => e = .returned (.int .i64 (cfE d[q]! d[H]!)) ∧ Hid (Sv w0 blk off d w')) := Sv.cmp d[q]! d[H]!
        by_cases hC : cfE d[q]! d[H]! < 0
        · have HZ : Hid (Srh (fun c => ltI d[nn - 1 - c]!.1 d[c]!.1 = false) a m i H) := HS.out.2.dn hH1 hH2 (by show ¬ ltI d[nn - 1 - H]!.1 d[H]!.1 = false; rw [← hq, ← cfI_lt]; intro h; exact of_decide_eq_false h hC)
          have HMs : Hid (H - i < j - i) := ms_dn hH1 hH2
          clear HS hij hH hHz hH1 hH2 q1 q2 q3 q4 hq
          generalize cfE d[q]! d[H]! = C at *
          generalize ies d[q]! = cX at *
          generalize ies d[H]! = cY at *
          go_upto_region 35 with fail
          refine wp_region_held (S := Sv w0 blk off d) (by kernel_rfl) ?_
          change wpAnyH _ _ _ _ _ 14 #[false, false, false, false, false, false, false, false, false, false, false, false, false, false] _ wr.drew
          have hS0 : Sv w0 blk off d wr.drew := HSV.out.drew
          refine takeR (fuel := 13) (i := 0) (v := .func (.func 49) #[] #[]) rfl (by kernel_rfl) (by kernel_rfl) (by kernel_rfl) (fun _ _ _ h => h) (Or.inl ⟨rfl, fun W hW => by go_simp⟩) hS0 ?_
          simp only [Act.put, List.setIfInBounds_toArray, List.set_cons_zero, List.set_cons_succ]
          refine takeR (fuel := 12) (i := 1) (v := .slice (some ⟨blk, off, none⟩) n cap) rfl (by kernel_rfl) (by kernel_rfl) (by kernel_rfl) (fun _ _ _ h => h) (Or.inl ⟨rfl, fun W hW => by go_simp⟩) hS0 ?_
          simp only [Act.put, List.setIfInBounds_toArray, List.set_cons_zero, List.set_cons_succ]
          refine takeR (fuel := 11) (i := 2) (v := .int .i64 p) rfl (by kernel_rfl) (by kernel_rfl) (by kernel_rfl) (fun _ _ _ h => h) (Or.inl ⟨rfl, fun W hW => by go_simp⟩) hS0 ?_
          simp only [Act.put, List.setIfInBounds_toArray, List.set_cons_zero, List.set_cons_succ]
          refine takeR (fuel := 10) (i := 3) (v := .int .i64 H) rfl (by kernel_rfl) (by kernel_rfl) (by kernel_rfl) (fun _ _ _ h => h) (Or.inl ⟨rfl, fun W hW => by go_simp⟩) hS0 ?_
          simp only [Act.put, List.setIfInBounds_toArray, List.set_cons_zero, List.set_cons_succ]
          refine takeR (fuel := 9) (i := 4) (v := .int .i64 q) rfl (by kernel_rfl) (by kernel_rfl) (by kernel_rfl) (fun _ _ _ h => h) (Or.inl ⟨rfl, fun W hW => by go_simp⟩) hS0 ?_
          simp only [Act.put, List.setIfInBounds_toArray, List.set_cons_zero, List.set_cons_succ]
          refine takeR (fuel := 8) (i := 5) (v := .pointer (some ⟨blk, off + q * 9, none⟩)) rfl (by kernel_rfl) (by kernel_rfl) (by kernel_rfl) (fun _ _ _ h => h) (Or.inl ⟨rfl, fun W hW => by go_simp⟩) hS0 ?_
          simp only [Act.put, List.setIfInBounds_toArray, List.set_cons_zero, List.set_cons_succ]
          refine takeR (fuel := 7) (i := 6) (v := .agg cX.toArray) rfl (by kernel_rfl) (by kernel_rfl) (by kernel_rfl) (fun _ _ _ h => h) (Or.inl ⟨rfl, fun W hW => exl _ _ _ _ rfl (.pointer (some ⟨blk, off + q * 9, none⟩)) _ rfl (LX.out W hW)⟩) hS0 ?_
          simp only [Act.put, List.setIfInBounds_toArray, List.set_cons_zero, List.set_cons_succ]
          refine takeR (fuel := 6) (i := 7) (v := .slice (some ⟨blk, off, none⟩) n cap) rfl (by kernel_rfl) (by kernel_rfl) (by kernel_rfl) (fun _ _ _ h => h) (Or.inl ⟨rfl, fun W hW => by go_simp⟩) hS0 ?_
          simp only [Act.put, List.setIfInBounds_toArray, List.set_cons_zero, List.set_cons_succ]
          refine takeR (fuel := 5) (i := 8) (v := .int .i64 H) rfl (by kernel_rfl) (by kernel_rfl) (by kernel_rfl) (fun _ _ _ h => h) (Or.inl ⟨rfl, fun W hW => by go_simp⟩) hS0 ?_
          simp only [Act.put, List.setIfInBounds_toArray, List.set_cons_zero, List.set_cons_succ]
          refine takeR (fuel := 4) (i := 9) (v := .pointer (some ⟨blk, off + H * 9, none⟩)) rfl (by kernel_rfl) (by kernel_rfl) (by kernel_rfl) (fun _ _ _ h => h) (Or.inl ⟨rfl, fun W hW => by go_simp⟩) hS0 ?_
          simp only [Act.put, List.setIfInBounds_toArray, List.set_cons_zero, List.set_cons_succ]
          refine takeR (fuel := 3) (i := 10) (v := .agg cY.toArray) rfl (by kernel_rfl) (by kernel_rfl) (by kernel_rfl) (fun _ _ _ h => h) (Or.inl ⟨rfl, fun W hW => exl _ _ _ _ rfl (.pointer (some ⟨blk, off + H * 9, none⟩)) _ rfl (LY.out W hW)⟩) hS0 ?_
          simp only [Act.put, List.setIfInBounds_toArray, List.set_cons_zero, List.set_cons_succ]
          refine consR (fuel := 2) (i := 11) rfl (by kernel_rfl) (fun K hK => ?_)
          rw [if_pos (by rfl)]
          go_simp
          refine (HCMP.out _ hS0).mono ?_
          rintro x v1 ⟨rfl, HV1⟩
          refine hK.out _ _ HV1.out (fun hS1 => ?_)
          clear hK
          try simp only [Act.put, List.setIfInBounds_toArray, List.set_cons_zero, List.set_cons_succ]
          refine takeR (fuel := 1) (i := 12) (v := .bool true) rfl (by kernel_rfl) (by kernel_rfl) (by kernel_rfl) (fun _ _ _ h => h) (Or.inl ⟨rfl, fun W hW => by go_simp⟩) hS1 ?_
          simp only [Act.put, List.setIfInBounds_toArray, List.set_cons_zero, List.set_cons_succ]
          refine takeR (fuel := 0) (i := 13) (v := .bool false) rfl (by kernel_rfl) (by kernel_rfl) (by kernel_rfl) (fun _ _ _ h => h) (Or.inl ⟨rfl, fun W hW => by go_simp⟩) hS1 ?_
          simp only [Act.put, List.setIfInBounds_toArray, List.set_cons_zero, List.set_cons_succ]
          refine wpAnyH_done (by kernel_rfl) ?_ _
          go_wp2_with fail
          go_roundw
          case rel => exact ⟨i, H, rfl, by first | rfl | exact congrArg _ hHw, HV1.out, HZ.out⟩
          case measure => first | exact HMs.out | (rw [hHw]; exact HMs.out)
        · have HZ : Hid (Srh (fun c => ltI d[nn - 1 - c]!.1 d[c]!.1 = false) a m (H + 1) j) := HS.out.2.up hH1 hH2 (by show ltI d[nn - 1 - H]!.1 d[H]!.1 = false; rw [← hq, ← cfI_lt]; exact decide_eq_false hC)
          have HMs : Hid (j - (H + 1) < j - i) := ms_up hH1 hH2
          clear HS hij hH hHz hH1 hH2 q1 q2 q3 q4 hq
          generalize cfE d[q]! d[H]! = C at *
          generalize ies d[q]! = cX at *
          generalize ies d[H]! = cY at *
          go_upto_region 35 with fail
          refine wp_region_held (S := Sv w0 blk off d) (by kernel_rfl) ?_
          change wpAnyH _ _ _ _ _ 14 #[false, false, false, false, false, false, false, false, false, false, false, false, false, false] _ wr.drew
          have hS0 : Sv w0 blk off d wr.drew := HSV.out.drew
          refine takeR (fuel := 13) (i := 0) (v := .func (.func 49) #[] #[]) rfl (by kernel_rfl) (by kernel_rfl) (by kernel_rfl) (fun _ _ _ h => h) (Or.inl ⟨rfl, fun W hW => by go_simp⟩) hS0 ?_
          simp only [Act.put, List.setIfInBounds_toArray, List.set_cons_zero, List.set_cons_succ]
          refine takeR (fuel := 12) (i := 1) (v := .slice (some ⟨blk, off, none⟩) n cap) rfl (by kernel_rfl) (by kernel_rfl) (by kernel_rfl) (fun _ _ _ h => h) (Or.inl ⟨rfl, fun W hW => by go_simp⟩) hS0 ?_
          simp only [Act.put, List.setIfInBounds_toArray, List.set_cons_zero, List.set_cons_succ]
          refine takeR (fuel := 11) (i := 2) (v := .int .i64 p) rfl (by kernel_rfl) (by kernel_rfl) (by kernel_rfl) (fun _ _ _ h => h) (Or.inl ⟨rfl, fun W hW => by go_simp⟩) hS0 ?_
          simp only [Act.put, List.setIfInBounds_toArray, List.set_cons_zero, List.set_cons_succ]
          refine takeR (fuel := 10) (i := 3) (v := .int .i64 H) rfl (by kernel_rfl) (by kernel_rfl) (by kernel_rfl) (fun _ _ _ h => h) (Or.inl ⟨rfl, fun W hW => by go_simp⟩) hS0 ?_
          simp only [Act.put, List.setIfInBounds_toArray, List.set_cons_zero, List.set_cons_succ]
          refine takeR (fuel := 9) (i := 4) (v := .int .i64 q) rfl (by kernel_rfl) (by kernel_rfl) (by kernel_rfl) (fun _ _ _ h => h) (Or.inl ⟨rfl, fun W hW => by go_simp⟩) hS0 ?_
          simp only [Act.put, List.setIfInBounds_toArray, List.set_cons_zero, List.set_cons_succ]
          refine takeR (fuel := 8) (i := 5) (v := .pointer (some ⟨blk, off + q * 9, none⟩)) rfl (by kernel_rfl) (by kernel_rfl) (by kernel_rfl) (fun _ _ _ h => h) (Or.inl ⟨rfl, fun W hW => by go_simp⟩) hS0 ?_
          simp only [Act.put, List.setIfInBounds_toArray, List.set_cons_zero, List.set_cons_succ]
          refine takeR (fuel := 7) (i := 6) (v := .agg cX.toArray) rfl (by kernel_rfl) (by kernel_rfl) (by kernel_rfl) (fun _ _ _ h => h) (Or.inl ⟨rfl, fun W hW => exl _ _ _ _ rfl (.pointer (some ⟨blk, off + q * 9, none⟩)) _ rfl (LX.out W hW)⟩) hS0 ?_
          simp only [Act.put, List.setIfInBounds_toArray, List.set_cons_zero, List.set_cons_succ]
          refine takeR (fuel := 6) (i := 7) (v := .slice (some ⟨blk, off, none⟩) n cap) rfl (by kernel_rfl) (by kernel_rfl) (by kernel_rfl) (fun _ _ _ h => h) (Or.inl ⟨rfl, fun W hW => by go_simp⟩) hS0 ?_
          simp only [Act.put, List.setIfInBounds_toArray, List.set_cons_zero, List.set_cons_succ]
          refine takeR (fuel := 5) (i := 8) (v := .int .i64 H) rfl (by kernel_rfl) (by kernel_rfl) (by kernel_rfl) (fun _ _ _ h => h) (Or.inl ⟨rfl, fun W hW => by go_simp⟩) hS0 ?_
          simp only [Act.put, List.setIfInBounds_toArray, List.set_cons_zero, List.set_cons_succ]
          refine takeR (fuel := 4) (i := 9) (v := .pointer (some ⟨blk, off + H * 9, none⟩)) rfl (by kernel_rfl) (by kernel_rfl) (by kernel_rfl) (fun _ _ _ h => h) (Or.inl ⟨rfl, fun W hW => by go_simp⟩) hS0 ?_
          simp only [Act.put, List.setIfInBounds_toArray, List.set_cons_zero, List.set_cons_succ]
          refine takeR (fuel := 3) (i := 10) (v := .agg cY.toArray) rfl (by kernel_rfl) (by kernel_rfl) (by kernel_rfl) (fun _ _ _ h => h) (Or.inl ⟨rfl, fun W hW => exl _ _ _ _ rfl (.pointer (some ⟨blk, off + H * 9, none⟩)) _ rfl (LY.out W hW)⟩) hS0 ?_
          simp only [Act.put, List.setIfInBounds_toArray, List.set_cons_zero, List.set_cons_succ]
          refine consR (fuel := 2) (i := 11) rfl (by kernel_rfl) (fun K hK => ?_)
          rw [if_pos (by rfl)]
          go_simp
          refine (HCMP.out _ hS0).mono ?_
          rintro x v1 ⟨rfl, HV1⟩
          refine hK.out _ _ HV1.out (fun hS1 => ?_)
          clear hK
          try simp only [Act.put, List.setIfInBounds_toArray, List.set_cons_zero, List.set_cons_succ]
          refine takeR (fuel := 1) (i := 12) (v := .bool false) rfl (by kernel_rfl) (by kernel_rfl) (by kernel_rfl) (fun _ _ _ h => h) (Or.inl ⟨rfl, fun W hW => by go_simp⟩) hS1 ?_
          simp only [Act.put, List.setIfInBounds_toArray, List.set_cons_zero, List.set_cons_succ]
          refine takeR (fuel := 0) (i := 13) (v := .bool true) rfl (by kernel_rfl) (by kernel_rfl) (by kernel_rfl) (fun _ _ _ h => h) (Or.inl ⟨rfl, fun W hW => by go_simp⟩) hS1 ?_
          simp only [Act.put, List.setIfInBounds_toArray, List.set_cons_zero, List.set_cons_succ]
          refine wpAnyH_done (by kernel_rfl) ?_ _
          go_wp2_with fail
          go_roundw
          case rel => exact ⟨H + 1, j, by first | rfl | exact congrArg _ hHs, rfl, HV1.out, HZ.out⟩
          case measure => first | exact HMs.out | (rw [hHs]; exact HMs.out)
      · have hijz : ¬ (i : Int) < (j : Int) := fun h => hij (Int.ofNat_lt.1 h)
        have HF := hid_in (HS.out.2.fnd hij)
        obtain ⟨e, he, hez, hew, b1, b2, b3, b4, b5, b6, b7, b8⟩ := HFIN.out i HF.out
        have HV := hid_in HS.out.1
        have HFN : Hid (∀ d1 d2 d3, SS.Rot i m e d d1 ∧ PermIn i e d d1 → SS.SmP ltI a i mid d1 d2 → SS.SmP ltI mid e b d2 d3 → SS.SmP ltI a m b d d3) := fun d1 d2 d3 k1 k2 k3 => HG.out i e d1 d2 d3 HF.out he b1 b2 b3 b4 b5 b6 k1 k2 k3
        have HC1 : Hid (i < m ∧ m < e → ∀ W, Sv w0 blk off d W → Calls Try.prog 109 #[.slice (some ⟨blk, off, none⟩) n cap, .int .i64 i, .int .i64 m, .int .i64 e, .func (.func 49) #[] #[]] W fun x w' => x = .returned (.tuple #[]) ∧ ∃ d1, Hid (Sv w0 blk off d1 w' ∧ (SS.Rot i m e d d1 ∧ PermIn i e d d1))) := fun hc W hv => (xrot HR.out HH0.out.2.1 HH0.out.2.2 hv hc.1 hc.2 (Nat.le_trans b4 HN.out.2.2.1)).mono fun x w' hh => by
          obtain ⟨rfl, d1, q1, q2⟩ := hh
          exact ⟨rfl, d1, q1, q2⟩
        have hba : b - mid < b - a ∧ mid - a < b - a := num_c4 b7 b8
        have HC2 : Hid (a < i ∧ i < mid → ∀ d1 W, Sv w0 blk off d1 W → (SS.Rot i m e d d1 ∧ PermIn i e d d1) → Calls Try.prog 97 #[.slice (some ⟨blk, off, none⟩) n cap, .int .i64 a, .int .i64 i, .int .i64 mid, .func (.func 49) #[] #[]] W fun x w' => x = .returned (.tuple #[]) ∧ ∃ d2, Hid (Sv w0 blk off d2 w' ∧ SS.SmP ltI a i mid d1 d2)) := fun hc d1 W hv hr => (HHI.out a i mid d1 W hba.2 (hr.1.1.trans HH0.out.2.1) hv hc.1 hc.2 (by rw [hr.1.1]; exact Nat.le_trans (Nat.le_of_lt b8) HN.out.2.2.1)).mono fun x w' hh => by
          obtain ⟨rfl, d2, q1, q2⟩ := hh
          exact ⟨rfl, d2, q1, q2⟩
        have HC3 : Hid (mid < e ∧ e < b → ∀ d1 d2 W, Sv w0 blk off d2 W → (SS.Rot i m e d d1 ∧ PermIn i e d d1) → SS.SmP ltI a i mid d1 d2 → Calls Try.prog 97 #[.slice (some ⟨blk, off, none⟩) n cap, .int .i64 mid, .int .i64 e, .int .i64 b, .func (.func 49) #[] #[]] W fun x w' => x = .returned (.tuple #[]) ∧ ∃ d3, Hid (Sv w0 blk off d3 w' ∧ SS.SmP ltI mid e b d2 d3)) := fun hc d1 d2 W hv hr hs2 => (HHI.out mid e b d2 W hba.1 ((hs2.1.1.trans hr.1.1).trans HH0.out.2.1) hv hc.1 hc.2 (by rw [hs2.1.1, hr.1.1]; exact HN.out.2.2.1)).mono fun x w' hh => by
          obtain ⟨rfl, d3, q1, q2⟩ := hh
          exact ⟨rfl, d3, q1, q2⟩
        have N1 : Hid (¬ (i < m ∧ m < e) → SS.Rot i m e d d ∧ PermIn i e d d) := fun h => ⟨SS.Rot.none h b2 b3, permIn_refl d i e⟩
        have N2 : Hid (¬ (a < i ∧ i < mid) → ∀ d1, SS.SmP ltI a i mid d1 d1) := fun h d1 => sm_none h b1 b5
        have N3 : Hid (¬ (mid < e ∧ e < b) → ∀ d1, SS.SmP ltI mid e b d1 d1) := fun h d1 => sm_none h b6 b4
        clear HS hij he b1 b2 b3 b4 b5 b6 b7 b8 hba
        by_cases p0 : i < m
        · have p0z : (i : Int) < (m : Int) := Int.ofNat_lt.2 p0
          by_cases p1 : m < e
          · have p1z : (m : Int) < (e : Int) := Int.ofNat_lt.2 p1
            by_cases p2 : a < i
            · have p2z : (a : Int) < (i : Int) := Int.ofNat_lt.2 p2
              by_cases p3 : i < mid
              · have p3z : (i : Int) < (mid : Int) := Int.ofNat_lt.2 p3
                by_cases p4 : mid < e
                · have p4z : (mid : Int) < (e : Int) := Int.ofNat_lt.2 p4
                  by_cases p5 : e < b
                  · have p5z : (e : Int) < (b : Int) := Int.ofNat_lt.2 p5
                    go_wp2_with (first | (go_at_call 109; refine (HC1.out ⟨p0, p1⟩ _ HV.out).mono ?_; clear HC1; rintro x w4 ⟨rfl, d1, H1⟩) | (go_at_call 97; refine (HC2.out ⟨p2, p3⟩ d1 _ H1.out.1 H1.out.2).mono ?_; clear HC2; rintro x w5 ⟨rfl, d2, H2⟩) | (go_at_call 97; refine (HC3.out ⟨p4, p5⟩ d1 d2 _ H2.out.1 H1.out.2 H2.out.2).mono ?_; clear HC3; rintro x w6 ⟨rfl, d3, H3⟩))
                    refine bodyPost_ret (results_none rfl _ _ _) rfl ?_
                    exact ⟨rfl, d3, H3.out.1, HFN.out d1 d2 d3 H1.out.2 H2.out.2 H3.out.2⟩
                  · have p5z : ¬ (e : Int) < (b : Int) := fun h => p5 (Int.ofNat_lt.1 h)
                    have p45 : ¬ (mid < e ∧ e < b) := fun h => p5 h.2
                    go_wp2_with (first | (go_at_call 109; refine (HC1.out ⟨p0, p1⟩ _ HV.out).mono ?_; clear HC1; rintro x w4 ⟨rfl, d1, H1⟩) | (go_at_call 97; refine (HC2.out ⟨p2, p3⟩ d1 _ H1.out.1 H1.out.2).mono ?_; clear HC2; rintro x w5 ⟨rfl, d2, H2⟩))
                    refine bodyPost_ret (results_none rfl _ _ _) rfl ?_
                    exact ⟨rfl, d2, H2.out.1, HFN.out d1 d2 d2 H1.out.2 H2.out.2 (N3.out p45 d2)⟩
                · have p4z : ¬ (mid : Int) < (e : Int) := fun h => p4 (Int.ofNat_lt.1 h)
                  have p45 : ¬ (mid < e ∧ e < b) := fun h => p4 h.1
                  go_wp2_with (first | (go_at_call 109; refine (HC1.out ⟨p0, p1⟩ _ HV.out).mono ?_; clear HC1; rintro x w4 ⟨rfl, d1, H1⟩) | (go_at_call 97; refine (HC2.out ⟨p2, p3⟩ d1 _ H1.out.1 H1.out.2).mono ?_; clear HC2; rintro x w5 ⟨rfl, d2, H2⟩))
                  refine bodyPost_ret (results_none rfl _ _ _) rfl ?_
                  exact ⟨rfl, d2, H2.out.1, HFN.out d1 d2 d2 H1.out.2 H2.out.2 (N3.out p45 d2)⟩
              · have p3z : ¬ (i : Int) < (mid : Int) := fun h => p3 (Int.ofNat_lt.1 h)
                have p23 : ¬ (a < i ∧ i < mid) := fun h => p3 h.2
                by_cases p4 : mid < e
                · have p4z : (mid : Int) < (e : Int) := Int.ofNat_lt.2 p4
                  by_cases p5 : e < b
                  · have p5z : (e : Int) < (b : Int) := Int.ofNat_lt.2 p5
                    go_wp2_with (first | (go_at_call 109; refine (HC1.out ⟨p0, p1⟩ _ HV.out).mono ?_; clear HC1; rintro x w4 ⟨rfl, d1, H1⟩) | (go_at_call 97; refine (HC3.out ⟨p4, p5⟩ d1 d1 _ H1.out.1 H1.out.2 (N2.out p23 d1)).mono ?_; clear HC3; rintro x w6 ⟨rfl, d3, H3⟩))
                    refine bodyPost_ret (results_none rfl _ _ _) rfl ?_
                    exact ⟨rfl, d3, H3.out.1, HFN.out d1 d1 d3 H1.out.2 (N2.out p23 d1) H3.out.2⟩
                  · have p5z : ¬ (e : Int) < (b : Int) := fun h => p5 (Int.ofNat_lt.1 h)
                    have p45 : ¬ (mid < e ∧ e < b) := fun h => p5 h.2
                    go_wp2_with (first | (go_at_call 109; refine (HC1.out ⟨p0, p1⟩ _ HV.out).mono ?_; clear HC1; rintro x w4 ⟨rfl, d1, H1⟩))
                    refine bodyPost_ret (results_none rfl _ _ _) rfl ?_
                    exact ⟨rfl, d1, H1.out.1, HFN.out d1 d1 d1 H1.out.2 (N2.out p23 d1) (N3.out p45 d1)⟩
                · have p4z : ¬ (mid : Int) < (e : Int) := fun h => p4 (Int.ofNat_lt.1 h)
                  have p45 : ¬ (mid < e ∧ e < b) := fun h => p4 h.1
                  go_wp2_with (first | (go_at_call 109; refine (HC1.out ⟨p0, p1⟩ _ HV.out).mono ?_; clear HC1; rintro x w4 ⟨rfl, d1, H1⟩))
                  refine bodyPost_ret (results_none rfl _ _ _) rfl ?_
                  exact ⟨rfl, d1, H1.out.1, HFN.out d1 d1 d1 H1.out.2 (N2.out p23 d1) (N3.out p45 d1)⟩
            · have p2z : ¬ (a : Int) < (i : Int) := fun h => p2 (Int.ofNat_lt.1 h)
              have p23 : ¬ (a < i ∧ i < mid) := fun h => p2 h.1
              by_cases p4 : mid < e
              · have p4z : (mid : Int) < (e : Int) := Int.ofNat_lt.2 p4
                by_cases p5 : e < b
                · have p5z : (e : Int) < (b : Int) := Int.ofNat_lt.2 p5
                  go_wp2_with (first | (go_at_call 109; refine (HC1.out ⟨p0, p1⟩ _ HV.out).mono ?_; clear HC1; rintro x w4 ⟨rfl, d1, H1⟩) | (go_at_call 97; refine (HC3.out ⟨p4, p5⟩ d1 d1 _ H1.out.1 H1.out.2 (N2.out p23 d1)).mono ?_; clear HC3; rintro x w6 ⟨rfl, d3, H3⟩))
                  refine bodyPost_ret (results_none rfl _ _ _) rfl ?_
                  exact ⟨rfl, d3, H3.out.1, HFN.out d1 d1 d3 H1.out.2 (N2.out p23 d1) H3.out.2⟩
                · have p5z : ¬ (e : Int) < (b : Int) := fun h => p5 (Int.ofNat_lt.1 h)
                  have p45 : ¬ (mid < e ∧ e < b) := fun h => p5 h.2
                  go_wp2_with (first | (go_at_call 109; refine (HC1.out ⟨p0, p1⟩ _ HV.out).mono ?_; clear HC1; rintro x w4 ⟨rfl, d1, H1⟩))
                  refine bodyPost_ret (results_none rfl _ _ _) rfl ?_
                  exact ⟨rfl, d1, H1.out.1, HFN.out d1 d1 d1 H1.out.2 (N2.out p23 d1) (N3.out p45 d1)⟩
              · have p4z : ¬ (mid : Int) < (e : Int) := fun h => p4 (Int.ofNat_lt.1 h)
                have p45 : ¬ (mid < e ∧ e < b) := fun h => p4 h.1
                go_wp2_with (first | (go_at_call 109; refine (HC1.out ⟨p0, p1⟩ _ HV.out).mono ?_; clear HC1; rintro x w4 ⟨rfl, d1, H1⟩))
                refine bodyPost_ret (results_none rfl _ _ _) rfl ?_
                exact ⟨rfl, d1, H1.out.1, HFN.out d1 d1 d1 H1.out.2 (N2.out p23 d1) (N3.out p45 d1)⟩
          · have p1z : ¬ (m : Int) < (e : Int) := fun h => p1 (Int.ofNat_lt.1 h)
            have p01 : ¬ (i < m ∧ m < e) := fun h => p1 h.2
            by_cases p2 : a < i
            · have p2z : (a : Int) < (i : Int) := Int.ofNat_lt.2 p2
              by_cases p3 : i < mid
              · have p3z : (i : Int) < (mid : Int) := Int.ofNat_lt.2 p3
                by_cases p4 : mid < e
                · have p4z : (mid : Int) < (e : Int) := Int.ofNat_lt.2 p4
                  by_cases p5 : e < b
                  · have p5z : (e : Int) < (b : Int) := Int.ofNat_lt.2 p5
                    have H1 : Hid (Sv w0 blk off d wr ∧ (SS.Rot i m e d d ∧ PermIn i e d d)) := ⟨HV.out, N1.out p01⟩
                    go_wp2_with (first | (go_at_call 97; refine (HC2.out ⟨p2, p3⟩ d _ H1.out.1 H1.out.2).mono ?_; clear HC2; rintro x w5 ⟨rfl, d2, H2⟩) | (go_at_call 97; refine (HC3.out ⟨p4, p5⟩ d d2 _ H2.out.1 H1.out.2 H2.out.2).mono ?_; clear HC3; rintro x w6 ⟨rfl, d3, H3⟩))
                    refine bodyPost_ret (results_none rfl _ _ _) rfl ?_
                    exact ⟨rfl, d3, H3.out.1, HFN.out d d2 d3 H1.out.2 H2.out.2 H3.out.2⟩
                  · have p5z : ¬ (e : Int) < (b : Int) := fun h => p5 (Int.ofNat_lt.1 h)
                    have p45 : ¬ (mid < e ∧ e < b) := fun h => p5 h.2
                    have H1 : Hid (Sv w0 blk off d wr ∧ (SS.Rot i m e d d ∧ PermIn i e d d)) := ⟨HV.out, N1.out p01⟩
                    go_wp2_with (first | (go_at_call 97; refine (HC2.out ⟨p2, p3⟩ d _ H1.out.1 H1.out.2).mono ?_; clear HC2; rintro x w5 ⟨rfl, d2, H2⟩))
                    refine bodyPost_ret (results_none rfl _ _ _) rfl ?_
                    exact ⟨rfl, d2, H2.out.1, HFN.out d d2 d2 H1.out.2 H2.out.2 (N3.out p45 d2)⟩
                · have p4z : ¬ (mid : Int) < (e : Int) := fun h => p4 (Int.ofNat_lt.1 h)
                  have p45 : ¬ (mid < e ∧ e < b) := fun h => p4 h.1
                  have H1 : Hid (Sv w0 blk off d wr ∧ (SS.Rot i m e d d ∧ PermIn i e d d)) := ⟨HV.out, N1.out p01⟩
                  go_wp2_with (first | (go_at_call 97; refine (HC2.out ⟨p2, p3⟩ d _ H1.out.1 H1.out.2).mono ?_; clear HC2; rintro x w5 ⟨rfl, d2, H2⟩))
                  refine bodyPost_ret (results_none rfl _ _ _) rfl ?_
                  exact ⟨rfl, d2, H2.out.1, HFN.out d d2 d2 H1.out.2 H2.out.2 (N3.out p45 d2)⟩
              · have p3z : ¬ (i : Int) < (mid : Int) := fun h => p3 (Int.ofNat_lt.1 h)
                have p23 : ¬ (a < i ∧ i < mid) := fun h => p3 h.2
                by_cases p4 : mid < e
                · have p4z : (mid : Int) < (e : Int) := Int.ofNat_lt.2 p4
                  by_cases p5 : e < b
                  · have p5z : (e : Int) < (b : Int) := Int.ofNat_lt.2 p5
                    have H1 : Hid (Sv w0 blk off d wr ∧ (SS.Rot i m e d d ∧ PermIn i e d d)) := ⟨HV.out, N1.out p01⟩
                    go_wp2_with (first | (go_at_call 97; refine (HC3.out ⟨p4, p5⟩ d d _ H1.out.1 H1.out.2 (N2.out p23 d)).mono ?_; clear HC3; rintro x w6 ⟨rfl, d3, H3⟩))
                    refine bodyPost_ret (results_none rfl _ _ _) rfl ?_
                    exact ⟨rfl, d3, H3.out.1, HFN.out d d d3 H1.out.2 (N2.out p23 d) H3.out.2⟩
                  · have p5z : ¬ (e : Int) < (b : Int) := fun h => p5 (Int.ofNat_lt.1 h)
                    have p45 : ¬ (mid < e ∧ e < b) := fun h => p5 h.2
                    have H1 : Hid (Sv w0 blk off d wr ∧ (SS.Rot i m e d d ∧ PermIn i e d d)) := ⟨HV.out, N1.out p01⟩
                    go_wp2_with fail
                    refine bodyPost_ret (results_none rfl _ _ _) rfl ?_
                    exact ⟨rfl, d, H1.out.1, HFN.out d d d H1.out.2 (N2.out p23 d) (N3.out p45 d)⟩
                · have p4z : ¬ (mid : Int) < (e : Int) := fun h => p4 (Int.ofNat_lt.1 h)
                  have p45 : ¬ (mid < e ∧ e < b) := fun h => p4 h.1
                  have H1 : Hid (Sv w0 blk off d wr ∧ (SS.Rot i m e d d ∧ PermIn i e d d)) := ⟨HV.out, N1.out p01⟩
                  go_wp2_with fail
                  refine bodyPost_ret (results_none rfl _ _ _) rfl ?_
                  exact ⟨rfl, d, H1.out.1, HFN.out d d d H1.out.2 (N2.out p23 d) (N3.out p45 d)⟩
            · have p2z : ¬ (a : Int) < (i : Int) := fun h => p2 (Int.ofNat_lt.1 h)
              have p23 : ¬ (a < i ∧ i < mid) := fun h => p2 h.1
              by_cases p4 : mid < e
              · have p4z : (mid : Int) < (e : Int) := Int.ofNat_lt.2 p4
                by_cases p5 : e < b
                · have p5z : (e : Int) < (b : Int) := Int.ofNat_lt.2 p5
                  have H1 : Hid (Sv w0 blk off d wr ∧ (SS.Rot i m e d d ∧ PermIn i e d d)) := ⟨HV.out, N1.out p01⟩
                  go_wp2_with (first | (go_at_call 97; refine (HC3.out ⟨p4, p5⟩ d d _ H1.out.1 H1.out.2 (N2.out p23 d)).mono ?_; clear HC3; rintro x w6 ⟨rfl, d3, H3⟩))
                  refine bodyPost_ret (results_none rfl _ _ _) rfl ?_
                  exact ⟨rfl, d3, H3.out.1, HFN.out d d d3 H1.out.2 (N2.out p23 d) H3.out.2⟩
                · have p5z : ¬ (e : Int) < (b : Int) := fun h => p5 (Int.ofNat_lt.1 h)
                  have p45 : ¬ (mid < e ∧ e < b) := fun h => p5 h.2
                  have H1 : Hid (Sv w0 blk off d wr ∧ (SS.Rot i m e d d ∧ PermIn i e d d)) := ⟨HV.out, N1.out p01⟩
                  go_wp2_with fail
                  refine bodyPost_ret (results_none rfl _ _ _) rfl ?_
                  exact ⟨rfl, d, H1.out.1, HFN.out d d d H1.out.2 (N2.out p23 d) (N3.out p45 d)⟩
              · have p4z : ¬ (mid : Int) < (e : Int) := fun h => p4 (Int.ofNat_lt.1 h)
                have p45 : ¬ (mid < e ∧ e < b) := fun h => p4 h.1
                have H1 : Hid (Sv w0 blk off d wr ∧ (SS.Rot i m e d d ∧ PermIn i e d d)) := ⟨HV.out, N1.out p01⟩
                go_wp2_with fail
                refine bodyPost_ret (results_none rfl _ _ _) rfl ?_
                exact ⟨rfl, d, H1.out.1, HFN.out d d d H1.out.2 (N2.out p23 d) (N3.out p45 d)⟩
        · have p0z : ¬ (i : Int) < (m : Int) := fun h => p0 (Int.ofNat_lt.1 h)
          have p01 : ¬ (i < m ∧ m < e) := fun h => p0 h.1
          by_cases p2 : a < i
          · have p2z : (a : Int) < (i : Int) := Int.ofNat_lt.2 p2
            by_cases p3 : i < mid
            · have p3z : (i : Int) < (mid : Int) := Int.ofNat_lt.2 p3
              by_cases p4 : mid < e
              · have p4z : (mid : Int) < (e : Int) := Int.ofNat_lt.2 p4
                by_cases p5 : e < b
                · have p5z : (e : Int) < (b : Int) := Int.ofNat_lt.2 p5
                  have H1 : Hid (Sv w0 blk off d wr ∧ (SS.Rot i m e d d ∧ PermIn i e d d)) := ⟨HV.out, N1.out p01⟩
                  go_wp2_with (first | (go_at_call 97; refine (HC2.out ⟨p2, p3⟩ d _ H1.out.1 H1.out.2).mono ?_; clear HC2; rintro x w5 ⟨rfl, d2, H2⟩) | (go_at_call 97; refine (HC3.out ⟨p4, p5⟩ d d2 _ H2.out.1 H1.out.2 H2.out.2).mono ?_; clear HC3; rintro x w6 ⟨rfl, d3, H3⟩))
                  refine bodyPost_ret (results_none rfl _ _ _) rfl ?_
                  exact ⟨rfl, d3, H3.out.1, HFN.out d d2 d3 H1.out.2 H2.out.2 H3.out.2⟩
                · have p5z : ¬ (e : Int) < (b : Int) := fun h => p5 (Int.ofNat_lt.1 h)
                  have p45 : ¬ (mid < e ∧ e < b) := fun h => p5 h.2
                  have H1 : Hid (Sv w0 blk off d wr ∧ (SS.Rot i m e d d ∧ PermIn i e d d)) := ⟨HV.out, N1.out p01⟩
                  go_wp2_with (first | (go_at_call 97; refine (HC2.out ⟨p2, p3⟩ d _ H1.out.1 H1.out.2).mono ?_; clear HC2; rintro x w5 ⟨rfl, d2, H2⟩))
                  refine bodyPost_ret (results_none rfl _ _ _) rfl ?_
                  exact ⟨rfl, d2, H2.out.1, HFN.out d d2 d2 H1.out.2 H2.out.2 (N3.out p45 d2)⟩
              · have p4z : ¬ (mid : Int) < (e : Int) := fun h => p4 (Int.ofNat_lt.1 h)
                have p45 : ¬ (mid < e ∧ e < b) := fun h => p4 h.1
                have H1 : Hid (Sv w0 blk off d wr ∧ (SS.Rot i m e d d ∧ PermIn i e d d)) := ⟨HV.out, N1.out p01⟩
                go_wp2_with (first | (go_at_call 97; refine (HC2.out ⟨p2, p3⟩ d _ H1.out.1 H1.out.2).mono ?_; clear HC2; rintro x w5 ⟨rfl, d2, H2⟩))
                refine bodyPost_ret (results_none rfl _ _ _) rfl ?_
                exact ⟨rfl, d2, H2.out.1, HFN.out d d2 d2 H1.out.2 H2.out.2 (N3.out p45 d2)⟩
            · have p3z : ¬ (i : Int) < (mid : Int) := fun h => p3 (Int.ofNat_lt.1 h)
              have p23 : ¬ (a < i ∧ i < mid) := fun h => p3 h.2
              by_cases p4 : mid < e
              · have p4z : (mid : Int) < (e : Int) := Int.ofNat_lt.2 p4
                by_cases p5 : e < b
                · have p5z : (e : Int) < (b : Int) := Int.ofNat_lt.2 p5
                  have H1 : Hid (Sv w0 blk off d wr ∧ (SS.Rot i m e d d ∧ PermIn i e d d)) := ⟨HV.out, N1.out p01⟩
                  go_wp2_with (first | (go_at_call 97; refine (HC3.out ⟨p4, p5⟩ d d _ H1.out.1 H1.out.2 (N2.out p23 d)).mono ?_; clear HC3; rintro x w6 ⟨rfl, d3, H3⟩))
                  refine bodyPost_ret (results_none rfl _ _ _) rfl ?_
                  exact ⟨rfl, d3, H3.out.1, HFN.out d d d3 H1.out.2 (N2.out p23 d) H3.out.2⟩
                · have p5z : ¬ (e : Int) < (b : Int) := fun h => p5 (Int.ofNat_lt.1 h)
                  have p45 : ¬ (mid < e ∧ e < b) := fun h => p5 h.2
                  have H1 : Hid (Sv w0 blk off d wr ∧ (SS.Rot i m e d d ∧ PermIn i e d d)) := ⟨HV.out, N1.out p01⟩
                  go_wp2_with fail
                  refine bodyPost_ret (results_none rfl _ _ _) rfl ?_
                  exact ⟨rfl, d, H1.out.1, HFN.out d d d H1.out.2 (N2.out p23 d) (N3.out p45 d)⟩
              · have p4z : ¬ (mid : Int) < (e : Int) := fun h => p4 (Int.ofNat_lt.1 h)
                have p45 : ¬ (mid < e ∧ e < b) := fun h => p4 h.1
                have H1 : Hid (Sv w0 blk off d wr ∧ (SS.Rot i m e d d ∧ PermIn i e d d)) := ⟨HV.out, N1.out p01⟩
                go_wp2_with fail
                refine bodyPost_ret (results_none rfl _ _ _) rfl ?_
                exact ⟨rfl, d, H1.out.1, HFN.out d d d H1.out.2 (N2.out p23 d) (N3.out p45 d)⟩
          · have p2z : ¬ (a : Int) < (i : Int) := fun h => p2 (Int.ofNat_lt.1 h)
            have p23 : ¬ (a < i ∧ i < mid) := fun h => p2 h.1
            by_cases p4 : mid < e
            · have p4z : (mid : Int) < (e : Int) := Int.ofNat_lt.2 p4
              by_cases p5 : e < b
              · have p5z : (e : Int) < (b : Int) := Int.ofNat_lt.2 p5
                have H1 : Hid (Sv w0 blk off d wr ∧ (SS.Rot i m e d d ∧ PermIn i e d d)) := ⟨HV.out, N1.out p01⟩
                go_wp2_with (first | (go_at_call 97; refine (HC3.out ⟨p4, p5⟩ d d _ H1.out.1 H1.out.2 (N2.out p23 d)).mono ?_; clear HC3; rintro x w6 ⟨rfl, d3, H3⟩))
                refine bodyPost_ret (results_none rfl _ _ _) rfl ?_
                exact ⟨rfl, d3, H3.out.1, HFN.out d d d3 H1.out.2 (N2.out p23 d) H3.out.2⟩
              · have p5z : ¬ (e : Int) < (b : Int) := fun h => p5 (Int.ofNat_lt.1 h)
                have p45 : ¬ (mid < e ∧ e < b) := fun h => p5 h.2
                have H1 : Hid (Sv w0 blk off d wr ∧ (SS.Rot i m e d d ∧ PermIn i e d d)) := ⟨HV.out, N1.out p01⟩
                go_wp2_with fail
                refine bodyPost_ret (results_none rfl _ _ _) rfl ?_
                exact ⟨rfl, d, H1.out.1, HFN.out d d d H1.out.2 (N2.out p23 d) (N3.out p45 d)⟩
            · have p4z : ¬ (mid : Int) < (e : Int) := fun h => p4 (Int.ofNat_lt.1 h)
              have p45 : ¬ (mid < e ∧ e < b) := fun h => p4 h.1
              have H1 : Hid (Sv w0 blk off d wr ∧ (SS.Rot i m e d d ∧ PermIn i e d d)) := ⟨HV.out, N1.out p01⟩
              go_wp2_with fail
              refine bodyPost_ret (results_none rfl _ _ _) rfl ?_
              exact ⟨rfl, d, H1.out.1, HFN.out d d d H1.out.2 (N2.out p23 d) (N3.out p45 d)⟩
end
end Go.Proofs.Ytheikjjehidagaa
