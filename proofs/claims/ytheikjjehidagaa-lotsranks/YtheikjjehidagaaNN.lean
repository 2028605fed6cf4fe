/- layer 17: Has and Both of the program; lots taken away, and what is in both, by the document -/
import Derived.Test.YtheikjjehidagaaNM
import Derived.WalkKit
import Derived.ProofKit
import Derived.Handy
import Derived.WalkLawsBesides
import Derived.WalkSpells
import Derived.BigQuiet
import Derived.BigCall
import Derived.Deep.QuietTactic
import Derived.Deep.Light
import Derived.Deep.OwnRows
import Derived.Laws.AppendOwnNone
import Derived.Laws.Strings3
import Derived.Laws.RangeAny
import Derived.Deep.RegionWith
import Derived.Lib.BitFns
import Derived.Lib.Walk
import Derived.Lib.Strings
import Derived.Lib.OthersKept
import Derived.Deep.CutBlock
import Derived.Deep.DeepCutAuto
import Derived.Deep.LoopGhost
import Derived.Deep.RegionHeld3
import Derived.Lib.SmallJoins
import Derived.Maps.AppendAt
import Derived.Laws.IdiomStrings
import Derived.Lib.AppendZeros
import Derived.Deep.WholeRow
import Derived.Laws.BitsAllLaws
import Derived.Lib.ConvBytes
import Derived.Deep.RegionLaw
import Derived.Maps.OwnSet
import Derived.Maps.OwnOps
import Derived.Maps.RangeWalk
import Derived.Maps.Ext
import Derived.DeepKeys4
import Derived.Laws.StructEq
import Derived.Deep.MidRow
import Derived.Lib.Bytealg
import Derived.Lib.AppendZerosOnto
import Derived.Laws.MakeOwn
import Derived.Deep.Upon
import Derived.Sort.KeysCollected
namespace Go.Proofs.Ytheikjjehidagaa
open Go.RowKit
set_option linter.unusedVariables false
set_option linter.unusedSimpArgs false
set_option maxRecDepth 20000
theorem xhas (a b : List Lt) (ga : Good a) (gb : Good b) (hs : ∀ x ∈ a ++ b, x.i.size ≤ 281474976710656) (ad : Option Addr) (cap : Nat) (ad2 : Option Addr) (cap2 : Nat) (w : World) (h : Rw 2 lcs w ad a) (h2 : Rw 2 lcs w ad2 b) : Calls Try.prog 19 #[.slice ad a.length cap, .slice ad2 b.length cap2] w (BbP (decide (mnE a b = 0)) w) := by
  have HC : Hid (Calls Try.prog 17 #[.slice ad a.length cap, .slice ad2 b.length cap2] w fun e w' => ∃ v, e = .returned (.tuple #[v, .int .i64 (mnE a b)]) ∧ Hid (Below w.heap.size w w')) := (xminus a b ga gb hs ad cap ad2 cap2 w h h2).mono fun e w' hh => by
    obtain ⟨a', cap', rfl, HZ⟩ := hh
    exact ⟨_, rfl, HZ.out.2⟩
  have he : (((mnE a b : Nat) : Int) == 0) = decide (mnE a b = 0) := by
    by_cases e : mnE a b = 0
    · rw [e]; rfl
    · rw [decide_eq_false e, beq_eq_false_iff_ne]; omega
  clear ga gb hs h h2
  generalize decide (mnE a b = 0) = t at *
  generalize mnE a b = E at *
  go_enter Try.func19, Try.ntmps19
  go_wp2_with (go_at_call 17; refine HC.out.mono ?_; clear HC; rintro e w1 ⟨v, rfl, HB⟩)
  go_ret
  exact ⟨rfl, HB.out⟩
def BtP (a b : List Lt) (w : World) (e : Ending) (w' : World) : Prop := ∃ ad cap, e = .returned (.slice ad (bth a b).length cap) ∧ Hid (Rw 2 lcs w' ad (bth a b) ∧ Below w.heap.size w w')
set_option maxHeartbeats 16000000 in
theorem xboth (a b : List Lt) (ga : Good a) (gb : Good b) (hs : ∀ x ∈ a ++ b, x.i.size ≤ 281474976710656) (ad : Option Addr) (cap : Nat) (ad2 : Option Addr) (cap2 : Nat) (w : World) (h : Rw 2 lcs w ad a) (h2 : Rw 2 lcs w ad2 b) : Calls Try.prog 20 #[.slice ad a.length cap, .slice ad2 b.length cap2] w (BtP a b w) := by
  have HEa : Hid (Rw 2 lcs w ad a) := h
  have HSa : Hid (∀ x ∈ a, x.i.size ≤ 281474976710656) := fun x hx => hs x (by simp [hx])
  have HGa : Hid (a.length ≤ 64) := ga.len
  have hla : (a.length : Int) ≤ 64 := by have := ga.len; omega
  have HC : Hid (Calls Try.prog 44 #[.slice ad2 b.length cap2] w fun e w' => ∃ m, e = .returned (.map (some m)) ∧ Hid (PkR (fun x => min x.n (qty b (key x))) a w w' m b.length (qty b) 0 (.slice none 0 0))) := (xquant b gb (fun x hx => hs x (by simp [hx])) ad2 cap2 w h2).mono fun e w' hh => by
    obtain ⟨m, rfl, HZ⟩ := hh
    exact ⟨m, rfl, World.ownsRow_nil _ _ _ _, HZ.out⟩
  clear h h2 hs ga gb
  go_enter Try.func20, Try.ntmps20
  go_wp2_with (go_at_call 44; refine HC.out.mono ?_; clear HC; rintro e w1 ⟨m, rfl, HP0⟩)
  go_loopw [6, 13] (fun s i wr => ∃ (j : Nat) (v : Value), j ≤ a.length ∧ v = s ∧ i = .int .i64 j ∧ Hid (PkR (fun x => min x.n (qty b (key x))) a w wr m b.length (qty b) j v))
    (fun _ i _ => a.length - (intOf i).toNat)
  case atStart => exact ⟨0, _, Nat.zero_le _, rfl, rfl, HP0.out⟩
  case round =>
    clear HP0
    obtain ⟨j, v, hj, rfl, rfl, HP⟩ := hrel
    by_cases hjn : j < a.length
    · have hjz : (j : Int) < (a.length : Int) := by omega
      obtain ⟨blk, off, rfl, hbl, hcs⟩ := HEa.out (by omega)
      obtain ⟨c0, c1⟩ := Rw.at2 hcs HP.out.q.b hbl hjn
      obtain ⟨wa, hwa⟩ : ∃ wa, wr.alloc (.cells (lcs a[j]).toArray 43) = wa := ⟨_, rfl⟩
      have hXa : Bx wa wr.heap.size (lcs a[j]).toArray 43 := by rw [← hwa]; exact Bx.new _ _ _
      have hba : Below wr.heap.size wr wa := by rw [← hwa]; exact below_a _ _
      have hsz := HSa.out _ (List.getElem_mem hjn)
      have lk := (HP.out.q.below hba).look (s := a[j].i) hsz
      have HC := hid_in (HP.out.step hjn HGa.out hsz hba)
      have d0 : wa.cell? ⟨wr.heap.size, 0, none⟩ = some (.string a[j].i) := hXa.cell 0
      have d1 : wa.cell? ⟨wr.heap.size, 1, none⟩ = some (.int .i64 a[j].n) := hXa.cell 1
      have hki : key a[j] = a[j].i.toList := rfl
      simp only [hki] at HC lk
      clear hXa HP hsz hcs hki hba
      generalize qty b a[j].i.toList = N at *
      generalize a[j] = x at *
      obtain ⟨xi, xn⟩ := x
      simp only [lcs] at *
      go_upto_region 6 with fail
      try rw [hwa]
      clear hwa c0 c1
      go_wp2_with (go_at_call 45; refine HC.out.mono ?_; clear HC; rintro e w2 ⟨v', rfl, HZ⟩)
      go_roundw
      case rel => exact ⟨j + 1, v', by omega, rfl, by simp, HZ.out⟩
      case measure => simp [intOf]; omega
    · have hjz : ¬ (j : Int) < (a.length : Int) := by omega
      have hO : Ol w.heap.size wr v (bth a b) := by
        have := HP.out.o
        rwa [List.take_of_length_le (by omega)] at this
      obtain ⟨a', cap', rfl, _, hr⟩ := Ol.read hO
      have HF : Hid (BtP a b w (.returned (.slice a' (bth a b).length cap')) wr) := ⟨a', cap', rfl, hr, HP.out.q.b⟩
      clear HP hO hr
      go_wp2_with fail
      go_ret
      exact HF.out
/-- one of a list set to any number -/
theorem set_any {m : Lt} {M : List Lt} (hs : Srt M) (hn : ∀ x ∈ M, x.n ≠ 0) : Srt (setR m (decide (m.n = 0)) M) ∧ (∀ x ∈ setR m (decide (m.n = 0)) M, x.n ≠ 0) ∧ (∀ t, qty (setR m (decide (m.n = 0)) M) t = if t = key m then m.n else qty M t) ∧ (setR m (decide (m.n = 0)) M).length ≤ M.length + 1 := by
  refine ⟨setR_srt hs, fun x hx => ?_, fun t => ?_, ?_⟩
  · rcases setR_mem hx with ⟨h1, _⟩ | ⟨rfl, h1⟩
    · exact hn x h1
    · exact of_decide_eq_false h1
  · by_cases e : m.n = 0
    · rw [decide_eq_true e, setR_true, qty_filter, e]
    · rw [decide_eq_false e, qty_set]
  · by_cases e : m.n = 0
    · rw [decide_eq_true e, setR_true]
      have := List.length_filter_le (fun x => decide (key x ≠ key m)) M
      omega
    · rw [decide_eq_false e]
      exact setR_len
structure MjR (a b : List Lt) (w wr : World) (k : Nat) (ad : Option Addr) (M : List Lt) : Prop where
  r : Rw 2 lcs wr ad M
  s : Srt M
  n : ∀ x ∈ M, x.n ≠ 0
  q : ∀ t, qty M t = qty a t - qty (b.take k) t
  l : M.length ≤ 64 + k
  k : ∀ j (h : j < k) (hb : j < b.length), b[j].n ≤ qty a (key b[j])
  b : Below w.heap.size w wr
theorem MjR.at {a b : List Lt} {w wr : World} {k : Nat} {ad : Option Addr} {M : List Lt} (h : MjR a b w wr k ad M) (hb : Srt b) (hk : k < b.length) : qty M (key b[k]) = qty a (key b[k]) := by
  rw [h.q, qty_take_at hb hk]
  omega
theorem MjR.bad {a b : List Lt} {w wr : World} {k : Nat} {ad : Option Addr} {M : List Lt} (h : MjR a b w wr k ad M) (hs : Srt b) (hk : k < b.length) (hb : qty M (key b[k]) < b[k].n) : mnL a b = [] ∧ mnE a b = 20 := by
  have : ¬ mnOk a b := fun hh => by
    have := hh _ (List.getElem_mem hk)
    rw [h.at hs hk] at hb
    omega
  unfold mnL mnE
  rw [if_neg this, if_neg this]
  exact ⟨rfl, rfl⟩
theorem MjR.next {a b : List Lt} {w wr w' : World} {k : Nat} {ad ad' : Option Addr} {M : List Lt} (h : MjR a b w wr k ad M) (hs : Srt b) (hk : k < b.length) (hb : ¬ qty M (key b[k]) < b[k].n) (hbl : Below wr.heap.size wr w') {m : Lt} (hm : m = ⟨b[k].i, qty M (key b[k]) - b[k].n⟩) (hr : Rw 2 lcs w' ad' (setR m (decide (m.n = 0)) M)) : MjR a b w w' (k + 1) ad' (setR m (decide (m.n = 0)) M) := by
  obtain ⟨h1, h2, h3, h4⟩ := set_any (m := m) h.s h.n
  refine ⟨hr, h1, h2, fun t => ?_, by have := h.l; omega, fun j hj hb2 => ?_, h.b.trans (hbl.mono h.b.size)⟩
  · rw [h3]
    have h5 := q_sub hs hk (qty a) t
    rw [← h5]
    unfold updf
    have ek : key m = key b[k] := by rw [hm]; rfl
    rw [ek]
    split
    · rw [hm, h.at hs hk]
    · exact h.q t
  · by_cases e : j = k
    · subst e
      rw [h.at hs hk] at hb
      omega
    · exact h.k j (by omega) hb2
set_option maxHeartbeats 16000000 in
theorem rminus (a b : List Lt) (ga : Good a) (gb : Good b) (ad : Option Addr) (cap : Nat) (ad2 : Option Addr) (cap2 : Nat) (w : World) (h : Rw 2 lcs w ad a) (h2 : Rw 2 lcs w ad2 b) : Calls Try.prog 18 #[.slice ad a.length cap, .slice ad2 b.length cap2] w (MnP a b w) := by
  have HE : Hid (Rw 2 lcs w ad2 b) := h2
  have HGd : Hid (Good a ∧ Good b) := ⟨ga, gb⟩
  have hlz : (b.length : Int) ≤ 64 := by have := gb.len; omega
  have HS0 : Hid (MjR a b w w 0 ad a) := ⟨h, ga.srt, ga.ne, fun t => by simp [qty], by have := ga.len; omega, fun j hj => by omega, Below.refl _ _⟩
  clear h h2 ga gb
  go_enter Try.func18, Try.ntmps18
  go_wp2_with fail
  go_loopw [6, 7] (fun s i wr => ∃ (k : Nat) (a1 : Option Addr) (M : List Lt) (cap : Nat), k ≤ b.length ∧ Value.slice a1 M.length cap = s ∧ i = .int .i64 k ∧ Hid (MjR a b w wr k a1 M))
    (fun _ i _ => b.length - (intOf i).toNat)
  case atStart => exact ⟨0, ad, a, cap, Nat.zero_le _, rfl, rfl, HS0.out⟩
  case round =>
    clear HS0
    obtain ⟨k, a1, M, cap1, hk, rfl, rfl, HR⟩ := hrel
    by_cases hkn : k < b.length
    · have hkz : (k : Int) < (b.length : Int) := by omega
      obtain ⟨blk, off, rfl, hbl, hcs⟩ := HE.out (by omega)
      obtain ⟨c0, c1⟩ := Rw.at2 hcs HR.out.b hbl hkn
      have HK1 : Hid (∀ W, Below wr.heap.size wr W → W.cell? ⟨blk, off + k * 2, none⟩ = some (.string b[k].i) ∧ W.cell? ⟨blk, off + k * 2 + 1, none⟩ = some (.int .i64 b[k].n)) := fun W hb => Rw.at2 hcs (HR.out.b.trans (hb.mono HR.out.b.size)) hbl hkn
      have HC : Hid (Calls Try.prog 23 #[.slice a1 M.length cap1, .string b[k].i] wr (QtP M (key b[k]) wr)) := rqty M (by have := HR.out.l; omega) b[k].i a1 cap1 wr HR.out.r
      have hxq := HGd.out.2.ok _ (List.getElem_mem hkn)
      have hqa := qty_ok HGd.out.1.ok (key b[k])
      have hat := HR.out.at HGd.out.2.srt hkn
      have hw1 : wrap64 (qty M (key b[k]) - b[k].n) = qty M (key b[k]) - b[k].n := by unfold okq at hxq; unfold wrap64; omega
      have hw2 : IntKind.i64.wrap (qty M (key b[k]) - b[k].n) = qty M (key b[k]) - b[k].n := by unfold okq at hxq; rw [IntKind.wrap_i64]; omega
      by_cases hlt : qty M (key b[k]) < b[k].n
      · obtain ⟨e1, e2⟩ := HR.out.bad HGd.out.2.srt hkn hlt
        have HF : Hid (∀ W, Below wr.heap.size wr W → MnP a b w (.returned (.tuple #[.slice none 0 0, .int .i64 20])) W) := fun W hb => ⟨none, 0, by rw [e1, e2]; rfl, by rw [e1]; exact Rw.nil, HR.out.b.trans (hb.mono HR.out.b.size)⟩
        clear HR hcs e1 e2 hqa hat hxq hw1 hw2
        unfold QtP at HC
        generalize key b[k] = ky at *
        generalize qty M ky = N at *
        generalize b[k] = x at *
        obtain ⟨xi, xn⟩ := x
        simp only at *
        go_wp2_with (go_at_call 23; refine HC.out.mono ?_; clear HC; rintro e w2 ⟨rfl, hb2⟩; obtain ⟨d0, d1⟩ := HK1.out w2 hb2; clear HK1)
        go_ret2
        exact HF.out _ hb2
      · obtain ⟨m, hm⟩ : ∃ m : Lt, m = ⟨b[k].i, qty M (key b[k]) - b[k].n⟩ := ⟨_, rfl⟩
        have HT : Hid (∀ W, Below wr.heap.size wr W → Calls Try.prog 43 #[.slice a1 M.length cap1, .string b[k].i, .int .i64 (qty M (key b[k]) - b[k].n)] W fun e w' => ∃ a' cap', e = .returned (.slice a' (setR m (decide (m.n = 0)) M).length cap') ∧ Hid (MjR a b w w' (k + 1) a' (setR m (decide (m.n = 0)) M) ∧ Below wr.heap.size wr w')) := fun W hb => by
          have h1 := rset M (by have := HR.out.l; have := HGd.out.2.len; omega) m a1 cap1 W (HR.out.r.below hb)
          have e1 : m.i = b[k].i := by rw [hm]
          have e2 : m.n = qty M (key b[k]) - b[k].n := by rw [hm]
          rw [e1] at h1
          conv at h1 => rw [show (Value.int .i64 m.n) = Value.int .i64 (qty M (key b[k]) - b[k].n) by rw [e2]]
          refine h1.mono ?_
          rintro e w' ⟨a', cap', rfl, HZ⟩
          have hbw := hb.trans (HZ.out.2.mono hb.size)
          exact ⟨a', cap', rfl, HR.out.next HGd.out.2.srt hkn hlt hbw hm HZ.out.1, hbw⟩
        clear HR hcs hqa hat hxq
        unfold QtP at HC
        clear hm
        generalize setR m (decide (m.n = 0)) M = M2 at *
        generalize key b[k] = ky at *
        generalize qty M ky = N at *
        generalize b[k] = x at *
        obtain ⟨xi, xn⟩ := x
        simp only at *
        go_upto_region 8 with (go_at_call 23; refine HC.out.mono ?_; clear HC; rintro e w2 ⟨rfl, hb2⟩; obtain ⟨d0, d1⟩ := HK1.out w2 hb2)
        have HQ2 : Hid (∀ q, Below wr.heap.size wr (w2.drewN q)) := fun q => below_q hb2 q
        clear hb2
        go_region_held3 (fun w' => w'.cell? ⟨blk, off + k * 2, none⟩ = some (.string xi) ∧ w'.cell? ⟨blk, off + k * 2 + 1, none⟩ = some (.int .i64 xn)) (first | go_keep | exact HKS3.out) (first | (go_at_call 43; go_must (refine (HT.out _ (HQ2.out _)).mono ?_; rintro e w3 ⟨a3, cap3, rfl, HZ3⟩; have HKS3 : Hid (w3.cell? ⟨blk, off + k * 2, none⟩ = some (.string xi) ∧ w3.cell? ⟨blk, off + k * 2 + 1, none⟩ = some (.int .i64 xn)) := HK1.out _ HZ3.out.2)))
        go_wp2_with fail
        go_roundw
        case rel => exact ⟨k + 1, a3, M2, cap3, by omega, rfl, by simp, HZ3.out.1⟩
        case measure => simp [intOf]; omega
    · have hkz : ¬ (k : Int) < (b.length : Int) := by omega
      have hall : mnOk a b := fun x hx => by
        obtain ⟨j, hj, rfl⟩ := List.getElem_of_mem hx
        exact HR.out.k j (by omega) hj
      have e1 : M = mnL a b := mn_is HGd.out.1 HGd.out.2 hall HR.out.s HR.out.n fun t => by rw [HR.out.q, List.take_of_length_le (by omega)]
      have e2 : mnE a b = 0 := by unfold mnE; rw [if_pos hall]
      have HF : Hid (MnP a b w (.returned (.tuple #[.slice a1 M.length cap1, .int .i64 0])) wr) := ⟨a1, cap1, by rw [e2, e1]; rfl, by rw [← e1]; exact HR.out.r, HR.out.b⟩
      clear HR e1
      go_wp2_with fail
      go_ret2
      exact HF.out
end Go.Proofs.Ytheikjjehidagaa
