/- layer 17: quantities told; lots taken away, and what is in both, by the program -/
import Derived.Test.YtheikjjehidagaaNL
import Derived.WalkKit
import Derived.ProofKit
import Derived.Handy
import Derived.WalkLawsBesides
import Derived.WalkSpells
import Derived.BigQuiet
import Derived.BigCall
import Derived.Deep.QuietTactic
import Derived.Deep.Light
import Derived.Deep.OwnRows
import Derived.Laws.AppendOwnNone
import Derived.Laws.Strings3
import Derived.Laws.RangeAny
import Derived.Deep.RegionWith
import Derived.Lib.BitFns
import Derived.Lib.Walk
import Derived.Lib.Strings
import Derived.Lib.OthersKept
import Derived.Deep.CutBlock
import Derived.Deep.DeepCutAuto
import Derived.Deep.LoopGhost
import Derived.Deep.RegionHeld3
import Derived.Lib.SmallJoins
import Derived.Maps.AppendAt
import Derived.Laws.IdiomStrings
import Derived.Lib.AppendZeros
import Derived.Deep.WholeRow
import Derived.Laws.BitsAllLaws
import Derived.Lib.ConvBytes
import Derived.Deep.RegionLaw
import Derived.Maps.OwnSet
import Derived.Maps.OwnOps
import Derived.Maps.RangeWalk
import Derived.Maps.Ext
import Derived.DeepKeys4
import Derived.Laws.StructEq
import Derived.Deep.MidRow
import Derived.Lib.Bytealg
import Derived.Lib.AppendZerosOnto
import Derived.Laws.MakeOwn
import Derived.Deep.Upon
import Derived.Sort.KeysCollected
namespace Go.Proofs.Ytheikjjehidagaa
open Go.RowKit
set_option linter.unusedVariables false
set_option linter.unusedSimpArgs false
set_option maxRecDepth 20000
theorem below_a (w : World) (o : Obj) : Below w.heap.size w (w.alloc o) := (Below.refl _ w).alloc (Nat.le_refl _) _
theorem ol_nb {B : Nat} {w : World} {v : Value} {L : List Lt} (h : Ol B w v L) {w0 : World} {m n : Nat} {f : List UInt8 → Int} (q : Qm w0 w m f n) (hB : w0.heap.size ≤ B) : ∀ r, v.ownBlock = some r → r ≠ m ∧ w0.heap.size ≤ r := by
  intro r hr
  rcases h.2 with ⟨rfl, _⟩ | ⟨g, cap, cur, rfl, hg, hc, _⟩
  · cases hr
  · have e : g = r := by injection hr
    subst e
    obtain ⟨L', h1, _⟩ := q.h
    exact ⟨h1.nb hc, by omega⟩
def QnP (b : List Lt) (w : World) (e : Ending) (w' : World) : Prop := ∃ m, e = .returned (.map (some m)) ∧ Hid (Qm w w' m (qty b) b.length)
set_option maxHeartbeats 8000000 in
theorem xquant (b : List Lt) (gb : Good b) (hs : ∀ x ∈ b, x.i.size ≤ 281474976710656) (a : Option Addr) (cap : Nat) (w : World) (h : Rw 2 lcs w a b) : Calls Try.prog 44 #[.slice a b.length cap] w (QnP b w) := by
  have HE : Hid (Rw 2 lcs w a b) := h
  have HS : Hid (∀ x ∈ b, x.i.size ≤ 281474976710656) := hs
  have HGd : Hid (Good b) := gb
  have hlz : (b.length : Int) ≤ 64 := by have := gb.len; omega
  have hmm := @run_makeMap Try.prog
  clear h hs gb
  go_enter Try.func44, Try.ntmps44
  go_upto_region 2 with fail
  have HG0 : Hid (Qm w (w.alloc (.map #[] 0)) w.heap.size (qty (b.take 0)) 0) := (Qm.made (Below.refl _ w)).ext fun t => rfl
  clear hmm
  generalize w.alloc (.map #[] 0) = W2 at *
  generalize hmw : w.heap.size = m at *
  go_wp2_with fail
  go_loopw [9] (fun i wr => ∃ k : Nat, k ≤ b.length ∧ i = .int .i64 k ∧ Hid (Qm w wr m (qty (b.take k)) k))
    (fun i _ => b.length - (intOf i).toNat)
  case atStart => exact ⟨0, Nat.zero_le _, rfl, HG0.out⟩
  case round =>
    clear HG0
    obtain ⟨k, hk, rfl, HR⟩ := hrel
    by_cases hkn : k < b.length
    · have hkz : (k : Int) < (b.length : Int) := by omega
      obtain ⟨blk, off, rfl, hbl, hcs⟩ := HE.out (by omega)
      obtain ⟨c0, c1⟩ := Rw.at2 hcs HR.out.b hbl hkn
      obtain ⟨wa, hwa⟩ : ∃ wa, wr.alloc (.cells (lcs b[k]).toArray 43) = wa := ⟨_, rfl⟩
      have hXa : Bx wa wr.heap.size (lcs b[k]).toArray 43 := by rw [← hwa]; exact Bx.new _ _ _
      have hQ : Qm w wa m (qty (b.take k)) k := by rw [← hwa]; exact HR.out.below (below_a _ _)
      have hsz := HS.out _ (List.getElem_mem hkn)
      have hq0 := qty_take_at HGd.out.srt hkn
      have lk := hQ.look (s := b[k].i) hsz
      obtain ⟨W', hu, hQ2, _, _⟩ := hQ.put (s := b[k].i) hsz (qty (b.take k) (key b[k]) + b[k].n) (by have := HGd.out.len; omega)
      have HZ : Hid (Qm w W' m (qty (b.take (k + 1))) (k + 1)) := hQ2.ext fun t => q_add HGd.out.srt hkn t
      have d0 : wa.cell? ⟨wr.heap.size, 0, none⟩ = some (.string b[k].i) := hXa.cell 0
      have d1 : wa.cell? ⟨wr.heap.size, 1, none⟩ = some (.int .i64 b[k].n) := hXa.cell 1
      have hok := HGd.out.ok _ (List.getElem_mem hkn)
      have hki : b[k].i.toList = key b[k] := rfl
      rw [hki, hq0] at lk
      rw [hq0] at hu
      have hw1 : wrap64 (0 + b[k].n) = 0 + b[k].n := by unfold okq at hok; unfold wrap64; omega
      have hw2 : wrap64 b[k].n = b[k].n := by unfold okq at hok; unfold wrap64; omega
      rw [Int.zero_add] at hu
      clear hXa hQ hQ2 HR hsz hq0 hok hcs hki
      generalize b[k] = x at *
      obtain ⟨xi, xn⟩ := x
      simp only [lcs] at *
      go_upto_region 5 with fail
      try rw [hwa]
      clear hwa c0 c1
      go_wp2_with fail
      go_roundw
      case rel => exact ⟨k + 1, by omega, by simp, HZ.out⟩
      case measure => simp [intOf]; omega
    · have hkz : ¬ (k : Int) < (b.length : Int) := by omega
      have HF : Hid (QnP b w (.returned (.map (some m))) wr) := ⟨m, rfl, by
        have := HR.out
        rw [List.take_of_length_le (by omega)] at this
        rwa [show k = b.length by omega] at this⟩
      clear HR
      go_wp2_with fail
      go_ret
      exact HF.out
/-- what is left, lot by lot, in the map -/
structure MiR (a b : List Lt) (w wr : World) (m k : Nat) : Prop where
  q : Qm w wr m (fun t => qty a t - qty (b.take k) t) (a.length + k)
  k : ∀ j (h : j < k) (hb : j < b.length), b[j].n ≤ qty a (key b[j])
theorem MiR.bad {a b : List Lt} {w wr : World} {m k : Nat} (h : MiR a b w wr m k) (hk : k < b.length) (hb : qty a (key b[k]) < b[k].n) : mnL a b = [] ∧ mnE a b = 20 := by
  have : ¬ mnOk a b := fun hh => by have := hh _ (List.getElem_mem hk); omega
  unfold mnL mnE
  rw [if_neg this, if_neg this]
  exact ⟨rfl, rfl⟩
theorem MiR.all {a b : List Lt} {w wr : World} {m k : Nat} (h : MiR a b w wr m k) (hk : b.length ≤ k) : mnOk a b := fun x hx => by
  obtain ⟨j, hj, rfl⟩ := List.getElem_of_mem hx
  exact h.k j (by omega) hj
def MnP (a b : List Lt) (w : World) (e : Ending) (w' : World) : Prop := ∃ ad cap, e = .returned (.tuple #[.slice ad (mnL a b).length cap, .int .i64 (mnE a b)]) ∧ Hid (Rw 2 lcs w' ad (mnL a b) ∧ Below w.heap.size w w')
/-- a list that is picked out of another one, in the midst -/
structure PkR (g : Lt → Int) (a : List Lt) (w wr : World) (m n : Nat) (f : List UInt8 → Int) (k : Nat) (v : Value) : Prop where
  o : Ol w.heap.size wr v (pick g (a.take k))
  q : Qm w wr m f n
theorem PkR.step {g : Lt → Int} {a : List Lt} {w wr : World} {m n : Nat} {f : List UInt8 → Int} {k : Nat} {v : Value} (h : PkR g a w wr m n f k v) (hk : k < a.length) (ha : a.length ≤ 64) (hs : a[k].i.size ≤ 281474976710656) {W : World} (hb : Below wr.heap.size wr W) :
    Calls Try.prog 45 #[v, .agg #[.string a[k].i, .int .i64 (g a[k])]] W fun e w' => ∃ v', e = .returned v' ∧ Hid (PkR g a w w' m n f (k + 1) v') := by
  have hB : w.heap.size ≤ W.heap.size := by have := h.q.b.size; have := hb.size; omega
  have hO := own_below h.o hb
  have hl : (pick g (a.take k)).length ≤ 64 := by
    have := pick_len g (a.take k)
    rw [List.length_take] at this
    omega
  refine (xput hO hB (by omega) ⟨a[k].i, g a[k]⟩ hs).mono ?_
  rintro e w' ⟨v', rfl, HZ⟩
  have hQ := (h.q.below hb).grown HZ.out.g (ol_nb hO (h.q.below hb) (Nat.le_refl _))
  refine ⟨v', rfl, ?_, hQ⟩
  rw [pick_take hk]
  have := HZ.out.o
  by_cases hp : 0 < g a[k]
  · rw [if_pos hp]
    rwa [if_pos (show 0 < (⟨a[k].i, g a[k]⟩ : Lt).n from hp)] at this
  · rw [if_neg hp, List.append_nil]
    rwa [if_neg (show ¬ 0 < (⟨a[k].i, g a[k]⟩ : Lt).n from hp)] at this
set_option maxHeartbeats 16000000 in
theorem xminus (a b : List Lt) (ga : Good a) (gb : Good b) (hs : ∀ x ∈ a ++ b, x.i.size ≤ 281474976710656) (ad : Option Addr) (cap : Nat) (ad2 : Option Addr) (cap2 : Nat) (w : World) (h : Rw 2 lcs w ad a) (h2 : Rw 2 lcs w ad2 b) : Calls Try.prog 17 #[.slice ad a.length cap, .slice ad2 b.length cap2] w (MnP a b w) := by
  have HE : Hid (Rw 2 lcs w ad2 b) := h2
  have HEa : Hid (Rw 2 lcs w ad a) := h
  have HS : Hid (∀ x ∈ b, x.i.size ≤ 281474976710656) := fun x hx => hs x (by simp [hx])
  have HSa : Hid (∀ x ∈ a, x.i.size ≤ 281474976710656) := fun x hx => hs x (by simp [hx])
  have HGd : Hid (Good a ∧ Good b) := ⟨ga, gb⟩
  have hlz : (b.length : Int) ≤ 64 := by have := gb.len; omega
  have hla : (a.length : Int) ≤ 64 := by have := ga.len; omega
  have HC : Hid (Calls Try.prog 44 #[.slice ad a.length cap] w fun e w' => ∃ m, e = .returned (.map (some m)) ∧ Hid (MiR a b w w' m 0)) := (xquant a ga HSa.out ad cap w h).mono fun e w' hh => by
    obtain ⟨m, rfl, HZ⟩ := hh
    exact ⟨m, rfl, HZ.out.ext fun t => by simp [qty], fun j hj => by omega⟩
  clear h h2 hs ga gb
  go_enter Try.func17, Try.ntmps17
  go_wp2_with (go_at_call 44; refine HC.out.mono ?_; clear HC; rintro e w1 ⟨m, rfl, HR0⟩)
  go_loopw [18] (fun i wr => ∃ k : Nat, k ≤ b.length ∧ i = .int .i64 k ∧ Hid (MiR a b w wr m k))
    (fun i _ => b.length - (intOf i).toNat)
  case atStart => exact ⟨0, Nat.zero_le _, rfl, HR0.out⟩
  case round =>
    clear HR0
    obtain ⟨k, hk, rfl, HR⟩ := hrel
    by_cases hkn : k < b.length
    · have hkz : (k : Int) < (b.length : Int) := by omega
      obtain ⟨blk, off, rfl, hbl, hcs⟩ := HE.out (by omega)
      obtain ⟨c0, c1⟩ := Rw.at2 hcs HR.out.q.b hbl hkn
      obtain ⟨wa, hwa⟩ : ∃ wa, wr.alloc (.cells (lcs b[k]).toArray 43) = wa := ⟨_, rfl⟩
      have hXa : Bx wa wr.heap.size (lcs b[k]).toArray 43 := by rw [← hwa]; exact Bx.new _ _ _
      have hQ : Qm w wa m (fun t => qty a t - qty (b.take k) t) (a.length + k) := by rw [← hwa]; exact HR.out.q.below (below_a _ _)
      have hsz := HS.out _ (List.getElem_mem hkn)
      have hq0 := qty_take_at HGd.out.2.srt hkn
      obtain ⟨bb, lk, hbb⟩ := hQ.look2 (s := b[k].i) hsz
      have hki : b[k].i.toList = key b[k] := rfl
      have d0 : wa.cell? ⟨wr.heap.size, 0, none⟩ = some (.string b[k].i) := hXa.cell 0
      have d1 : wa.cell? ⟨wr.heap.size, 1, none⟩ = some (.int .i64 b[k].n) := hXa.cell 1
      have hok := HGd.out.2.ok _ (List.getElem_mem hkn)
      have hqa := qty_ok HGd.out.1.ok (key b[k])
      rw [hki, hq0, Int.sub_zero] at lk
      rw [hki, hq0, Int.sub_zero] at hbb
      by_cases hlt : qty a (key b[k]) < b[k].n
      · obtain ⟨e1, e2⟩ := HR.out.bad hkn hlt
        have HF : Hid (MnP a b w (.returned (.tuple #[.slice none 0 0, .int .i64 20])) wa) := ⟨none, 0, by rw [e1, e2]; rfl, by rw [e1]; exact Rw.nil, hQ.b⟩
        clear hXa hQ HR hsz hq0 hok hcs hki hqa e1 e2 hbb
        generalize qty a (key b[k]) = N at *
        generalize b[k] = x at *
        obtain ⟨xi, xn⟩ := x
        simp only [lcs] at *
        cases bb
        all_goals
          go_upto_region 5 with fail
          try rw [hwa]
          clear hwa c0 c1
          go_wp2_with fail
          go_ret2
          exact HF.out
      · have hbt : bb = true := by
          cases bb with
          | true => rfl
          | false => have := hbb rfl; unfold okq at hok; omega
        subst hbt
        obtain ⟨W', hu, hQ2, _, _⟩ := hQ.put (s := b[k].i) hsz (qty a (key b[k]) - b[k].n) (by have := HGd.out.1.len; have := HGd.out.2.len; omega)
        have HZ : Hid (MiR a b w W' m (k + 1)) := by
          refine ⟨?_, fun j hj hb => ?_⟩
          · have := hQ2.ext (g := fun t => qty a t - qty (b.take (k + 1)) t) fun t => by
              have h1 := q_sub HGd.out.2.srt hkn (qty a) t
              exact h1
            exact this
          · by_cases e : j = k
            · subst e; omega
            · exact HR.out.k j (by omega) hb
        have hw1 : wrap64 (qty a (key b[k]) - b[k].n) = qty a (key b[k]) - b[k].n := by unfold okq at hok; unfold wrap64; omega
        clear hXa hQ hQ2 HR hsz hq0 hok hcs hki hqa hbb
        generalize qty a (key b[k]) = N at *
        generalize b[k] = x at *
        obtain ⟨xi, xn⟩ := x
        simp only [lcs] at *
        go_upto_region 5 with fail
        try rw [hwa]
        clear hwa c0 c1
        go_wp2_with fail
        go_roundw
        case rel => exact ⟨k + 1, by omega, by simp, HZ.out⟩
        case measure => simp [intOf]; omega
    · have hkz : ¬ (k : Int) < (b.length : Int) := by omega
      have hall := HR.out.all (by omega)
      have HP0 : Hid (PkR (fun x => qty a (key x) - qty b (key x)) a w wr m (a.length + k) (fun t => qty a t - qty b t) 0 (.slice none 0 0)) := ⟨World.ownsRow_nil _ _ _ _, HR.out.q.ext fun t => by rw [List.take_of_length_le (by omega)]⟩
      have HA : Hid (mnOk a b) := hall
      clear HR hall
      go_wp2_with fail
      go_loopw [11, 47] (fun s i wr => ∃ (j : Nat) (v : Value), j ≤ a.length ∧ v = s ∧ i = .int .i64 j ∧ Hid (PkR (fun x => qty a (key x) - qty b (key x)) a w wr m (a.length + k) (fun t => qty a t - qty b t) j v))
        (fun _ i _ => a.length - (intOf i).toNat)
      case atStart => exact ⟨0, _, Nat.zero_le _, rfl, rfl, HP0.out⟩
      case round =>
        clear HP0
        obtain ⟨j, v, hj, rfl, rfl, HP⟩ := hrel
        by_cases hjn : j < a.length
        · have hjz : (j : Int) < (a.length : Int) := by omega
          obtain ⟨blk, off, rfl, hbl, hcs⟩ := HEa.out (by omega)
          obtain ⟨c0, c1⟩ := Rw.at2 hcs HP.out.q.b hbl hjn
          obtain ⟨wa, hwa⟩ : ∃ wa, wr.alloc (.cells (lcs a[j]).toArray 43) = wa := ⟨_, rfl⟩
          have hXa : Bx wa wr.heap.size (lcs a[j]).toArray 43 := by rw [← hwa]; exact Bx.new _ _ _
          have hba : Below wr.heap.size wr wa := by rw [← hwa]; exact below_a _ _
          have hsz := HSa.out _ (List.getElem_mem hjn)
          have lk := (HP.out.q.below hba).look (s := a[j].i) hsz
          have HC := hid_in (HP.out.step hjn HGd.out.1.len hsz hba)
          have d0 : wa.cell? ⟨wr.heap.size, 0, none⟩ = some (.string a[j].i) := hXa.cell 0
          have d1 : wa.cell? ⟨wr.heap.size, 1, none⟩ = some (.int .i64 a[j].n) := hXa.cell 1
          have hki : key a[j] = a[j].i.toList := rfl
          simp only [hki] at HC lk
          clear hXa HP hsz hcs hki hba
          generalize qty a a[j].i.toList - qty b a[j].i.toList = N at *
          generalize a[j] = x at *
          obtain ⟨xi, xn⟩ := x
          simp only [lcs] at *
          go_upto_region 14 with fail
          try rw [hwa]
          clear hwa c0 c1
          go_wp2_with (go_at_call 45; refine HC.out.mono ?_; clear HC; rintro e w2 ⟨v', rfl, HZ⟩)
          go_roundw
          case rel => exact ⟨j + 1, v', by omega, rfl, by simp, HZ.out⟩
          case measure => simp [intOf]; omega
        · have hjz : ¬ (j : Int) < (a.length : Int) := by omega
          have e1 : mnL a b = pick (fun x => qty a (key x) - qty b (key x)) a := by unfold mnL; rw [if_pos HA.out]
          have e2 : mnE a b = 0 := by unfold mnE; rw [if_pos HA.out]
          have hO : Ol w.heap.size wr v (mnL a b) := by
            have := HP.out.o
            rwa [List.take_of_length_le (by omega), ← e1] at this
          obtain ⟨a', cap', rfl, _, hr⟩ := Ol.read hO
          have HF : Hid (MnP a b w (.returned (.tuple #[.slice a' (mnL a b).length cap', .int .i64 0])) wr) := ⟨a', cap', by rw [e2]; rfl, hr, HP.out.q.b⟩
          clear HP hO hr e1 e2
          go_wp2_with fail
          go_ret2
          exact HF.out
end Go.Proofs.Ytheikjjehidagaa
