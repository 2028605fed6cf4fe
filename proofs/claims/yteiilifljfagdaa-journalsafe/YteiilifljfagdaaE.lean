/- The program's Next. -/
import Derived.Test.YteiilifljfagdaaD
import Derived.Test.YteiilifljfagdaaC
import Derived.Test.YteiilifljfagdaaShelf
import Derived.WalkKit
import Derived.ProofKit
import Derived.Handy
import Derived.WalkLawsBesides
import Derived.WalkSpells
import Derived.BigQuiet
import Derived.BigCall
import Derived.Deep.QuietTactic
import Derived.Deep.Light
import Derived.Deep.OwnRows
import Derived.Laws.AppendOwnNone
import Derived.Laws.Strings3
import Derived.Laws.RangeAny
import Derived.Deep.RegionWith
import Derived.Lib.BitFns
import Derived.Lib.Walk
import Derived.Lib.Strings
import Derived.Lib.OthersKept
import Derived.Deep.CutBlock
import Derived.Deep.DeepCutAuto
import Derived.Deep.LoopGhost
import Derived.Deep.RegionHeld3
import Derived.Lib.SmallJoins
import Derived.Maps.AppendAt
import Derived.Laws.IdiomStrings
import Derived.Lib.AppendZeros
import Derived.Deep.WholeRow
import Derived.Laws.BitsAllLaws
import Derived.Lib.ConvBytes
namespace Go.Proofs.Yteiilifljfagdaa
open Go.RowKit
set_option linter.unusedVariables false
set_option linter.unusedSimpArgs false
theorem ext_list (s : ByteArray) (a b : Nat) : (s.extract a b).data.toList = (s.data.toList.drop a).take (b - a) := by
  rw [ByteArray.data_extract, Array.toList_extract]
theorem ext_len (s : ByteArray) (a b : Nat) (h : b ≤ s.size) : (s.extract a b).size = b - a := by
  have h1 : (s.extract a b).size = (s.extract a b).data.toList.length := rfl
  rw [h1, ext_list, List.length_take, List.length_drop]
  show min (b - a) (s.size - a) = _
  omega
theorem drop_all (s : ByteArray) (a : Nat) : (s.extract a s.size).data.toList = s.data.toList.drop a := by
  rw [ext_list, List.take_of_length_le]
  rw [List.length_drop]
  exact Nat.le_refl _
set_option maxHeartbeats 4000000 in
theorem xclone (s : ByteArray) (hs : s.size ≤ 281474976710656) (w : World) : Calls Try.prog 32 #[.string s] w fun e w' => e = .returned (.string s) ∧ Below w.heap.size w w' := by
  have H : Hid (∀ w, Calls Try.prog 58 #[.string s] w fun e w' => e = .returned (.string s) ∧ Below w.heap.size w w') := fun w => Try.stringslite_Clone s w hs
  go_enter Try.func32, Try.ntmps32
  go_wp2_with fail
  refine (H.out _).mono ?_
  rintro e w1 ⟨rfl, hb⟩
  have HB : Hid (Below w.heap.size w w1) := hb
  clear hb
  go_wp2_with fail
  go_ret
  exact ⟨rfl, HB.out⟩
/-- A call answers a text and two numbers, and changes nothing that was there. -/
def TB (l : List UInt8) (n m : Nat) (w : World) (e : Ending) (w' : World) : Prop := e = .returned (.tuple #[.string ⟨l.toArray⟩, .int .i64 n, .int .i64 m]) ∧ Below w.heap.size w w'
theorem TB.mk {l : List UInt8} {n m : Nat} {s : ByteArray} {y z : Int} {w w' : World} (h : s.data.toList = l) (h2 : y = n) (h3 : z = m) (hb : Below w.heap.size w w') : TB l n m w (.returned (.tuple #[.string s, .int .i64 y, .int .i64 z])) w' := ⟨by rw [← h, h2, h3], hb⟩
theorem TB.no {l : List UInt8} {m : Nat} {z : Int} {w w' : World} (he : nextE l = m) (hm : m ≠ 0) (h3 : z = m) (hb : Below w.heap.size w w') : TB (nextL l) (nextN l) (nextE l) w (.returned (.tuple #[.string ⟨#[]⟩, .int .i64 0, .int .i64 z])) w' :=
  TB.mk (by rw [nextL_no (by rw [he]; exact hm)]) (by rw [nextN_no (by rw [he]; exact hm)]; rfl) (by rw [he, h3]) hb
set_option maxHeartbeats 4000000 in
theorem xnext (s : ByteArray) (hs : s.size ≤ 9223372036854775807) (w : World) : Calls Try.prog 83 #[.string s] w (TB (nextL s.data.toList) (nextN s.data.toList) (nextE s.data.toList) w) := by
  have HL : Hid (s.data.toList.length = s.size) := rfl
  have HT : Hid (∀ w, Calls Try.prog 89 #[.string s] w (BB (trn s.data.toList) w)) := fun w => xturned s hs w
  by_cases ht : trn s.data.toList = true
  · rw [ht] at HT
    by_cases h8 : s.size < 8
    · have h8z : (s.size : Int) < 8 := by omega
      have HE : Hid (nextE s.data.toList = 14) := nextE_short ht h8
      clear ht
      go_enter Try.func83, Try.ntmps83
      go_wp2_with fail
      refine (HT.out _).mono ?_
      rintro e w1 ⟨rfl, hb⟩
      have HB : Hid (Below w.heap.size w w1) := hb
      clear hb
      go_wp2_with fail
      go_ret3
      exact TB.no HE.out (by omega) rfl HB.out
    · have h8z : ¬ (s.size : Int) < 8 := by omega
      have HN : Hid (∀ w, Calls Try.prog 90 #[.string s] w fun e w' => e = .returned (.int .u32 (val4 s.data.toList)) ∧ ∃ n, w' = w.drewN n) := fun w => xnumber s (by omega) w
      have hnl := val4_lt s.data.toList
      by_cases hn : val4 s.data.toList ≤ 4096
      · have hnz : ¬ (4096 : Int) < ((val4 s.data.toList : Nat) : Int) := by omega
        by_cases hl : s.size < val4 s.data.toList + 12
        · have HE : Hid (nextE s.data.toList = 14) := nextE_few ht (by rw [HL.out]; omega) hn (by rw [HL.out]; exact hl)
          clear ht
          generalize val4 s.data.toList = n at *
          have hlz : (s.size : Int) < (n : Int) + 12 := by omega
          go_enter Try.func83, Try.ntmps83
          go_wp2_with fail
          refine (HT.out _).mono ?_
          rintro e w1 ⟨rfl, hb⟩
          have HB : Hid (Below w.heap.size w w1) := hb
          clear hb
          go_wp2_with fail
          refine (HN.out _).mono ?_
          rintro e w2 ⟨rfl, q, hq⟩
          have HB2 : Hid (Below w.heap.size w w2) := by unfold Hid; rw [hq]; exact bdrew HB.out _
          clear hq HB
          go_wp2_with fail
          go_ret3
          exact TB.no HE.out (by omega) rfl HB2.out
        · have HE : Hid (nextE s.data.toList = _) := nextE_all ht hn (by rw [HL.out]; omega)
          have e1 : (s.extract 8 (val4 s.data.toList + 8)).data.toList = (s.data.toList.drop 8).take (val4 s.data.toList) := by
            rw [ext_list]
            rfl
          have e2 := drop_all s (val4 s.data.toList + 8)
          have s1 := ext_len s 8 (val4 s.data.toList + 8) (by omega)
          have s2 := ext_len s (val4 s.data.toList + 8) s.size (Nat.le_refl _)
          have HS : Hid (∀ w, Calls Try.prog 71 #[.string (s.extract 8 (val4 s.data.toList + 8))] w (NP .u32 (sumN ((s.data.toList.drop 8).take (val4 s.data.toList))) w)) := fun w => by
            have := xsum (s.extract 8 (val4 s.data.toList + 8)) (by omega) w
            rw [e1] at this
            exact this
          have HM : Hid (∀ w, Calls Try.prog 90 #[.string (s.extract (val4 s.data.toList + 8) s.size)] w fun e w' => e = .returned (.int .u32 (val4 (s.data.toList.drop (val4 s.data.toList + 8)))) ∧ ∃ n, w' = w.drewN n) := fun w => by
            have := xnumber (s.extract (val4 s.data.toList + 8) s.size) (by omega) w
            rw [e2] at this
            exact this
          have HC : Hid (∀ w, Calls Try.prog 32 #[.string (s.extract 8 (val4 s.data.toList + 8))] w fun e w' => e = .returned (.string (s.extract 8 (val4 s.data.toList + 8))) ∧ Below w.heap.size w w') := fun w => xclone _ (by omega) w
          have h0 : nextE s.data.toList = 0 → nextL s.data.toList = (s.extract 8 (val4 s.data.toList + 8)).data.toList ∧ nextN s.data.toList = val4 s.data.toList + 12 := fun h => ⟨by rw [nextL_ok h, e1], nextN_ok h⟩
          have H0 : Hid (nextE s.data.toList = 0 → nextL s.data.toList = (s.extract 8 (val4 s.data.toList + 8)).data.toList ∧ nextN s.data.toList = val4 s.data.toList + 12) := h0
          have hv1 := val4_lt (s.data.toList.drop (val4 s.data.toList + 8))
          have hv2 := sumN_lt ((s.data.toList.drop 8).take (val4 s.data.toList))
          clear ht e1 e2 h0 s2
          generalize val4 (s.data.toList.drop (val4 s.data.toList + 8)) = p at *
          generalize sumN ((s.data.toList.drop 8).take (val4 s.data.toList)) = z at *
          generalize val4 s.data.toList = n at *
          have hlz : ¬ (s.size : Int) < (n : Int) + 12 := by omega
          go_enter Try.func83, Try.ntmps83
          go_wp2_with fail
          refine (HT.out _).mono ?_
          rintro e w1 ⟨rfl, hb⟩
          have HB : Hid (Below w.heap.size w w1) := hb
          clear hb
          go_wp2_with fail
          refine (HN.out _).mono ?_
          rintro e w2 ⟨rfl, q, hq⟩
          have HB2 : Hid (Below w.heap.size w w2) := by unfold Hid; rw [hq]; exact bdrew HB.out _
          clear hq HB
          go_wp2_with fail
          refine (HM.out _).mono ?_
          rintro e w3 ⟨rfl, q3, hq⟩
          have HB3 : Hid (Below w.heap.size w w3) := by unfold Hid; rw [hq]; exact bdrew HB2.out _
          clear hq HB2
          go_wp2_with fail
          refine (HS.out _).mono ?_
          rintro e w4 ⟨rfl, rfl⟩
          by_cases hpz : p = z
          · have hpb : ((p : Int) != (z : Int)) = false := by rw [hpz]; simp
            have HE0 : Hid (nextE s.data.toList = 0) := by
              have h1 := HE.out
              rw [if_pos hpz] at h1
              exact h1
            have HR := H0.out HE0.out
            have HR1 : Hid (nextL s.data.toList = (s.extract 8 (n + 8)).data.toList) := HR.1
            have HR2 : Hid (nextN s.data.toList = n + 12) := HR.2
            clear HR H0 HE hpz
            go_wp2_with fail
            refine (HC.out _).mono ?_
            rintro e w5 ⟨rfl, hb5⟩
            have HB5 : Hid (Below w.heap.size w w5) := HB3.out.trans (hb5.mono HB3.out.size)
            clear hb5
            go_wp2_with fail
            go_ret3
            exact TB.mk HR1.out.symm (by rw [HR2.out]; omega) (by rw [HE0.out]; rfl) HB5.out
          · have hpb : ((p : Int) != (z : Int)) = true := by rw [bne_iff_ne]; omega
            have HE0 : Hid (nextE s.data.toList = 15) := by
              have h1 := HE.out
              rw [if_neg hpz] at h1
              exact h1
            clear H0 HE hpz
            go_wp2_with fail
            go_ret3
            exact TB.no HE0.out (by omega) rfl HB3.out
      · have hnz : (4096 : Int) < ((val4 s.data.toList : Nat) : Int) := by omega
        have HE : Hid (nextE s.data.toList = 15) := nextE_great ht (by rw [HL.out]; omega) (by omega)
        clear ht
        generalize val4 s.data.toList = n at *
        go_enter Try.func83, Try.ntmps83
        go_wp2_with fail
        refine (HT.out _).mono ?_
        rintro e w1 ⟨rfl, hb⟩
        have HB : Hid (Below w.heap.size w w1) := hb
        clear hb
        go_wp2_with fail
        refine (HN.out _).mono ?_
        rintro e w2 ⟨rfl, q, hq⟩
        have HB2 : Hid (Below w.heap.size w w2) := by unfold Hid; rw [hq]; exact bdrew HB.out _
        clear hq HB
        go_wp2_with fail
        go_ret3
        exact TB.no HE.out (by omega) rfl HB2.out
  · have hf : trn s.data.toList = false := by simpa using ht
    rw [hf] at HT
    have HE : Hid (nextE s.data.toList = 15) := nextE_trn hf
    clear ht hf
    go_enter Try.func83, Try.ntmps83
    go_wp2_with fail
    refine (HT.out _).mono ?_
    rintro e w1 ⟨rfl, hb⟩
    have HB : Hid (Below w.heap.size w w1) := hb
    clear hb
    go_wp2_with fail
    go_ret3
    exact TB.no HE.out (by omega) rfl HB.out
/- Read of the program and of the reference. -/
theorem Try.info9 : (Try.prog.info? 9).map (fun i => (i.zero, i.size, i.bytes)) = some (some (.string ⟨#[]⟩), 1, 16) := by kernel_rfl
/-- texts as cells -/
def scells (xs : List ByteArray) : List Value := xs.map fun s => Value.string s
theorem scells_len (xs : List ByteArray) : (scells xs).length = xs.length := List.length_map ..
theorem scells_app (xs ys : List ByteArray) : scells (xs ++ ys) = scells xs ++ scells ys := List.map_append ..
theorem one_scells {xs : List ByteArray} : ∀ u ∈ scells xs, u.oneCell' = true := by
  intro u hu
  simp only [scells, List.mem_map] at hu
  obtain ⟨c, _, rfl⟩ := hu
  rfl
theorem Strs.of_owns {w : World} {base e : Nat} {v : Value} {xs : List ByteArray} (h : w.ownsRow base e 1 v xs.length (scells xs)) (hl : xs.length ≤ 140737488355328) (hs : ∀ s ∈ xs, s.size ≤ 140737488355328) : ∃ a cap, v = .slice a xs.length cap ∧ Strs w a xs := by
  by_cases h0 : 0 < xs.length
  · obtain ⟨g, cap, hv, hb, hlt⟩ : ∃ g cap, v = .slice (some ⟨g, 0, none⟩) xs.length cap ∧ base ≤ g ∧ g < w.heap.size := by
      rcases h.2 with ⟨_, hn⟩ | ⟨g, cap, cur, hv, hb, hg, _⟩
      · omega
      · exact ⟨g, cap, hv, hb, (Array.getElem?_eq_some_iff.1 hg).1⟩
    refine ⟨_, cap, hv, fun _ => ⟨g, 0, rfl, hlt, fun j hj => ?_⟩, hl, hs⟩
    have hc := h.cells (g := g) (by rw [hv]; rfl) j (.string xs[j]) (by simp [scells, hj])
    have ha : (⟨g, 0, none⟩ : Addr).add j = ⟨g, 0 + j, none⟩ := by
      cases j <;> simp [Addr.add]
    rw [ha] at hc
    exact hc
  · have : xs = [] := by
      cases xs with
      | nil => rfl
      | cons _ _ => simp at h0
    subst this
    rcases h.2 with ⟨hv, _⟩ | ⟨g, cap, cur, hv, _⟩
    · exact ⟨none, 0, hv, fun h => absurd h (by simp), hl, hs⟩
    · exact ⟨_, cap, hv, fun h => absurd h (by simp), hl, hs⟩
theorem own_keep {w w' : World} {B e size n : Nat} {v : Value} {xs : List Value} (h : w.ownsRow B e size v n xs) (hb : Below w.heap.size w w') : w'.ownsRow B e size v n xs := by
  refine ⟨h.1, ?_⟩
  rcases h.2 with h2 | ⟨g, cap, cur, hv, hB, hg, hr⟩
  · exact .inl h2
  · exact .inr ⟨g, cap, cur, hv, hB, by rw [hb.block g (Array.getElem?_eq_some_iff.1 hg).1]; exact hg, hr⟩
/-- what Read hands back -/
def RP (l : List UInt8) (w : World) (e : Ending) (w' : World) : Prop :=
  ∃ (xs : List ByteArray) (a : Option Addr) (cap : Nat), e = .returned (.tuple #[.slice a xs.length cap, .int .i64 ((rdA l).2.1 : Nat), .int .i64 ((rdA l).2.2 : Nat)]) ∧ ls xs = (rdA l).1 ∧ Strs w' a xs ∧ xs.length ≤ cap ∧ Below w.heap.size w w'
theorem RP.mk {l : List UInt8} {w w' : World} {v : Value} {y z : Int} {xs : List ByteArray} {n m : Nat} (hy : y = n) (hz : z = m) (hr : rdA l = (ls xs, n, m)) (h : w'.ownsRow w.heap.size 9 1 v xs.length (scells xs)) (hl : xs.length ≤ 140737488355328) (hs : ∀ s ∈ xs, s.size ≤ 140737488355328) (hb : Below w.heap.size w w') : RP l w (.returned (.tuple #[v, .int .i64 y, .int .i64 z])) w' := by
  obtain ⟨a, cap, rfl, hst⟩ := Strs.of_owns h hl hs
  have hcap : xs.length ≤ cap := by
    rcases h.2 with ⟨hv, h0⟩ | ⟨g, c2, cur, hv, _, _, h1, _⟩
    · omega
    · injection hv with _ _ e3; omega
  exact ⟨xs, a, cap, by rw [hr, hy, hz], by rw [hr], hst, hcap, hb⟩
/-- from a place on -/
def At (l : List UInt8) (xs : List ByteArray) (k : Nat) : Prop := rdA l = (ls xs ++ (rdA (l.drop k)).1, k + (rdA (l.drop k)).2.1, (rdA (l.drop k)).2.2)
theorem At.end_ {l : List UInt8} {xs : List ByteArray} {k : Nat} (h : At l xs k) (hk : l.length ≤ k) : rdA l = (ls xs, k, 0) := by
  unfold At at h
  rw [h, rdA_end (by rw [List.length_drop]; omega), List.append_nil]
  rfl
theorem At.no {l : List UInt8} {xs : List ByteArray} {k : Nat} (h : At l xs k) (hk : k < l.length) (he : nextE (l.drop k) ≠ 0) : rdA l = (ls xs, k, nextE (l.drop k)) := by
  unfold At at h
  rw [h, rdA_no (by rw [List.length_drop]; omega) he, List.append_nil]
  rfl
theorem At.next {l : List UInt8} {xs : List ByteArray} {k : Nat} (h : At l xs k) (hk : k < l.length) (he : nextE (l.drop k) = 0) : At l (xs ++ [⟨(nextL (l.drop k)).toArray⟩]) (k + nextN (l.drop k)) := by
  unfold At at h ⊢
  rw [h, rdA_step (by rw [List.length_drop]; omega) he, List.drop_drop]
  refine Prod.ext ?_ (Prod.ext ?_ rfl)
  · show ls xs ++ nextL (l.drop k) :: _ = ls (xs ++ [_]) ++ _
    rw [show ls (xs ++ [(⟨(nextL (l.drop k)).toArray⟩ : ByteArray)]) = ls xs ++ [nextL (l.drop k)] from List.map_append .., List.append_assoc]
    rfl
  · show k + (_ + _) = k + _ + _
    rw [Nat.add_assoc]
theorem next_bounds {l : List UInt8} (h : nextE l = 0) : (nextL l).length ≤ 4096 ∧ 12 ≤ nextN l ∧ nextN l ≤ l.length := by
  have h1 := nextE_ok h
  refine ⟨?_, by rw [nextN_ok h]; omega, nextN_le h⟩
  rw [nextL_ok h, List.length_take]
  omega
set_option maxHeartbeats 4000000 in
theorem xread (s : ByteArray) (hs : s.size ≤ 1099511627776) (w : World) : Calls Try.prog 72 #[.string s] w (RP s.data.toList w) := by
  have HL : Hid (s.data.toList.length = s.size) := rfl
  obtain ⟨i0, hi, hz0, hz1, hz2⟩ := info_parts Try.info9
  have HI : Hid (Try.prog.info? 9 = some i0 ∧ i0.zero = some (.string ⟨#[]⟩) ∧ i0.size = 1 ∧ i0.bytes = 16) := ⟨hi, hz0, hz1, hz2⟩
  clear hi hz0 hz1 hz2
  go_enter Try.func72, Try.ntmps72
  go_wp2_with fail
  go_loopw [5, 6] (fun v i wr => ∃ (k : Nat) (xs : List ByteArray), i = .int .i64 k ∧ k ≤ s.size ∧ Hid (wr.ownsRow w.heap.size 9 1 v xs.length (scells xs)) ∧ Hid (Below w.heap.size w wr) ∧ Hid (At s.data.toList xs k) ∧ 12 * xs.length ≤ k ∧ Hid (∀ t ∈ xs, t.size ≤ 140737488355328)) (fun _ i _ => s.size - (Lib.intOf i).toNat)
  case atStart => exact ⟨0, [], rfl, Nat.zero_le _, World.ownsRow_nil _ _ _ _, Below.refl _ _, by unfold Hid At; rw [List.drop_zero, Nat.zero_add]; rfl, Nat.le_refl _, fun t ht => by cases ht⟩
  case round =>
    obtain ⟨k, xs, rfl, hk, hown, hbw, hat, hxl, hxs⟩ := hrel
    by_cases hkn : k < s.size
    · have hkz : (k : Int) < (s.size : Int) := by omega
      have hkz2 : (k : Int) ≤ (s.size : Int) := by omega
      have e2 := drop_all s k
      have s2 := ext_len s k s.size (Nat.le_refl _)
      have hsz : w.heap.size ≤ wr.heap.size := hbw.out.size
      have HN : Hid (∀ w, Calls Try.prog 83 #[.string (s.extract k s.size)] w fun e w' => e = .returned (.tuple #[.string ⟨(nextL (s.data.toList.drop k)).toArray⟩, .int .i64 (nextN (s.data.toList.drop k)), .int .i64 (nextE (s.data.toList.drop k))]) ∧ Below w.heap.size w w') := fun w => by
        have := xnext (s.extract k s.size) (by omega) w
        rw [e2] at this
        exact this
      by_cases he : nextE (s.data.toList.drop k) = 0
      · have hA := hat.out.next (by rw [HL.out]; exact hkn) he
        obtain ⟨b1, b2, b3⟩ := next_bounds he
        rw [he] at HN
        rw [List.length_drop, HL.out] at b3
        have hRs : (⟨(nextL (s.data.toList.drop k)).toArray⟩ : ByteArray).size ≤ 4096 := by rw [ba_size2]; exact b1
        generalize (⟨(nextL (s.data.toList.drop k)).toArray⟩ : ByteArray) = R at *
        generalize nextN (s.data.toList.drop k) = n at *
        clear e2 b1 he hat
        have HA : Hid (At s.data.toList (xs ++ [R]) (k + n)) := hA
        clear hA
        have HK : Hid (∀ (w1 : World), Below wr.heap.size wr w1 → w1.ownsRow w.heap.size 9 1 u5 xs.length (scells xs)) := fun w1 hb => own_keep hown.out hb
        have hkn2 : (k : Int) + (n : Int) ≤ 1099511627776 := by omega
        have Hfin : Hid (∀ (v' : Value) (w1 w2 : World) (o : Obj), Below w.heap.size w w1 → w1.ownsRow w.heap.size 9 1 u5 xs.length (scells xs) → w2.ownsRow w.heap.size 9 1 v' (xs.length + 1) (scells xs ++ [.string R]) → (w1.alloc o).grownBy w2 u5.ownBlock →
          (∃ (k' : Nat) (xs' : List ByteArray), Value.int .i64 ((k : Int) + (n : Int)) = .int .i64 k' ∧ k' ≤ s.size ∧ Hid (w2.ownsRow w.heap.size 9 1 v' xs'.length (scells xs')) ∧ Hid (Below w.heap.size w w2) ∧ Hid (At s.data.toList xs' k') ∧ 12 * xs'.length ≤ k' ∧ Hid (∀ t ∈ xs', t.size ≤ 140737488355328)) ∧ s.size - (Lib.intOf (Value.int .i64 ((k : Int) + (n : Int)))).toNat < s.size - (Lib.intOf (Value.int .i64 (k : Int))).toNat) := by
          intro v' w1 w2 o hb hw1 ho hg
          refine ⟨⟨k + n, xs ++ [R], by rw [Int.natCast_add], by omega, ?_, ?_, HA.out, ?_, ?_⟩, ?_⟩
          · unfold Hid
            rw [scells_app, List.length_append]
            exact ho
          · exact (hb.alloc hb.size _).grown hg (by simp; have := hb.size; omega) (fun j hj => (hw1.lt j hj).1)
          · rw [List.length_append]
            show 12 * (xs.length + 1) ≤ _
            omega
          · intro t ht
            rcases List.mem_append.1 ht with h | h
            · exact hxs.out t h
            · rw [List.mem_singleton] at h
              subst h
              omega
          · simp only [Lib.intOf]
            omega
        clear HA hown
        go_wp2_with fail
        refine (HN.out _).mono ?_
        rintro e w1 ⟨rfl, hb1⟩
        have HB1 : Hid (Below w.heap.size w w1) := hbw.out.trans (hb1.mono hsz)
        have HO1 : Hid (w1.ownsRow w.heap.size 9 1 u5 xs.length (scells xs)) := HK.out w1 hb1
        have hsz1 : w.heap.size ≤ w1.heap.size := HB1.out.size
        clear hb1 HK
        go_wp2_with (at_builtin; refine wpList_append_own_at _ rfl _ _ 35 rfl w.heap.size 9 i0 (.string ⟨#[]⟩) 1 16 Try.underlying35 HI.out.1 HI.out.2.1 HI.out.2.2.1 HI.out.2.2.2 rfl (by decide) _ _ _ rfl (HO1.out.alloc _) ⟨w1.heap.size, 0, none⟩ 1 1 [.string R] rfl rfl (cell_one_new _ _ _) (one_scells (xs := [R])) (by unfold maxLen; omega) (by omega) (by simp; omega) ?_; intro v' w2 hown' hgrow _ _; have HO : Hid _ := hown'; have HGr : Hid _ := hgrow; clear hown' hgrow)
        exact Hfin.out v' w1 w2 _ HB1.out HO1.out HO.out HGr.out
      · have HA : Hid (rdA s.data.toList = (ls xs, k, nextE (s.data.toList.drop k))) := hat.out.no (by rw [HL.out]; exact hkn) he
        have hv := nextE_vals (s.data.toList.drop k)
        have HR : Hid (nextL (s.data.toList.drop k) = [] ∧ nextN (s.data.toList.drop k) = 0) := ⟨nextL_no he, nextN_no he⟩
        rw [HR.out.1, HR.out.2] at HN
        generalize nextE (s.data.toList.drop k) = m at *
        have hm0 : ((m : Int) != 0) = true := by rw [bne_iff_ne]; omega
        have HK : Hid (∀ (w1 : World), Below wr.heap.size wr w1 → w1.ownsRow w.heap.size 9 1 u5 xs.length (scells xs)) := fun w1 hb => own_keep hown.out hb
        clear e2 hat hown HR he
        go_wp2_with fail
        refine (HN.out _).mono ?_
        rintro e w1 ⟨rfl, hb1⟩
        have HB1 : Hid (Below w.heap.size w w1) := hbw.out.trans (hb1.mono hsz)
        have HO1 : Hid (w1.ownsRow w.heap.size 9 1 u5 xs.length (scells xs)) := HK.out w1 hb1
        clear hb1 HK
        go_wp2_with fail
        go_ret3
        exact RP.mk rfl rfl HA.out HO1.out (by omega) hxs.out HB1.out
    · have hkz : ¬ (k : Int) < (s.size : Int) := by omega
      have HA : Hid (rdA s.data.toList = (ls xs, k, 0)) := hat.out.end_ (by rw [HL.out]; omega)
      clear hat
      go_wp2_with fail
      go_ret3
      exact RP.mk rfl rfl HA.out hown.out (by omega) hxs.out hbw.out/- The program's addNumber, Size and Put. -/
theorem four_list (n : Nat) (h : n < 4294967296) : Lib.byteCells (four n) = [.int .u8 ((n : Int) % 256), .int .u8 ((n : Int) / 256 % 256), .int .u8 ((n : Int) / 65536 % 256), .int .u8 ((n : Int) / 16777216)] := by
  have := congrArg Array.toList (four_cells n h)
  simpa using this
theorem cell_four_new (w : World) (x y z u : Value) (t : TypeId) : ∀ j v, [x, y, z, u][j]? = some v → (w.alloc (.cells #[x, y, z, u] t)).cell? ((⟨w.heap.size, 0, none⟩ : Addr).add j) = some v := by
  intro j v hj
  match j, hj with
  | 0, hj => simp at hj; subst hj; simp [Addr.add]
  | 1, hj => simp at hj; subst hj; simp [Addr.add]
  | 2, hj => simp at hj; subst hj; simp [Addr.add]
  | 3, hj => simp at hj; subst hj; simp [Addr.add]
theorem one_bytes {l : List UInt8} : ∀ u ∈ Lib.byteCells l, u.oneCell' = true := by
  intro u hu
  simp only [Lib.byteCells, List.mem_map] at hu
  obtain ⟨c, _, rfl⟩ := hu
  rfl
/-- an own row of bytes -/
def Own (B : Nat) (w : World) (v : Value) (l : List UInt8) : Prop := w.ownsRow B 5 1 v l.length (Lib.byteCells l)
def AP (B : Nat) (l : List UInt8) (w : World) (e : Ending) (w' : World) : Prop := ∃ v', e = .returned v' ∧ Hid (Own B w' v' l) ∧ Hid (Below B w w')
set_option maxHeartbeats 4000000 in
theorem xadd (B : Nat) (v : Value) (l : List UInt8) (n : Nat) (hn : n < 4294967296) (w : World) (hB : B ≤ w.heap.size) (hl : l.length ≤ 1099511627776) (h : Own B w v l) :
    Calls Try.prog 70 #[v, .int .u32 n] w (AP B (l ++ four n) w) := by
  obtain ⟨i0, hi, hz0, hz1, hz2⟩ := info_parts Try.info5
  have HI : Hid (Try.prog.info? 5 = some i0 ∧ i0.zero = some (.int .u8 0) ∧ i0.size = 1 ∧ i0.bytes = 1) := ⟨hi, hz0, hz1, hz2⟩
  have HO : Hid (w.ownsRow B 5 1 v l.length (Lib.byteCells l)) := h
  have HF : Hid (Lib.byteCells (four n) = [.int .u8 ((n : Int) % 256), .int .u8 ((n : Int) / 256 % 256), .int .u8 ((n : Int) / 65536 % 256), .int .u8 ((n : Int) / 16777216)]) := four_list n hn
  have Hfin : Hid (∀ (v' : Value) (w1 : World) (o : Obj), w1.ownsRow B 5 1 v' (l.length + 4) (Lib.byteCells l ++ [.int .u8 ((n : Int) % 256), .int .u8 ((n : Int) / 256 % 256), .int .u8 ((n : Int) / 65536 % 256), .int .u8 ((n : Int) / 16777216)]) → (w.alloc o).grownBy w1 v.ownBlock → AP B (l ++ four n) w (.returned v') w1) := by
    intro v' w1 o ho hg
    refine ⟨v', rfl, ?_, ?_⟩
    · unfold Hid Own
      rw [Lib.byteCells_append, HF.out, List.length_append]
      exact ho
    · exact ((Below.refl _ w).alloc hB _).grown hg (by simp; omega) (fun j hj => (HO.out.lt j hj).1)
  clear hi hz0 hz1 hz2 h
  go_enter Try.func70, Try.ntmps70
  go_wp2_with (at_builtin; refine wpList_append_own_at _ rfl _ _ 55 rfl B 5 i0 (.int .u8 0) 1 1 Try.underlying55 HI.out.1 HI.out.2.1 HI.out.2.2.1 HI.out.2.2.2 rfl (by decide) _ _ _ rfl (HO.out.alloc _) ⟨w.heap.size, 0, none⟩ 4 4 [.int .u8 ((n : Int) % 256), .int .u8 ((n : Int) / 256 % 256), .int .u8 ((n : Int) / 65536 % 256), .int .u8 ((n : Int) / 16777216)] rfl rfl (cell_four_new _ _ _ _ _ _) (by rw [← HF.out]; exact one_bytes) (by unfold maxLen; omega) (by omega) (by simp; omega) ?_; intro v' w1 hown' hgrow _ _; have HO2 : Hid _ := hown'; have HGr : Hid _ := hgrow; clear hown' hgrow)
  go_ret
  exact Hfin.out v' w1 _ HO2.out HGr.out
set_option maxHeartbeats 4000000 in
theorem xsize (s : ByteArray) (hs : s.size ≤ 140737488355328) (w : World) : Calls Try.prog 69 #[.string s] w (NP .i64 ((s.size : Int) + 12) w) := by
  go_enter Try.func69, Try.ntmps69
  go_wp2_with fail
  go_ret
  exact NP.mk rfl
theorem made_len (n : Nat) : (madeCells #[Value.int .u8 0] n).size = n := by simp [madeCells]
theorem make_zero (n : Nat) (hn : n ≤ 281474976710656) (w : World) : (Instr.makeSlice 55 (.int .i64 0) (.int .i64 (n : Int))).run Try.prog w = .ok (.slice (some ⟨w.heap.size, 0, none⟩) 0 n) (w.alloc (.cells (madeCells #[.int .u8 0] n) 5)) := by
  obtain ⟨i0, hi, hz0, hz1, hz2⟩ := info_parts Try.info5
  have hr := run_make (P := Try.prog) w 55 5 i0 (.int .u8 0) Try.underlying55 hi hz0 .i64 .i64 0 n (by omega) (by omega) (by rw [hz2]; omega) (by omega)
  simp only [Int.toNat_natCast, hz1, Nat.mul_one] at hr
  exact hr
theorem own_text {B : Nat} {w : World} {v : Value} {l : List UInt8} (h : Own B w v l) : (convert 55 9 v).run Try.prog w = .ok (.string ⟨l.toArray⟩) w := by
  rcases h.2 with ⟨rfl, h0⟩ | ⟨g, cap, cur, rfl, hb, hg, h1, h2, h3, h4⟩
  · have hb : l = [] := List.length_eq_zero_iff.1 h0
    rw [hb, run_convert_bytes_string w 55 9 5 none 0 0 Try.underlying55 Try.underlying5 Try.underlying9]
    rfl
  · refine run_convert_bytes_back (P := Try.prog) w 55 9 5 ⟨g, 0, none⟩ cap l Try.underlying55 Try.underlying5 Try.underlying9 (fun j hj => ?_)
    refine h.cells (g := g) rfl j _ ?_
    simp only [Lib.byteCells, List.getElem?_map, List.getElem?_eq_getElem hj]
    rfl
theorem app_str {B : Nat} {w : World} {v : Value} {l : List UInt8} (h : Own B w v l) (hB : B ≤ w.heap.size) (s : ByteArray) (hs : l.length + s.size ≤ 1048576) :
    ∃ v' w', (Builtin.append_ #[55, 9] 55 #[v, .string s]).run Try.prog w = .ok v' w' ∧ Own B w' v' (l ++ s.data.toList) ∧ Below B w w' := by
  obtain ⟨i0, hi, hz, h1, h2⟩ := info_parts Try.info5
  obtain ⟨v', w', hr, ho, hg, hn⟩ := Lib.run_append_own_string (P := Try.prog) w B 55 9 55 5 i0 Try.underlying55 Try.underlying9 hi hz h1 h2 v l.length _ h s (by unfold maxLen; omega) (by omega) hB
  refine ⟨v', w', hr, ?_, (Below.refl _ w).grown hg hB fun j hj => (h.lt j hj).1⟩
  unfold Own
  rw [Lib.byteCells_append, List.length_append]
  exact ho
set_option maxHeartbeats 4000000 in
theorem xput (s : ByteArray) (w : World) : Calls Try.prog 50 #[.string s] w (MB (lput s.data.toList) (lputE s.data.toList) w) := by
  have HL : Hid (s.data.toList.length = s.size) := rfl
  by_cases h : s.size ≤ 4096
  · have hz : ¬ (4096 : Int) < (s.size : Int) := by omega
    have HA : Hid (lput s.data.toList = putL s.data.toList) := put_yes h
    have HE : Hid (lputE s.data.toList = 0) := putE_yes h
    have hsl := sumN_lt s.data.toList
    have HS : Hid (∀ w, Calls Try.prog 71 #[.string s] w (NP .u32 (sumN s.data.toList) w)) := fun w => xsum s (by omega) w
    have HZ : Hid (∀ w, Calls Try.prog 69 #[.string s] w (NP .i64 ((s.size : Int) + 12) w)) := fun w => xsize s (by omega) w
    have hnot := not32 s.size (by omega)
    have hmk : ∀ w, (Instr.makeSlice 55 (.int .i64 0) (.int .i64 ((s.size : Int) + 12))).run Try.prog w = .ok (.slice (some ⟨w.heap.size, 0, none⟩) 0 (s.size + 12)) (w.alloc (.cells (madeCells #[.int .u8 0] (s.size + 12)) 5)) := fun w => make_zero (s.size + 12) (by omega) w
    have HO0 : Hid (Own w.heap.size (w.alloc (.cells (madeCells #[.int .u8 0] (s.size + 12)) 5)) (.slice (some ⟨w.heap.size, 0, none⟩) 0 (s.size + 12)) []) := World.ownsRow_made w _ _ (Nat.le_refl _) (by unfold maxLen; omega) (by rw [made_len, Nat.mul_one])
    have HB0 : Hid (Below w.heap.size w (w.alloc (.cells (madeCells #[.int .u8 0] (s.size + 12)) 5))) := below_new w _
    go_enter Try.func50, Try.ntmps50
    go_wp2_with fail
    refine (HZ.out _).mono ?_
    rintro e w1 ⟨rfl, rfl⟩
    go_wp2_with fail
    refine (xadd w.heap.size _ [] s.size (by omega) _ HB0.out.size (by simp) HO0.out).mono ?_
    rintro e w2 ⟨v2, rfl, HO2, HB2⟩
    have HB3 : Hid (Below w.heap.size w w2) := HB0.out.trans HB2.out
    clear HB2 HB0 HO0 hmk
    go_wp2_with fail
    refine (xadd w.heap.size _ _ (4294967295 - s.size) (by omega) _ HB3.out.size (by simp [four_len]) HO2.out).mono ?_
    rintro e w3 ⟨v3, rfl, HO3, HB4⟩
    have HB5 : Hid (Below w.heap.size w w3) := HB3.out.trans HB4.out
    clear HB4 HB3 HO2 hnot
    obtain ⟨v4, w4, hr, ho, hb⟩ := app_str HO3.out HB5.out.size s (by simp [four_len]; omega)
    have HO4 : Hid (Own _ w4 v4 _) := ho
    have HB6 : Hid (Below w.heap.size w w4) := HB5.out.trans hb
    have HR : Hid _ := hr
    clear ho hb HO3 HB5 hr
    go_wp2_with (at_builtin; refine Lib.wpList_append_run _ rfl _ _ 55 9 rfl _ _ rfl rfl _ w4 HR.out ?_)
    refine (HS.out _).mono ?_
    rintro e w5 ⟨rfl, rfl⟩
    go_wp2_with fail
    refine (xadd w.heap.size _ _ (sumN s.data.toList) hsl _ HB6.out.size (by simp [four_len]; omega) HO4.out).mono ?_
    rintro e w5 ⟨v5, rfl, HO5, HB7⟩
    have HB8 : Hid (Below w.heap.size w w5) := HB6.out.trans HB7.out
    have hcv := own_text HO5.out
    clear HB7 HB6 HO4
    go_wp2_with fail
    go_ret2
    exact MB.mk (by rw [HA.out]; unfold putL; simp [HL.out]) (by rw [HE.out]; rfl) HB8.out
  · have hz : (4096 : Int) < (s.size : Int) := by omega
    have HA : Hid (lput s.data.toList = []) := put_no h
    have HE : Hid (lputE s.data.toList = 2) := putE_no h
    go_enter Try.func50, Try.ntmps50
    go_wp2_with fail
    go_ret2
    exact MB.mk (by rw [HA.out]) (by rw [HE.out]; rfl) (Below.refl _ _)
/- The program's All, and awake. -/
theorem bkeep {B b : Nat} {bs : List Value} {W W' : World} (h : Lib.IsBuilderF 130 5 B b bs W) (hb : Below W.heap.size W W') : Lib.IsBuilderF 130 5 B b bs W' := by
  have one : ∀ p, Lib.BuilderAtF 130 5 B b p bs W → Lib.BuilderAtF 130 5 B b p bs W' := by
    rintro p ⟨hB, v, hbk, hown, hne⟩
    refine ⟨hB, v, ?_, ?_, hne⟩
    · rw [hb.block b (Array.getElem?_eq_some_iff.1 hbk).1]; exact hbk
    · refine ⟨hown.1, ?_⟩
      rcases hown.2 with h2 | ⟨g, cap, cur, fz, hv, hB, hg, hr⟩
      · exact .inl h2
      · exact .inr ⟨g, cap, cur, fz, hv, hB, by rw [hb.block g (Array.getElem?_eq_some_iff.1 hg).1]; exact hg, hr⟩
  exact h.elim (fun x => .inl (one _ x)) (fun x => .inr (one _ x))
set_option maxHeartbeats 4000000 in
theorem xall (l : List ByteArray) (a : Option Addr) (cap : Nat) (w : World) (h : Strs w a l) (h100 : l.length ≤ 65536) (h20 : tot l ≤ 1048576) : Calls Try.prog 63 #[.slice a l.length cap] w (MB (allL (ls l)) (allE (ls l)) w) := by
  have HS : Hid (Strs w a l) := h
  have hlenz : (l.length : Int) ≤ 65536 := by omega
  clear h
  have HI0 : Hid (Lib.IsBuilderF 130 5 w.heap.size w.heap.size (Lib.byteCells []) (w.alloc (Obj.cells #[Value.pointer none, Value.slice none 0 0] 130))) := Lib.IsBuilderF.of (Lib.fresh_isBuilder 130 5 w)
  have HB0 : Hid (Below w.heap.size w (w.alloc (Obj.cells #[Value.pointer none, Value.slice none 0 0] 130))) := below_new w _
  go_enter Try.func63, Try.ntmps63
  go_wp2_with fail
  go_loopw [11] (fun i wr => ∃ (k : Nat) (acc : List UInt8), i = .int .i64 k ∧ k ≤ l.length ∧ acc.length ≤ 1900000 ∧ Hid (Lib.IsBuilderF 130 5 w.heap.size w.heap.size (Lib.byteCells acc) wr) ∧ Hid (Below w.heap.size w wr) ∧ Hid (acc = flat (ls (l.take k))) ∧ Hid (allOk (ls (l.take k)) = true)) (fun i _ => l.length - (Lib.intOf i).toNat)
  case atStart => exact ⟨0, [], rfl, Nat.zero_le _, by simp, HI0, HB0, rfl, rfl⟩
  case round =>
    clear HI0 HB0
    obtain ⟨k, acc, rfl, hk, hO, HI, HB, HF, HA⟩ := hrel
    by_cases hkn : k < l.length
    · have hkz : (k : Int) < (l.length : Int) := by omega
      obtain ⟨b, off, rfl, hbl, hce⟩ := HS.out.at_ (by omega)
      have hc : wr.cell? ⟨b, off + k, none⟩ = some (.string l[k]) := (HB.out.cell (by exact hbl)).trans (hce k hkn)
      have hlt := ls_take hkn
      by_cases h4 : l[k].size ≤ 4096
      · have ha := allOk_step hkn HA.out h4
        have hsz : acc.length + (l[k].size + 12) ≤ 1900000 := by
          rw [HF.out, flat_len]
          have e2 := tot_take hkn
          have e3 := tot_le l (k + 1)
          rw [List.length_take]
          omega
        have HP : Hid (∀ w, Calls Try.prog 50 #[.string l[k]] w (MB (putL l[k].data.toList) 0 w)) := fun w => by
          have := xput l[k] w
          rw [put_yes (l := l[k].data.toList) h4, putE_yes (l := l[k].data.toList) h4] at this
          exact this
        have HF2 : Hid (acc ++ (⟨(putL l[k].data.toList).toArray⟩ : ByteArray).data.toList = flat (ls (l.take (k + 1)))) := by
          unfold Hid
          rw [hlt, flat_snoc, ← HF.out]
        have hps : (⟨(putL l[k].data.toList).toArray⟩ : ByteArray).size = l[k].size + 12 := by rw [ba_size2, putL_len]; rfl
        have HA2 : Hid (allOk (ls (l.take (k + 1))) = true) := ha
        unfold MB at HP
        have hcc : Hid (((0 : Nat) : Int) = 0) := rfl
        rw [hcc.out] at HP
        generalize (⟨(putL l[k].data.toList).toArray⟩ : ByteArray) = P at *
        generalize l[k] = x at *
        clear hlt ha hce HF HA hcc
        go_wp2_with fail
        refine (HP.out _).mono ?_
        rintro e w1 ⟨rfl, hb1⟩
        have HI1 : Hid (Lib.IsBuilderF 130 5 w.heap.size w.heap.size (Lib.byteCells acc) w1) := bkeep HI.out hb1
        have HB1 : Hid (Below w.heap.size w w1) := HB.out.trans (hb1.mono HB.out.size)
        clear hb1
        go_wp2_with fail
        refine (Try.Builder_WriteString_k w.heap.size w.heap.size _ P _ HI1.out (by rw [Lib.byteCells_length]; omega) HB1.out.size).mono ?_
        rintro e w2 ⟨rfl, h2, b2, _⟩
        have HI2 : Hid (Lib.IsBuilderF 130 5 w.heap.size w.heap.size (Lib.byteCells (acc ++ P.data.toList)) w2) := by
          unfold Hid
          rw [Lib.byteCells_append]
          exact Or.inr h2
        have HB2 : Hid (Below w.heap.size w w2) := HB1.out.trans b2
        clear h2 b2 HI HI1
        go_wp2_with fail
        exact ⟨⟨k + 1, acc ++ P.data.toList, by go_num, by omega, by rw [List.length_append]; show _ + P.size ≤ _; omega, HI2.out, HB2.out, HF2.out, HA2.out⟩, by simp [Lib.intOf]; omega⟩
      · have hbad := allOk_bad hkn h4
        have HL : Hid (allL (ls l) = []) := allL_no hbad
        have HE : Hid (allE (ls l) = 2) := allE_no hbad
        have HP : Hid (∀ w, Calls Try.prog 50 #[.string l[k]] w (MB [] 2 w)) := fun w => by
          have := xput l[k] w
          rw [put_no (l := l[k].data.toList) h4, putE_no (l := l[k].data.toList) h4] at this
          exact this
        generalize l[k] = x at *
        clear hlt hbad hce HF HA
        go_wp2_with fail
        refine (HP.out _).mono ?_
        rintro e w1 ⟨rfl, hb1⟩
        have HB1 : Hid (Below w.heap.size w w1) := HB.out.trans (hb1.mono HB.out.size)
        clear hb1
        go_wp2_with fail
        go_ret2
        exact MB.mk (by rw [HL.out]) (by rw [HE.out]; rfl) HB1.out
    · have hkz : ¬ (k : Int) < (l.length : Int) := by omega
      have ht : l.take k = l := List.take_of_length_le (by omega)
      have HL : Hid (allL (ls l) = acc) := by
        have h1 := HF.out
        have h2 := HA.out
        rw [ht] at h1 h2
        unfold Hid
        rw [allL_yes h2, h1]
      have HE : Hid (allE (ls l) = 0) := by
        have h2 := HA.out
        rw [ht] at h2
        exact allE_yes h2
      clear ht HF HA
      go_wp2_with fail
      refine (Try.Builder_String_any_k w.heap.size w.heap.size acc _ HI.out HB.out.size).mono ?_
      rintro e w2 ⟨rfl, _, b2, _⟩
      have HB2 : Hid (Below w.heap.size w w2) := HB.out.trans b2
      clear b2
      go_wp2_with fail
      go_ret2
      exact MB.mk (by rw [HL.out]) (by rw [HE.out]; rfl) HB2.out
end Go.Proofs.Yteiilifljfagdaa
