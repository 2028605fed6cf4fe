/- The law FrameTold. -/
import Derived.Test.YtpddddnjmklfdaaO
import Derived.WalkKit
import Derived.ProofKit
import Derived.Handy
import Derived.WalkLawsBesides
import Derived.WalkSpells
import Derived.BigQuiet
import Derived.BigCall
import Derived.Deep.QuietTactic
import Derived.Deep.Light
import Derived.Deep.OwnRows
import Derived.Laws.AppendOwnNone
import Derived.Laws.Strings3
import Derived.Laws.RangeAny
import Derived.Deep.RegionWith
import Derived.Lib.BitFns
import Derived.Lib.Walk
import Derived.Lib.Strings
import Derived.Lib.OthersKept
import Derived.Deep.CutBlock
import Derived.Deep.DeepCutAuto
import Derived.Deep.LoopGhost
import Derived.Deep.RegionHeld3
import Derived.Lib.SmallJoins
import Derived.Maps.AppendAt
import Derived.Laws.IdiomStrings
import Derived.Lib.AppendZeros
import Derived.Deep.WholeRow
import Derived.Laws.BitsAllLaws
import Derived.Lib.ConvBytes
namespace Go.Proofs.Ytpddddnjmklfdaa
open Go.RowKit
set_option linter.unusedVariables false
set_option linter.unusedSimpArgs false
/-- bytes in a block of their own -/
structure Byt (g : Nat) (L : List UInt8) (w : World) : Prop where
  ex : ∃ cur : Array Value, w.heap[g]? = some (.cells cur 5 (cur.size, cur.size + 1)) ∧ L.length ≤ cur.size ∧ ∀ j, j < L.length → cur[j]? = some (.int .u8 ((L.getD j 0).toNat : Int))
theorem Byt.cell {g : Nat} {L : List UInt8} {w : World} (h : Byt g L w) {j : Nat} (hj : j < L.length) : w.cell? ⟨g, j, none⟩ = some (.int .u8 ((L.getD j 0).toNat : Int)) := by
  obtain ⟨cur, h1, h2, h3⟩ := h.ex
  simp only [World.cell?, h1]
  exact h3 j hj
theorem Byt.froz {g : Nat} {L : List UInt8} {w : World} (h : Byt g L w) {j : Nat} (hj : j < L.length) : w.frozen? ⟨g, j, none⟩ = false := by
  obtain ⟨cur, h1, h2, h3⟩ := h.ex
  simp only [World.frozen?, h1]
  simp
  omega
theorem set_blk {w : World} {p T k : Nat} {cs : Array Value} {fz : Nat × Nat} (hp : w.heap[p]? = some (.cells cs T fz)) (u : Value) : (w.setCell ⟨p, k, none⟩ u).heap[p]? = some (.cells (cs.setIfInBounds k u) T fz) := by
  rw [setCell_eq_setRow w p k cs T fz u hp]
  exact setRow_heap w p cs _ T fz hp
theorem Byt.set {g : Nat} {L : List UInt8} {w : World} (h : Byt g L w) {j : Nat} (hj : j < L.length) (y : UInt8) : Byt g (L.set j y) (w.setCell ⟨g, j, none⟩ (.int .u8 (y.toNat : Int))) := by
  obtain ⟨cur, h1, h2, h3⟩ := h.ex
  refine ⟨cur.setIfInBounds j (.int .u8 (y.toNat : Int)), by rw [set_blk h1, Array.size_setIfInBounds], by rw [List.length_set, Array.size_setIfInBounds]; exact h2, fun i hi => ?_⟩
  rw [List.length_set] at hi
  rw [Array.getElem?_setIfInBounds, List.getD_eq_getElem?_getD, List.getElem?_set]
  by_cases hij : j = i
  · subst hij
    rw [if_pos rfl, if_pos (by omega), if_pos rfl, if_pos hi]
    rfl
  · rw [if_neg hij, if_neg hij, h3 i hi, List.getD_eq_getElem?_getD]
theorem Byt.drewN {g : Nat} {L : List UInt8} {w : World} (h : Byt g L w) (n : Nat) : Byt g L (w.drewN n) := ⟨h.ex⟩
theorem Byt.text {g cap : Nat} {L : List UInt8} {w : World} (h : Byt g L w) : (convert 48 9 (Value.slice (some ⟨g, 0, none⟩) L.length cap)).run Try.prog w = .ok (.string ⟨L.toArray⟩) w := by
  refine run_convert_bytes_back w 48 9 5 ⟨g, 0, none⟩ cap L Try.underlying48 Try.underlying5 Try.underlying9 ?_
  intro j hj
  have ha : (⟨g, 0, none⟩ : Addr).add j = ⟨g, j, none⟩ := by
    cases j <;> simp [Addr.add]
  rw [ha, h.cell hj, List.getD_eq_getElem?_getD, List.getElem?_eq_getElem hj]
  rfl
theorem to_bytes (w : World) (S : ByteArray) : ∃ C W1, (convert 9 48 (.string S)).run Try.prog w = .ok (.slice (some ⟨w.heap.size, 0, none⟩) S.size C) W1 ∧ Byt w.heap.size S.data.toList W1 ∧ Below w.heap.size w W1 := by
  refine ⟨_, _, Lib.run_convert_string_bytes w 9 48 5 S Try.underlying9 Try.underlying48 Try.underlying5, ⟨Lib.bytesCells w 5 S, Lib.bytesWorld_at_new w 5 S, ?_, fun j hj => ?_⟩, ?_⟩
  · show S.size ≤ _
    simp [Lib.bytesCells]
  · have := Lib.bytesWorld_cell w 5 S j hj
    simp only [World.cell?, Lib.bytesWorld_at_new] at this
    exact this
  · exact ⟨rfl, rfl, rfl, by rw [Lib.bytesWorld_size]; omega, fun k hk => Lib.bytesWorld_at_old w 5 S k hk⟩
theorem xor_bit8 (x r : Nat) (hx : x < 256) (hr : r < 8) : bits .xor .u8 (x : Int) ((2 : Int) ^ r % 256) = ((x ^^^ 2 ^ r : Nat) : Int) := by
  have hp : 2 ^ r < 256 := Nat.lt_of_lt_of_le (Nat.pow_lt_pow_right (by omega) hr) (by decide)
  have h := u8_xor_nat x (2 ^ r) hx hp
  rw [← h]
  congr 1
  have e : ((2 ^ r : Nat) : Int) = (2 : Int) ^ r := by simp
  rw [← e]
  generalize 2 ^ r = p at *
  omega
theorem Byt.flip {g k j r x : Nat} {L : List UInt8} {w : World} (h : Byt g L w) (hj : k / 8 = j) (hr : k % 8 = r) (hl : j < L.length) (hx : (L.getD j 0).toNat = x) : Byt g (flip L k) (w.setCell ⟨g, j, none⟩ (.int .u8 (bits .xor .u8 (x : Int) ((2 : Int) ^ r % 256)))) := by
  subst hj hr hx
  rw [xor_bit8 _ _ (UInt8.toNat_lt _) (by omega), ← u8n _ (xor256 (UInt8.toNat_lt _) (pow8 k))]
  exact h.set hl _
theorem tw_yes {f n t : Nat} {L : List UInt8} (h : f + t < 8 * L.length) (hb : n.testBit t = true) : tw f n L (t + 1) = flip (tw f n L t) (f + t) := if_pos ⟨h, hb⟩
theorem tw_no {f n t : Nat} {L : List UInt8} (h : ¬ (f + t < 8 * L.length ∧ n.testBit t = true)) : tw f n L (t + 1) = tw f n L t := if_neg h
theorem ta_yes {f n t m : Nat} (h : f + t < m) (hb : n.testBit t = true) : ta f n m (t + 1) = true := if_pos ⟨h, hb⟩
theorem ta_no {f n t m : Nat} (h : ¬ (f + t < m ∧ n.testBit t = true)) : ta f n m (t + 1) = ta f n m t := if_neg h
set_option maxHeartbeats 4000000 in
theorem ltold (rec rest : ByteArray) (hr : rest.size ≤ 140737488355328) (c n : Nat) (hc : c < 18446744073709551616) (hn : n < 4294967296) (w : World) : Calls Try.prog 7 #[.string rec, .string rest, .int .u64 c, .int .u32 n] w fun e w' => e = .returned (.bool true) ∧ Below w.heap.size w w' := by
  have HW : Hid (∀ w, Calls Try.prog 9 #[] w (BB true w)) := fun w => xawake w
  have H11 : Hid (∀ w, Calls Try.prog 11 #[.string rec] w (MB (put rec.data.toList) (putE rec.data.toList) w)) := fun w => rput rec w
  by_cases h4 : rec.size ≤ 4096
  · rw [put_yes (l := rec.data.toList) h4, putE_yes (l := rec.data.toList) h4] at H11
    by_cases hn0 : n = 0
    · subst hn0
      go_enter Try.func7, Try.ntmps7
      go_wp2_with fail
      refine (H11.out _).mono ?_
      rintro e w1 ⟨rfl, hb1⟩
      have HB1 : Hid (Below w.heap.size w w1) := hb1
      clear hb1
      go_wp2_with fail
      refine (HW.out _).mono ?_
      rintro e w2 ⟨rfl, hb2⟩
      have HB2 : Hid (Below w.heap.size w w2) := HB1.out.trans (hb2.mono HB1.out.size)
      clear hb2
      go_wp2_with fail
      go_ret
      exact ⟨rfl, HB2.out⟩
    · have hn0z : ((n : Int) == 0) = false := by rw [beq_eq_false_iff_ne]; omega
      by_cases h5 : rest.size ≤ 5000
      · have h5z : ¬ (5000 : Int) < (rest.size : Int) := by omega
        obtain ⟨S, hS⟩ : ∃ S : ByteArray, S = ⟨(putL rec.data.toList).toArray⟩ := ⟨_, rfl⟩
        have hSl : S.data.toList = putL rec.data.toList := by rw [hS]
        have hSs : S.size = rec.size + 12 := by rw [hS, ba_size, putL_len]; rfl
        unfold MB at H11
        rw [← hS] at H11
        have h0 : Hid (((0 : Nat) : Int) = 0) := rfl
        rw [h0.out] at H11
        have HSs : Hid (S.size = rec.size + 12) := hSs
        have hSn : S.size ≤ 4108 := by omega
        have hSn2 : 12 ≤ S.size := by omega
        have HSl : Hid (S.data.toList = putL rec.data.toList) := hSl
        clear hS h0 hSs hSl
        go_enter Try.func7, Try.ntmps7
        go_wp2_with fail
        refine (H11.out _).mono ?_
        rintro e w1 ⟨rfl, hb1⟩
        have HB1 : Hid (Below w.heap.size w w1) := hb1
        clear hb1
        obtain ⟨C, W1, hcv, hby, hbw⟩ := to_bytes w1 S
        have HB2 : Hid (Below w.heap.size w W1) := HB1.out.trans (hbw.mono HB1.out.size)
        have hgs : w.heap.size ≤ w1.heap.size := HB1.out.size
        generalize w1.heap.size = g at *
        have HY : Hid (Byt g S.data.toList W1) := hby
        clear hby hbw HB1
        have hlen : S.data.toList.length = S.size := rfl
        obtain ⟨f, hf⟩ : ∃ f, c % (8 * S.size) = f := ⟨_, rfl⟩
        have hfs : f < 8 * S.size := by have := Nat.mod_lt c (show 0 < 8 * S.size by omega); omega
        have hfz : (c : Int) % (8 * (S.size : Int)) = (f : Int) := by rw [← hf]; simp
        have hSz : (S.size : Int) ≤ 4108 := by omega
        have hS12 : (12 : Int) ≤ (S.size : Int) := by omega
        clear hf
        go_wp2_with fail
        go_loopw [3, 13, 14] (fun v y i wr => ∃ (t m : Nat), v = .int .u32 m ∧ y = .bool (ta f n (8 * S.size) t) ∧ i = .int .i64 t ∧ t ≤ 32 ∧ m < 4294967296 ∧ Hid (m = n / 2 ^ t) ∧ Hid (Byt g (tw f n S.data.toList t) wr) ∧ Hid (Below w.heap.size w wr)) (fun _ _ i _ => 32 - (Lib.intOf i).toNat)
        case atStart => exact ⟨0, n, rfl, rfl, rfl, by omega, hn, by unfold Hid; simp, HY, HB2⟩
        case round =>
          obtain ⟨t, m, rfl, rfl, rfl, ht, hm, HMn, HYt, HBt⟩ := hrel
          have hlt := tw_len f n S.data.toList t
          rw [hlen] at hlt
          by_cases ht32 : t < 32
          · have htz : (t : Int) < 32 := by omega
            obtain ⟨k, hk⟩ : ∃ k, f + t = k := ⟨_, rfl⟩
            have hkz : (f : Int) + (t : Int) = (k : Int) := by omega
            have hbit : n.testBit t = decide (m % 2 = 1) := by rw [HMn.out, Nat.testBit_eq_decide_div_mod_eq]
            have hm2 : Hid (m / 2 = n / 2 ^ (t + 1)) := by unfold Hid; rw [HMn.out, Nat.pow_succ, Nat.div_div_eq_div_mul]
            by_cases hk8 : k < 8 * S.size
            · have hk8z : (k : Int) < 8 * (S.size : Int) := by omega
              by_cases hm1 : m % 2 = 1
              · have hm1z : ((m : Int) % 2 == 1) = true := by rw [beq_iff_eq]; omega
                obtain ⟨j, hj⟩ : ∃ j, k / 8 = j := ⟨_, rfl⟩
                obtain ⟨r, hr8⟩ : ∃ r, k % 8 = r := ⟨_, rfl⟩
                have hjz : (k : Int) / 8 = (j : Int) := by omega
                have hrz : (k : Int) % 8 = (r : Int) := by omega
                have hjl : j < S.size := by omega
                have hjlz : (j : Int) < (S.size : Int) := by omega
                have hcell := HYt.out.cell (j := j) (by omega)
                have hfroz := HYt.out.froz (j := j) (by omega)
                have hxl := ((tw f n S.data.toList t).getD j 0).toNat_lt
                generalize hx : ((tw f n S.data.toList t).getD j 0).toNat = x at *
                have hr7 : (r : Int) < 8 := by omega
                have HNew : Hid (Byt g (tw f n S.data.toList (t + 1)) (wr.setCell ⟨g, j, none⟩ (.int .u8 (bits .xor .u8 (x : Int) ((2 : Int) ^ r % 256))))) := by
                  unfold Hid
                  rw [tw_yes (by rw [hlen, hk]; exact hk8) (by rw [hbit, decide_eq_true hm1]), hk]
                  exact HYt.out.flip hj hr8 (by omega) hx
                have HAn : Hid (true = ta f n (8 * S.size) (t + 1)) := (ta_yes (by rw [hk]; exact hk8) (by rw [hbit, decide_eq_true hm1])).symm
                have HBn : Hid (∀ u, Below w.heap.size w (wr.setCell ⟨g, j, none⟩ u)) := fun u => HBt.out.setCell hgs u
                clear hx hj hr8 hbit hk HYt hm1
                go_wp2_with fail
                exact ⟨⟨t + 1, m / 2, by go_num, by rw [HAn.out], by go_num, by omega, by omega, hm2, HNew, HBn.out _⟩, by simp [Lib.intOf]; omega⟩
              · have hm1z : ((m : Int) % 2 == 1) = false := by rw [beq_eq_false_iff_ne]; omega
                have HNew : Hid (Byt g (tw f n S.data.toList (t + 1)) wr) := by
                  unfold Hid
                  rw [tw_no (by rw [hbit, decide_eq_false hm1]; simp)]
                  exact HYt.out
                have HAn : Hid (ta f n (8 * S.size) (t + 1) = ta f n (8 * S.size) t) := ta_no (by rw [hbit, decide_eq_false hm1]; simp)
                clear hbit hk HYt hm1
                go_wp2_with fail
                exact ⟨⟨t + 1, m / 2, by go_num, by rw [HAn.out], by go_num, by omega, by omega, hm2, HNew, HBt⟩, by simp [Lib.intOf]; omega⟩
            · have hk8z : ¬ (k : Int) < 8 * (S.size : Int) := by omega
              have HNew : Hid (Byt g (tw f n S.data.toList (t + 1)) wr) := by
                unfold Hid
                rw [tw_no (by rw [hlen, hk]; exact fun h => hk8 h.1)]
                exact HYt.out
              have HAn : Hid (ta f n (8 * S.size) (t + 1) = ta f n (8 * S.size) t) := ta_no (by rw [hk]; exact fun h => hk8 h.1)
              clear hbit hk HYt
              go_wp2_with fail
              exact ⟨⟨t + 1, m / 2, by go_num, by rw [HAn.out], by go_num, by omega, by omega, hm2, HNew, HBt⟩, by simp [Lib.intOf]; omega⟩
          · have htz : ¬ (t : Int) < 32 := by omega
            obtain rfl : t = 32 := by omega
            obtain ⟨T, hT⟩ : ∃ T : ByteArray, T = ⟨(tw f n S.data.toList 32).toArray⟩ := ⟨_, rfl⟩
            have hTl : T.data.toList = tw f n S.data.toList 32 := by rw [hT]
            have hTs : T.size = S.size := by rw [hT, ba_size, hlt]
            have hcv2 := HYt.out.text (cap := C)
            rw [hlt, ← hT] at hcv2
            have hTn : T.size ≤ 4108 := by omega
            have HTr : Hid ((T ++ rest).data.toList = tw f n S.data.toList 32 ++ rest.data.toList) := by unfold Hid; rw [app_l, hTl]
            have H17 : Hid (∀ w, Calls Try.prog 17 #[.string (T ++ rest)] w (TB (nextL (T ++ rest).data.toList) (nextN (T ++ rest).data.toList) (nextE (T ++ rest).data.toList) w)) := fun w => xnext (T ++ rest) (by rw [ByteArray.size_append]; omega) w
            clear hT hTl hTs
            cases hta : ta f n (8 * S.size) 32 with
            | false =>
              unfold TB at H17
              generalize (⟨(nextL (T ++ rest).data.toList).toArray⟩ : ByteArray) = P at *
              generalize nextN (T ++ rest).data.toList = p at *
              generalize nextE (T ++ rest).data.toList = q at *
              clear hta HTr
              go_wp2_with fail
              refine (H17.out _).mono ?_
              rintro e w2 ⟨rfl, hb2⟩
              have HB3 : Hid (Below w.heap.size w w2) := HBt.out.trans (hb2.mono HBt.out.size)
              clear hb2
              go_wp2_with fail
              refine (HW.out _).mono ?_
              rintro e w3 ⟨rfl, hb3⟩
              have HB4 : Hid (Below w.heap.size w w3) := HB3.out.trans (hb3.mono HB3.out.size)
              clear hb3
              go_wp2_with fail
              go_ret
              exact ⟨rfl, HB4.out⟩
            | true =>
              have hne : nextE (T ++ rest).data.toList ≠ 0 := by
                rw [HTr.out, HSl.out]
                refine told_all rec.data.toList rest.data.toList h4 f n ?_
                have hz : 8 * (rec.data.toList.length + 12) = 8 * S.size := by
                  rw [HSs.out]
                  rfl
                rw [hz]
                exact hta
              have hv := nextE_vals (T ++ rest).data.toList
              unfold TB at H17
              rw [nextL_no hne, nextN_no hne] at H17
              generalize nextE (T ++ rest).data.toList = q at *
              have HV : Hid (q = 14 ∨ q = 15) := by unfold Hid; omega
              clear hta HTr hne hv
              have h0 : Hid (((0 : Nat) : Int) = 0) := rfl
              rw [h0.out] at H17
              clear h0
              rcases HV.out with rfl | rfl
              · go_wp2_with fail
                refine (H17.out _).mono ?_
                rintro e w2 ⟨rfl, hb2⟩
                have HB3 : Hid (Below w.heap.size w w2) := HBt.out.trans (hb2.mono HBt.out.size)
                clear hb2
                go_wp2_with fail
                refine (HW.out _).mono ?_
                rintro e w3 ⟨rfl, hb3⟩
                have HB4 : Hid (Below w.heap.size w w3) := HB3.out.trans (hb3.mono HB3.out.size)
                clear hb3
                go_wp2_with fail
                go_ret
                exact ⟨rfl, HB4.out⟩
              · go_wp2_with fail
                refine (H17.out _).mono ?_
                rintro e w2 ⟨rfl, hb2⟩
                have HB3 : Hid (Below w.heap.size w w2) := HBt.out.trans (hb2.mono HBt.out.size)
                clear hb2
                go_wp2_with fail
                refine (HW.out _).mono ?_
                rintro e w3 ⟨rfl, hb3⟩
                have HB4 : Hid (Below w.heap.size w w3) := HB3.out.trans (hb3.mono HB3.out.size)
                clear hb3
                go_wp2_with fail
                go_ret
                exact ⟨rfl, HB4.out⟩
      · have h5z : (5000 : Int) < (rest.size : Int) := by omega
        go_enter Try.func7, Try.ntmps7
        go_wp2_with fail
        refine (H11.out _).mono ?_
        rintro e w1 ⟨rfl, hb1⟩
        have HB1 : Hid (Below w.heap.size w w1) := hb1
        clear hb1
        go_wp2_with fail
        refine (HW.out _).mono ?_
        rintro e w2 ⟨rfl, hb2⟩
        have HB2 : Hid (Below w.heap.size w w2) := HB1.out.trans (hb2.mono HB1.out.size)
        clear hb2
        go_wp2_with fail
        go_ret
        exact ⟨rfl, HB2.out⟩
  · rw [put_no (l := rec.data.toList) h4, putE_no (l := rec.data.toList) h4] at H11
    go_enter Try.func7, Try.ntmps7
    go_wp2_with fail
    refine (H11.out _).mono ?_
    rintro e w1 ⟨rfl, hb1⟩
    have HB1 : Hid (Below w.heap.size w w1) := hb1
    clear hb1
    go_wp2_with fail
    refine (HW.out _).mono ?_
    rintro e w2 ⟨rfl, hb2⟩
    have HB2 : Hid (Below w.heap.size w w2) := HB1.out.trans (hb2.mono HB1.out.size)
    clear hb2
    go_wp2_with fail
    go_ret
    exact ⟨rfl, HB2.out⟩
end Go.Proofs.Ytpddddnjmklfdaa
