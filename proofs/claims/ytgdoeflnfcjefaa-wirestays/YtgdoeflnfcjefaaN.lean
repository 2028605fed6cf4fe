/- small, law Writes. -/
import Derived.Test.YtgdoeflnfcjefaaM
import Derived.WalkKit
import Derived.ProofKit
import Derived.Handy
import Derived.WalkLawsBesides
import Derived.WalkSpells
import Derived.BigQuiet
import Derived.BigCall
import Derived.Deep.QuietTactic
import Derived.Deep.Light
import Derived.Deep.OwnRows
import Derived.Laws.AppendOwnNone
import Derived.Laws.Strings3
import Derived.Laws.RangeAny
import Derived.Deep.RegionWith
import Derived.Lib.BitFns
import Derived.Lib.Walk
import Derived.Lib.Strings
import Derived.Lib.OthersKept
import Derived.Deep.CutBlock
import Derived.Deep.DeepCutAuto
import Derived.Deep.LoopGhost
import Derived.Deep.RegionHeld3
import Derived.Lib.SmallJoins
import Derived.Maps.AppendAt
import Derived.Laws.IdiomStrings
import Derived.Lib.AppendZeros
import Derived.Deep.WholeRow
import Derived.Laws.BitsAllLaws
import Derived.Lib.ConvBytes
import Derived.Deep.RegionLaw
namespace Go.Proofs.Ytgdoeflnfcjefaa
open Go.RowKit
set_option linter.unusedVariables false
set_option linter.unusedSimpArgs false
/-- what small tells -/
def SmP (xs : List It) (w : World) (e : Ending) (w' : World) : Prop := ∃ b : Bool, e = .returned (.bool b) ∧ (b = true → xs.length ≤ 60 ∧ itw xs ≤ 6000) ∧ Below w.heap.size w w'
theorem SmP.mk {xs : List It} {w w' : World} {b : Bool} (h : b = true → xs.length ≤ 60 ∧ itw xs ≤ 6000) (hb : Below w.heap.size w w') : SmP xs w (.returned (.bool b)) w' := ⟨b, rfl, h, hb⟩
theorem itw_step {xs : List It} {k : Nat} (h : k < xs.length) : itw (xs.take (k + 1)) = itw (xs.take k) + xs[k].t.length + xs[k].l.length := by
  rw [List.take_succ_eq_append_getElem h]
  unfold itw
  rw [List.map_append, List.sum_append]
  simp
  omega
set_option maxHeartbeats 4000000 in
theorem lsmall (xs : List It) (a : Option Addr) (cap : Nat) (w : World) (h : Its w.heap.size w a xs) (hl : xs.length ≤ 9223372036854775807) (hz : ∀ x ∈ xs, x.t.length ≤ 140737488355328 ∧ x.l.length ≤ 140737488355328) : Calls Try.prog 8 #[.slice a xs.length cap] w (SmP xs w) := by
  have HI : Hid (Its w.heap.size w a xs) := h
  have HZ : Hid (∀ x ∈ xs, x.t.length ≤ 140737488355328 ∧ x.l.length ≤ 140737488355328) := hz
  clear h hz
  go_enter Try.func8, Try.ntmps8
  go_wp2_with fail
  go_loopw [3, 4] (fun v i wr => ∃ (k n : Nat), i = .int .i64 k ∧ v = .int .i64 n ∧ k ≤ xs.length ∧ k ≤ 61 ∧ n ≤ 1000000000000000 ∧ Hid (n = itw (xs.take k)) ∧ Hid (Below w.heap.size w wr)) (fun _ i _ => xs.length - (Lib.intOf i).toNat)
  case atStart => exact ⟨0, 0, rfl, rfl, Nat.zero_le _, by omega, by omega, rfl, Below.refl _ _⟩
  case round =>
    obtain ⟨k, n, rfl, rfl, hk, hk61, hn, HN, HB⟩ := hrel
    by_cases hgo : k < xs.length ∧ k ≤ 60 ∧ n ≤ 6000
    · obtain ⟨hkn, hk60, hn6⟩ := hgo
      have hkz : (k : Int) < (xs.length : Int) := by omega
      have hkz2 : (k : Int) ≤ 60 := by omega
      have hnz : (n : Int) ≤ 6000 := by omega
      obtain ⟨b, off, rfl, hbl, hce⟩ := HI.out (by omega)
      obtain ⟨la, lc, hit⟩ := hce k hkn
      have hit := hit.keep HB.out hbl
      have hzk := HZ.out _ (List.getElem_mem hkn)
      have HN2 : Hid (n + xs[k].t.length + xs[k].l.length = itw (xs.take (k + 1))) := by unfold Hid; rw [itw_step hkn, ← HN.out]
      have d3 := hit.c3
      have d5 := hit.c5
      have hsz : (⟨xs[k].t.toArray⟩ : ByteArray).size = xs[k].t.length := rfl
      generalize xs[k].t.length = tl at *
      generalize xs[k].l.length = ll at *
      generalize (⟨xs[k].t.toArray⟩ : ByteArray) = T at *
      clear hit hce HN
      go_wp2_with fail
      go_quiet (fail)
      go_wp2_with fail
      exact ⟨⟨k + 1, n + tl + ll, by go_num, by rw [Int.natCast_add, Int.natCast_add], by omega, by omega, by omega, HN2.out, bdrew HB.out _⟩, by simp [Lib.intOf]; omega⟩
    · by_cases hkn : k < xs.length
      · have hkz : (k : Int) < (xs.length : Int) := by omega
        by_cases hk60 : k ≤ 60
        · have hkz2 : (k : Int) ≤ 60 := by omega
          have hnz : ¬ (n : Int) ≤ 6000 := by omega
          clear hgo
          by_cases h60 : (xs.length : Int) ≤ 60
          · go_wp2_with fail
            go_ret
            exact SmP.mk (fun h => nomatch h) HB.out
          · go_wp2_with fail
            go_ret
            exact SmP.mk (fun h => nomatch h) HB.out
        · have hkz2 : ¬ (k : Int) ≤ 60 := by omega
          have h60 : ¬ (xs.length : Int) ≤ 60 := by omega
          clear hgo
          go_wp2_with fail
          go_ret
          exact SmP.mk (fun h => nomatch h) HB.out
      · have hkz : ¬ (k : Int) < (xs.length : Int) := by omega
        have HE : Hid (n = itw xs) := by unfold Hid; rw [HN.out, List.take_of_length_le (by omega)]
        clear hgo HN
        by_cases h60 : (xs.length : Int) ≤ 60
        · by_cases hnz : (n : Int) ≤ 6000
          · go_wp2_with fail
            go_ret
            exact SmP.mk (fun _ => ⟨by omega, by rw [← HE.out]; omega⟩) HB.out
          · go_wp2_with fail
            go_ret
            exact SmP.mk (fun h => nomatch h) HB.out
        · go_wp2_with fail
          go_ret
          exact SmP.mk (fun h => nomatch h) HB.out
theorem app_L {T D : ByteArray} {xs : List It} {k : Nat} (h : k < xs.length) (hT : T.data.toList = wrL (xs.take k)) (hD : D.data.toList = (xs[k]).L) : (T ++ D).data.toList = wrL (xs.take (k + 1)) := by
  rw [ByteArray.data_append, Array.toList_append, hT, hD, wrL_take h]
set_option maxHeartbeats 4000000 in
theorem lwrites (xs : List It) (a : Option Addr) (cap : Nat) (w : World) (h : Its w.heap.size w a xs) (hw : ∀ x ∈ xs, x.Wf) (hl : xs.length ≤ 9223372036854775807) (hz : ∀ x ∈ xs, x.t.length ≤ 140737488355328 ∧ x.l.length ≤ 140737488355328) : Calls Try.prog 3 #[.slice a xs.length cap] w (BB true w) := by
  have HI : Hid (Its w.heap.size w a xs) := h
  have HF : Hid (∀ x ∈ xs, x.Wf) := hw
  have HM : Hid (Calls Try.prog 8 #[.slice a xs.length cap] w (SmP xs w)) := lsmall xs a cap w h hl hz
  have HA : Hid (∀ w, Calls Try.prog 9 #[] w (BB true w)) := fun w => lawake w
  clear h hw hz
  go_enter Try.func3, Try.ntmps3
  go_wp2_with fail
  refine HM.out.mono ?_
  rintro e w1 ⟨b, rfl, hsm, hb⟩
  have HB1 : Hid (Below w.heap.size w w1) := hb
  clear hb HM
  cases b with
  | false =>
    clear hsm
    go_wp2_with fail
    refine (HA.out _).mono ?_
    rintro e w2 ⟨rfl, hb2⟩
    have HB2 : Hid (Below w.heap.size w w2) := HB1.out.trans (hb2.mono HB1.out.size)
    clear hb2
    go_wp2_with fail
    go_ret
    exact BB.mk rfl HB2.out
  | true =>
    obtain ⟨h60, h6⟩ := hsm rfl
    clear hsm
    go_wp2_with fail
    go_loopw [3, 4] (fun v i wr => ∃ (k : Nat) (T : ByteArray), i = .int .i64 k ∧ v = .string T ∧ k ≤ xs.length ∧ Hid (T.data.toList = wrL (xs.take k)) ∧ Hid (Below w.heap.size w wr)) (fun _ i _ => xs.length - (Lib.intOf i).toNat)
    case atStart => exact ⟨0, ⟨#[]⟩, rfl, rfl, Nat.zero_le _, rfl, HB1⟩
    case round =>
      clear HB1
      obtain ⟨k, T, rfl, rfl, hk, HT, HB⟩ := hrel
      by_cases hkn : k < xs.length
      · have hkz : (k : Int) < (xs.length : Int) := by omega
        obtain ⟨b, off, rfl, hbl, hce⟩ := HI.out (by omega)
        obtain ⟨la, lc, hit⟩ := hce k hkn
        have hit := hit.keep HB.out hbl
        have HN : Hid ((xs[k]).Wf) := HF.out _ (List.getElem_mem hkn)
        have hsz := itw_at hkn
        have hTs : T.size ≤ 70000 := by
          have h0 : T.data.toList.length = T.size := rfl
          rw [HT.out] at h0
          have h1 := wrL_len (xs.take k) (fun x hx => HF.out x (List.mem_of_mem_take hx)) (by have := itw_take xs k; omega)
          have h2 := itw_take xs k
          rw [List.length_take] at h1
          omega
        have HLn : Hid ((xs[k]).L.length ≤ 70000) := by
          have h1 := It.len HN.out (by omega) (by omega)
          unfold Hid
          omega
        have HX : Hid (∀ D : ByteArray, D.data.toList = (xs[k]).L → (T ++ D).data.toList = wrL (xs.take (k + 1))) := fun D hD => app_L hkn HT.out hD
        clear hce
        generalize xs[k] = x at *
        have d0 := hit.c0
        have d1 := hit.c1
        have d2 := hit.c2
        have d3 := hit.c3
        have d4 := hit.c4
        have d5 := hit.c5
        have HIn : Hid (Ins w.heap.size wr la x.l) := hit.ins
        clear hit HT
        by_cases k0 : x.k = 0
        · have kz0 : (x.k == 0) = true := by rw [k0]; rfl
          have HB4 : Hid (Below w.heap.size wr (wr.alloc (.cells #[.int .i64 x.k, .int .u64 x.u, .int .i64 x.n, .string ⟨x.t.toArray⟩, .bool x.b, .slice la x.l.length lc] 28))) := (Below.refl _ wr).alloc HB.out.size _
          have HC : Hid (Calls Try.prog 10 #[.int .u64 x.u] (wr.alloc (.cells #[.int .i64 x.k, .int .u64 x.u, .int .i64 x.n, .string ⟨x.t.toArray⟩, .bool x.b, .slice la x.l.length lc] 28)) (SB x.L (wr.alloc (.cells #[.int .i64 x.k, .int .u64 x.u, .int .i64 x.n, .string ⟨x.t.toArray⟩, .bool x.b, .slice la x.l.length lc] 28)))) := by unfold Hid; rw [L0 k0]; exact ruint x.u HN.out.u _
          unfold SB at HC
          have HD : Hid ((⟨x.L.toArray⟩ : ByteArray).data.toList = x.L) := rfl
          have hDs : (⟨x.L.toArray⟩ : ByteArray).size ≤ 70000 := HLn.out
          generalize (⟨x.L.toArray⟩ : ByteArray) = D at *
          clear k0
          go_wp2_with fail
          refine HC.out.mono ?_
          rintro e w3 ⟨rfl, hb3⟩
          have HB6 : Hid (Below w.heap.size w w3) := (HB.out.trans HB4.out).trans (hb3.mono (HB.out.trans HB4.out).size)
          clear HB4 hb3 HC
          go_wp2_with fail
          exact ⟨⟨k + 1, T ++ D, by go_num, rfl, by omega, HX.out D HD.out, HB6.out⟩, by simp [Lib.intOf]; omega⟩
        by_cases k1 : x.k = 1
        · have kz1 : (x.k == 1) = true := by rw [k1]; rfl
          have kz0 : (x.k == 0) = false := by rw [beq_eq_false_iff_ne]; omega
          have HB4 : Hid (Below w.heap.size wr (wr.alloc (.cells #[.int .i64 x.k, .int .u64 x.u, .int .i64 x.n, .string ⟨x.t.toArray⟩, .bool x.b, .slice la x.l.length lc] 28))) := (Below.refl _ wr).alloc HB.out.size _
          have HC : Hid (Calls Try.prog 11 #[.int .i64 x.n] (wr.alloc (.cells #[.int .i64 x.k, .int .u64 x.u, .int .i64 x.n, .string ⟨x.t.toArray⟩, .bool x.b, .slice la x.l.length lc] 28)) (SB x.L (wr.alloc (.cells #[.int .i64 x.k, .int .u64 x.u, .int .i64 x.n, .string ⟨x.t.toArray⟩, .bool x.b, .slice la x.l.length lc] 28)))) := by unfold Hid; rw [L1 k1]; exact rint x.n HN.out.n _
          unfold SB at HC
          have HD : Hid ((⟨x.L.toArray⟩ : ByteArray).data.toList = x.L) := rfl
          have hDs : (⟨x.L.toArray⟩ : ByteArray).size ≤ 70000 := HLn.out
          generalize (⟨x.L.toArray⟩ : ByteArray) = D at *
          clear k0 k1
          go_wp2_with fail
          refine HC.out.mono ?_
          rintro e w3 ⟨rfl, hb3⟩
          have HB6 : Hid (Below w.heap.size w w3) := (HB.out.trans HB4.out).trans (hb3.mono (HB.out.trans HB4.out).size)
          clear HB4 hb3 HC
          go_wp2_with fail
          exact ⟨⟨k + 1, T ++ D, by go_num, rfl, by omega, HX.out D HD.out, HB6.out⟩, by simp [Lib.intOf]; omega⟩
        by_cases k2 : x.k = 2
        · have kz2 : (x.k == 2) = true := by rw [k2]; rfl
          have kz0 : (x.k == 0) = false := by rw [beq_eq_false_iff_ne]; omega
          have kz1 : (x.k == 1) = false := by rw [beq_eq_false_iff_ne]; omega
          have HB4 : Hid (Below w.heap.size wr (wr.alloc (.cells #[.int .i64 x.k, .int .u64 x.u, .int .i64 x.n, .string ⟨x.t.toArray⟩, .bool x.b, .slice la x.l.length lc] 28))) := (Below.refl _ wr).alloc HB.out.size _
          have HC : Hid (Calls Try.prog 12 #[.string ⟨x.t.toArray⟩] (wr.alloc (.cells #[.int .i64 x.k, .int .u64 x.u, .int .i64 x.n, .string ⟨x.t.toArray⟩, .bool x.b, .slice la x.l.length lc] 28)) (SB x.L (wr.alloc (.cells #[.int .i64 x.k, .int .u64 x.u, .int .i64 x.n, .string ⟨x.t.toArray⟩, .bool x.b, .slice la x.l.length lc] 28)))) := by unfold Hid; rw [L2 k2]; exact rtext ⟨x.t.toArray⟩ (by have e : (⟨x.t.toArray⟩ : ByteArray).size = x.t.length := rfl; omega) _
          unfold SB at HC
          have HD : Hid ((⟨x.L.toArray⟩ : ByteArray).data.toList = x.L) := rfl
          have hDs : (⟨x.L.toArray⟩ : ByteArray).size ≤ 70000 := HLn.out
          generalize (⟨x.L.toArray⟩ : ByteArray) = D at *
          clear k0 k1 k2
          go_wp2_with fail
          refine HC.out.mono ?_
          rintro e w3 ⟨rfl, hb3⟩
          have HB6 : Hid (Below w.heap.size w w3) := (HB.out.trans HB4.out).trans (hb3.mono (HB.out.trans HB4.out).size)
          clear HB4 hb3 HC
          go_wp2_with fail
          exact ⟨⟨k + 1, T ++ D, by go_num, rfl, by omega, HX.out D HD.out, HB6.out⟩, by simp [Lib.intOf]; omega⟩
        by_cases k3 : x.k = 3
        · have kz3 : (x.k == 3) = true := by rw [k3]; rfl
          have kz0 : (x.k == 0) = false := by rw [beq_eq_false_iff_ne]; omega
          have kz1 : (x.k == 1) = false := by rw [beq_eq_false_iff_ne]; omega
          have kz2 : (x.k == 2) = false := by rw [beq_eq_false_iff_ne]; omega
          have HB4 : Hid (Below w.heap.size wr (wr.alloc (.cells #[.int .i64 x.k, .int .u64 x.u, .int .i64 x.n, .string ⟨x.t.toArray⟩, .bool x.b, .slice la x.l.length lc] 28))) := (Below.refl _ wr).alloc HB.out.size _
          have HC : Hid (Calls Try.prog 13 #[.bool x.b] (wr.alloc (.cells #[.int .i64 x.k, .int .u64 x.u, .int .i64 x.n, .string ⟨x.t.toArray⟩, .bool x.b, .slice la x.l.length lc] 28)) (SB x.L (wr.alloc (.cells #[.int .i64 x.k, .int .u64 x.u, .int .i64 x.n, .string ⟨x.t.toArray⟩, .bool x.b, .slice la x.l.length lc] 28)))) := by unfold Hid; rw [L3 k3]; exact rbool x.b _
          unfold SB at HC
          have HD : Hid ((⟨x.L.toArray⟩ : ByteArray).data.toList = x.L) := rfl
          have hDs : (⟨x.L.toArray⟩ : ByteArray).size ≤ 70000 := HLn.out
          generalize (⟨x.L.toArray⟩ : ByteArray) = D at *
          clear k0 k1 k2 k3
          go_wp2_with fail
          refine HC.out.mono ?_
          rintro e w3 ⟨rfl, hb3⟩
          have HB6 : Hid (Below w.heap.size w w3) := (HB.out.trans HB4.out).trans (hb3.mono (HB.out.trans HB4.out).size)
          clear HB4 hb3 HC
          go_wp2_with fail
          exact ⟨⟨k + 1, T ++ D, by go_num, rfl, by omega, HX.out D HD.out, HB6.out⟩, by simp [Lib.intOf]; omega⟩
        have kz0 : (x.k == 0) = false := by rw [beq_eq_false_iff_ne]; omega
        have kz1 : (x.k == 1) = false := by rw [beq_eq_false_iff_ne]; omega
        have kz2 : (x.k == 2) = false := by rw [beq_eq_false_iff_ne]; omega
        have kz3 : (x.k == 3) = false := by rw [beq_eq_false_iff_ne]; omega
        have HB4 : Hid (Below w.heap.size wr (wr.alloc (.cells #[.int .i64 x.k, .int .u64 x.u, .int .i64 x.n, .string ⟨x.t.toArray⟩, .bool x.b, .slice la x.l.length lc] 28))) := (Below.refl _ wr).alloc HB.out.size _
        have HC : Hid (Calls Try.prog 14 #[.slice la x.l.length lc] (wr.alloc (.cells #[.int .i64 x.k, .int .u64 x.u, .int .i64 x.n, .string ⟨x.t.toArray⟩, .bool x.b, .slice la x.l.length lc] 28)) (SB x.L (wr.alloc (.cells #[.int .i64 x.k, .int .u64 x.u, .int .i64 x.n, .string ⟨x.t.toArray⟩, .bool x.b, .slice la x.l.length lc] 28)))) := by unfold Hid; rw [L4 k0 k1 k2 k3]; exact rints x.l la lc _ ((HIn.out.keep HB4.out).mono (by have := HB.out.size; simp; omega)) HN.out.l (by omega)
        unfold SB at HC
        have HD : Hid ((⟨x.L.toArray⟩ : ByteArray).data.toList = x.L) := rfl
        have hDs : (⟨x.L.toArray⟩ : ByteArray).size ≤ 70000 := HLn.out
        generalize (⟨x.L.toArray⟩ : ByteArray) = D at *
        clear k0 k1 k2 k3
        go_wp2_with fail
        refine HC.out.mono ?_
        rintro e w3 ⟨rfl, hb3⟩
        have HB6 : Hid (Below w.heap.size w w3) := (HB.out.trans HB4.out).trans (hb3.mono (HB.out.trans HB4.out).size)
        clear HB4 hb3 HC
        go_wp2_with fail
        exact ⟨⟨k + 1, T ++ D, by go_num, rfl, by omega, HX.out D HD.out, HB6.out⟩, by simp [Lib.intOf]; omega⟩
      · have hkz : ¬ (k : Int) < (xs.length : Int) := by omega
        have HE : Hid (T.data.toList = wrL xs) := by unfold Hid; rw [HT.out, List.take_of_length_le (by omega)]
        have HW : Hid (Calls Try.prog 15 #[.slice a xs.length cap] wr (SB (wrL xs) wr)) := lwritten xs a cap wr ((HI.out.keep HB.out).mono HB.out.size) HF.out h60 h6
        have hq : ((⟨(wrL xs).toArray⟩ : ByteArray).toList == T.toList) = true := by
          rw [ByteArray.toList_mk, ByteArray.toList_eq, HE.out]
          simp
        unfold SB at HW
        generalize (⟨(wrL xs).toArray⟩ : ByteArray) = S at *
        clear HE HT
        go_wp2_with fail
        refine HW.out.mono ?_
        rintro e w3 ⟨rfl, hb3⟩
        have HB3 : Hid (Below w.heap.size w w3) := HB.out.trans (hb3.mono HB.out.size)
        clear hb3
        go_wp2_with fail
        refine (HA.out _).mono ?_
        rintro e w4 ⟨rfl, hb4⟩
        have HB4 : Hid (Below w.heap.size w w4) := HB3.out.trans (hb4.mono HB3.out.size)
        clear hb4
        go_wp2_with fail
        go_ret
        exact BB.mk rfl HB4.out
end Go.Proofs.Ytgdoeflnfcjefaa
