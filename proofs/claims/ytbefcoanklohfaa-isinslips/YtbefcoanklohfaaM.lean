/- The law of slips. Condition: none. -/
import Derived.Test.YtbefcoanklohfaaL
import Derived.WalkKit
import Derived.ProofKit
import Derived.Handy
import Derived.WalkLawsBesides
import Derived.WalkSpells
import Derived.BigQuiet
import Derived.BigCall
import Derived.Deep.QuietTactic
import Derived.Deep.Light
import Derived.Deep.OwnRows
import Derived.Laws.AppendOwnNone
import Derived.Laws.Strings3
import Derived.Laws.RangeAny
import Derived.Deep.RegionWith
import Derived.Lib.BitFns
import Derived.Lib.Walk
import Derived.Lib.Strings
import Derived.Lib.OthersKept
import Derived.Deep.CutBlock
import Derived.Deep.DeepCutAuto
import Derived.Deep.LoopGhost
import Derived.Deep.RegionHeld3
import Derived.Lib.SmallJoins
import Derived.Maps.AppendAt
import Derived.Laws.IdiomStrings
namespace Go.Proofs.Ytbefcoanklohfaa
open Go.RowKit
set_option linter.unusedVariables false
set_option linter.unusedSimpArgs false
theorem bdrewN {B : Nat} {a w : World} {n : Nat} (h : Below B a w) : Below B a (w.drewN n) := ⟨h.os, h.tape, h.output, h.size, h.block⟩
theorem bdrew {B : Nat} {a w : World} (h : Below B a w) : Below B a w.drew := ⟨h.os, h.tape, h.output, h.size, h.block⟩
theorem ext_drop (s : ByteArray) (e : Nat) : (s.extract e s.size).data.toList = s.data.toList.drop e := by
  simp only [ByteArray.data_extract, Array.toList_extract, List.extract_eq_take_drop]
  rw [List.take_of_length_le]
  rw [List.length_drop]
  exact Nat.le_refl _
theorem parts_at {s : ByteArray} {k : Nat} (h : k < s.size) : s.data.toList = s.data.toList.take k ++ s[k] :: s.data.toList.drop (k + 1) := by
  rw [← drop_at h, List.take_append_drop]
/-- a text with another byte at a place -/
theorem one_list (s : ByteArray) (k : Nat) (y : UInt8) : (s.extract 0 k ++ ⟨#[y]⟩ ++ s.extract (k + 1) s.size).data.toList = s.data.toList.take k ++ y :: s.data.toList.drop (k + 1) := by
  rw [ByteArray.data_append, Array.toList_append, ByteArray.data_append, Array.toList_append, ext_take, ext_drop]
  simp
theorem two_list (s : ByteArray) (k : Nat) (y z : UInt8) : (s.extract 0 k ++ ⟨#[y, z]⟩ ++ s.extract (k + 2) s.size).data.toList = s.data.toList.take k ++ y :: z :: s.data.toList.drop (k + 2) := by
  rw [ByteArray.data_append, Array.toList_append, ByteArray.data_append, Array.toList_append, ext_take, ext_drop]
  simp
/-- Check of such a text answers 0 just where a Bool says so -/
theorem check_q {T : ByteArray} (hT : T.size ≤ 9223372036854775807) {g : Bool} (h : chk T.data.toList = 0 ↔ g = true) : ∃ n : Nat, (((n : Nat) : Int) == 0) = g ∧ ∀ w, Calls Try.prog 8 #[.string T] w fun e w' => e = .returned (.int .i64 n) ∧ w' = w := by
  refine ⟨chk T.data.toList, ?_, fun w => (xCheck T hT w).mono fun e w' ⟨he, hw⟩ => ⟨he, hw.symm⟩⟩
  rw [Bool.eq_iff_iff, beq_iff_eq, ← h]
  omega
theorem str_drew {y : UInt8} {d : Int} (hd : (y.toNat : Int) = d) (W : World) : (convert 38 9 (Value.slice (some ⟨W.heap.size, 0, none⟩) 1 1)).run Try.prog (W.alloc (.cells #[.int .u8 d] 5)).drew = .ok (.string ⟨#[y]⟩) (W.alloc (.cells #[.int .u8 d] 5)).drew := by
  have h1 : (Lib.byteCells [y]).toArray = #[Value.int .u8 d] := by
    simp only [Lib.byteCells, List.map, hd]
  exact str_of (w := (W.alloc (.cells #[.int .u8 d] 5)).drew) (l := [y]) (b := W.heap.size) (cap := 1) (by rw [h1]; exact heap_alloc_new W _)
theorem str_drew2 {y z : UInt8} {d e : Int} (hd : (y.toNat : Int) = d) (he : (z.toNat : Int) = e) (W : World) : (convert 38 9 (Value.slice (some ⟨W.heap.size, 0, none⟩) 2 2)).run Try.prog (W.alloc (.cells #[.int .u8 d, .int .u8 e] 5)).drew = .ok (.string ⟨#[y, z]⟩) (W.alloc (.cells #[.int .u8 d, .int .u8 e] 5)).drew := by
  have h1 : (Lib.byteCells [y, z]).toArray = #[Value.int .u8 d, Value.int .u8 e] := by
    simp only [Lib.byteCells, List.map, hd, he]
  exact str_of (w := (W.alloc (.cells #[.int .u8 d, .int .u8 e] 5)).drew) (l := [y, z]) (b := W.heap.size) (cap := 2) (by rw [h1]; exact heap_alloc_new W _)
theorem idx_at {s : ByteArray} {k : Nat} (h : k < s.size) {z : UInt8} (hz : s[k] = z) {i : Int} (hi : i = k) (w : World) : (Instr.index 9 (.string s) (.int .i64 i)).run Try.prog w = .ok (.int .u8 (z.toNat : Int)) w := by
  subst hi
  rw [run_index_string w 9 s .i64 k Try.underlying9]
  simp [h, hz]
theorem takeH {P : Program} {l : List Oper} {Q : Exit → Act → World → Prop} {md : Region.Mode} {S : World → Prop} {i : Nat} {oi : Oper} {v : Value} {fuel : Nat} {listed : Array Bool} {a : Act} {w : World} (hi : l[i]? = some oi)
    (hs : Region.noSelect l.toArray = true) (hf : Region.free md l.toArray listed i = true) (hr : (Region.ready md l.toArray listed).contains i = true)
    (hQ : ∀ c a w, Q (.panic c) (a.put oi.dst v) w → Q (.panic c) a w) (hy : YieldsIf P l.toArray S oi v a) (hS : S w)
    (h : wpAnyH P md l.toArray Q S fuel (listed.setIfInBounds i true) (a.put oi.dst v) w) : wpAnyH P md l.toArray Q S (fuel + 1) listed a w :=
  wpAnyH_take (by rw [List.getElem?_toArray]; exact hi) hs hf hr hQ hy hS h

theorem consH {P : Program} {l : List Oper} {Q : Exit → Act → World → Prop} {md : Region.Mode} {S : World → Prop} {fuel : Nat} {listed : Array Bool} {a : Act} {w : World} {i : Nat} {o : Oper} (hi : l[i]? = some o) (hr : Region.ready md l.toArray listed = [i])
    (h : ∀ K' : Act → World → Prop, Shut (∀ a w, S w → (S w → wpAnyH P md l.toArray Q S fuel (listed.setIfInBounds i true) a w) → K' a w) → if Region.wanted o (yielded l.toArray a.tmps) = true then Oper.wp P o a w K' Q else K' (a.put o.dst undef) w) :
    wpAnyH P md l.toArray Q S (fuel + 1) listed a w :=
  wpAnyH_ready hr (by simp) (AllReadyH.cons (by rw [List.getElem?_toArray]; exact hi) h AllReadyH.nil)
theorem wrap_small {n : Int} (h : 0 ≤ n ∧ n ≤ 100) : IntKind.i64.wrap n = n := by
  rw [IntKind.wrap_i64]
  omega
set_option maxHeartbeats 4000000 in
set_option maxRecDepth 100000 in
theorem lslips (s : ByteArray) (a c : Nat) (ha : a < 18446744073709551616) (hc : c < 256) (w : World) : Calls Try.prog 5 #[.string s, .int .u64 a, .int .u8 c] w fun e w' => e = .returned (.bool true) ∧ Below w.heap.size w w' := by
  have HC : Hid (∀ w, Calls Try.prog 9 #[.string s] w (NB (chk s.data.toList) w)) := fun w => rCheck s w
  by_cases hk0 : chk s.data.toList = 0
  · rw [hk0] at HC
    have HK0 : Hid (chk s.data.toList = 0) := hk0
    have hsz : s.size = 12 := by
      have h1 := (chk_ok.1 hk0).1
      rw [shp_iff] at h1
      exact h1.1
    have h12 : (12 : Int) ≤ (s.size : Int) := by omega
    have h12' : (s.size : Int) ≤ 12 := by omega
    obtain ⟨k, hk⟩ : ∃ k : Nat, a % 12 = k := ⟨_, rfl⟩
    have hkl : k < s.size := by omega
    have hkl' : k ≤ 11 := by omega
    have hkz : (k : Int) < (s.size : Int) := by omega
    have hmod : (a : Int) % 12 = (k : Int) := by omega
    have hkz1 : (k : Int) + 1 ≤ (s.size : Int) := by omega
    have hkz2 : (k : Int) ≤ (s.size : Int) := by omega
    have HS12 : Hid (s.size = 12) := hsz
    have HPA : Hid _ := parts_at hkl
    obtain ⟨x, hx⟩ : ∃ x : UInt8, s[k] = x := ⟨_, rfl⟩
    rw [hx] at HPA
    have hxl := x.toNat_lt
    clear hk hsz hk0
    go_enter Try.func5, Try.ntmps5
    go_wp2_with fail
    refine (HC.out _).mono ?_
    rintro e W1 ⟨rfl, hb1⟩
    have HB1 : Hid (Below w.heap.size w W1) := hb1
    clear hb1
    by_cases hx48 : (x.toNat : Int) < 48
    · go_wp2_with fail
      refine (awake _).mono ?_
      rintro e W3 ⟨rfl, hb3⟩
      have HB3 : Hid (Below w.heap.size w W3) := HB1.out.trans (hb3.mono HB1.out.size)
      clear hb3
      go_wp2_with fail
      go_ret
      exact ⟨rfl, HB3.out⟩
    by_cases hx57 : (57 : Int) < (x.toNat : Int)
    · go_wp2_with fail
      refine (awake _).mono ?_
      rintro e W3 ⟨rfl, hb3⟩
      have HB3 : Hid (Below w.heap.size w W3) := HB1.out.trans (hb3.mono HB1.out.size)
      clear hb3
      go_wp2_with fail
      go_ret
      exact ⟨rfl, HB3.out⟩
    obtain ⟨d, hd⟩ : ∃ d : Nat, 48 + c % 10 = d := ⟨_, rfl⟩
    have hdz : (48 : Int) + (c : Int) % 10 = (d : Int) := by omega
    have hd1 : 48 ≤ d := by omega
    have hd2 : d ≤ 57 := by omega
    obtain ⟨y, hy⟩ : ∃ y : UInt8, d.toUInt8 = y := ⟨_, rfl⟩
    have HY : Hid (y.toNat = d) := by unfold Hid; rw [← hy]; exact u8n d (by omega)
    have hcv := str_drew (y := y) (d := (d : Int)) (by rw [HY.out])
    have hpre : (s.extract 0 k).size ≤ 12 := Nat.le_trans (ext_size s k) (by omega)
    have HXD : Hid (Dg x.toNat) := by unfold Hid; omega
    clear hd hy
    go_wp2_with fail
    go_region
    obtain ⟨T, hT⟩ : ∃ T : ByteArray, s.extract 0 k ++ ⟨#[y]⟩ ++ s.extract (k + 1) s.size = T := ⟨_, rfl⟩
    have hTs : T.size ≤ 9223372036854775807 := by
      have h1 : (⟨#[y]⟩ : ByteArray).size = 1 := rfl
      rw [← hT, ByteArray.size_append, ByteArray.size_append, ByteArray.size_extract, ByteArray.size_extract, h1]
      omega
    have hTl := one_list s k y
    rw [hT] at hTl ⊢
    obtain ⟨g, hg⟩ : ∃ g : Bool, decide (y = x) = g := ⟨_, rfl⟩
    have hdx : ((d : Int) == (x.toNat : Int)) = g := by
      rw [← hg, Bool.eq_iff_iff, beq_iff_eq, decide_eq_true_eq, ← UInt8.toNat_inj, HY.out]
      omega
    obtain ⟨n, hn, hq⟩ := check_q hTs (g := g) (by
      rw [hTl, ← hg, decide_eq_true_eq]
      have h0 := HK0.out
      rw [HPA.out] at h0
      exact slip_one h0 HXD.out (by rw [HY.out]; omega))
    have HQ : ∀ w, Hid (Calls Try.prog 8 #[.string T] w fun e w' => e = .returned (.int .i64 n) ∧ w' = w) := hq
    have HB2 : Hid (Below w.heap.size w (W1.alloc (Obj.cells #[Value.int IntKind.u8 ↑d] 5)).drew) := bdrew (HB1.out.alloc HB1.out.size _)
    generalize (W1.alloc (Obj.cells #[Value.int IntKind.u8 ↑d] 5)).drew = W2 at *
    clear hcv hT hTl hq hg hpre HB1 HC
    go_wp2_with fail
    go_quiet ((go_at_call 8; refine Calls.quiet_of_same (HQ _).out))
    have HB3 : Hid (Below w.heap.size w (W2.drewN nq)) := bdrewN HB2.out
    generalize W2.drewN nq = W3 at *
    clear HQ hn hdx HB2
    by_cases hk11 : k = 11
    · have hkb : ((k : Int) == 11) = true := by rw [beq_iff_eq]; omega
      clear hk11
      go_wp2_with fail
      refine (awake _).mono ?_
      rintro e W4 ⟨rfl, hb4⟩
      have HB4 : Hid (Below w.heap.size w W4) := HB3.out.trans (hb4.mono HB3.out.size)
      clear hb4
      go_wp2_with fail
      go_ret
      exact ⟨rfl, HB4.out⟩
    have hkb : ((k : Int) == 11) = false := by rw [beq_eq_false_iff_ne]; omega
    have hk1l : k + 1 < s.size := by have := HS12.out; omega
    have hk1z : (k : Int) + 1 < (s.size : Int) := by omega
    have hk2z : (k : Int) + 2 ≤ (s.size : Int) := by omega
    have hk0z : (0 : Int) ≤ (k : Int) + 1 := by omega
    obtain ⟨z, hz⟩ : ∃ z : UInt8, s[k + 1] = z := ⟨_, rfl⟩
    have HPB : Hid (s.data.toList.drop (k + 1) = z :: s.data.toList.drop (k + 2)) := by unfold Hid; rw [drop_at hk1l, hz]
    have hzl := z.toNat_lt
    clear hk11
    by_cases hz48 : (z.toNat : Int) < 48
    · go_wp2_with fail
      refine (awake _).mono ?_
      rintro e W4 ⟨rfl, hb4⟩
      have HB4 : Hid (Below w.heap.size w W4) := HB3.out.trans (hb4.mono HB3.out.size)
      clear hb4
      go_wp2_with fail
      go_ret
      exact ⟨rfl, HB4.out⟩
    by_cases hz57 : (57 : Int) < (z.toNat : Int)
    · go_wp2_with fail
      refine (awake _).mono ?_
      rintro e W4 ⟨rfl, hb4⟩
      have HB4 : Hid (Below w.heap.size w W4) := HB3.out.trans (hb4.mono HB3.out.size)
      clear hb4
      go_wp2_with fail
      go_ret
      exact ⟨rfl, HB4.out⟩
    have HZD : Hid (Dg z.toNat) := by unfold Hid; omega
    have hcv2 := str_drew2 (y := z) (z := x) rfl rfl
    have hpre : (s.extract 0 k).size ≤ 12 := Nat.le_trans (ext_size s k) (by have := HS12.out; omega)
    go_wp2_with fail
    go_region
    obtain ⟨U, hU⟩ : ∃ U : ByteArray, s.extract 0 k ++ ⟨#[z, x]⟩ ++ s.extract (k + 2) s.size = U := ⟨_, rfl⟩
    have hUs : U.size ≤ 9223372036854775807 := by
      have h1 : (⟨#[z, x]⟩ : ByteArray).size = 2 := rfl
      have h2 := HS12.out
      rw [← hU, ByteArray.size_append, ByteArray.size_append, ByteArray.size_extract, ByteArray.size_extract, h1]
      omega
    have hUl := two_list s k z x
    rw [hU] at hUl ⊢
    obtain ⟨g, hg⟩ : ∃ g : Bool, decide (x = z) = g := ⟨_, rfl⟩
    have hxz : ((x.toNat : Int) == (z.toNat : Int)) = g := by
      rw [← hg, Bool.eq_iff_iff, beq_iff_eq, decide_eq_true_eq, ← UInt8.toNat_inj]
      omega
    have HQ1 : Hid (¬ (x.toNat = 48 ∧ z.toNat = 57 ∨ x.toNat = 57 ∧ z.toNat = 48) → ∃ n : Nat, (((n : Nat) : Int) == 0) = g ∧ ∀ w, Calls Try.prog 8 #[.string U] w fun e w' => e = .returned (.int .i64 n) ∧ w' = w) := fun h9 => check_q hUs (g := g) (by
      rw [hUl, ← hg, decide_eq_true_eq]
      have h0 := HK0.out
      rw [HPA.out, HPB.out] at h0
      exact slip_two h0 HXD.out HZD.out h9)
    have HB5 : Hid (Below w.heap.size w (W3.alloc (Obj.cells #[Value.int IntKind.u8 ↑z.toNat, Value.int IntKind.u8 ↑x.toNat] 5)).drew) := bdrew (HB3.out.alloc HB3.out.size _)
    generalize (W3.alloc (Obj.cells #[Value.int IntKind.u8 ↑z.toNat, Value.int IntKind.u8 ↑x.toNat] 5)).drew = W5 at *
    clear hcv2 hU hUl hg hpre HB3
    go_upto_region 13 with fail
    go_cut [11] (fun v wx => W5 = wx ∧ ∃ b : Bool, v = .bool b ∧ Hid (b = false → ¬ (x.toNat = 48 ∧ z.toNat = 57 ∨ x.toNat = 57 ∧ z.toNat = 48)))
    case first =>
      clear HQ1 hxz
      by_cases e1 : x.toNat = 48
      · have f1 : ((x.toNat : Int) == 48) = true := by rw [beq_iff_eq]; omega
        by_cases e2 : z.toNat = 57
        · have f2 : ((z.toNat : Int) == 57) = true := by rw [beq_iff_eq]; omega
          clear e1 e2
          go_wp2_with fail
          go_meet
          exact ⟨rfl, true, rfl, fun h => by cases h⟩
        · have f2 : ((z.toNat : Int) == 57) = false := by rw [beq_eq_false_iff_ne]; omega
          have f3 : ((x.toNat : Int) == 57) = false := by rw [beq_eq_false_iff_ne]; omega
          have HN : Hid (¬ (x.toNat = 48 ∧ z.toNat = 57 ∨ x.toNat = 57 ∧ z.toNat = 48)) := by unfold Hid; omega
          clear e1 e2
          go_wp2_with fail
          go_meet
          exact ⟨rfl, false, rfl, fun _ => HN.out⟩
      · have f1 : ((x.toNat : Int) == 48) = false := by rw [beq_eq_false_iff_ne]; omega
        by_cases e2 : x.toNat = 57
        · have f2 : ((x.toNat : Int) == 57) = true := by rw [beq_iff_eq]; omega
          by_cases e3 : z.toNat = 48
          · have f3 : ((z.toNat : Int) == 48) = true := by rw [beq_iff_eq]; omega
            clear e1 e2 e3
            go_wp2_with fail
            go_meet
            exact ⟨rfl, true, rfl, fun h => by cases h⟩
          · have f3 : ((z.toNat : Int) == 48) = false := by rw [beq_eq_false_iff_ne]; omega
            have HN : Hid (¬ (x.toNat = 48 ∧ z.toNat = 57 ∨ x.toNat = 57 ∧ z.toNat = 48)) := by unfold Hid; omega
            clear e1 e2 e3
            go_wp2_with fail
            go_meet
            exact ⟨rfl, false, rfl, fun _ => HN.out⟩
        · have f2 : ((x.toNat : Int) == 57) = false := by rw [beq_eq_false_iff_ne]; omega
          have HN : Hid (¬ (x.toNat = 48 ∧ z.toNat = 57 ∨ x.toNat = 57 ∧ z.toNat = 48)) := by unfold Hid; omega
          clear e1 e2
          go_wp2_with fail
          go_meet
          exact ⟨rfl, false, rfl, fun _ => HN.out⟩
    case rest =>
      obtain ⟨rfl, b, rfl, hb⟩ := hcut
      cases b
      · obtain ⟨n2, hn2, hq2⟩ := HQ1.out (hb.out (by first | rfl | trivial))
        have HQ2 : ∀ w, Hid (Calls Try.prog 8 #[.string U] w fun e w' => e = .returned (.int .i64 n2) ∧ w' = w) := hq2
        have hix : ∀ w : World, (Instr.index 9 (.string s) (.int .i64 ((k : Int) + 1))).run Try.prog w = .ok (.int .u8 (z.toNat : Int)) w := fun w => idx_at hk1l hz (by omega) w
        have hix0 : ∀ w : World, (Instr.index 9 (.string s) (.int .i64 (k : Int))).run Try.prog w = .ok (.int .u8 (x.toNat : Int)) w := fun w => idx_at hkl hx rfl w
        clear hq2 HQ1 hb
        go_wp2_with fail
        refine wp_region_held (S := fun w' => Below W5.heap.size W5 w') (by kernel_rfl) ?_
        change wpAnyH _ _ _ _ _ 19 #[false, false, false, false, false, false, false, false, false, false, false, false, false, false, false, false, false, false, false] _ _
        have hS : Below W5.heap.size W5 W5.drew := ⟨rfl, rfl, rfl, Nat.le_refl _, fun _ _ => rfl⟩
        refine takeH (fuel := 18) (i := 0) (v := .bool false) rfl (by kernel_rfl) (by kernel_rfl) (by kernel_rfl) (fun _ _ _ h => h) (Or.inl ⟨rfl, fun _ _ => rfl⟩) hS ?_
        simp only [Act.put, List.setIfInBounds_toArray, List.set_cons_zero, List.set_cons_succ]
        refine takeH (fuel := 17) (i := 1) (v := .bool false) rfl (by kernel_rfl) (by kernel_rfl) (by kernel_rfl) (fun _ _ _ h => h) (Or.inl ⟨rfl, fun _ _ => rfl⟩) hS ?_
        simp only [Act.put, List.setIfInBounds_toArray, List.set_cons_zero, List.set_cons_succ]
        refine takeH (fuel := 16) (i := 2) (v := .string U) rfl (by kernel_rfl) (by kernel_rfl) (by kernel_rfl) (fun _ _ _ h => h) (Or.inl ⟨rfl, fun _ _ => rfl⟩) hS ?_
        simp only [Act.put, List.setIfInBounds_toArray, List.set_cons_zero, List.set_cons_succ]
        refine takeH (fuel := 15) (i := 5) (v := .string s) rfl (by kernel_rfl) (by kernel_rfl) (by kernel_rfl) (fun _ _ _ h => h) (Or.inl ⟨rfl, fun _ _ => rfl⟩) hS ?_
        simp only [Act.put, List.setIfInBounds_toArray, List.set_cons_zero, List.set_cons_succ]
        refine takeH (fuel := 14) (i := 6) (v := .int .i64 k) rfl (by kernel_rfl) (by kernel_rfl) (by kernel_rfl) (fun _ _ _ h => h) (Or.inl ⟨rfl, fun _ _ => rfl⟩) hS ?_
        simp only [Act.put, List.setIfInBounds_toArray, List.set_cons_zero, List.set_cons_succ]
        refine takeH (fuel := 13) (i := 7) (v := .int .u8 x.toNat) rfl (by kernel_rfl) (by kernel_rfl) (by kernel_rfl) (fun _ _ _ h => h) (Or.inl ⟨rfl, fun w _ => by go_simp⟩) hS ?_
        simp only [Act.put, List.setIfInBounds_toArray, List.set_cons_zero, List.set_cons_succ]
        refine takeH (fuel := 12) (i := 8) (v := .string s) rfl (by kernel_rfl) (by kernel_rfl) (by kernel_rfl) (fun _ _ _ h => h) (Or.inl ⟨rfl, fun _ _ => rfl⟩) hS ?_
        simp only [Act.put, List.setIfInBounds_toArray, List.set_cons_zero, List.set_cons_succ]
        refine takeH (fuel := 11) (i := 9) (v := .int .i64 k) rfl (by kernel_rfl) (by kernel_rfl) (by kernel_rfl) (fun _ _ _ h => h) (Or.inl ⟨rfl, fun _ _ => rfl⟩) hS ?_
        simp only [Act.put, List.setIfInBounds_toArray, List.set_cons_zero, List.set_cons_succ]
        refine takeH (fuel := 10) (i := 10) (v := .int .i64 ((k : Int) + 1)) rfl (by kernel_rfl) (by kernel_rfl) (by kernel_rfl) (fun _ _ _ h => h) (Or.inl ⟨rfl, fun w _ => by go_simp; exact wrap_small (by omega)⟩) hS ?_
        simp only [Act.put, List.setIfInBounds_toArray, List.set_cons_zero, List.set_cons_succ]
        refine takeH (fuel := 9) (i := 11) (v := .int .u8 z.toNat) rfl (by kernel_rfl) (by kernel_rfl) (by kernel_rfl) (fun _ _ _ h => h) (Or.inl ⟨rfl, fun w _ => by go_simp⟩) hS ?_
        simp only [Act.put, List.setIfInBounds_toArray, List.set_cons_zero, List.set_cons_succ]
        refine takeH (fuel := 8) (i := 12) (v := .bool g) rfl (by kernel_rfl) (by kernel_rfl) (by kernel_rfl) (fun _ _ _ h => h) (Or.inl ⟨rfl, fun w _ => by go_simp⟩) hS ?_
        simp only [Act.put, List.setIfInBounds_toArray, List.set_cons_zero, List.set_cons_succ]
        refine consH (fuel := 7) (i := 3) rfl (by kernel_rfl) (fun K hK => ?_)
        rw [if_pos (by rfl)]
        go_simp
        refine (HQ2 _).out.mono ?_
        rintro e we ⟨rfl, rfl⟩
        refine hK.out _ _ hS (fun hS => ?_)
        clear hK
        try simp only [Act.put, List.setIfInBounds_toArray, List.set_cons_zero, List.set_cons_succ]
        refine takeH (fuel := 6) (i := 4) (v := .bool g) rfl (by kernel_rfl) (by kernel_rfl) (by kernel_rfl) (fun _ _ _ h => h) (Or.inl ⟨rfl, fun w _ => by go_simp⟩) hS ?_
        simp only [Act.put, List.setIfInBounds_toArray, List.set_cons_zero, List.set_cons_succ]
        refine takeH (fuel := 5) (i := 13) (v := .bool true) rfl (by kernel_rfl) (by kernel_rfl) (by kernel_rfl) (fun _ _ _ h => h) (Or.inl ⟨rfl, fun w _ => by go_simp⟩) hS ?_
        simp only [Act.put, List.setIfInBounds_toArray, List.set_cons_zero, List.set_cons_succ]
        refine takeH (fuel := 4) (i := 14) (v := .bool true) rfl (by kernel_rfl) (by kernel_rfl) (by kernel_rfl) (fun _ _ _ h => h) (Or.inl ⟨rfl, fun _ _ => rfl⟩) hS ?_
        simp only [Act.put, List.setIfInBounds_toArray, List.set_cons_zero, List.set_cons_succ]
        refine takeH (fuel := 3) (i := 15) (v := .bool true) rfl (by kernel_rfl) (by kernel_rfl) (by kernel_rfl) (fun _ _ _ h => h) (Or.inl ⟨rfl, fun _ _ => rfl⟩) hS ?_
        simp only [Act.put, List.setIfInBounds_toArray, List.set_cons_zero, List.set_cons_succ]
        refine consH (fuel := 2) (i := 16) rfl (by kernel_rfl) (fun K hK => ?_)
        rw [if_pos (by rfl)]
        go_simp
        refine (awake _).mono ?_
        rintro e we ⟨rfl, hbe⟩
        refine hK.out _ _ (hS.trans (hbe.mono hS.size)) (fun hSe => ?_)
        clear hK
        try simp only [Act.put, List.setIfInBounds_toArray, List.set_cons_zero, List.set_cons_succ]
        refine takeH (fuel := 1) (i := 17) (v := .bool true) rfl (by kernel_rfl) (by kernel_rfl) (by kernel_rfl) (fun _ _ _ h => h) (Or.inl ⟨rfl, fun _ _ => rfl⟩) hSe ?_
        simp only [Act.put, List.setIfInBounds_toArray, List.set_cons_zero, List.set_cons_succ]
        refine takeH (fuel := 0) (i := 18) (v := .bool true) rfl (by kernel_rfl) (by kernel_rfl) (by kernel_rfl) (fun _ _ _ h => h) (Or.inl ⟨rfl, fun _ _ => rfl⟩) hSe ?_
        simp only [Act.put, List.setIfInBounds_toArray, List.set_cons_zero, List.set_cons_succ]
        refine wpAnyH_done (by kernel_rfl) ?_ _
        go_wp2_with fail
        go_ret
        exact ⟨rfl, HB5.out.trans (hSe.mono HB5.out.size)⟩
      · clear HQ1 hxz hb
        go_wp2_with fail
        refine wp_region_held (S := fun w' => Below W5.heap.size W5 w') (by kernel_rfl) ?_
        change wpAnyH _ _ _ _ _ 19 #[false, false, false, false, false, false, false, false, false, false, false, false, false, false, false, false, false, false, false] _ _
        have hS : Below W5.heap.size W5 W5.drew := ⟨rfl, rfl, rfl, Nat.le_refl _, fun _ _ => rfl⟩
        refine takeH (fuel := 18) (i := 0) (v := .bool true) rfl (by kernel_rfl) (by kernel_rfl) (by kernel_rfl) (fun _ _ _ h => h) (Or.inl ⟨rfl, fun _ _ => rfl⟩) hS ?_
        simp only [Act.put, List.setIfInBounds_toArray, List.set_cons_zero, List.set_cons_succ]
        refine takeH (fuel := 17) (i := 1) (v := .bool true) rfl (by kernel_rfl) (by kernel_rfl) (by kernel_rfl) (fun _ _ _ h => h) (Or.inl ⟨rfl, fun _ _ => rfl⟩) hS ?_
        simp only [Act.put, List.setIfInBounds_toArray, List.set_cons_zero, List.set_cons_succ]
        refine takeH (fuel := 16) (i := 2) (v := undef) rfl (by kernel_rfl) (by kernel_rfl) (by kernel_rfl) (fun _ _ _ h => h) (Or.inr ⟨rfl, rfl⟩) hS ?_
        simp only [Act.put, List.setIfInBounds_toArray, List.set_cons_zero, List.set_cons_succ]
        refine takeH (fuel := 15) (i := 3) (v := undef) rfl (by kernel_rfl) (by kernel_rfl) (by kernel_rfl) (fun _ _ _ h => h) (Or.inr ⟨rfl, rfl⟩) hS ?_
        simp only [Act.put, List.setIfInBounds_toArray, List.set_cons_zero, List.set_cons_succ]
        refine takeH (fuel := 14) (i := 4) (v := undef) rfl (by kernel_rfl) (by kernel_rfl) (by kernel_rfl) (fun _ _ _ h => h) (Or.inr ⟨rfl, rfl⟩) hS ?_
        simp only [Act.put, List.setIfInBounds_toArray, List.set_cons_zero, List.set_cons_succ]
        refine takeH (fuel := 13) (i := 5) (v := undef) rfl (by kernel_rfl) (by kernel_rfl) (by kernel_rfl) (fun _ _ _ h => h) (Or.inr ⟨rfl, rfl⟩) hS ?_
        simp only [Act.put, List.setIfInBounds_toArray, List.set_cons_zero, List.set_cons_succ]
        refine takeH (fuel := 12) (i := 6) (v := undef) rfl (by kernel_rfl) (by kernel_rfl) (by kernel_rfl) (fun _ _ _ h => h) (Or.inr ⟨rfl, rfl⟩) hS ?_
        simp only [Act.put, List.setIfInBounds_toArray, List.set_cons_zero, List.set_cons_succ]
        refine takeH (fuel := 11) (i := 7) (v := undef) rfl (by kernel_rfl) (by kernel_rfl) (by kernel_rfl) (fun _ _ _ h => h) (Or.inr ⟨rfl, rfl⟩) hS ?_
        simp only [Act.put, List.setIfInBounds_toArray, List.set_cons_zero, List.set_cons_succ]
        refine takeH (fuel := 10) (i := 8) (v := undef) rfl (by kernel_rfl) (by kernel_rfl) (by kernel_rfl) (fun _ _ _ h => h) (Or.inr ⟨rfl, rfl⟩) hS ?_
        simp only [Act.put, List.setIfInBounds_toArray, List.set_cons_zero, List.set_cons_succ]
        refine takeH (fuel := 9) (i := 9) (v := undef) rfl (by kernel_rfl) (by kernel_rfl) (by kernel_rfl) (fun _ _ _ h => h) (Or.inr ⟨rfl, rfl⟩) hS ?_
        simp only [Act.put, List.setIfInBounds_toArray, List.set_cons_zero, List.set_cons_succ]
        refine takeH (fuel := 8) (i := 10) (v := undef) rfl (by kernel_rfl) (by kernel_rfl) (by kernel_rfl) (fun _ _ _ h => h) (Or.inr ⟨rfl, rfl⟩) hS ?_
        simp only [Act.put, List.setIfInBounds_toArray, List.set_cons_zero, List.set_cons_succ]
        refine takeH (fuel := 7) (i := 11) (v := undef) rfl (by kernel_rfl) (by kernel_rfl) (by kernel_rfl) (fun _ _ _ h => h) (Or.inr ⟨rfl, rfl⟩) hS ?_
        simp only [Act.put, List.setIfInBounds_toArray, List.set_cons_zero, List.set_cons_succ]
        refine takeH (fuel := 6) (i := 12) (v := undef) rfl (by kernel_rfl) (by kernel_rfl) (by kernel_rfl) (fun _ _ _ h => h) (Or.inr ⟨rfl, rfl⟩) hS ?_
        simp only [Act.put, List.setIfInBounds_toArray, List.set_cons_zero, List.set_cons_succ]
        refine takeH (fuel := 5) (i := 13) (v := undef) rfl (by kernel_rfl) (by kernel_rfl) (by kernel_rfl) (fun _ _ _ h => h) (Or.inr ⟨rfl, rfl⟩) hS ?_
        simp only [Act.put, List.setIfInBounds_toArray, List.set_cons_zero, List.set_cons_succ]
        refine takeH (fuel := 4) (i := 14) (v := .bool true) rfl (by kernel_rfl) (by kernel_rfl) (by kernel_rfl) (fun _ _ _ h => h) (Or.inl ⟨rfl, fun _ _ => rfl⟩) hS ?_
        simp only [Act.put, List.setIfInBounds_toArray, List.set_cons_zero, List.set_cons_succ]
        refine takeH (fuel := 3) (i := 15) (v := .bool true) rfl (by kernel_rfl) (by kernel_rfl) (by kernel_rfl) (fun _ _ _ h => h) (Or.inl ⟨rfl, fun _ _ => rfl⟩) hS ?_
        simp only [Act.put, List.setIfInBounds_toArray, List.set_cons_zero, List.set_cons_succ]
        refine consH (fuel := 2) (i := 16) rfl (by kernel_rfl) (fun K hK => ?_)
        rw [if_pos (by rfl)]
        go_simp
        refine (awake _).mono ?_
        rintro e we ⟨rfl, hbe⟩
        refine hK.out _ _ (hS.trans (hbe.mono hS.size)) (fun hSe => ?_)
        clear hK
        try simp only [Act.put, List.setIfInBounds_toArray, List.set_cons_zero, List.set_cons_succ]
        refine takeH (fuel := 1) (i := 17) (v := .bool true) rfl (by kernel_rfl) (by kernel_rfl) (by kernel_rfl) (fun _ _ _ h => h) (Or.inl ⟨rfl, fun _ _ => rfl⟩) hSe ?_
        simp only [Act.put, List.setIfInBounds_toArray, List.set_cons_zero, List.set_cons_succ]
        refine takeH (fuel := 0) (i := 18) (v := .bool true) rfl (by kernel_rfl) (by kernel_rfl) (by kernel_rfl) (fun _ _ _ h => h) (Or.inl ⟨rfl, fun _ _ => rfl⟩) hSe ?_
        simp only [Act.put, List.setIfInBounds_toArray, List.set_cons_zero, List.set_cons_succ]
        refine wpAnyH_done (by kernel_rfl) ?_ _
        go_wp2_with fail
        go_ret
        exact ⟨rfl, HB5.out.trans (hSe.mono HB5.out.size)⟩
  · have hne : (((chk s.data.toList : Nat) : Int) != 0) = true := by rw [bne_iff_ne]; omega
    generalize chk s.data.toList = n at *
    clear hk0
    go_enter Try.func5, Try.ntmps5
    go_wp2_with fail
    refine (HC.out _).mono ?_
    rintro e W1 ⟨rfl, hb1⟩
    have HB1 : Hid (Below w.heap.size w W1) := hb1
    clear hb1
    go_wp2_with fail
    refine (awake _).mono ?_
    rintro e W3 ⟨rfl, hb3⟩
    have HB3 : Hid (Below w.heap.size w W3) := HB1.out.trans (hb3.mono HB1.out.size)
    clear hb3
    go_wp2_with fail
    go_ret
    exact ⟨rfl, HB3.out⟩
end Go.Proofs.Ytbefcoanklohfaa
