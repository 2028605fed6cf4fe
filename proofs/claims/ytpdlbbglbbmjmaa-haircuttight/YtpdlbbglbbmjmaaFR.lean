/- The walk of the reference's Div. Conditions: the lists hold digits, the last not 0, and are not long; the second number isn't 0. -/
import Derived.Test.YtpdlbbglbbmjmaaFO
import Derived.WalkKit
import Derived.ProofKit
import Derived.Handy
import Derived.WalkLawsBesides
import Derived.WalkSpells
import Derived.BigQuiet
import Derived.Deep.QuietTactic
import Derived.Deep.Light
import Derived.Deep.OwnRows
import Derived.Laws.AppendOwnNone
import Derived.Deep.RegionWith
import Derived.Lib.BitFns
import Derived.Lib.Walk
import Derived.Deep.CutBlock
import Derived.Deep.DeepCutAuto
import Derived.Deep.LoopGhost
import Derived.Deep.RegionHeld
namespace Go.Proofs.Ytpdlbbglbbmjmaa.N1
open Go.RowKit
set_option linter.unusedVariables false
set_option linter.unusedSimpArgs false

/-- append(l, m...): all of m's digits more, m in memory of the call's own, too -/
theorem app_own (w : World) {ops : Array Oper} {rest : List Oper} {o : Oper} {a : Act} {Q : Exit → Act → World → Prop} (hgd : o.guard = none) (s x : Operand)
    (ho : o.op = .call { callee := .builtin .append, args := #[s, x], argTypes := #[112, 112] })
    (B B2 : Nat) (v v2 : Value) (ds es : List Int) (hs : a.eval s = v) (hx : a.eval x = v2) (hown : Own B w v ds) (hd : Own B2 w v2 es) (hl : ds.length + es.length ≤ 1000000) (hB : B ≤ w.heap.size)
    (h : ∀ v' w', Own B w' v' (ds ++ es) → w.grownBy w' v.ownBlock → wpList Try.prog ops Q rest (a.put o.dst v') w') : wpList Try.prog ops Q (o :: rest) a w := by
  by_cases h0 : es = []
  · have h1 := hd
    unfold Own World.ownsRow at h1
    rcases h1.2 with ⟨e, _⟩ | ⟨g, cap, cur, e, _⟩
    · exact app_all w hgd s x ho B v v2 ds es hs hx hown hd.dig (fun _ => e) hl hB h
    · subst h0
      obtain ⟨i0, hi, hz0, hz1, hz2⟩ := info_parts Try.info100
      rw [e] at hx
      refine wpList_append_own w hgd s x 112 ho B 100 i0 (.int .u64 0) 1 8 Try.underlying112 hi hz0 hz1 hz2 rfl (by decide) v ds.length (ds.map (Value.int .u64)) hs hown ⟨g, 0, none⟩ 0 cap [] hx rfl ?_ ?_ ?_ ?_ hB ?_
      · intro j u hj; simp at hj
      · intro u hu; simp at hu
      · unfold maxLen; omega
      · omega
      · intro v' w' h1 h2 _
        exact h v' w' (by unfold Own; simpa using h1) h2
  · exact app_all w hgd s x ho B v v2 ds es hs hx hown hd.dig (fun h => absurd h h0) hl hB h

theorem Own.set_below {B : Nat} {w : World} {v : Value} {ds : List Int} (h : Own B w v ds) {p : Addr} (hp : p.block < B) (u : Value) : Own B (w.setCell p u) v ds := ownsRow_setCell_below h hp u

def DivBPost (xs ys : List Int) (w : World) (e : Ending) (w' : World) : Prop :=
  ∃ vq qs vr rs, e = .returned (.tuple #[vq, vr]) ∧ Own w.heap.size w' vq qs ∧ Own w.heap.size w' vr rs ∧ Hid (Norm qs ∧ Norm rs ∧ val qs * val ys + val rs = val xs ∧ val rs < val ys ∧ qs.length ≤ xs.length ∧ rs.length ≤ ys.length) ∧ Below w.heap.size w w'

/-- what the outer loop of Div keeps: the digits from k on are divided -/
def DivRel (xs ys : List Int) (w : World) (k : Nat) (qs rs : List Int) (v : Value) (wr : World) : Prop :=
  Row wr w.heap.size .u64 100 qs ∧ Own (w.heap.size + 1) wr v rs ∧ Below w.heap.size w wr ∧ Dgs qs ∧ qs.length = xs.length ∧ Norm rs ∧ val rs < val ys ∧ val (qs.drop k) * val ys + val rs = val (xs.drop k)

theorem norm_le (rs ys : List Int) (hr : Norm rs) (hy : Norm ys) (h : val rs ≤ val ys) : rs.length ≤ ys.length := by
  rcases Nat.lt_or_ge ys.length rs.length with h1 | h1
  · have := val_shorter ys rs hy hr h1; omega
  · exact h1

theorem div_step (l q y x r : Int) : (l + 65536 * q) * y + (x + 65536 * r - l * y) = x + 65536 * (q * y + r) := by grind

theorem rdiv (xs ys : List Int) (u v : Value) (w : World) (hx : Norm xs) (hy : Norm ys) (hl : xs.length ≤ 100) (hl' : ys.length ≤ 100) (h0 : 0 < val ys) (hu : Dig w u xs) (hv : Dig w v ys) :
    Calls Try.prog 67 #[u, v] w (DivBPost xs ys w) := by
  obtain ⟨a, cap, rfl, -, -, h⟩ := hu
  have hmk := run_make_row' (P := Try.prog) 112 100 (.int .u64 0) 8 Try.underlying112 Try.info100 rfl .i64 .i64 xs.length (by omega) (by omega)
  have HX : Hid (Norm xs) := hx
  have HY : Hid (Norm ys) := hy
  have H : Hid _ := h
  have HV : Hid (Dig w v ys) := hv
  have H0 : Hid _ := h0
  clear h hx hy hv h0
  go_enter Try.func67, Try.ntmps67
  go_wp2
  go_loopw [7, 8] (fun v i wr => ∃ (k : Nat) (qs rs : List Int), k ≤ xs.length ∧ i = .int .i64 ((k : Int) - 1) ∧ Hid (DivRel xs ys w k qs rs v wr))
    (fun _ i _ => (intOf i + 1).toNat)
  case atStart =>
    refine ⟨xs.length, List.replicate xs.length 0, [], by omega, rfl, ?_, Own.nil _ _, Below.alloc (Below.refl _ _) (Nat.le_refl _) _, Dgs.zeros _, by simp, ⟨Dgs.nil, Or.inl rfl⟩, H0.out, ?_⟩
    · rw [made_zeros]; exact Row.new w _ .u64 100
    · rw [List.drop_length, List.drop_eq_nil_of_le (by simp)]; simp [val]
  case round =>
    obtain ⟨k, qs, rs, hk, rfl, hs⟩ := hrel
    by_cases hk0 : k = 0
    · subst hk0
      go_wp2_with fail
      have hown := Row.own (B := w.heap.size) hs.out.1 (Nat.le_refl _) (by rw [hs.out.2.2.2.2.1]; unfold maxLen; omega)
      rw [hs.out.2.2.2.2.1] at hown
      refine (rtrim w.heap.size qs _ _ hown (by rw [hs.out.2.2.2.2.1]; omega)).mono ?_
      rintro e w4 ⟨v4, rfl, ho4, rfl⟩
      have Ho4 : Hid (Own w.heap.size wr v4 (trimL qs)) := ho4
      clear ho4 hown
      go_wp2
      go_ret2
      obtain ⟨h1, h2, h3, h4, h5, h6, h7, h8⟩ := hs.out
      refine ⟨v4, trimL qs, _, rs, rfl, Ho4.out, h2.mono (by omega), ⟨trimL_norm qs h4, h6, ?_, h7, ?_, norm_le rs ys h6 HY.out (Int.le_of_lt h7)⟩, h3⟩
      · rw [trimL_val]
        simpa using h8
      · have := trimL_le qs; omega
    · obtain ⟨m, rfl⟩ : ∃ m, k = m + 1 := ⟨k - 1, by omega⟩
      have ei : ((m + 1 : Nat) : Int) - 1 = (m : Int) := by omega
      rw [ei]
      clear ei
      obtain ⟨g1, e1, hb1, hc1⟩ := H.out (by intro e; subst e; simp at hk)
      have hcx := (hs.out.2.2.1.cell (p := ⟨g1, m, none⟩) hb1).trans (hc1 m (by omega))
      have hxd := HX.out.1.get m
      have hlt : (m : Int) < xs.length := by omega
      generalize hxk : xs.getD m 0 = x at hcx hxd
      have Hxk : Hid _ := hxk
      clear hxk hc1
      subst e1
      have hrl : rs.length ≤ ys.length := norm_le rs ys hs.out.2.2.2.2.2.1 HY.out (Int.le_of_lt hs.out.2.2.2.2.2.2.1)
      go_wp2_with (first
        | (at_builtin; refine app_own _ rfl _ _ rfl (w.heap.size + 1) (w.heap.size + 1) (.slice (some ⟨wr.heap.size, 0, none⟩) 1 1) _ [x] rs rfl rfl ?c1 ?c2 ?c3 ?c4 ?_))
      case c1 => exact Row.own (Row.new wr [x] .u64 100) hs.out.1.lt (by unfold maxLen; simp)
      case c2 => exact Own.below hs.out.2.1 ((Below.refl _ _).alloc (Nat.le_refl _) _)
      case c3 => simp; omega
      case c4 => have := hs.out.1.lt; simp; omega
      intro v' w1 ho1 hg1
      have hB1 : Below wr.heap.size wr w1 := ((Below.refl wr.heap.size wr).alloc (Nat.le_refl _) _).grown hg1 (by simp) (fun k hk => by simp [Value.ownBlock] at hk; omega)
      have Ho1 : Hid (Own (w.heap.size + 1) w1 v' (x :: rs)) := ho1
      have HB1 : Hid (Below wr.heap.size wr w1) := hB1
      clear ho1 hg1 hB1
      go_wp2_with fail
      refine (rtrim (w.heap.size + 1) (x :: rs) v' _ Ho1.out (by simp; omega)).mono ?_
      rintro e w2 ⟨v2, rfl, ho2, rfl⟩
      have hts : Norm (trimL (x :: rs)) ∧ val (trimL (x :: rs)) = x + 65536 * val rs := ⟨trimL_norm _ (Dgs.append (xs := [x]) (Dgs.one hxd) hs.out.2.2.2.2.2.1.1), by rw [trimL_val]; rfl⟩
      have htl := trimL_le (x :: rs)
      generalize trimL (x :: rs) = ts at ho2 hts htl
      have Ho2 : Hid (Own (w.heap.size + 1) w1 v2 ts) := ho2
      have Hts : Hid _ := hts
      have htl2 : ts.length ≤ 101 := by simp at htl; omega
      have hty : Hid (0 ≤ val ts ∧ val ts < 65536 * val ys) := by
        have h3 := hs.out.2.2.2.2.2.2.1
        have h4 := val_nonneg rs hs.out.2.2.2.2.2.1.1
        refine ⟨?_, ?_⟩ <;> rw [hts.2] <;> omega
      have hsz1 := HB1.out.size
      clear ho2 hts htl Ho1
      go_wp2_with fail
      obtain ⟨wo, rfl⟩ : ∃ wo : World, wo = w1 := ⟨_, rfl⟩
      obtain ⟨wq, rfl⟩ : ∃ wq : World, wq = wr := ⟨_, rfl⟩
      go_loopw [9, 10] (fun li mi wr => ∃ (l m : Int), li = .int .u64 l ∧ mi = .int .u64 m ∧ (0 ≤ l ∧ l < m ∧ m ≤ 65536) ∧ Hid (l * val ys ≤ val ts ∧ val ts < m * val ys) ∧ Hid (Below wo.heap.size wo wr))
        (fun li mi _ => (intOf mi - intOf li).toNat)
      case atStart => exact ⟨0, 65536, rfl, rfl, by omega, ⟨by have := hty.out; omega, hty.out.2⟩, Below.refl _ _⟩
      case round =>
        obtain ⟨l, mm, rfl, rfl, blm, hlm, hbel⟩ := hrel
        by_cases hgo : 1 < mm - l
        · have hmid : 0 ≤ (l + mm) / 2 ∧ (l + mm) / 2 < 18446744073709551616 := by omega
          have hmid2 : l < (l + mm) / 2 ∧ (l + mm) / 2 < mm := by omega
          go_wp2_with fail
          generalize hmd : (l + mm) / 2 = md at hmid hmid2
          clear hmd
          refine (rof md _ hmid).mono ?_
          rintro e w3 ⟨v3, d3, rfl, ho3, hn3, hb3, -⟩
          have Ho3 : Hid (Own wr.heap.size w3 v3 d3) := ho3
          have Hb3 : Hid (Below wr.heap.size wr w3) := hb3
          clear ho3 hb3
          go_wp2_with fail
          have hB3 : Below wo.heap.size wo w3 := hbel.out.trans (Hb3.out.mono hbel.out.size)
          have hY3 : Dig w3 v ys := Dig.below (Dig.below (Dig.below HV.out (hs.out.2.2.1)) HB1.out) hB3
          refine (rmul d3 ys v3 v _ hn3.out.1.1 HY.out.1 (by have := hn3.out.2.2; omega) (by omega) (Own.dig Ho3.out) hY3).mono ?_
          rintro e w4 ⟨v4, d4, rfl, ho4, hn4, hb4⟩
          have hB4 : Below wo.heap.size wo w4 := hB3.trans (hb4.mono hB3.size)
          have Ho4 : Hid (Own w3.heap.size w4 v4 d4) := ho4
          have HB4 : Hid (Below wo.heap.size wo w4) := hB4
          clear ho4 hb4 hB4 hB3 hY3
          go_wp2_with fail
          refine (rcompare d4 ts v4 v2 _ hn4.out.1 Hts.out.1 (by have := hn4.out.2.2; have := hn3.out.2.2; omega) (by omega) (Own.dig Ho4.out) (Dig.below (Own.dig Ho2.out) HB4.out)).mono ?_
          rintro e w5 ⟨c, rfl, bc, hc, k5, rfl⟩
          have hcv : (c ≤ 0 ↔ md * val ys ≤ val ts) := by
            have h1 := hc.out
            rw [hn4.out.2.1, hn3.out.2.1] at h1
            omega
          have Hcv : Hid _ := hcv
          clear hcv hc
          by_cases hc0 : c ≤ 0
          · go_wp2
            exact ⟨⟨md, mm, rfl, rfl, by omega, ⟨Hcv.out.1 hc0, hlm.out.2⟩, below_drewN HB4.out⟩, by simp [intOf]; omega⟩
          · go_wp2
            exact ⟨⟨l, md, rfl, rfl, by omega, ⟨hlm.out.1, by have := Hcv.out; omega⟩, below_drewN HB4.out⟩, by simp [intOf]; omega⟩
        · obtain rfl : mm = l + 1 := by omega
          have hB2 : Below wq.heap.size wq wr := HB1.out.trans (hbel.out.mono HB1.out.size)
          have hrow := hs.out.1.below hB2 hs.out.1.lt
          have hcq := hrow.cell m (by rw [hs.out.2.2.2.2.1]; omega)
          have hfq := hrow.frozen m
          generalize qs.getD m 0 = qo at hcq
          have Hrow : Hid (Row wr w.heap.size .u64 100 qs) := hrow
          have HB2 : Hid (Below wq.heap.size wq wr) := hB2
          have hwq : w.heap.size < wr.heap.size := Hrow.out.lt
          clear hrow hB2
          go_wp2_with fail
          obtain ⟨ws, hws⟩ : ∃ ws, ws = wr.setCell ⟨w.heap.size, m, none⟩ (.int .u64 l) := ⟨_, rfl⟩
          rw [← hws]
          have hrs : Row ws w.heap.size .u64 100 (qs.set m l) := by rw [hws]; exact Hrow.out.set m l
          have hos : Own (w.heap.size + 1) ws v2 ts := by rw [hws]; exact Own.set_below (Own.below Ho2.out hbel.out) (Nat.lt_succ_self _) _
          have hBs : Below w.heap.size w ws := by rw [hws]; exact (hs.out.2.2.1.trans (HB2.out.mono hs.out.2.2.1.size)).setCell (Nat.le_refl _) _
          have hYs : Dig ws v ys := Dig.below HV.out hBs
          have Hrs : Hid (Row ws w.heap.size .u64 100 (qs.set m l)) := hrs
          have Hos : Hid (Own (w.heap.size + 1) ws v2 ts) := hos
          have HBs : Hid (Below w.heap.size w ws) := hBs
          have HYs : Hid (Dig ws v ys) := hYs
          clear hrs hos hBs hYs hws hcq hfq Hrow HB2 hbel
          refine (rof l _ (by omega)).mono ?_
          rintro e w3 ⟨v3, d3, rfl, ho3, hn3, hb3, -⟩
          have Ho3 : Hid (Own ws.heap.size w3 v3 d3) := ho3
          have Hb3 : Hid (Below ws.heap.size ws w3) := hb3
          clear ho3 hb3
          go_wp2_with fail
          refine (rmul d3 ys v3 v _ hn3.out.1.1 HY.out.1 (by have := hn3.out.2.2; omega) (by omega) (Own.dig Ho3.out) (Dig.below HYs.out Hb3.out)).mono ?_
          rintro e w4 ⟨v4, d4, rfl, ho4, hn4, hb4⟩
          have Ho4 : Hid (Own w3.heap.size w4 v4 d4) := ho4
          have HB4 : Hid (Below ws.heap.size ws w4) := Hb3.out.trans (hb4.mono Hb3.out.size)
          clear ho4 hb4
          go_wp2_with fail
          refine (rsub ts d4 v2 v4 _ Hts.out.1 hn4.out.1 (by omega) (by rw [hn4.out.2.1, hn3.out.2.1]; exact hlm.out.1) (Dig.below (Own.dig Hos.out) HB4.out) (Own.dig Ho4.out)).mono ?_
          rintro e w5 ⟨v5, d5, rfl, ho5, hn5, hb5⟩
          have HB5 : Hid (Below ws.heap.size ws w5) := HB4.out.trans (hb5.mono HB4.out.size)
          have hsz4 := HB4.out.size
          have hrl5 := Hrs.out.lt
          have Ho5 : Hid (Own (w.heap.size + 1) w5 v5 d5) := Own.mono ho5 (by omega)
          clear ho5 hb5
          go_wp2
          have hrel5 : DivRel xs ys w m (qs.set m l) d5 v5 w5 := by
            obtain ⟨hn51, hn52, -⟩ := hn5.out
            rw [hn4.out.2.1, hn3.out.2.1, Hts.out.2] at hn52
            have hl2 := hlm.out.2
            rw [Hts.out.2] at hl2
            refine ⟨Hrs.out.below HB5.out hrl5, Ho5.out, HBs.out.trans (HB5.out.mono HBs.out.size), hs.out.2.2.2.1.set m l (by omega), by rw [List.length_set]; exact hs.out.2.2.2.2.1, hn51, ?_, ?_⟩
            · rw [hn52]
              rw [Int.add_mul] at hl2
              omega
            · have hq := hs.out.2.2.2.2.2.2.2
              have hql := hs.out.2.2.2.2.1
              rw [val_get xs m (by omega), Hxk.out, ← hq, val_get (qs.set m l) m (by simp; omega), hn52, List.drop_set_of_lt (Nat.lt_succ_self m)]
              have e1 : (qs.set m l).getD m 0 = l := by simp [List.getD_eq_getElem?_getD, List.getElem?_set, show m < qs.length by omega]
              rw [e1]
              exact div_step _ _ _ _ _
          exact ⟨⟨m, _, _, by omega, rfl, hrel5⟩, by simp [intOf]⟩
end Go.Proofs.Ytpdlbbglbbmjmaa.N1
