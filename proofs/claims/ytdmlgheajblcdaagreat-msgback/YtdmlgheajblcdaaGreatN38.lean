/- Layer 10: Decode, whole. -/
import Derived.Test.YtdmlgheajblcdaaGreatN33
import Derived.WalkKit
import Derived.ProofKit
import Derived.Handy
import Derived.WalkLawsBesides
import Derived.WalkSpells
import Derived.BigQuiet
import Derived.BigCall
import Derived.Deep.QuietTactic
import Derived.Deep.Light
import Derived.Deep.OwnRows
import Derived.Laws.AppendOwnNone
import Derived.Laws.Strings3
import Derived.Laws.RangeAny
import Derived.Deep.RegionWith
import Derived.Lib.BitFns
import Derived.Lib.Walk
import Derived.Lib.Strings
import Derived.Lib.OthersKept
import Derived.Deep.CutBlock
import Derived.Deep.DeepCutAuto
import Derived.Deep.LoopGhost
import Derived.Deep.RegionHeld3
import Derived.Lib.SmallJoins
import Derived.Maps.AppendAt
import Derived.Laws.IdiomStrings
import Derived.Lib.AppendZeros
import Derived.Deep.WholeRow
import Derived.Laws.BitsAllLaws
import Derived.Lib.ConvBytes
import Derived.Deep.RegionLaw
import Derived.Test.YtdmlgheajblcdaaGreatN27
namespace Go.Proofs.YtdmlgheajblcdaaGreat
open Go.RowKit
set_option linter.unusedVariables false
set_option linter.unusedSimpArgs false
set_option maxRecDepth 100000
/-- a message's lists, as the program owns them -/
structure Own (B : Nat) (W : World) (m : Mg) (pa ia ca ba : Option Addr) (pc ic cc bc : Nat) : Prop where
  ps : m.k = 4 → W.ownsRow B 128 2 (.slice pa m.ps.length pc) m.ps.length (lcells m.ps)
  ins : m.k = 11 → W.ownsRow B 32 2 (.slice ia m.ins.length ic) m.ins.length (lcells m.ins)
  cuts : m.k = 3 → W.ownsRow B 112 3 (.slice ca m.b.cuts.length cc) m.b.cuts.length (ccells m.b.cuts)
  bar : m.k = 3 → W.ownsRow B 3 1 (.slice ba m.b.bar.length bc) m.b.bar.length (icells m.b.bar)
def valM (m : Mg) (pa ia ca ba : Option Addr) (pc ic cc bc : Nat) : Value :=
  if m.k = 1 then .iface 76 (.agg #[.int .i64 m.mem, .string ⟨m.name.toArray⟩]) else if m.k = 2 then .iface 78 (.agg #[.string ⟨m.a.i.toArray⟩, .int .i64 m.a.iss, .int .i64 m.a.rat, .int .i64 m.a.mat, .string ⟨m.a.cur.toArray⟩]) else if m.k = 3 then .iface 80 (.agg #[.int .i64 m.b.id, .int .i64 m.b.ver, .string ⟨m.b.cur.toArray⟩, .int .i64 m.b.rat, .int .i64 m.b.least, .int .i64 m.b.most, .slice ca m.b.cuts.length cc, .int .i64 m.b.iss, .int .i64 m.b.ass, .slice ba m.b.bar.length bc]) else if m.k = 4 then .iface 82 (.agg #[.slice pa m.ps.length pc]) else if m.k = 5 then .iface 74 (.agg #[.int .i64 m.day]) else if m.k = 6 then .iface 84 (.agg #[.int .i64 m.mem, .string ⟨m.t.toArray⟩, .int .i64 m.n]) else if m.k = 7 then .iface 86 (.agg #[.int .i64 m.mem, .string ⟨m.t.toArray⟩, .int .i64 m.n]) else if m.k = 8 then .iface 63 (.agg #[.int .i64 m.q.id, .int .i64 m.q.mem, .int .i64 m.q.side, .int .i64 m.q.bas, .int .i64 m.q.am, .int .i64 m.q.rate, .int .i64 m.q.st, .int .i64 m.q.en]) else if m.k = 9 then .iface 88 (.agg #[.int .i64 m.mem, .int .i64 m.n]) else if m.k = 10 then .iface 90 (.agg #[.int .i64 m.mem, .int .i64 m.tr, .int .i64 m.day]) else if m.k = 11 then .iface 67 (.agg #[.int .i64 m.mem, .int .i64 m.tr, .string ⟨m.out.i.toArray⟩, .int .i64 m.out.q, .slice ia m.ins.length ic]) else if m.k = 12 then .iface 92 (.agg #[.int .i64 m.mem, .int .i64 m.day, .bool m.done]) else if m.k = 13 then .iface 94 (.agg #[.int .i64 m.mem]) else if m.k = 14 then .iface 96 (.agg #[.int .i64 m.mem, .int .i64 m.n]) else if m.k = 15 then .iface 98 (.agg #[.int .i64 m.tr, .int .i64 m.day, .int .i64 m.rate]) else .nilIface
theorem val1 {m : Mg} {pa ia ca ba : Option Addr} {pc ic cc bc : Nat} (hk : m.k = 1) : valM m pa ia ca ba pc ic cc bc = .iface 76 (.agg #[.int .i64 m.mem, .string ⟨m.name.toArray⟩]) := by unfold valM; simp only [hk]; rfl
theorem val2 {m : Mg} {pa ia ca ba : Option Addr} {pc ic cc bc : Nat} (hk : m.k = 2) : valM m pa ia ca ba pc ic cc bc = .iface 78 (.agg #[.string ⟨m.a.i.toArray⟩, .int .i64 m.a.iss, .int .i64 m.a.rat, .int .i64 m.a.mat, .string ⟨m.a.cur.toArray⟩]) := by unfold valM; simp only [hk]; rfl
theorem val3 {m : Mg} {pa ia ca ba : Option Addr} {pc ic cc bc : Nat} (hk : m.k = 3) : valM m pa ia ca ba pc ic cc bc = .iface 80 (.agg #[.int .i64 m.b.id, .int .i64 m.b.ver, .string ⟨m.b.cur.toArray⟩, .int .i64 m.b.rat, .int .i64 m.b.least, .int .i64 m.b.most, .slice ca m.b.cuts.length cc, .int .i64 m.b.iss, .int .i64 m.b.ass, .slice ba m.b.bar.length bc]) := by unfold valM; simp only [hk]; rfl
theorem val4 {m : Mg} {pa ia ca ba : Option Addr} {pc ic cc bc : Nat} (hk : m.k = 4) : valM m pa ia ca ba pc ic cc bc = .iface 82 (.agg #[.slice pa m.ps.length pc]) := by unfold valM; simp only [hk]; rfl
theorem val5 {m : Mg} {pa ia ca ba : Option Addr} {pc ic cc bc : Nat} (hk : m.k = 5) : valM m pa ia ca ba pc ic cc bc = .iface 74 (.agg #[.int .i64 m.day]) := by unfold valM; simp only [hk]; rfl
theorem val6 {m : Mg} {pa ia ca ba : Option Addr} {pc ic cc bc : Nat} (hk : m.k = 6) : valM m pa ia ca ba pc ic cc bc = .iface 84 (.agg #[.int .i64 m.mem, .string ⟨m.t.toArray⟩, .int .i64 m.n]) := by unfold valM; simp only [hk]; rfl
theorem val7 {m : Mg} {pa ia ca ba : Option Addr} {pc ic cc bc : Nat} (hk : m.k = 7) : valM m pa ia ca ba pc ic cc bc = .iface 86 (.agg #[.int .i64 m.mem, .string ⟨m.t.toArray⟩, .int .i64 m.n]) := by unfold valM; simp only [hk]; rfl
theorem val8 {m : Mg} {pa ia ca ba : Option Addr} {pc ic cc bc : Nat} (hk : m.k = 8) : valM m pa ia ca ba pc ic cc bc = .iface 63 (.agg #[.int .i64 m.q.id, .int .i64 m.q.mem, .int .i64 m.q.side, .int .i64 m.q.bas, .int .i64 m.q.am, .int .i64 m.q.rate, .int .i64 m.q.st, .int .i64 m.q.en]) := by unfold valM; simp only [hk]; rfl
theorem val9 {m : Mg} {pa ia ca ba : Option Addr} {pc ic cc bc : Nat} (hk : m.k = 9) : valM m pa ia ca ba pc ic cc bc = .iface 88 (.agg #[.int .i64 m.mem, .int .i64 m.n]) := by unfold valM; simp only [hk]; rfl
theorem val10 {m : Mg} {pa ia ca ba : Option Addr} {pc ic cc bc : Nat} (hk : m.k = 10) : valM m pa ia ca ba pc ic cc bc = .iface 90 (.agg #[.int .i64 m.mem, .int .i64 m.tr, .int .i64 m.day]) := by unfold valM; simp only [hk]; rfl
theorem val11 {m : Mg} {pa ia ca ba : Option Addr} {pc ic cc bc : Nat} (hk : m.k = 11) : valM m pa ia ca ba pc ic cc bc = .iface 67 (.agg #[.int .i64 m.mem, .int .i64 m.tr, .string ⟨m.out.i.toArray⟩, .int .i64 m.out.q, .slice ia m.ins.length ic]) := by unfold valM; simp only [hk]; rfl
theorem val12 {m : Mg} {pa ia ca ba : Option Addr} {pc ic cc bc : Nat} (hk : m.k = 12) : valM m pa ia ca ba pc ic cc bc = .iface 92 (.agg #[.int .i64 m.mem, .int .i64 m.day, .bool m.done]) := by unfold valM; simp only [hk]; rfl
theorem val13 {m : Mg} {pa ia ca ba : Option Addr} {pc ic cc bc : Nat} (hk : m.k = 13) : valM m pa ia ca ba pc ic cc bc = .iface 94 (.agg #[.int .i64 m.mem]) := by unfold valM; simp only [hk]; rfl
theorem val14 {m : Mg} {pa ia ca ba : Option Addr} {pc ic cc bc : Nat} (hk : m.k = 14) : valM m pa ia ca ba pc ic cc bc = .iface 96 (.agg #[.int .i64 m.mem, .int .i64 m.n]) := by unfold valM; simp only [hk]; rfl
theorem val15 {m : Mg} {pa ia ca ba : Option Addr} {pc ic cc bc : Nat} (hk : m.k = 15) : valM m pa ia ca ba pc ic cc bc = .iface 98 (.agg #[.int .i64 m.tr, .int .i64 m.day, .int .i64 m.rate]) := by unfold valM; simp only [hk]; rfl
def MV (m : Mg) (q : Nat) (W : World) (v : Value) : Prop := ∃ (pa ia ca ba : Option Addr) (pc ic cc bc B : Nat), q < B ∧ Own B W m pa ia ca ba pc ic cc bc ∧ v = valM m pa ia ca ba pc ic cc bc
theorem Own.bt {B q : Nat} {W W2 : World} {m : Mg} {pa ia ca ba : Option Addr} {pc ic cc bc : Nat} (h : Own B W m pa ia ca ba pc ic cc bc) (hq : q < B) (hb : Bt q W W2) : Own B W2 m pa ia ca ba pc ic cc bc := ⟨fun hk => own_bt (h.ps hk) hq hb, fun hk => own_bt (h.ins hk) hq hb, fun hk => own_bt (h.cuts hk) hq hb, fun hk => own_bt (h.bar hk) hq hb⟩
theorem MV.bt {m : Mg} {q : Nat} {W W2 : World} {v : Value} (h : MV m q W v) (hb : Bt q W W2) : MV m q W2 v := by
  obtain ⟨pa, ia, ca, ba, pc, ic, cc, bc, B, hq, hO, hv⟩ := h
  exact ⟨pa, ia, ca, ba, pc, ic, cc, bc, B, hq, hO.bt hq hb, hv⟩
theorem MV.dr {m : Mg} {q : Nat} {W : World} {v : Value} (h : MV m q W v) (n : Nat) : MV m q (W.drewN n) v := by
  obtain ⟨pa, ia, ca, ba, pc, ic, cc, bc, B, hq, hO, hv⟩ := h
  exact ⟨pa, ia, ca, ba, pc, ic, cc, bc, B, hq, ⟨hO.ps, hO.ins, hO.cuts, hO.bar⟩, hv⟩
/-- a reader of a text that isn't long -/
def Sm (r : Rd) : Prop := r.Ok ∧ r.s.length ≤ 1000000
theorem Sm.fw {α : Type} {f : Rd → Rd × α} {P : α → List UInt8 → Prop} (hf : Fw f P) {r : Rd} (h : Sm r) : Sm (f r).1 := ⟨(hf r h.1).1, by rw [(hf r h.1).2.1]; exact h.2⟩
theorem Sm.pre {α : Type} {f : Rd → Rd × α} {P : α → List UInt8 → Prop} (hf : Fw f P) : ∀ (n : Nat) {r : Rd}, Sm r → Sm (pre f n r).1
  | 0, _, h => h
  | n + 1, r, h => Sm.fw hf (Sm.pre hf n h)
theorem Sm.l {r : Rd} (h : Sm r) : r.s.length ≤ 281474976710656 := by have := h.2; omega
theorem Sm.l2 {r : Rd} (h : Sm r) : r.s.length ≤ 1099511627776 := by have := h.2; omega
def QK (k : Int) (r : Rd) (q : Nat) (W : World) (v : Value) : Prop := (∃ T u, v = .iface T u) ∧ ((rdK k r).1.e = 0 → MV (rdK k r).2 q W v)
theorem QK.stb (k : Int) (r : Rd) : Stb (QK k r) := ⟨fun _ _ _ _ h hb => ⟨h.1, fun e => (h.2 e).bt hb⟩, fun _ _ n _ h => ⟨h.1, fun e => (h.2 e).dr n⟩⟩
set_option maxHeartbeats 1000000 in
theorem xmsg1 {q : Nat} {r : Rd} (w : World) (hR : Rm w q r) (hs : Sm r) : Calls Tryz.prog 56 #[.agg #[.pointer (some ⟨q, 0, none⟩)], .int .i64 1] w (MsP q (rdK 1 r).1 (QK 1 r q) w) := by
  obtain ⟨r1, x1, h1⟩ : ∃ a b, rInt r = (a, b) := ⟨_, _, rfl⟩
  have s1 : Sm r1 := by have := Sm.fw fInt hs; rw [h1] at this; exact this
  obtain ⟨r2, x2, h2⟩ : ∃ a b, rText r1 160 = (a, b) := ⟨_, _, rfl⟩
  have s2 : Sm r2 := by have := Sm.fw (fText 160) s1; rw [h2] at this; exact this
  have e : rdK 1 r = (r2, { Mg.z with k := 1, mem := x1, name := x2 }) := by simp [rdK, rBk, rQu, rLot, thn, h1, h2]
  unfold QK
  rw [e]
  refine (msg1 h1 h2 w hR s1.l).mono ?_
  rintro E w' ⟨v, he, hQ, hR', hB⟩
  exact ⟨v, he, ⟨⟨_, _, hQ.out⟩, fun _ => ⟨none, none, none, none, 0, 0, 0, 0, q + 1, Nat.lt_succ_self q, ⟨fun h => absurd (show (1 : Int) = 4 from h) (by decide), fun h => absurd (show (1 : Int) = 11 from h) (by decide), fun h => absurd (show (1 : Int) = 3 from h) (by decide), fun h => absurd (show (1 : Int) = 3 from h) (by decide)⟩, hQ.out.trans (val1 (m := { Mg.z with k := 1, mem := x1, name := x2 }) rfl).symm⟩⟩, hR', hB⟩
set_option maxHeartbeats 1000000 in
theorem xmsg2 {q : Nat} {r : Rd} (w : World) (hR : Rm w q r) (hs : Sm r) : Calls Tryz.prog 56 #[.agg #[.pointer (some ⟨q, 0, none⟩)], .int .i64 2] w (MsP q (rdK 2 r).1 (QK 2 r q) w) := by
  obtain ⟨r1, x1, h1⟩ : ∃ a b, rText r 12 = (a, b) := ⟨_, _, rfl⟩
  have s1 : Sm r1 := by have := Sm.fw (fText 12) hs; rw [h1] at this; exact this
  obtain ⟨r2, x2, h2⟩ : ∃ a b, rInt r1 = (a, b) := ⟨_, _, rfl⟩
  have s2 : Sm r2 := by have := Sm.fw fInt s1; rw [h2] at this; exact this
  obtain ⟨r3, x3, h3⟩ : ∃ a b, rInt r2 = (a, b) := ⟨_, _, rfl⟩
  have s3 : Sm r3 := by have := Sm.fw fInt s2; rw [h3] at this; exact this
  obtain ⟨r4, x4, h4⟩ : ∃ a b, rInt r3 = (a, b) := ⟨_, _, rfl⟩
  have s4 : Sm r4 := by have := Sm.fw fInt s3; rw [h4] at this; exact this
  obtain ⟨r5, x5, h5⟩ : ∃ a b, rText r4 12 = (a, b) := ⟨_, _, rfl⟩
  have s5 : Sm r5 := by have := Sm.fw (fText 12) s4; rw [h5] at this; exact this
  have e : rdK 2 r = (r5, { Mg.z with k := 2, a := ⟨x1, x2, x3, x4, x5⟩ }) := by simp [rdK, rBk, rQu, rLot, thn, h1, h2, h3, h4, h5]
  unfold QK
  rw [e]
  refine (msg2 h1 h2 h3 h4 h5 w hR hs.l s4.l).mono ?_
  rintro E w' ⟨v, he, hQ, hR', hB⟩
  exact ⟨v, he, ⟨⟨_, _, hQ.out⟩, fun _ => ⟨none, none, none, none, 0, 0, 0, 0, q + 1, Nat.lt_succ_self q, ⟨fun h => absurd (show (2 : Int) = 4 from h) (by decide), fun h => absurd (show (2 : Int) = 11 from h) (by decide), fun h => absurd (show (2 : Int) = 3 from h) (by decide), fun h => absurd (show (2 : Int) = 3 from h) (by decide)⟩, hQ.out.trans (val2 (m := { Mg.z with k := 2, a := ⟨x1, x2, x3, x4, x5⟩ }) rfl).symm⟩⟩, hR', hB⟩
set_option maxHeartbeats 1000000 in
theorem xmsg3 {q : Nat} {r : Rd} (w : World) (hR : Rm w q r) (hs : Sm r) : Calls Tryz.prog 56 #[.agg #[.pointer (some ⟨q, 0, none⟩)], .int .i64 3] w (MsP q (rdK 3 r).1 (QK 3 r q) w) := by
  obtain ⟨r1, x1, h1⟩ : ∃ a b, rInt r = (a, b) := ⟨_, _, rfl⟩
  have s1 : Sm r1 := by have := Sm.fw fInt hs; rw [h1] at this; exact this
  obtain ⟨r2, x2, h2⟩ : ∃ a b, rInt r1 = (a, b) := ⟨_, _, rfl⟩
  have s2 : Sm r2 := by have := Sm.fw fInt s1; rw [h2] at this; exact this
  obtain ⟨r3, x3, h3⟩ : ∃ a b, rInt r2 = (a, b) := ⟨_, _, rfl⟩
  have s3 : Sm r3 := by have := Sm.fw fInt s2; rw [h3] at this; exact this
  obtain ⟨r4, x4, h4⟩ : ∃ a b, rInt r3 = (a, b) := ⟨_, _, rfl⟩
  have s4 : Sm r4 := by have := Sm.fw fInt s3; rw [h4] at this; exact this
  obtain ⟨r5, x5, h5⟩ : ∃ a b, rInt r4 = (a, b) := ⟨_, _, rfl⟩
  have s5 : Sm r5 := by have := Sm.fw fInt s4; rw [h5] at this; exact this
  obtain ⟨r6, x6, h6⟩ : ∃ a b, rInt r5 = (a, b) := ⟨_, _, rfl⟩
  have s6 : Sm r6 := by have := Sm.fw fInt s5; rw [h6] at this; exact this
  obtain ⟨r7, x7, h7⟩ : ∃ a b, rInt r6 = (a, b) := ⟨_, _, rfl⟩
  have s7 : Sm r7 := by have := Sm.fw fInt s6; rw [h7] at this; exact this
  obtain ⟨r8, x8, h8⟩ : ∃ a b, rText r7 12 = (a, b) := ⟨_, _, rfl⟩
  have s8 : Sm r8 := by have := Sm.fw (fText 12) s7; rw [h8] at this; exact this
  obtain ⟨r9, x9, h9⟩ : ∃ a b, rCount r8 64 = (a, b) := ⟨_, _, rfl⟩
  have s9 : Sm r9 := by have := Sm.fw (fCount 64) s8; rw [h9] at this; exact this
  have hp := pre_rep rCut (fun _ h => rCut_bad h) x9 r9
  rw [← rCuts_rep] at hp
  have s9p : Sm (pre rCut x9 r9).1 := Sm.pre fCut _ s9
  obtain ⟨r10, y9, h10⟩ : ∃ a b, rInts (rCuts x9 r9).1 64 = (a, b) := ⟨_, _, rfl⟩
  have h11 : rInts (pre rCut x9 r9).1 64 = (r10, y9) := by rw [hp.1]; exact h10
  have e : rdK 3 r = (r10, { Mg.z with k := 3, b := ⟨x1, x2, x8, x3, x4, x5, (rCuts x9 r9).2, x6, x7, y9⟩ }) := by simp [rdK, rBk, thn, h1, h2, h3, h4, h5, h6, h7, h8, h9, h10]
  unfold QK
  rw [e]
  have hl : q < w.heap.size := hR.lt
  refine (msg3 h1 h2 h3 h4 h5 h6 h7 h8 h9 h11 w hR s7.l s8.l s9p.l2).mono ?_
  rintro E w' ⟨v, he, hQ, hR', hB⟩
  obtain ⟨ca, cc, ba, bc, hv, ho, ho2⟩ := hQ.out
  refine ⟨v, he, ⟨⟨_, _, hv⟩, fun h0 => ?_⟩, hR', hB⟩
  have hbad : (rCuts x9 r9).1.e = 0 := by
    rcases Nat.eq_zero_or_pos (rCuts x9 r9).1.e with h | h
    · exact h
    · have hne : (rCuts x9 r9).1.e ≠ 0 := by omega
      rw [rInts_bad hne] at h10
      injection h10 with h10 _
      rw [h10]; exact h0
  have e2 : (pre rCut x9 r9).2 = (rCuts x9 r9).2 := hp.2 hbad
  rw [e2] at ho hv
  exact ⟨none, none, ca, ba, 0, 0, cc, bc, w.heap.size, hl, ⟨fun h => absurd (show (3 : Int) = 4 from h) (by decide), fun h => absurd (show (3 : Int) = 11 from h) (by decide), fun _ => ho, fun _ => ho2⟩, hv.trans (val3 (m := { Mg.z with k := 3, b := ⟨x1, x2, x8, x3, x4, x5, (rCuts x9 r9).2, x6, x7, y9⟩ }) rfl).symm⟩
set_option maxHeartbeats 1000000 in
theorem xmsg4 {q : Nat} {r : Rd} (w : World) (hR : Rm w q r) (hs : Sm r) : Calls Tryz.prog 56 #[.agg #[.pointer (some ⟨q, 0, none⟩)], .int .i64 4] w (MsP q (rdK 4 r).1 (QK 4 r q) w) := by
  obtain ⟨r1, x1, h1⟩ : ∃ a b, rCount r 64 = (a, b) := ⟨_, _, rfl⟩
  have s1 : Sm r1 := by have := Sm.fw (fCount 64) hs; rw [h1] at this; exact this
  have hp := pre_rep rLot (fun _ h => rLot_bad h) x1 r1
  rw [← rLots_rep] at hp
  have e : rdK 4 r = ((rLots x1 r1).1, { Mg.z with k := 4, ps := (rLots x1 r1).2 }) := by simp [rdK, rBk, rQu, rLot, thn, h1]
  unfold QK
  rw [e]
  have hl : q < w.heap.size := hR.lt
  refine (msg4 h1 w hR hs.l).mono ?_
  rintro E w' ⟨v, he, hQ, hR', hB⟩
  obtain ⟨la, lc, hv, ho⟩ := hQ.out
  refine ⟨v, he, ⟨⟨_, _, hv⟩, fun h0 => ?_⟩, by rw [← hp.1]; exact hR', hB⟩
  have e2 : (pre rLot x1 r1).2 = (rLots x1 r1).2 := hp.2 h0
  have hn : x1 = (rLots x1 r1).2.length := by rw [← e2, pre_len]
  have ho2 : w'.ownsRow w.heap.size 128 2 (.slice la (rLots x1 r1).2.length lc) (rLots x1 r1).2.length (lcells (rLots x1 r1).2) := by rw [← hn, ← e2]; exact ho
  have hv2 : v = .iface 82 (.agg #[.slice la (rLots x1 r1).2.length lc]) := by rw [← hn]; exact hv
  exact ⟨la, none, none, none, lc, 0, 0, 0, w.heap.size, hl, ⟨fun _ => ho2, fun h => absurd (show (4 : Int) = 11 from h) (by decide), fun h => absurd (show (4 : Int) = 3 from h) (by decide), fun h => absurd (show (4 : Int) = 3 from h) (by decide)⟩, hv2.trans (val4 (m := { Mg.z with k := 4, ps := (rLots x1 r1).2 }) rfl).symm⟩
set_option maxHeartbeats 1000000 in
theorem xmsg5 {q : Nat} {r : Rd} (w : World) (hR : Rm w q r) (hs : Sm r) : Calls Tryz.prog 56 #[.agg #[.pointer (some ⟨q, 0, none⟩)], .int .i64 5] w (MsP q (rdK 5 r).1 (QK 5 r q) w) := by
  obtain ⟨r1, x1, h1⟩ : ∃ a b, rInt r = (a, b) := ⟨_, _, rfl⟩
  have s1 : Sm r1 := by have := Sm.fw fInt hs; rw [h1] at this; exact this
  have e : rdK 5 r = (r1, { Mg.z with k := 5, day := x1 }) := by simp [rdK, rBk, rQu, rLot, thn, h1]
  unfold QK
  rw [e]
  refine (msg5 h1 w hR ).mono ?_
  rintro E w' ⟨v, he, hQ, hR', hB⟩
  exact ⟨v, he, ⟨⟨_, _, hQ.out⟩, fun _ => ⟨none, none, none, none, 0, 0, 0, 0, q + 1, Nat.lt_succ_self q, ⟨fun h => absurd (show (5 : Int) = 4 from h) (by decide), fun h => absurd (show (5 : Int) = 11 from h) (by decide), fun h => absurd (show (5 : Int) = 3 from h) (by decide), fun h => absurd (show (5 : Int) = 3 from h) (by decide)⟩, hQ.out.trans (val5 (m := { Mg.z with k := 5, day := x1 }) rfl).symm⟩⟩, hR', hB⟩
set_option maxHeartbeats 1000000 in
theorem xmsg6 {q : Nat} {r : Rd} (w : World) (hR : Rm w q r) (hs : Sm r) : Calls Tryz.prog 56 #[.agg #[.pointer (some ⟨q, 0, none⟩)], .int .i64 6] w (MsP q (rdK 6 r).1 (QK 6 r q) w) := by
  obtain ⟨r1, x1, h1⟩ : ∃ a b, rInt r = (a, b) := ⟨_, _, rfl⟩
  have s1 : Sm r1 := by have := Sm.fw fInt hs; rw [h1] at this; exact this
  obtain ⟨r2, x2, h2⟩ : ∃ a b, rInt r1 = (a, b) := ⟨_, _, rfl⟩
  have s2 : Sm r2 := by have := Sm.fw fInt s1; rw [h2] at this; exact this
  obtain ⟨r3, x3, h3⟩ : ∃ a b, rText r2 12 = (a, b) := ⟨_, _, rfl⟩
  have s3 : Sm r3 := by have := Sm.fw (fText 12) s2; rw [h3] at this; exact this
  have e : rdK 6 r = (r3, { Mg.z with k := 6, mem := x1, t := x3, n := x2 }) := by simp [rdK, rBk, rQu, rLot, thn, h1, h2, h3]
  unfold QK
  rw [e]
  refine (msg6 h1 h2 h3 w hR s2.l).mono ?_
  rintro E w' ⟨v, he, hQ, hR', hB⟩
  exact ⟨v, he, ⟨⟨_, _, hQ.out⟩, fun _ => ⟨none, none, none, none, 0, 0, 0, 0, q + 1, Nat.lt_succ_self q, ⟨fun h => absurd (show (6 : Int) = 4 from h) (by decide), fun h => absurd (show (6 : Int) = 11 from h) (by decide), fun h => absurd (show (6 : Int) = 3 from h) (by decide), fun h => absurd (show (6 : Int) = 3 from h) (by decide)⟩, hQ.out.trans (val6 (m := { Mg.z with k := 6, mem := x1, t := x3, n := x2 }) rfl).symm⟩⟩, hR', hB⟩
set_option maxHeartbeats 1000000 in
theorem xmsg7 {q : Nat} {r : Rd} (w : World) (hR : Rm w q r) (hs : Sm r) : Calls Tryz.prog 56 #[.agg #[.pointer (some ⟨q, 0, none⟩)], .int .i64 7] w (MsP q (rdK 7 r).1 (QK 7 r q) w) := by
  obtain ⟨r1, x1, h1⟩ : ∃ a b, rInt r = (a, b) := ⟨_, _, rfl⟩
  have s1 : Sm r1 := by have := Sm.fw fInt hs; rw [h1] at this; exact this
  obtain ⟨r2, x2, h2⟩ : ∃ a b, rInt r1 = (a, b) := ⟨_, _, rfl⟩
  have s2 : Sm r2 := by have := Sm.fw fInt s1; rw [h2] at this; exact this
  obtain ⟨r3, x3, h3⟩ : ∃ a b, rText r2 12 = (a, b) := ⟨_, _, rfl⟩
  have s3 : Sm r3 := by have := Sm.fw (fText 12) s2; rw [h3] at this; exact this
  have e : rdK 7 r = (r3, { Mg.z with k := 7, mem := x1, t := x3, n := x2 }) := by simp [rdK, rBk, rQu, rLot, thn, h1, h2, h3]
  unfold QK
  rw [e]
  refine (msg7 h1 h2 h3 w hR s2.l).mono ?_
  rintro E w' ⟨v, he, hQ, hR', hB⟩
  exact ⟨v, he, ⟨⟨_, _, hQ.out⟩, fun _ => ⟨none, none, none, none, 0, 0, 0, 0, q + 1, Nat.lt_succ_self q, ⟨fun h => absurd (show (7 : Int) = 4 from h) (by decide), fun h => absurd (show (7 : Int) = 11 from h) (by decide), fun h => absurd (show (7 : Int) = 3 from h) (by decide), fun h => absurd (show (7 : Int) = 3 from h) (by decide)⟩, hQ.out.trans (val7 (m := { Mg.z with k := 7, mem := x1, t := x3, n := x2 }) rfl).symm⟩⟩, hR', hB⟩
set_option maxHeartbeats 1000000 in
theorem xmsg8 {q : Nat} {r : Rd} (w : World) (hR : Rm w q r) (hs : Sm r) : Calls Tryz.prog 56 #[.agg #[.pointer (some ⟨q, 0, none⟩)], .int .i64 8] w (MsP q (rdK 8 r).1 (QK 8 r q) w) := by
  obtain ⟨r1, x1, h1⟩ : ∃ a b, rInt r = (a, b) := ⟨_, _, rfl⟩
  have s1 : Sm r1 := by have := Sm.fw fInt hs; rw [h1] at this; exact this
  obtain ⟨r2, x2, h2⟩ : ∃ a b, rInt r1 = (a, b) := ⟨_, _, rfl⟩
  have s2 : Sm r2 := by have := Sm.fw fInt s1; rw [h2] at this; exact this
  obtain ⟨r3, x3, h3⟩ : ∃ a b, rInt r2 = (a, b) := ⟨_, _, rfl⟩
  have s3 : Sm r3 := by have := Sm.fw fInt s2; rw [h3] at this; exact this
  obtain ⟨r4, x4, h4⟩ : ∃ a b, rInt r3 = (a, b) := ⟨_, _, rfl⟩
  have s4 : Sm r4 := by have := Sm.fw fInt s3; rw [h4] at this; exact this
  obtain ⟨r5, x5, h5⟩ : ∃ a b, rInt r4 = (a, b) := ⟨_, _, rfl⟩
  have s5 : Sm r5 := by have := Sm.fw fInt s4; rw [h5] at this; exact this
  obtain ⟨r6, x6, h6⟩ : ∃ a b, rInt r5 = (a, b) := ⟨_, _, rfl⟩
  have s6 : Sm r6 := by have := Sm.fw fInt s5; rw [h6] at this; exact this
  obtain ⟨r7, x7, h7⟩ : ∃ a b, rInt r6 = (a, b) := ⟨_, _, rfl⟩
  have s7 : Sm r7 := by have := Sm.fw fInt s6; rw [h7] at this; exact this
  obtain ⟨r8, x8, h8⟩ : ∃ a b, rInt r7 = (a, b) := ⟨_, _, rfl⟩
  have s8 : Sm r8 := by have := Sm.fw fInt s7; rw [h8] at this; exact this
  have e : rdK 8 r = (r8, { Mg.z with k := 8, q := ⟨x1, x2, x3, x4, x5, x6, x7, x8⟩ }) := by simp [rdK, rBk, rQu, rLot, thn, h1, h2, h3, h4, h5, h6, h7, h8]
  unfold QK
  rw [e]
  refine (msg8 h1 h2 h3 h4 h5 h6 h7 h8 w hR ).mono ?_
  rintro E w' ⟨v, he, hQ, hR', hB⟩
  exact ⟨v, he, ⟨⟨_, _, hQ.out⟩, fun _ => ⟨none, none, none, none, 0, 0, 0, 0, q + 1, Nat.lt_succ_self q, ⟨fun h => absurd (show (8 : Int) = 4 from h) (by decide), fun h => absurd (show (8 : Int) = 11 from h) (by decide), fun h => absurd (show (8 : Int) = 3 from h) (by decide), fun h => absurd (show (8 : Int) = 3 from h) (by decide)⟩, hQ.out.trans (val8 (m := { Mg.z with k := 8, q := ⟨x1, x2, x3, x4, x5, x6, x7, x8⟩ }) rfl).symm⟩⟩, hR', hB⟩
set_option maxHeartbeats 1000000 in
theorem xmsg9 {q : Nat} {r : Rd} (w : World) (hR : Rm w q r) (hs : Sm r) : Calls Tryz.prog 56 #[.agg #[.pointer (some ⟨q, 0, none⟩)], .int .i64 9] w (MsP q (rdK 9 r).1 (QK 9 r q) w) := by
  obtain ⟨r1, x1, h1⟩ : ∃ a b, rInt r = (a, b) := ⟨_, _, rfl⟩
  have s1 : Sm r1 := by have := Sm.fw fInt hs; rw [h1] at this; exact this
  obtain ⟨r2, x2, h2⟩ : ∃ a b, rInt r1 = (a, b) := ⟨_, _, rfl⟩
  have s2 : Sm r2 := by have := Sm.fw fInt s1; rw [h2] at this; exact this
  have e : rdK 9 r = (r2, { Mg.z with k := 9, mem := x1, n := x2 }) := by simp [rdK, rBk, rQu, rLot, thn, h1, h2]
  unfold QK
  rw [e]
  refine (msg9 h1 h2 w hR ).mono ?_
  rintro E w' ⟨v, he, hQ, hR', hB⟩
  exact ⟨v, he, ⟨⟨_, _, hQ.out⟩, fun _ => ⟨none, none, none, none, 0, 0, 0, 0, q + 1, Nat.lt_succ_self q, ⟨fun h => absurd (show (9 : Int) = 4 from h) (by decide), fun h => absurd (show (9 : Int) = 11 from h) (by decide), fun h => absurd (show (9 : Int) = 3 from h) (by decide), fun h => absurd (show (9 : Int) = 3 from h) (by decide)⟩, hQ.out.trans (val9 (m := { Mg.z with k := 9, mem := x1, n := x2 }) rfl).symm⟩⟩, hR', hB⟩
set_option maxHeartbeats 1000000 in
theorem xmsg10 {q : Nat} {r : Rd} (w : World) (hR : Rm w q r) (hs : Sm r) : Calls Tryz.prog 56 #[.agg #[.pointer (some ⟨q, 0, none⟩)], .int .i64 10] w (MsP q (rdK 10 r).1 (QK 10 r q) w) := by
  obtain ⟨r1, x1, h1⟩ : ∃ a b, rInt r = (a, b) := ⟨_, _, rfl⟩
  have s1 : Sm r1 := by have := Sm.fw fInt hs; rw [h1] at this; exact this
  obtain ⟨r2, x2, h2⟩ : ∃ a b, rInt r1 = (a, b) := ⟨_, _, rfl⟩
  have s2 : Sm r2 := by have := Sm.fw fInt s1; rw [h2] at this; exact this
  obtain ⟨r3, x3, h3⟩ : ∃ a b, rInt r2 = (a, b) := ⟨_, _, rfl⟩
  have s3 : Sm r3 := by have := Sm.fw fInt s2; rw [h3] at this; exact this
  have e : rdK 10 r = (r3, { Mg.z with k := 10, mem := x1, tr := x2, day := x3 }) := by simp [rdK, rBk, rQu, rLot, thn, h1, h2, h3]
  unfold QK
  rw [e]
  refine (msg10 h1 h2 h3 w hR ).mono ?_
  rintro E w' ⟨v, he, hQ, hR', hB⟩
  exact ⟨v, he, ⟨⟨_, _, hQ.out⟩, fun _ => ⟨none, none, none, none, 0, 0, 0, 0, q + 1, Nat.lt_succ_self q, ⟨fun h => absurd (show (10 : Int) = 4 from h) (by decide), fun h => absurd (show (10 : Int) = 11 from h) (by decide), fun h => absurd (show (10 : Int) = 3 from h) (by decide), fun h => absurd (show (10 : Int) = 3 from h) (by decide)⟩, hQ.out.trans (val10 (m := { Mg.z with k := 10, mem := x1, tr := x2, day := x3 }) rfl).symm⟩⟩, hR', hB⟩
set_option maxHeartbeats 1000000 in
theorem xmsg11 {q : Nat} {r : Rd} (w : World) (hR : Rm w q r) (hs : Sm r) : Calls Tryz.prog 56 #[.agg #[.pointer (some ⟨q, 0, none⟩)], .int .i64 11] w (MsP q (rdK 11 r).1 (QK 11 r q) w) := by
  obtain ⟨r1, x1, h1⟩ : ∃ a b, rInt r = (a, b) := ⟨_, _, rfl⟩
  have s1 : Sm r1 := by have := Sm.fw fInt hs; rw [h1] at this; exact this
  obtain ⟨r2, x2, h2⟩ : ∃ a b, rInt r1 = (a, b) := ⟨_, _, rfl⟩
  have s2 : Sm r2 := by have := Sm.fw fInt s1; rw [h2] at this; exact this
  obtain ⟨r3, x3, h3⟩ : ∃ a b, rText r2 12 = (a, b) := ⟨_, _, rfl⟩
  have s3 : Sm r3 := by have := Sm.fw (fText 12) s2; rw [h3] at this; exact this
  obtain ⟨r4, x4, h4⟩ : ∃ a b, rInt r3 = (a, b) := ⟨_, _, rfl⟩
  have s4 : Sm r4 := by have := Sm.fw fInt s3; rw [h4] at this; exact this
  obtain ⟨r5, x5, h5⟩ : ∃ a b, rCount r4 64 = (a, b) := ⟨_, _, rfl⟩
  have s5 : Sm r5 := by have := Sm.fw (fCount 64) s4; rw [h5] at this; exact this
  have hp := pre_rep rLot (fun _ h => rLot_bad h) x5 r5
  rw [← rLots_rep] at hp
  have e : rdK 11 r = ((rLots x5 r5).1, { Mg.z with k := 11, mem := x1, tr := x2, out := ⟨x3, x4⟩, ins := (rLots x5 r5).2 }) := by simp [rdK, rBk, rQu, rLot, thn, h1, h2, h3, h4, h5]
  unfold QK
  rw [e]
  have hl : q < w.heap.size := hR.lt
  refine (msg11 h1 h2 h3 h4 h5 w hR s2.l s4.l).mono ?_
  rintro E w' ⟨v, he, hQ, hR', hB⟩
  obtain ⟨la, lc, hv, ho⟩ := hQ.out
  refine ⟨v, he, ⟨⟨_, _, hv⟩, fun h0 => ?_⟩, by rw [← hp.1]; exact hR', hB⟩
  have e2 : (pre rLot x5 r5).2 = (rLots x5 r5).2 := hp.2 h0
  have hn : x5 = (rLots x5 r5).2.length := by rw [← e2, pre_len]
  have ho2 : w'.ownsRow w.heap.size 32 2 (.slice la (rLots x5 r5).2.length lc) (rLots x5 r5).2.length (lcells (rLots x5 r5).2) := by rw [← hn, ← e2]; exact ho
  have hv2 : v = .iface 67 (.agg #[.int .i64 x1, .int .i64 x2, .string ⟨x3.toArray⟩, .int .i64 x4, .slice la (rLots x5 r5).2.length lc]) := by rw [← hn]; exact hv
  exact ⟨none, la, none, none, 0, lc, 0, 0, w.heap.size, hl, ⟨fun h => absurd (show (11 : Int) = 4 from h) (by decide), fun _ => ho2, fun h => absurd (show (11 : Int) = 3 from h) (by decide), fun h => absurd (show (11 : Int) = 3 from h) (by decide)⟩, hv2.trans (val11 (m := { Mg.z with k := 11, mem := x1, tr := x2, out := ⟨x3, x4⟩, ins := (rLots x5 r5).2 }) rfl).symm⟩
set_option maxHeartbeats 1000000 in
theorem xmsg12 {q : Nat} {r : Rd} (w : World) (hR : Rm w q r) (hs : Sm r) : Calls Tryz.prog 56 #[.agg #[.pointer (some ⟨q, 0, none⟩)], .int .i64 12] w (MsP q (rdK 12 r).1 (QK 12 r q) w) := by
  obtain ⟨r1, x1, h1⟩ : ∃ a b, rInt r = (a, b) := ⟨_, _, rfl⟩
  have s1 : Sm r1 := by have := Sm.fw fInt hs; rw [h1] at this; exact this
  obtain ⟨r2, x2, h2⟩ : ∃ a b, rInt r1 = (a, b) := ⟨_, _, rfl⟩
  have s2 : Sm r2 := by have := Sm.fw fInt s1; rw [h2] at this; exact this
  obtain ⟨r3, x3, h3⟩ : ∃ a b, rBool r2 = (a, b) := ⟨_, _, rfl⟩
  have s3 : Sm r3 := by have := Sm.fw fBool s2; rw [h3] at this; exact this
  have e : rdK 12 r = (r3, { Mg.z with k := 12, mem := x1, day := x2, done := x3 }) := by simp [rdK, rBk, rQu, rLot, thn, h1, h2, h3]
  unfold QK
  rw [e]
  refine (msg12 h1 h2 h3 w hR ).mono ?_
  rintro E w' ⟨v, he, hQ, hR', hB⟩
  exact ⟨v, he, ⟨⟨_, _, hQ.out⟩, fun _ => ⟨none, none, none, none, 0, 0, 0, 0, q + 1, Nat.lt_succ_self q, ⟨fun h => absurd (show (12 : Int) = 4 from h) (by decide), fun h => absurd (show (12 : Int) = 11 from h) (by decide), fun h => absurd (show (12 : Int) = 3 from h) (by decide), fun h => absurd (show (12 : Int) = 3 from h) (by decide)⟩, hQ.out.trans (val12 (m := { Mg.z with k := 12, mem := x1, day := x2, done := x3 }) rfl).symm⟩⟩, hR', hB⟩
set_option maxHeartbeats 1000000 in
theorem xmsg13 {q : Nat} {r : Rd} (w : World) (hR : Rm w q r) (hs : Sm r) : Calls Tryz.prog 56 #[.agg #[.pointer (some ⟨q, 0, none⟩)], .int .i64 13] w (MsP q (rdK 13 r).1 (QK 13 r q) w) := by
  obtain ⟨r1, x1, h1⟩ : ∃ a b, rInt r = (a, b) := ⟨_, _, rfl⟩
  have s1 : Sm r1 := by have := Sm.fw fInt hs; rw [h1] at this; exact this
  have e : rdK 13 r = (r1, { Mg.z with k := 13, mem := x1 }) := by simp [rdK, rBk, rQu, rLot, thn, h1]
  unfold QK
  rw [e]
  refine (msg13 h1 w hR ).mono ?_
  rintro E w' ⟨v, he, hQ, hR', hB⟩
  exact ⟨v, he, ⟨⟨_, _, hQ.out⟩, fun _ => ⟨none, none, none, none, 0, 0, 0, 0, q + 1, Nat.lt_succ_self q, ⟨fun h => absurd (show (13 : Int) = 4 from h) (by decide), fun h => absurd (show (13 : Int) = 11 from h) (by decide), fun h => absurd (show (13 : Int) = 3 from h) (by decide), fun h => absurd (show (13 : Int) = 3 from h) (by decide)⟩, hQ.out.trans (val13 (m := { Mg.z with k := 13, mem := x1 }) rfl).symm⟩⟩, hR', hB⟩
set_option maxHeartbeats 1000000 in
theorem xmsg14 {q : Nat} {r : Rd} (w : World) (hR : Rm w q r) (hs : Sm r) : Calls Tryz.prog 56 #[.agg #[.pointer (some ⟨q, 0, none⟩)], .int .i64 14] w (MsP q (rdK 14 r).1 (QK 14 r q) w) := by
  obtain ⟨r1, x1, h1⟩ : ∃ a b, rInt r = (a, b) := ⟨_, _, rfl⟩
  have s1 : Sm r1 := by have := Sm.fw fInt hs; rw [h1] at this; exact this
  obtain ⟨r2, x2, h2⟩ : ∃ a b, rInt r1 = (a, b) := ⟨_, _, rfl⟩
  have s2 : Sm r2 := by have := Sm.fw fInt s1; rw [h2] at this; exact this
  have e : rdK 14 r = (r2, { Mg.z with k := 14, mem := x1, n := x2 }) := by simp [rdK, rBk, rQu, rLot, thn, h1, h2]
  unfold QK
  rw [e]
  refine (msg14 h1 h2 w hR ).mono ?_
  rintro E w' ⟨v, he, hQ, hR', hB⟩
  exact ⟨v, he, ⟨⟨_, _, hQ.out⟩, fun _ => ⟨none, none, none, none, 0, 0, 0, 0, q + 1, Nat.lt_succ_self q, ⟨fun h => absurd (show (14 : Int) = 4 from h) (by decide), fun h => absurd (show (14 : Int) = 11 from h) (by decide), fun h => absurd (show (14 : Int) = 3 from h) (by decide), fun h => absurd (show (14 : Int) = 3 from h) (by decide)⟩, hQ.out.trans (val14 (m := { Mg.z with k := 14, mem := x1, n := x2 }) rfl).symm⟩⟩, hR', hB⟩
set_option maxHeartbeats 1000000 in
theorem xmsg15 {q : Nat} {r : Rd} (w : World) (hR : Rm w q r) (hs : Sm r) : Calls Tryz.prog 56 #[.agg #[.pointer (some ⟨q, 0, none⟩)], .int .i64 15] w (MsP q (rdK 15 r).1 (QK 15 r q) w) := by
  obtain ⟨r1, x1, h1⟩ : ∃ a b, rInt r = (a, b) := ⟨_, _, rfl⟩
  have s1 : Sm r1 := by have := Sm.fw fInt hs; rw [h1] at this; exact this
  obtain ⟨r2, x2, h2⟩ : ∃ a b, rInt r1 = (a, b) := ⟨_, _, rfl⟩
  have s2 : Sm r2 := by have := Sm.fw fInt s1; rw [h2] at this; exact this
  obtain ⟨r3, x3, h3⟩ : ∃ a b, rInt r2 = (a, b) := ⟨_, _, rfl⟩
  have s3 : Sm r3 := by have := Sm.fw fInt s2; rw [h3] at this; exact this
  have e : rdK 15 r = (r3, { Mg.z with k := 15, tr := x1, day := x2, rate := x3 }) := by simp [rdK, rBk, rQu, rLot, thn, h1, h2, h3]
  unfold QK
  rw [e]
  refine (msg15 h1 h2 h3 w hR ).mono ?_
  rintro E w' ⟨v, he, hQ, hR', hB⟩
  exact ⟨v, he, ⟨⟨_, _, hQ.out⟩, fun _ => ⟨none, none, none, none, 0, 0, 0, 0, q + 1, Nat.lt_succ_self q, ⟨fun h => absurd (show (15 : Int) = 4 from h) (by decide), fun h => absurd (show (15 : Int) = 11 from h) (by decide), fun h => absurd (show (15 : Int) = 3 from h) (by decide), fun h => absurd (show (15 : Int) = 3 from h) (by decide)⟩, hQ.out.trans (val15 (m := { Mg.z with k := 15, tr := x1, day := x2, rate := x3 }) rfl).symm⟩⟩, hR', hB⟩
theorem xmsg {q : Nat} {r : Rd} {k : Int} (h : inn k 1 15 = true) (w : World) (hR : Rm w q r) (hs : Sm r) : Calls Tryz.prog 56 #[.agg #[.pointer (some ⟨q, 0, none⟩)], .int .i64 k] w (MsP q (rdK k r).1 (QK k r q) w) := by
  rcases kinds k with h0 | rfl | rfl | rfl | rfl | rfl | rfl | rfl | rfl | rfl | rfl | rfl | rfl | rfl | rfl | rfl
  · rw [h0] at h; cases h
  · exact xmsg1 w hR hs
  · exact xmsg2 w hR hs
  · exact xmsg3 w hR hs
  · exact xmsg4 w hR hs
  · exact xmsg5 w hR hs
  · exact xmsg6 w hR hs
  · exact xmsg7 w hR hs
  · exact xmsg8 w hR hs
  · exact xmsg9 w hR hs
  · exact xmsg10 w hR hs
  · exact xmsg11 w hR hs
  · exact xmsg12 w hR hs
  · exact xmsg13 w hR hs
  · exact xmsg14 w hR hs
  · exact xmsg15 w hR hs
end Go.Proofs.YtdmlgheajblcdaaGreat

/- Layer 10: what is read is held; Decode of the program. -/
namespace Go.Proofs.YtdmlgheajblcdaaGreat
open Go.RowKit
set_option linter.unusedVariables false
set_option linter.unusedSimpArgs false
set_option maxRecDepth 100000
theorem plain_lists {m : Mg} (hp : plainM m = m) : (m.k ≠ 4 → m.ps = []) ∧ (m.k ≠ 11 → m.ins = []) ∧ (m.k ≠ 3 → m.b.cuts = [] ∧ m.b.bar = []) := by
  rcases kinds m.k with h0 | hk | hk | hk | hk | hk | hk | hk | hk | hk | hk | hk | hk | hk | hk | hk
  · rw [plain_none h0] at hp
    rw [← hp]
    exact ⟨fun _ => rfl, fun _ => rfl, fun _ => ⟨rfl, rfl⟩⟩
  · have e : plainM m = { Mg.z with k := 1, mem := m.mem, name := m.name } := by unfold plainM; simp [hk]
    rw [e] at hp
    exact ⟨fun h => by rw [← hp]; rfl, fun h => by rw [← hp]; rfl, fun h => ⟨by rw [← hp]; rfl, by rw [← hp]; rfl⟩⟩
  · have e : plainM m = { Mg.z with k := 2, a := m.a } := by unfold plainM; simp [hk]
    rw [e] at hp
    exact ⟨fun h => by rw [← hp]; rfl, fun h => by rw [← hp]; rfl, fun h => ⟨by rw [← hp]; rfl, by rw [← hp]; rfl⟩⟩
  · have e : plainM m = { Mg.z with k := 3, b := m.b } := by unfold plainM; simp [hk]
    rw [e] at hp
    exact ⟨fun h => by rw [← hp]; rfl, fun h => by rw [← hp]; rfl, fun h => absurd hk h⟩
  · have e : plainM m = { Mg.z with k := 4, ps := m.ps } := by unfold plainM; simp [hk]
    rw [e] at hp
    exact ⟨fun h => absurd hk h, fun h => by rw [← hp]; rfl, fun h => ⟨by rw [← hp]; rfl, by rw [← hp]; rfl⟩⟩
  · have e : plainM m = { Mg.z with k := 5, day := m.day } := by unfold plainM; simp [hk]
    rw [e] at hp
    exact ⟨fun h => by rw [← hp]; rfl, fun h => by rw [← hp]; rfl, fun h => ⟨by rw [← hp]; rfl, by rw [← hp]; rfl⟩⟩
  · have e : plainM m = { Mg.z with k := 6, mem := m.mem, t := m.t, n := m.n } := by unfold plainM; simp [hk]
    rw [e] at hp
    exact ⟨fun h => by rw [← hp]; rfl, fun h => by rw [← hp]; rfl, fun h => ⟨by rw [← hp]; rfl, by rw [← hp]; rfl⟩⟩
  · have e : plainM m = { Mg.z with k := 7, mem := m.mem, t := m.t, n := m.n } := by unfold plainM; simp [hk]
    rw [e] at hp
    exact ⟨fun h => by rw [← hp]; rfl, fun h => by rw [← hp]; rfl, fun h => ⟨by rw [← hp]; rfl, by rw [← hp]; rfl⟩⟩
  · have e : plainM m = { Mg.z with k := 8, q := m.q } := by unfold plainM; simp [hk]
    rw [e] at hp
    exact ⟨fun h => by rw [← hp]; rfl, fun h => by rw [← hp]; rfl, fun h => ⟨by rw [← hp]; rfl, by rw [← hp]; rfl⟩⟩
  · have e : plainM m = { Mg.z with k := 9, mem := m.mem, n := m.n } := by unfold plainM; simp [hk]
    rw [e] at hp
    exact ⟨fun h => by rw [← hp]; rfl, fun h => by rw [← hp]; rfl, fun h => ⟨by rw [← hp]; rfl, by rw [← hp]; rfl⟩⟩
  · have e : plainM m = { Mg.z with k := 10, mem := m.mem, day := m.day, tr := m.tr } := by unfold plainM; simp [hk]
    rw [e] at hp
    exact ⟨fun h => by rw [← hp]; rfl, fun h => by rw [← hp]; rfl, fun h => ⟨by rw [← hp]; rfl, by rw [← hp]; rfl⟩⟩
  · have e : plainM m = { Mg.z with k := 11, mem := m.mem, tr := m.tr, out := m.out, ins := m.ins } := by unfold plainM; simp [hk]
    rw [e] at hp
    exact ⟨fun h => by rw [← hp]; rfl, fun h => absurd hk h, fun h => ⟨by rw [← hp]; rfl, by rw [← hp]; rfl⟩⟩
  · have e : plainM m = { Mg.z with k := 12, mem := m.mem, day := m.day, done := m.done } := by unfold plainM; simp [hk]
    rw [e] at hp
    exact ⟨fun h => by rw [← hp]; rfl, fun h => by rw [← hp]; rfl, fun h => ⟨by rw [← hp]; rfl, by rw [← hp]; rfl⟩⟩
  · have e : plainM m = { Mg.z with k := 13, mem := m.mem } := by unfold plainM; simp [hk]
    rw [e] at hp
    exact ⟨fun h => by rw [← hp]; rfl, fun h => by rw [← hp]; rfl, fun h => ⟨by rw [← hp]; rfl, by rw [← hp]; rfl⟩⟩
  · have e : plainM m = { Mg.z with k := 14, mem := m.mem, n := m.n } := by unfold plainM; simp [hk]
    rw [e] at hp
    exact ⟨fun h => by rw [← hp]; rfl, fun h => by rw [← hp]; rfl, fun h => ⟨by rw [← hp]; rfl, by rw [← hp]; rfl⟩⟩
  · have e : plainM m = { Mg.z with k := 15, day := m.day, tr := m.tr, rate := m.rate } := by unfold plainM; simp [hk]
    rw [e] at hp
    exact ⟨fun h => by rw [← hp]; rfl, fun h => by rw [← hp]; rfl, fun h => ⟨by rw [← hp]; rfl, by rw [← hp]; rfl⟩⟩
theorem own_ins {B : Nat} {w : World} {v : Value} {xs : List Int} (h : w.ownsRow B 3 1 v xs.length (icells xs)) : ∃ a c, v = .slice a xs.length c ∧ Ins w.heap.size w a xs := by
  rcases h.2 with ⟨hv, hn⟩ | ⟨g, cap, cur, hv, hB, hg, hc, _, _, ht⟩
  · exact ⟨none, 0, by rw [hv, hn], fun h0 => by omega⟩
  · refine ⟨_, cap, hv, fun h0 => ⟨g, 0, rfl, (Array.getElem?_eq_some_iff.1 hg).1, fun j hj => ?_⟩⟩
    have hx : (icells xs)[j]? = some (.int .i64 xs[j]) := by unfold icells; rw [List.getElem?_map, List.getElem?_eq_getElem hj]; rfl
    rw [← ht, List.getElem?_take] at hx
    split at hx
    · rw [cell_of_row w g _ _ 3 (0, 0) hg, ← Array.getElem?_toList, Nat.zero_add]; exact hx
    · cases hx
theorem Lts.nil {B : Nat} {w : World} {a : Option Addr} {xs : List Lt} (h : xs = []) : Lts B w a xs := by subst h; exact fun h => absurd h (by decide)
theorem Cts.nil {B : Nat} {w : World} {a : Option Addr} {xs : List Ct} (h : xs = []) : Cts B w a xs := by subst h; exact fun h => absurd h (by decide)
theorem Ins.nil {B : Nat} {w : World} {a : Option Addr} {xs : List Int} (h : xs = []) : Ins B w a xs := by subst h; exact fun h => absurd h (by decide)
theorem lts_own {B e : Nat} {w : World} {a : Option Addr} {c : Nat} {xs : List Lt} (h : w.ownsRow B e 2 (.slice a xs.length c) xs.length (lcells xs)) : Lts w.heap.size w a xs := by
  obtain ⟨p, d, hv, hl⟩ := own_lts h
  injection hv with hv _ _
  rw [hv]; exact hl
theorem cts_own {B e : Nat} {w : World} {a : Option Addr} {c : Nat} {xs : List Ct} (h : w.ownsRow B e 3 (.slice a xs.length c) xs.length (ccells xs)) : Cts w.heap.size w a xs := by
  obtain ⟨p, d, hv, hl⟩ := own_cts h
  injection hv with hv _ _
  rw [hv]; exact hl
theorem ins_own {B : Nat} {w : World} {a : Option Addr} {c : Nat} {xs : List Int} (h : w.ownsRow B 3 1 (.slice a xs.length c) xs.length (icells xs)) : Ins w.heap.size w a xs := by
  obtain ⟨p, d, hv, hl⟩ := own_ins h
  injection hv with hv _ _
  rw [hv]; exact hl
theorem Own.hld {B : Nat} {W : World} {m : Mg} {pa ia ca ba : Option Addr} {pc ic cc bc : Nat} (hp : plainM m = m) (h : Own B W m pa ia ca ba pc ic cc bc) : Hld W.heap.size W m pa ia ca ba := by
  obtain ⟨h4, h11, h3⟩ := plain_lists hp
  refine ⟨?_, ?_, ?_, ?_⟩
  · by_cases hk : m.k = 4
    · exact lts_own (h.ps hk)
    · exact Lts.nil (h4 hk)
  · by_cases hk : m.k = 11
    · exact lts_own (h.ins hk)
    · exact Lts.nil (h11 hk)
  · by_cases hk : m.k = 3
    · exact cts_own (h.cuts hk)
    · exact Cts.nil (h3 hk).1
  · by_cases hk : m.k = 3
    · exact ins_own (h.bar hk)
    · exact Ins.nil (h3 hk).2
theorem flat_mem {α : Type} (f : α → List UInt8) {x : α} : ∀ (l : List α), x ∈ l → (f x).length ≤ (flatM f l).length
  | y :: l, h => by
    show _ ≤ (f y ++ flatM f l).length
    rw [List.length_append]
    rcases List.mem_cons.1 h with rfl | h
    · omega
    · have := flat_mem f l h; omega
theorem flat_len1 {α : Type} (f : α → List UInt8) (hf : ∀ x, 1 ≤ (f x).length) : ∀ (l : List α), l.length ≤ (flatM f l).length
  | [] => Nat.zero_le _
  | y :: l => by
    show l.length + 1 ≤ (f y ++ flatM f l).length
    rw [List.length_append]
    have := flat_len1 f hf l; have := hf y; omega
theorem uint_pos (n : Nat) : 1 ≤ (uintL n).length := by unfold uintL; simp
theorem text_le (t : List UInt8) : t.length ≤ (textL t).length := by unfold textL; rw [List.length_append]; omega
theorem lot_pos (x : Lt) : 1 ≤ (lotL x).length := by unfold lotL textL; simp only [List.length_append]; have := uint_pos x.i.length; omega
theorem cut_pos (x : Ct) : 1 ≤ (cutL x).length := by unfold cutL intL; simp only [List.length_append]; have := uint_pos (fo x.d); omega
theorem lot_le (x : Lt) : x.i.length ≤ (lotL x).length := by unfold lotL; rw [List.length_append]; have := text_le x.i; omega
theorem ints_ge : ∀ (l : List Int), l.length ≤ (flatI l).length
  | [] => Nat.zero_le _
  | y :: l => by
    show l.length + 1 ≤ (intL y ++ flatI l).length
    rw [List.length_append]
    have := ints_ge l; have := uint_pos (fo y); unfold intL; omega
/-- what is read is as long as its text at most -/
theorem szd_rd {m : Mg} (hp : plainM m = m) (hi : inn m.k 1 15 = true) (hb : (bodL m).length ≤ 1000000) : Szd m := by
  have hz : ∀ {l : List UInt8}, l = [] → l.length ≤ 140737488351232 := fun h => by rw [h]; exact Nat.zero_le _
  rcases kinds m.k with h0 | hk | hk | hk | hk | hk | hk | hk | hk | hk | hk | hk | hk | hk | hk | hk
  · rw [h0] at hi; cases hi
  · have e : plainM m = { Mg.z with k := 1, mem := m.mem, name := m.name } := by unfold plainM; simp [hk]
    rw [e] at hp
    have e2 : bodL m = intL m.mem ++ textL m.name := by unfold bodL; simp [hk]
    rw [e2] at hb
    exact ⟨by simp only [bkL, intsL, List.length_append] at hb; have := text_le m.name; omega, hz (by rw [← hp]; rfl), hz (by rw [← hp]; rfl), hz (by rw [← hp]; rfl), hz (by rw [← hp]; rfl), hz (by rw [← hp]; rfl), fun y hy => absurd hy (by rw [show m.ps = [] from by rw [← hp]; rfl]; simp), fun y hy => absurd hy (by rw [show m.ins = [] from by rw [← hp]; rfl]; simp), by rw [show m.b.cuts = [] from by rw [← hp]; rfl]; exact Nat.zero_le _, by rw [show m.b.bar = [] from by rw [← hp]; rfl]; exact Nat.zero_le _, by rw [show m.ps = [] from by rw [← hp]; rfl]; exact Nat.zero_le _, by rw [show m.ins = [] from by rw [← hp]; rfl]; exact Nat.zero_le _⟩
  · have e : plainM m = { Mg.z with k := 2, a := m.a } := by unfold plainM; simp [hk]
    rw [e] at hp
    have e2 : bodL m = textL m.a.i ++ (intL m.a.iss ++ (intL m.a.rat ++ (intL m.a.mat ++ textL m.a.cur))) := by unfold bodL; simp [hk]
    rw [e2] at hb
    exact ⟨hz (by rw [← hp]; rfl), by simp only [bkL, intsL, List.length_append] at hb; have := text_le m.a.i; omega, by simp only [bkL, intsL, List.length_append] at hb; have := text_le m.a.cur; omega, hz (by rw [← hp]; rfl), hz (by rw [← hp]; rfl), hz (by rw [← hp]; rfl), fun y hy => absurd hy (by rw [show m.ps = [] from by rw [← hp]; rfl]; simp), fun y hy => absurd hy (by rw [show m.ins = [] from by rw [← hp]; rfl]; simp), by rw [show m.b.cuts = [] from by rw [← hp]; rfl]; exact Nat.zero_le _, by rw [show m.b.bar = [] from by rw [← hp]; rfl]; exact Nat.zero_le _, by rw [show m.ps = [] from by rw [← hp]; rfl]; exact Nat.zero_le _, by rw [show m.ins = [] from by rw [← hp]; rfl]; exact Nat.zero_le _⟩
  · have e : plainM m = { Mg.z with k := 3, b := m.b } := by unfold plainM; simp [hk]
    rw [e] at hp
    have e2 : bodL m = bkL m.b := by unfold bodL; simp [hk]
    rw [e2] at hb
    exact ⟨hz (by rw [← hp]; rfl), hz (by rw [← hp]; rfl), hz (by rw [← hp]; rfl), by simp only [bkL, intsL, List.length_append] at hb; have := text_le m.b.cur; omega, hz (by rw [← hp]; rfl), hz (by rw [← hp]; rfl), fun y hy => absurd hy (by rw [show m.ps = [] from by rw [← hp]; rfl]; simp), fun y hy => absurd hy (by rw [show m.ins = [] from by rw [← hp]; rfl]; simp), by simp only [bkL, intsL, List.length_append] at hb; have := flat_len1 cutL cut_pos m.b.cuts; omega, by simp only [bkL, intsL, List.length_append] at hb; have := ints_ge m.b.bar; omega, by rw [show m.ps = [] from by rw [← hp]; rfl]; exact Nat.zero_le _, by rw [show m.ins = [] from by rw [← hp]; rfl]; exact Nat.zero_le _⟩
  · have e : plainM m = { Mg.z with k := 4, ps := m.ps } := by unfold plainM; simp [hk]
    rw [e] at hp
    have e2 : bodL m = uintL m.ps.length ++ flatM lotL m.ps := by unfold bodL; simp [hk]
    rw [e2] at hb
    exact ⟨hz (by rw [← hp]; rfl), hz (by rw [← hp]; rfl), hz (by rw [← hp]; rfl), hz (by rw [← hp]; rfl), hz (by rw [← hp]; rfl), hz (by rw [← hp]; rfl), fun y hy => by simp only [bkL, intsL, List.length_append] at hb; have := flat_mem lotL m.ps hy; have := lot_le y; omega, fun y hy => absurd hy (by rw [show m.ins = [] from by rw [← hp]; rfl]; simp), by rw [show m.b.cuts = [] from by rw [← hp]; rfl]; exact Nat.zero_le _, by rw [show m.b.bar = [] from by rw [← hp]; rfl]; exact Nat.zero_le _, by simp only [bkL, intsL, List.length_append] at hb; have := flat_len1 lotL lot_pos m.ps; omega, by rw [show m.ins = [] from by rw [← hp]; rfl]; exact Nat.zero_le _⟩
  · have e : plainM m = { Mg.z with k := 5, day := m.day } := by unfold plainM; simp [hk]
    rw [e] at hp
    have e2 : bodL m = intL m.day := by unfold bodL; simp [hk]
    rw [e2] at hb
    exact ⟨hz (by rw [← hp]; rfl), hz (by rw [← hp]; rfl), hz (by rw [← hp]; rfl), hz (by rw [← hp]; rfl), hz (by rw [← hp]; rfl), hz (by rw [← hp]; rfl), fun y hy => absurd hy (by rw [show m.ps = [] from by rw [← hp]; rfl]; simp), fun y hy => absurd hy (by rw [show m.ins = [] from by rw [← hp]; rfl]; simp), by rw [show m.b.cuts = [] from by rw [← hp]; rfl]; exact Nat.zero_le _, by rw [show m.b.bar = [] from by rw [← hp]; rfl]; exact Nat.zero_le _, by rw [show m.ps = [] from by rw [← hp]; rfl]; exact Nat.zero_le _, by rw [show m.ins = [] from by rw [← hp]; rfl]; exact Nat.zero_le _⟩
  · have e : plainM m = { Mg.z with k := 6, mem := m.mem, t := m.t, n := m.n } := by unfold plainM; simp [hk]
    rw [e] at hp
    have e2 : bodL m = intL m.mem ++ (intL m.n ++ textL m.t) := by unfold bodL; simp [hk]
    rw [e2] at hb
    exact ⟨hz (by rw [← hp]; rfl), hz (by rw [← hp]; rfl), hz (by rw [← hp]; rfl), hz (by rw [← hp]; rfl), by simp only [bkL, intsL, List.length_append] at hb; have := text_le m.t; omega, hz (by rw [← hp]; rfl), fun y hy => absurd hy (by rw [show m.ps = [] from by rw [← hp]; rfl]; simp), fun y hy => absurd hy (by rw [show m.ins = [] from by rw [← hp]; rfl]; simp), by rw [show m.b.cuts = [] from by rw [← hp]; rfl]; exact Nat.zero_le _, by rw [show m.b.bar = [] from by rw [← hp]; rfl]; exact Nat.zero_le _, by rw [show m.ps = [] from by rw [← hp]; rfl]; exact Nat.zero_le _, by rw [show m.ins = [] from by rw [← hp]; rfl]; exact Nat.zero_le _⟩
  · have e : plainM m = { Mg.z with k := 7, mem := m.mem, t := m.t, n := m.n } := by unfold plainM; simp [hk]
    rw [e] at hp
    have e2 : bodL m = intL m.mem ++ (intL m.n ++ textL m.t) := by unfold bodL; simp [hk]
    rw [e2] at hb
    exact ⟨hz (by rw [← hp]; rfl), hz (by rw [← hp]; rfl), hz (by rw [← hp]; rfl), hz (by rw [← hp]; rfl), by simp only [bkL, intsL, List.length_append] at hb; have := text_le m.t; omega, hz (by rw [← hp]; rfl), fun y hy => absurd hy (by rw [show m.ps = [] from by rw [← hp]; rfl]; simp), fun y hy => absurd hy (by rw [show m.ins = [] from by rw [← hp]; rfl]; simp), by rw [show m.b.cuts = [] from by rw [← hp]; rfl]; exact Nat.zero_le _, by rw [show m.b.bar = [] from by rw [← hp]; rfl]; exact Nat.zero_le _, by rw [show m.ps = [] from by rw [← hp]; rfl]; exact Nat.zero_le _, by rw [show m.ins = [] from by rw [← hp]; rfl]; exact Nat.zero_le _⟩
  · have e : plainM m = { Mg.z with k := 8, q := m.q } := by unfold plainM; simp [hk]
    rw [e] at hp
    have e2 : bodL m = quL m.q := by unfold bodL; simp [hk]
    rw [e2] at hb
    exact ⟨hz (by rw [← hp]; rfl), hz (by rw [← hp]; rfl), hz (by rw [← hp]; rfl), hz (by rw [← hp]; rfl), hz (by rw [← hp]; rfl), hz (by rw [← hp]; rfl), fun y hy => absurd hy (by rw [show m.ps = [] from by rw [← hp]; rfl]; simp), fun y hy => absurd hy (by rw [show m.ins = [] from by rw [← hp]; rfl]; simp), by rw [show m.b.cuts = [] from by rw [← hp]; rfl]; exact Nat.zero_le _, by rw [show m.b.bar = [] from by rw [← hp]; rfl]; exact Nat.zero_le _, by rw [show m.ps = [] from by rw [← hp]; rfl]; exact Nat.zero_le _, by rw [show m.ins = [] from by rw [← hp]; rfl]; exact Nat.zero_le _⟩
  · have e : plainM m = { Mg.z with k := 9, mem := m.mem, n := m.n } := by unfold plainM; simp [hk]
    rw [e] at hp
    have e2 : bodL m = intL m.mem ++ intL m.n := by unfold bodL; simp [hk]
    rw [e2] at hb
    exact ⟨hz (by rw [← hp]; rfl), hz (by rw [← hp]; rfl), hz (by rw [← hp]; rfl), hz (by rw [← hp]; rfl), hz (by rw [← hp]; rfl), hz (by rw [← hp]; rfl), fun y hy => absurd hy (by rw [show m.ps = [] from by rw [← hp]; rfl]; simp), fun y hy => absurd hy (by rw [show m.ins = [] from by rw [← hp]; rfl]; simp), by rw [show m.b.cuts = [] from by rw [← hp]; rfl]; exact Nat.zero_le _, by rw [show m.b.bar = [] from by rw [← hp]; rfl]; exact Nat.zero_le _, by rw [show m.ps = [] from by rw [← hp]; rfl]; exact Nat.zero_le _, by rw [show m.ins = [] from by rw [← hp]; rfl]; exact Nat.zero_le _⟩
  · have e : plainM m = { Mg.z with k := 10, mem := m.mem, day := m.day, tr := m.tr } := by unfold plainM; simp [hk]
    rw [e] at hp
    have e2 : bodL m = intL m.mem ++ (intL m.tr ++ intL m.day) := by unfold bodL; simp [hk]
    rw [e2] at hb
    exact ⟨hz (by rw [← hp]; rfl), hz (by rw [← hp]; rfl), hz (by rw [← hp]; rfl), hz (by rw [← hp]; rfl), hz (by rw [← hp]; rfl), hz (by rw [← hp]; rfl), fun y hy => absurd hy (by rw [show m.ps = [] from by rw [← hp]; rfl]; simp), fun y hy => absurd hy (by rw [show m.ins = [] from by rw [← hp]; rfl]; simp), by rw [show m.b.cuts = [] from by rw [← hp]; rfl]; exact Nat.zero_le _, by rw [show m.b.bar = [] from by rw [← hp]; rfl]; exact Nat.zero_le _, by rw [show m.ps = [] from by rw [← hp]; rfl]; exact Nat.zero_le _, by rw [show m.ins = [] from by rw [← hp]; rfl]; exact Nat.zero_le _⟩
  · have e : plainM m = { Mg.z with k := 11, mem := m.mem, tr := m.tr, out := m.out, ins := m.ins } := by unfold plainM; simp [hk]
    rw [e] at hp
    have e2 : bodL m = intL m.mem ++ (intL m.tr ++ (lotL m.out ++ (uintL m.ins.length ++ flatM lotL m.ins))) := by unfold bodL; simp [hk]
    rw [e2] at hb
    exact ⟨hz (by rw [← hp]; rfl), hz (by rw [← hp]; rfl), hz (by rw [← hp]; rfl), hz (by rw [← hp]; rfl), hz (by rw [← hp]; rfl), by simp only [bkL, intsL, List.length_append] at hb; have := lot_le m.out; omega, fun y hy => absurd hy (by rw [show m.ps = [] from by rw [← hp]; rfl]; simp), fun y hy => by simp only [bkL, intsL, List.length_append] at hb; have := flat_mem lotL m.ins hy; have := lot_le y; omega, by rw [show m.b.cuts = [] from by rw [← hp]; rfl]; exact Nat.zero_le _, by rw [show m.b.bar = [] from by rw [← hp]; rfl]; exact Nat.zero_le _, by rw [show m.ps = [] from by rw [← hp]; rfl]; exact Nat.zero_le _, by simp only [bkL, intsL, List.length_append] at hb; have := flat_len1 lotL lot_pos m.ins; omega⟩
  · have e : plainM m = { Mg.z with k := 12, mem := m.mem, day := m.day, done := m.done } := by unfold plainM; simp [hk]
    rw [e] at hp
    have e2 : bodL m = intL m.mem ++ (intL m.day ++ boolL m.done) := by unfold bodL; simp [hk]
    rw [e2] at hb
    exact ⟨hz (by rw [← hp]; rfl), hz (by rw [← hp]; rfl), hz (by rw [← hp]; rfl), hz (by rw [← hp]; rfl), hz (by rw [← hp]; rfl), hz (by rw [← hp]; rfl), fun y hy => absurd hy (by rw [show m.ps = [] from by rw [← hp]; rfl]; simp), fun y hy => absurd hy (by rw [show m.ins = [] from by rw [← hp]; rfl]; simp), by rw [show m.b.cuts = [] from by rw [← hp]; rfl]; exact Nat.zero_le _, by rw [show m.b.bar = [] from by rw [← hp]; rfl]; exact Nat.zero_le _, by rw [show m.ps = [] from by rw [← hp]; rfl]; exact Nat.zero_le _, by rw [show m.ins = [] from by rw [← hp]; rfl]; exact Nat.zero_le _⟩
  · have e : plainM m = { Mg.z with k := 13, mem := m.mem } := by unfold plainM; simp [hk]
    rw [e] at hp
    have e2 : bodL m = intL m.mem := by unfold bodL; simp [hk]
    rw [e2] at hb
    exact ⟨hz (by rw [← hp]; rfl), hz (by rw [← hp]; rfl), hz (by rw [← hp]; rfl), hz (by rw [← hp]; rfl), hz (by rw [← hp]; rfl), hz (by rw [← hp]; rfl), fun y hy => absurd hy (by rw [show m.ps = [] from by rw [← hp]; rfl]; simp), fun y hy => absurd hy (by rw [show m.ins = [] from by rw [← hp]; rfl]; simp), by rw [show m.b.cuts = [] from by rw [← hp]; rfl]; exact Nat.zero_le _, by rw [show m.b.bar = [] from by rw [← hp]; rfl]; exact Nat.zero_le _, by rw [show m.ps = [] from by rw [← hp]; rfl]; exact Nat.zero_le _, by rw [show m.ins = [] from by rw [← hp]; rfl]; exact Nat.zero_le _⟩
  · have e : plainM m = { Mg.z with k := 14, mem := m.mem, n := m.n } := by unfold plainM; simp [hk]
    rw [e] at hp
    have e2 : bodL m = intL m.mem ++ intL m.n := by unfold bodL; simp [hk]
    rw [e2] at hb
    exact ⟨hz (by rw [← hp]; rfl), hz (by rw [← hp]; rfl), hz (by rw [← hp]; rfl), hz (by rw [← hp]; rfl), hz (by rw [← hp]; rfl), hz (by rw [← hp]; rfl), fun y hy => absurd hy (by rw [show m.ps = [] from by rw [← hp]; rfl]; simp), fun y hy => absurd hy (by rw [show m.ins = [] from by rw [← hp]; rfl]; simp), by rw [show m.b.cuts = [] from by rw [← hp]; rfl]; exact Nat.zero_le _, by rw [show m.b.bar = [] from by rw [← hp]; rfl]; exact Nat.zero_le _, by rw [show m.ps = [] from by rw [← hp]; rfl]; exact Nat.zero_le _, by rw [show m.ins = [] from by rw [← hp]; rfl]; exact Nat.zero_le _⟩
  · have e : plainM m = { Mg.z with k := 15, day := m.day, tr := m.tr, rate := m.rate } := by unfold plainM; simp [hk]
    rw [e] at hp
    have e2 : bodL m = intL m.tr ++ (intL m.day ++ intL m.rate) := by unfold bodL; simp [hk]
    rw [e2] at hb
    exact ⟨hz (by rw [← hp]; rfl), hz (by rw [← hp]; rfl), hz (by rw [← hp]; rfl), hz (by rw [← hp]; rfl), hz (by rw [← hp]; rfl), hz (by rw [← hp]; rfl), fun y hy => absurd hy (by rw [show m.ps = [] from by rw [← hp]; rfl]; simp), fun y hy => absurd hy (by rw [show m.ins = [] from by rw [← hp]; rfl]; simp), by rw [show m.b.cuts = [] from by rw [← hp]; rfl]; exact Nat.zero_le _, by rw [show m.b.bar = [] from by rw [← hp]; rfl]; exact Nat.zero_le _, by rw [show m.ps = [] from by rw [← hp]; rfl]; exact Nat.zero_le _, by rw [show m.ins = [] from by rw [← hp]; rfl]; exact Nat.zero_le _⟩
theorem rEnd_e {r : Rd} (h : (rEnd r).1.e = 0) : (rEnd r).2 = true ∧ r.e = 0 := by
  have h2 : (rEnd r).2 = true := by unfold rEnd at h ⊢; simp only at h ⊢; rw [h]; rfl
  refine ⟨h2, ?_⟩
  rcases Nat.eq_zero_or_pos r.e with h3 | h3
  · exact h3
  · have hne : r.e ≠ 0 := by omega
    rw [rEnd_bad hne] at h2
    cases h2
theorem rEnd_ne {r : Rd} (h : (rEnd r).1.e ≠ 0) : (rEnd r).2 = false := by
  unfold rEnd at h ⊢
  simp only at h ⊢
  exact beq_eq_false_iff_ne.2 h
theorem rInt_zero {r : Rd} (h : (rInt r).1.e ≠ 0) : (rInt r).2 = 0 := by
  have e : (rUint r).2 = 0 := by
    have h' : (rUint r).1.e ≠ 0 := h
    unfold rUint at h' ⊢
    split
    · rfl
    · rename_i h0
      rw [if_neg h0] at h'
      split
      · rename_i h1
        rw [if_pos h1] at h'
        exact absurd (show r.e = 0 by simpa using h0) h'
      · rfl
  show un (rUint r).2 = 0
  rw [e]; rfl
theorem sm_of {s : ByteArray} (hs : s.size ≤ 1000000) : Sm (rInt ⟨s.data.toList, 0, 0⟩).1 := Sm.fw fInt ⟨Nat.zero_le _, hs⟩
/-- what is wrong with what was read -/
theorem MV.chk {k : Int} {r : Rd} (hk : inn k 1 15 = true) (hs : Sm r) (h0 : (rdK k r).1.e = 0) {q : Nat} {W : World} {v : Value} (h : MV (rdK k r).2 q W v) : Calls Tryz.prog 12 #[v] W (KP (.int .i64 ((chkM C0 (rdK k r).2 : Nat) : Int)) W) := by
  obtain ⟨l, hl, hm⟩ := (fBod hk r hs.1).2.2.2 h0
  obtain ⟨h1, h2, h3, h4⟩ := hm
  have hb : (bodL (rdK k r).2).length ≤ 1000000 := by
    rw [← h2]
    have e := congrArg List.length hl
    rw [List.length_append, List.length_drop] at e
    have := hs.2; omega
  have hz := szd_rd h4 (by rw [h1]; exact hk) hb
  generalize (rdK k r).2 = m at *
  obtain ⟨pa, ia, ca, ba, pc, ic, cc, bc, B, hq, hO, rfl⟩ := h
  have hH := hO.hld h4
  rcases kinds m.k with h5 | hj | hj | hj | hj | hj | hj | hj | hj | hj | hj | hj | hj | hj | hj | hj
  · rw [h1, hk] at h5; cases h5
  · rw [val1 hj, chk_is1 hj]; exact xCk1 m pa ia ca ba pc ic cc bc hj W hH h3 hz
  · rw [val2 hj, chk_is2 hj]; exact xCk2 m pa ia ca ba pc ic cc bc hj W hH h3 hz
  · rw [val3 hj, chk_is3 hj]; exact xCk3 m pa ia ca ba pc ic cc bc hj W hH h3 hz
  · rw [val4 hj, chk_is4 hj]; exact xCk4 m pa ia ca ba pc ic cc bc hj W hH h3 hz
  · rw [val5 hj, chk_is5 hj]; exact xCk5 m pa ia ca ba pc ic cc bc hj W hH h3 hz
  · rw [val6 hj, chk_is6 hj]; exact xCk6 m pa ia ca ba pc ic cc bc hj W hH h3 hz
  · rw [val7 hj, chk_is7 hj]; exact xCk7 m pa ia ca ba pc ic cc bc hj W hH h3 hz
  · rw [val8 hj, chk_is8 hj]; exact xCk8 m pa ia ca ba pc ic cc bc hj W hH h3 hz
  · rw [val9 hj, chk_is9 hj]; exact xCk9 m pa ia ca ba pc ic cc bc hj W hH h3 hz
  · rw [val10 hj, chk_is10 hj]; exact xCk10 m pa ia ca ba pc ic cc bc hj W hH h3 hz
  · rw [val11 hj, chk_is11 hj]; exact xCk11 m pa ia ca ba pc ic cc bc hj W hH h3 hz
  · rw [val12 hj, chk_is12 hj]; exact xCk12 m pa ia ca ba pc ic cc bc hj W hH h3 hz
  · rw [val13 hj, chk_is13 hj]; exact xCk13 m pa ia ca ba pc ic cc bc hj W hH h3 hz
  · rw [val14 hj, chk_is14 hj]; exact xCk14 m pa ia ca ba pc ic cc bc hj W hH h3 hz
  · rw [val15 hj, chk_is15 hj]; exact xCk15 m pa ia ca ba pc ic cc bc hj W hH h3 hz
theorem xdecOk (s : ByteArray) (hs : s.size ≤ 1000000) (w : World) (m : Mg) (n : Nat) (h : decN C0 s.data.toList = (m, n, 0)) : Calls Tryz.prog 20 #[.string s] w (DcV s.size (fun q W v => MV m q W v) w) := by
  unfold decN at h
  split at h
  · rename_i h1; injection h with _ h; injection h with _ h; exact absurd h h1
  rename_i h1
  split at h
  · injection h with _ h; injection h with _ h; cases h
  rename_i h2
  split at h
  · rename_i h3; injection h with _ h; injection h with _ h; exact absurd h h3
  rename_i h3
  split at h
  · rename_i h4; injection h with _ h; injection h with _ h; exact absurd h h4
  rename_i h4
  injection h with hm _
  have h2' : inn (rInt ⟨s.data.toList, 0, 0⟩).2 1 15 = true := by simpa using h2
  have h3' : (rEnd (rdK (rInt ⟨s.data.toList, 0, 0⟩).2 (rInt ⟨s.data.toList, 0, 0⟩).1).1).1.e = 0 := by simpa using h3
  have h4' : chkM C0 (rdK (rInt ⟨s.data.toList, 0, 0⟩).2 (rInt ⟨s.data.toList, 0, 0⟩).1).2 = 0 := by simpa using h4
  have hsm := sm_of hs
  obtain ⟨r1, k, hr⟩ : ∃ a b, rInt ⟨s.data.toList, 0, 0⟩ = (a, b) := ⟨_, _, rfl⟩
  rw [hr] at h2' h3' h4' hm hsm
  obtain ⟨he, h0⟩ := rEnd_e h3'
  refine (decD s (by omega) w r1 (rdK k r1).1 k (QK k r1) (QK.stb k r1) hr (fun q w' hq hR hb => xmsg h2' w' hR hsm) (fun q w v hQ => hQ.1) he (fun q w v hQ => ?_)).mono ?_
  · have := MV.chk h2' hsm h0 (hQ.2 h0)
    rw [h4'] at this
    exact this
  · rintro e w' ⟨v, q, he, hq, hQ, hb⟩
    exact ⟨v, q, he, hq, by unfold Hid; rw [← hm]; exact hQ.out.2 h0, hb⟩
theorem xdecBad (s : ByteArray) (hs : s.size ≤ 1000000) (w : World) (m : Mg) (n g : Nat) (hg : g ≠ 0) (h : decN C0 s.data.toList = (m, n, g)) : Calls Tryz.prog 20 #[.string s] w (DcP n g w) := by
  have hsm := sm_of hs
  have hz := @rInt_zero ⟨s.data.toList, 0, 0⟩
  unfold decN at h
  obtain ⟨r1, k, hr⟩ : ∃ a b, rInt ⟨s.data.toList, 0, 0⟩ = (a, b) := ⟨_, _, rfl⟩
  rw [hr] at h hsm hz
  split at h
  · rename_i h1
    injection h with _ h; injection h with ha hb
    have hk : k = 0 := hz h1
    have e := rEnd_bad (r := r1) h1
    have := decB1 s (by omega) w r1 r1 k (fun _ _ v => v = .nilIface) ⟨fun _ _ _ _ h _ => h, fun _ _ _ _ h => h⟩ hr (fun q w' hq hR hb => msg0 k (by rw [hk]; decide) w' hR) (fun _ _ _ h => h) h1 (by rw [e])
    rw [e] at this
    rw [← ha, ← hb]
    exact this
  rename_i h1
  have h1' : r1.e = 0 := by simpa using h1
  split at h
  · rename_i h2
    injection h with _ h; injection h with ha hb
    rw [← ha, ← hb]
    exact decA s (by omega) w r1 r1 k (fun _ _ v => v = .nilIface) ⟨fun _ _ _ _ h _ => h, fun _ _ _ _ h => h⟩ hr (fun q w' hq hR hb => msg0 k (by simpa using h2) w' hR) (fun _ _ _ h => h) h1'
  rename_i h2
  have h2' : inn k 1 15 = true := by simpa using h2
  split at h
  · rename_i h3
    injection h with _ h; injection h with ha hb
    rw [← ha, ← hb]
    exact decB2 s (by omega) w r1 (rdK k r1).1 k (QK k r1) (QK.stb k r1) hr (fun q w' hq hR hb => xmsg h2' w' hR hsm) (fun q w v hQ => hQ.1) (rEnd_ne h3)
  rename_i h3
  have h3' : (rEnd (rdK k r1).1).1.e = 0 := by simpa using h3
  obtain ⟨he, h0⟩ := rEnd_e h3'
  split at h
  · rename_i h4
    injection h with _ h; injection h with ha hb
    have hn : n = s.size := by rw [← ha]; rfl
    rw [hn, ← hb]
    exact decC s (by omega) w r1 (rdK k r1).1 k (QK k r1) (QK.stb k r1) hr (fun q w' hq hR hb => xmsg h2' w' hR hsm) (fun q w v hQ => hQ.1) he _ h4 (fun q w v hQ => MV.chk h2' hsm h0 (hQ.2 h0))
  · injection h with _ h; injection h with _ h
    exact absurd h.symm hg
end Go.Proofs.YtdmlgheajblcdaaGreat
