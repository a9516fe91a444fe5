/- veilkeep.kept. -/
import Derived.Test.YtgigkiocdiffjabUKsees
import Derived.Test.YtgigkiocdiffjabUKopen
import Derived.Deep.QuietTactic
import Derived.BigQuiet
namespace Go.Proofs.Ytgigkiocdiffjab
open Go.RowKit Veil
theorem bel_drawn {B : Nat} {a w : World} (h : Below B a w) (n : Nat) : Below B a (w.drewN n) := ⟨h.os, h.tape, h.output, h.size, h.block⟩
theorem kept_boxes (w : World) (a b c d : Obj) : Below w.heap.size w ((((w.alloc a).alloc b).alloc c).alloc d) ∧ (((((w.alloc a).alloc b).alloc c).alloc d).heap.size = w.heap.size + 4) ∧ ((((w.alloc a).alloc b).alloc c).alloc d).heap[w.heap.size]? = some a ∧ ((((w.alloc a).alloc b).alloc c).alloc d).heap[w.heap.size + 1]? = some b ∧ ((((w.alloc a).alloc b).alloc c).alloc d).heap[w.heap.size + 2]? = some c ∧ ((((w.alloc a).alloc b).alloc c).alloc d).heap[w.heap.size + 3]? = some d := by
  have b1 := below_box w a
  have b2 := below_box (w.alloc a) b
  have b3 := below_box ((w.alloc a).alloc b) c
  have b4 := below_box (((w.alloc a).alloc b).alloc c) d
  have s1 : (w.alloc a).heap.size = w.heap.size + 1 := by simp
  have s2 : ((w.alloc a).alloc b).heap.size = w.heap.size + 2 := by simp
  have s3 : (((w.alloc a).alloc b).alloc c).heap.size = w.heap.size + 3 := by simp
  have n1 := Go.heap_alloc_new w a
  have n2 := Go.heap_alloc_new (w.alloc a) b
  have n3 := Go.heap_alloc_new ((w.alloc a).alloc b) c
  have n4 := Go.heap_alloc_new (((w.alloc a).alloc b).alloc c) d
  rw [s1] at n2 b2
  rw [s2] at n3 b3
  rw [s3] at n4 b4
  refine ⟨b1.trans ((b2.trans ((b3.trans (b4.mono (by omega))).mono (by omega))).mono (by omega)), by simp, ?_, ?_, ?_, n4⟩
  · rw [b4.block _ (by omega), b3.block _ (by omega), b2.block _ (by omega)]; exact n1
  · rw [b4.block _ (by omega), b3.block _ (by omega)]; exact n2
  · rw [b4.block _ (by omega)]; exact n3
theorem book2 {w : World} {g : Nat} {a b : Value} {ty : TypeId} (h : w.heap[g]? = some (.cells #[a, b] ty (0, 0))) : w.cell? ⟨g, 0, none⟩ = some a ∧ w.cell? ⟨g, 1, none⟩ = some b :=
  ⟨(cell_of_row _ _ _ _ _ _ h).trans rfl, (cell_of_row _ _ _ _ _ _ h).trans rfl⟩
theorem case_rows {w : World} {g : Nat} {c : Cfg} {v : CfgV} {sv : Value} {ty : TypeId} (h : w.heap[g]? = some (.cells #[.int .i64 c.labels, .slice v.ea c.edges.length v.ec, .slice v.ra c.rules.length v.rc, .slice v.ga c.grants.length v.gc, sv] ty (0, 0))) : w.cell? ⟨g, 0, none⟩ = some (.int .i64 c.labels) ∧ w.cell? ⟨g, 1, none⟩ = some (.slice v.ea c.edges.length v.ec) ∧ w.cell? ⟨g, 2, none⟩ = some (.slice v.ra c.rules.length v.rc) ∧ w.cell? ⟨g, 3, none⟩ = some (.slice v.ga c.grants.length v.gc) ∧ w.cell? ⟨g, 4, none⟩ = some sv :=
  ⟨(cell_of_row _ _ _ _ _ _ h).trans rfl, (cell_of_row _ _ _ _ _ _ h).trans rfl, (cell_of_row _ _ _ _ _ _ h).trans rfl, (cell_of_row _ _ _ _ _ _ h).trans rfl, (cell_of_row _ _ _ _ _ _ h).trans rfl⟩
theorem o_rows {w : World} {g : Nat} {kind level lo hi label : Int} {text : ByteArray} {ty : TypeId} (h : w.heap[g]? = some (.cells #[.int .i64 kind, .int .i64 level, .int .i64 lo, .int .i64 hi, .int .i64 label, .string text] ty (0, 0))) : w.cell? ⟨g, 0, none⟩ = some (.int .i64 kind) ∧ w.cell? ⟨g, 1, none⟩ = some (.int .i64 level) ∧ w.cell? ⟨g, 2, none⟩ = some (.int .i64 lo) ∧ w.cell? ⟨g, 3, none⟩ = some (.int .i64 hi) ∧ w.cell? ⟨g, 4, none⟩ = some (.int .i64 label) ∧ w.cell? ⟨g, 5, none⟩ = some (.string text) :=
  ⟨(cell_of_row _ _ _ _ _ _ h).trans rfl, (cell_of_row _ _ _ _ _ _ h).trans rfl, (cell_of_row _ _ _ _ _ _ h).trans rfl, (cell_of_row _ _ _ _ _ _ h).trans rfl, (cell_of_row _ _ _ _ _ _ h).trans rfl, (cell_of_row _ _ _ _ _ _ h).trans rfl⟩
theorem recs_at {w w' : World} {ao : Option Addr} {b : Nat} {L : List Rec} {q : Nat} (ha : L = [] ∨ (ao = some ⟨b, 0, none⟩ ∧ b < w.heap.size)) (hc : ∀ i a, L[i]? = some a → ∀ j, j < 3 → w.cell? ⟨b, i * 3 + j, none⟩ = (recV a)[j]?) (hb : Below w.heap.size w w') (hq : q < L.length) :
    ao = some ⟨b, 0, none⟩ ∧ w'.cell? ⟨b, q * 3, none⟩ = some (.int .i64 L[q].who) ∧ w'.cell? ⟨b, q * 3 + 1, none⟩ = some (.int .i64 L[q].cells) ∧ w'.cell? ⟨b, q * 3 + 2, none⟩ = some (.int .i64 L[q].ver) := by
  obtain ⟨h1, hbl⟩ := ha.resolve_left (fun e => by rw [e] at hq; simp at hq)
  have hg : L[q]? = some L[q] := List.getElem?_eq_getElem hq
  exact ⟨h1, (hb.cell (p := ⟨b, q * 3, none⟩) hbl).trans (hc q _ hg 0 (by omega)), (hb.cell (p := ⟨b, q * 3 + 1, none⟩) hbl).trans (hc q _ hg 1 (by omega)), (hb.cell (p := ⟨b, q * 3 + 2, none⟩) hbl).trans (hc q _ hg 2 (by omega))⟩
set_option maxRecDepth 100000 in
set_option maxHeartbeats 8000000 in
theorem kkept_A1 (c : Cfg) (v : CfgV) (hr : Right c) (sv : Value) (kind level lo hi label : Int) (text : ByteArray) (e : Int) (d : Nat) (hd : d < c.n) (L : List Rec) (lw ln : Value) (V : Nat) (w : World) (hat : CfgAt w c v) (hw : SeqV 3 recV w lw L) (hn : SeqV 3 recV w ln L) (hL : L.length ≤ 8) (k1 : decide (1 ≤ kind) = false) (k4 : (kind == 4) = false) :
    Calls Try.prog 16 #[.agg (caseC c v sv), .agg #[.int .i64 kind, .int .i64 level, .int .i64 lo, .int .i64 hi, .int .i64 label, .string text], .int .i64 e, .int .i64 d, .agg #[lw, .int .i64 V], .agg #[ln, .int .i64 (V : Int)]] w fun r w' => r = .returned (.bool true) ∧ Below w.heap.size w w' := by
  obtain ⟨aw, cw, bw, rfl, haw, hcw⟩ := hw
  obtain ⟨an, cn, bn, rfl, han, hcn⟩ := hn
  have HSE := hide (fun (w' : World) (hb : Below w.heap.size w w') => ksees_any c v hr level d w' (hat.below hb) hd)
  generalize seesB c level d = sd at HSE
  have HW := hide (fun (w' : World) (hb : Below w.heap.size w w') (q : Nat) (hq : q < L.length) => recs_at (q := q) haw hcw hb hq)
  have HN := hide (fun (w' : World) (hb : Below w.heap.size w w') (q : Nat) (hq : q < L.length) => recs_at (q := q) han hcn hb hq)
  clear hat haw hcw han hcn hr
  have HBX := hide (kept_boxes w (.cells #[.int .i64 c.labels, .slice v.ea c.edges.length v.ec, .slice v.ra c.rules.length v.rc, .slice v.ga c.grants.length v.gc, sv] 29) (.cells #[.int .i64 kind, .int .i64 level, .int .i64 lo, .int .i64 hi, .int .i64 label, .string text] 40) (.cells #[.slice aw L.length cw, .int .i64 V] 56) (.cells #[.slice an L.length cn, .int .i64 (V : Int)] 56))
  unfold caseC cfgCells at *
  go_enter Try.func16, Try.ntmps16
  generalize hW1 : (((w.alloc (.cells #[.int .i64 c.labels, .slice v.ea c.edges.length v.ec, .slice v.ra c.rules.length v.rc, .slice v.ga c.grants.length v.gc, sv] 29)).alloc (.cells #[.int .i64 kind, .int .i64 level, .int .i64 lo, .int .i64 hi, .int .i64 label, .string text] 40)).alloc (.cells #[.slice aw L.length cw, .int .i64 V] 56)).alloc (.cells #[.slice an L.length cn, .int .i64 (V : Int)] 56) = w1 at HBX
  have HW1 := hide hW1
  clear hW1
  obtain ⟨hbB, hsz, x0, x1, x2, x3⟩ := HBX.out
  obtain ⟨q0, q1, q2, q3, q4⟩ := case_rows x0
  obtain ⟨p0, p1, p2, p3, p4, p5⟩ := o_rows x1
  obtain ⟨m0, m1⟩ := book2 x2
  obtain ⟨n0, n1⟩ := book2 x3
  rw [← HW1.out] at q0 q1 q2 q3 q4 p0 p1 p2 p3 p4 p5
  clear x0 x1 x2 x3
  go_wp2_with fail
  rw [HW1.out] at *
  refine (HSE.out w1 hbB).mono ?_
  rintro r w2 ⟨rfl, hb2⟩
  have HB2 := hide (hbB.trans (hb2.mono hbB.size))
  obtain ⟨_, _, x0, x1, x2, x3⟩ := HBX.out
  have y1 := Below.row hb2 x1 (by omega)
  have y2 := Below.row hb2 x2 (by omega)
  have y3 := Below.row hb2 x3 (by omega)
  have HY1 := hide y1
  have HY2 := hide y2
  have HY3 := hide y3
  obtain ⟨r0, r1, r2, r3, r4, r5⟩ := o_rows y1
  obtain ⟨u0, u1⟩ := book2 y2
  obtain ⟨s0, s1⟩ := book2 y3
  clear q0 q1 q2 q3 q4 p0 p1 p2 p3 p4 p5 m0 m1 n0 n1 x0 x1 x2 x3 y1 y2 y3 hb2 hbB hsz HW1 HBX
  have f8 : decide ((8 : Int) < (L.length : Int)) = false := by simp; omega
  go_wp2
  go_loopw [19] (fun i wr => ∃ q : Nat, q ≤ L.length ∧ i = .int .i64 q ∧ Below w2.heap.size w2 wr) (fun i _ => L.length - (intOf i).toNat)
  case atStart => exact ⟨0, Nat.zero_le _, rfl, Below.refl _ _⟩
  case round =>
    obtain ⟨wo, rfl⟩ : ∃ x, x = wr := ⟨_, rfl⟩
    obtain ⟨q, hq, rfl, hbel⟩ := hrel
    have HBO := hide (HB2.out.trans (hbel.mono HB2.out.size))
    obtain ⟨g0, g1, g2, g3, g4, g5⟩ := o_rows (Below.row hbel HY1.out (lt_of_row HY1.out))
    obtain ⟨i0, i1⟩ := book2 (Below.row hbel HY2.out (lt_of_row HY2.out))
    obtain ⟨j0, j1⟩ := book2 (Below.row hbel HY3.out (lt_of_row HY3.out))
    by_cases hlt : q < L.length
    · have hki : (q : Int) < (L.length : Int) := by omega
      obtain ⟨rfl, a0, a1, a2⟩ := HW.out wo HBO.out q hlt
      obtain ⟨rfl, b0, b1, b2⟩ := HN.out wo HBO.out q hlt
      generalize L[q] = z at *
      obtain ⟨z0, z1, z2⟩ := z
      simp only at a0 a1 a2 b0 b1 b2
      go_wp2_with fail
      go_quiet (fail)
      go_wp2
      go_roundw
      case rel => exact ⟨q + 1, by omega, by go_num, bel_drawn hbel _⟩
      case measure => simp [intOf]; omega
    · obtain rfl : q = L.length := by omega
      have hkc : decide ((L.length : Int) < (L.length : Int)) = false := by simp
      go_wp2_with fail
      go_quiet (fail)
      go_wp2
      go_ret
      exact ⟨rfl, bel_drawn HBO.out _⟩
set_option maxRecDepth 100000 in
set_option maxHeartbeats 8000000 in
theorem kkept_A2 (c : Cfg) (v : CfgV) (hr : Right c) (sv : Value) (kind level lo hi label : Int) (text : ByteArray) (e : Int) (d : Nat) (hd : d < c.n) (L : List Rec) (lw ln : Value) (V : Nat) (w : World) (hat : CfgAt w c v) (hw : SeqV 3 recV w lw L) (hn : SeqV 3 recV w ln L) (hL : L.length ≤ 8) (k1 : 1 ≤ kind) (k5 : decide (kind ≤ 4) = false) (k4 : (kind == 4) = false) :
    Calls Try.prog 16 #[.agg (caseC c v sv), .agg #[.int .i64 kind, .int .i64 level, .int .i64 lo, .int .i64 hi, .int .i64 label, .string text], .int .i64 e, .int .i64 d, .agg #[lw, .int .i64 V], .agg #[ln, .int .i64 (V : Int)]] w fun r w' => r = .returned (.bool true) ∧ Below w.heap.size w w' := by
  obtain ⟨aw, cw, bw, rfl, haw, hcw⟩ := hw
  obtain ⟨an, cn, bn, rfl, han, hcn⟩ := hn
  have HSE := hide (fun (w' : World) (hb : Below w.heap.size w w') => ksees_any c v hr level d w' (hat.below hb) hd)
  generalize seesB c level d = sd at HSE
  have HW := hide (fun (w' : World) (hb : Below w.heap.size w w') (q : Nat) (hq : q < L.length) => recs_at (q := q) haw hcw hb hq)
  have HN := hide (fun (w' : World) (hb : Below w.heap.size w w') (q : Nat) (hq : q < L.length) => recs_at (q := q) han hcn hb hq)
  clear hat haw hcw han hcn hr
  have HBX := hide (kept_boxes w (.cells #[.int .i64 c.labels, .slice v.ea c.edges.length v.ec, .slice v.ra c.rules.length v.rc, .slice v.ga c.grants.length v.gc, sv] 29) (.cells #[.int .i64 kind, .int .i64 level, .int .i64 lo, .int .i64 hi, .int .i64 label, .string text] 40) (.cells #[.slice aw L.length cw, .int .i64 V] 56) (.cells #[.slice an L.length cn, .int .i64 (V : Int)] 56))
  unfold caseC cfgCells at *
  go_enter Try.func16, Try.ntmps16
  generalize hW1 : (((w.alloc (.cells #[.int .i64 c.labels, .slice v.ea c.edges.length v.ec, .slice v.ra c.rules.length v.rc, .slice v.ga c.grants.length v.gc, sv] 29)).alloc (.cells #[.int .i64 kind, .int .i64 level, .int .i64 lo, .int .i64 hi, .int .i64 label, .string text] 40)).alloc (.cells #[.slice aw L.length cw, .int .i64 V] 56)).alloc (.cells #[.slice an L.length cn, .int .i64 (V : Int)] 56) = w1 at HBX
  have HW1 := hide hW1
  clear hW1
  obtain ⟨hbB, hsz, x0, x1, x2, x3⟩ := HBX.out
  obtain ⟨q0, q1, q2, q3, q4⟩ := case_rows x0
  obtain ⟨p0, p1, p2, p3, p4, p5⟩ := o_rows x1
  obtain ⟨m0, m1⟩ := book2 x2
  obtain ⟨n0, n1⟩ := book2 x3
  rw [← HW1.out] at q0 q1 q2 q3 q4 p0 p1 p2 p3 p4 p5
  clear x0 x1 x2 x3
  go_wp2_with fail
  rw [HW1.out] at *
  refine (HSE.out w1 hbB).mono ?_
  rintro r w2 ⟨rfl, hb2⟩
  have HB2 := hide (hbB.trans (hb2.mono hbB.size))
  obtain ⟨_, _, x0, x1, x2, x3⟩ := HBX.out
  have y1 := Below.row hb2 x1 (by omega)
  have y2 := Below.row hb2 x2 (by omega)
  have y3 := Below.row hb2 x3 (by omega)
  have HY1 := hide y1
  have HY2 := hide y2
  have HY3 := hide y3
  obtain ⟨r0, r1, r2, r3, r4, r5⟩ := o_rows y1
  obtain ⟨u0, u1⟩ := book2 y2
  obtain ⟨s0, s1⟩ := book2 y3
  clear q0 q1 q2 q3 q4 p0 p1 p2 p3 p4 p5 m0 m1 n0 n1 x0 x1 x2 x3 y1 y2 y3 hb2 hbB hsz HW1 HBX
  have f8 : decide ((8 : Int) < (L.length : Int)) = false := by simp; omega
  go_wp2
  go_loopw [19] (fun i wr => ∃ q : Nat, q ≤ L.length ∧ i = .int .i64 q ∧ Below w2.heap.size w2 wr) (fun i _ => L.length - (intOf i).toNat)
  case atStart => exact ⟨0, Nat.zero_le _, rfl, Below.refl _ _⟩
  case round =>
    obtain ⟨wo, rfl⟩ : ∃ x, x = wr := ⟨_, rfl⟩
    obtain ⟨q, hq, rfl, hbel⟩ := hrel
    have HBO := hide (HB2.out.trans (hbel.mono HB2.out.size))
    obtain ⟨g0, g1, g2, g3, g4, g5⟩ := o_rows (Below.row hbel HY1.out (lt_of_row HY1.out))
    obtain ⟨i0, i1⟩ := book2 (Below.row hbel HY2.out (lt_of_row HY2.out))
    obtain ⟨j0, j1⟩ := book2 (Below.row hbel HY3.out (lt_of_row HY3.out))
    by_cases hlt : q < L.length
    · have hki : (q : Int) < (L.length : Int) := by omega
      obtain ⟨rfl, a0, a1, a2⟩ := HW.out wo HBO.out q hlt
      obtain ⟨rfl, b0, b1, b2⟩ := HN.out wo HBO.out q hlt
      generalize L[q] = z at *
      obtain ⟨z0, z1, z2⟩ := z
      simp only at a0 a1 a2 b0 b1 b2
      go_wp2_with fail
      go_quiet (fail)
      go_wp2
      go_roundw
      case rel => exact ⟨q + 1, by omega, by go_num, bel_drawn hbel _⟩
      case measure => simp [intOf]; omega
    · obtain rfl : q = L.length := by omega
      have hkc : decide ((L.length : Int) < (L.length : Int)) = false := by simp
      go_wp2_with fail
      go_quiet (fail)
      go_wp2
      go_ret
      exact ⟨rfl, bel_drawn HBO.out _⟩
set_option maxRecDepth 100000 in
set_option maxHeartbeats 8000000 in
theorem kkept_A3n (c : Cfg) (v : CfgV) (hr : Right c) (sv : Value) (kind level lo hi label : Int) (text : ByteArray) (e : Int) (d : Nat) (hd : d < c.n) (L : List Rec) (lw ln : Value) (V : Nat) (w : World) (hat : CfgAt w c v) (hw : SeqV 3 recV w lw L) (hn : SeqV 3 recV w ln L) (hL : L.length ≤ 8) (k1 : 1 ≤ kind) (k5 : kind ≤ 4) (he : (e == 0) = false) (k4 : (kind == 4) = false) :
    Calls Try.prog 16 #[.agg (caseC c v sv), .agg #[.int .i64 kind, .int .i64 level, .int .i64 lo, .int .i64 hi, .int .i64 label, .string text], .int .i64 e, .int .i64 d, .agg #[lw, .int .i64 V], .agg #[ln, .int .i64 (V : Int)]] w fun r w' => r = .returned (.bool true) ∧ Below w.heap.size w w' := by
  obtain ⟨aw, cw, bw, rfl, haw, hcw⟩ := hw
  obtain ⟨an, cn, bn, rfl, han, hcn⟩ := hn
  have HSE := hide (fun (w' : World) (hb : Below w.heap.size w w') => ksees_any c v hr level d w' (hat.below hb) hd)
  generalize seesB c level d = sd at HSE
  have HW := hide (fun (w' : World) (hb : Below w.heap.size w w') (q : Nat) (hq : q < L.length) => recs_at (q := q) haw hcw hb hq)
  have HN := hide (fun (w' : World) (hb : Below w.heap.size w w') (q : Nat) (hq : q < L.length) => recs_at (q := q) han hcn hb hq)
  clear hat haw hcw han hcn hr
  have HBX := hide (kept_boxes w (.cells #[.int .i64 c.labels, .slice v.ea c.edges.length v.ec, .slice v.ra c.rules.length v.rc, .slice v.ga c.grants.length v.gc, sv] 29) (.cells #[.int .i64 kind, .int .i64 level, .int .i64 lo, .int .i64 hi, .int .i64 label, .string text] 40) (.cells #[.slice aw L.length cw, .int .i64 V] 56) (.cells #[.slice an L.length cn, .int .i64 (V : Int)] 56))
  unfold caseC cfgCells at *
  go_enter Try.func16, Try.ntmps16
  generalize hW1 : (((w.alloc (.cells #[.int .i64 c.labels, .slice v.ea c.edges.length v.ec, .slice v.ra c.rules.length v.rc, .slice v.ga c.grants.length v.gc, sv] 29)).alloc (.cells #[.int .i64 kind, .int .i64 level, .int .i64 lo, .int .i64 hi, .int .i64 label, .string text] 40)).alloc (.cells #[.slice aw L.length cw, .int .i64 V] 56)).alloc (.cells #[.slice an L.length cn, .int .i64 (V : Int)] 56) = w1 at HBX
  have HW1 := hide hW1
  clear hW1
  obtain ⟨hbB, hsz, x0, x1, x2, x3⟩ := HBX.out
  obtain ⟨q0, q1, q2, q3, q4⟩ := case_rows x0
  obtain ⟨p0, p1, p2, p3, p4, p5⟩ := o_rows x1
  obtain ⟨m0, m1⟩ := book2 x2
  obtain ⟨n0, n1⟩ := book2 x3
  rw [← HW1.out] at q0 q1 q2 q3 q4 p0 p1 p2 p3 p4 p5
  clear x0 x1 x2 x3
  go_wp2_with fail
  rw [HW1.out] at *
  refine (HSE.out w1 hbB).mono ?_
  rintro r w2 ⟨rfl, hb2⟩
  have HB2 := hide (hbB.trans (hb2.mono hbB.size))
  obtain ⟨_, _, x0, x1, x2, x3⟩ := HBX.out
  have y1 := Below.row hb2 x1 (by omega)
  have y2 := Below.row hb2 x2 (by omega)
  have y3 := Below.row hb2 x3 (by omega)
  have HY1 := hide y1
  have HY2 := hide y2
  have HY3 := hide y3
  obtain ⟨r0, r1, r2, r3, r4, r5⟩ := o_rows y1
  obtain ⟨u0, u1⟩ := book2 y2
  obtain ⟨s0, s1⟩ := book2 y3
  clear q0 q1 q2 q3 q4 p0 p1 p2 p3 p4 p5 m0 m1 n0 n1 x0 x1 x2 x3 y1 y2 y3 hb2 hbB hsz HW1 HBX
  have f8 : decide ((8 : Int) < (L.length : Int)) = false := by simp; omega
  go_wp2
  go_loopw [19] (fun i wr => ∃ q : Nat, q ≤ L.length ∧ i = .int .i64 q ∧ Below w2.heap.size w2 wr) (fun i _ => L.length - (intOf i).toNat)
  case atStart => exact ⟨0, Nat.zero_le _, rfl, Below.refl _ _⟩
  case round =>
    obtain ⟨wo, rfl⟩ : ∃ x, x = wr := ⟨_, rfl⟩
    obtain ⟨q, hq, rfl, hbel⟩ := hrel
    have HBO := hide (HB2.out.trans (hbel.mono HB2.out.size))
    obtain ⟨g0, g1, g2, g3, g4, g5⟩ := o_rows (Below.row hbel HY1.out (lt_of_row HY1.out))
    obtain ⟨i0, i1⟩ := book2 (Below.row hbel HY2.out (lt_of_row HY2.out))
    obtain ⟨j0, j1⟩ := book2 (Below.row hbel HY3.out (lt_of_row HY3.out))
    by_cases hlt : q < L.length
    · have hki : (q : Int) < (L.length : Int) := by omega
      obtain ⟨rfl, a0, a1, a2⟩ := HW.out wo HBO.out q hlt
      obtain ⟨rfl, b0, b1, b2⟩ := HN.out wo HBO.out q hlt
      generalize L[q] = z at *
      obtain ⟨z0, z1, z2⟩ := z
      simp only at a0 a1 a2 b0 b1 b2
      go_wp2_with fail
      go_quiet (fail)
      go_wp2
      go_roundw
      case rel => exact ⟨q + 1, by omega, by go_num, bel_drawn hbel _⟩
      case measure => simp [intOf]; omega
    · obtain rfl : q = L.length := by omega
      have hkc : decide ((L.length : Int) < (L.length : Int)) = false := by simp
      go_wp2_with fail
      go_quiet (fail)
      go_wp2
      go_ret
      exact ⟨rfl, bel_drawn HBO.out _⟩
set_option maxRecDepth 100000 in
set_option maxHeartbeats 8000000 in
theorem kkept_A3r (c : Cfg) (v : CfgV) (hr : Right c) (sv : Value) (kind level lo hi label : Int) (text : ByteArray) (e : Int) (d : Nat) (hd : d < c.n) (L : List Rec) (lw ln : Value) (V : Nat) (w : World) (hat : CfgAt w c v) (hw : SeqV 3 recV w lw L) (hn : SeqV 3 recV w ln L) (hL : L.length ≤ 8) (k1 : kind = 4) (he : (e == 0) = false) :
    Calls Try.prog 16 #[.agg (caseC c v sv), .agg #[.int .i64 kind, .int .i64 level, .int .i64 lo, .int .i64 hi, .int .i64 label, .string text], .int .i64 e, .int .i64 d, .agg #[lw, .int .i64 V], .agg #[ln, .int .i64 (V : Int)]] w fun r w' => r = .returned (.bool true) ∧ Below w.heap.size w w' := by
  subst k1
  obtain ⟨aw, cw, bw, rfl, haw, hcw⟩ := hw
  obtain ⟨an, cn, bn, rfl, han, hcn⟩ := hn
  have HSE := hide (fun (w' : World) (hb : Below w.heap.size w w') => ksees_any c v hr label d w' (hat.below hb) hd)
  generalize seesB c label d = sd at HSE
  have HW := hide (fun (w' : World) (hb : Below w.heap.size w w') (q : Nat) (hq : q < L.length) => recs_at (q := q) haw hcw hb hq)
  have HN := hide (fun (w' : World) (hb : Below w.heap.size w w') (q : Nat) (hq : q < L.length) => recs_at (q := q) han hcn hb hq)
  clear hat haw hcw han hcn hr
  have HBX := hide (kept_boxes w (.cells #[.int .i64 c.labels, .slice v.ea c.edges.length v.ec, .slice v.ra c.rules.length v.rc, .slice v.ga c.grants.length v.gc, sv] 29) (.cells #[.int .i64 4, .int .i64 level, .int .i64 lo, .int .i64 hi, .int .i64 label, .string text] 40) (.cells #[.slice aw L.length cw, .int .i64 V] 56) (.cells #[.slice an L.length cn, .int .i64 (V : Int)] 56))
  unfold caseC cfgCells at *
  go_enter Try.func16, Try.ntmps16
  generalize hW1 : (((w.alloc (.cells #[.int .i64 c.labels, .slice v.ea c.edges.length v.ec, .slice v.ra c.rules.length v.rc, .slice v.ga c.grants.length v.gc, sv] 29)).alloc (.cells #[.int .i64 4, .int .i64 level, .int .i64 lo, .int .i64 hi, .int .i64 label, .string text] 40)).alloc (.cells #[.slice aw L.length cw, .int .i64 V] 56)).alloc (.cells #[.slice an L.length cn, .int .i64 (V : Int)] 56) = w1 at HBX
  have HW1 := hide hW1
  clear hW1
  obtain ⟨hbB, hsz, x0, x1, x2, x3⟩ := HBX.out
  obtain ⟨q0, q1, q2, q3, q4⟩ := case_rows x0
  obtain ⟨p0, p1, p2, p3, p4, p5⟩ := o_rows x1
  obtain ⟨m0, m1⟩ := book2 x2
  obtain ⟨n0, n1⟩ := book2 x3
  rw [← HW1.out] at q0 q1 q2 q3 q4 p0 p1 p2 p3 p4 p5
  clear x0 x1 x2 x3
  go_wp2_with fail
  rw [HW1.out] at *
  refine (HSE.out w1 hbB).mono ?_
  rintro r w2 ⟨rfl, hb2⟩
  have HB2 := hide (hbB.trans (hb2.mono hbB.size))
  obtain ⟨_, _, x0, x1, x2, x3⟩ := HBX.out
  have y1 := Below.row hb2 x1 (by omega)
  have y2 := Below.row hb2 x2 (by omega)
  have y3 := Below.row hb2 x3 (by omega)
  have HY1 := hide y1
  have HY2 := hide y2
  have HY3 := hide y3
  obtain ⟨r0, r1, r2, r3, r4, r5⟩ := o_rows y1
  obtain ⟨u0, u1⟩ := book2 y2
  obtain ⟨s0, s1⟩ := book2 y3
  clear q0 q1 q2 q3 q4 p0 p1 p2 p3 p4 p5 m0 m1 n0 n1 x0 x1 x2 x3 y1 y2 y3 hb2 hbB hsz HW1 HBX
  have f8 : decide ((8 : Int) < (L.length : Int)) = false := by simp; omega
  go_wp2
  go_loopw [19] (fun i wr => ∃ q : Nat, q ≤ L.length ∧ i = .int .i64 q ∧ Below w2.heap.size w2 wr) (fun i _ => L.length - (intOf i).toNat)
  case atStart => exact ⟨0, Nat.zero_le _, rfl, Below.refl _ _⟩
  case round =>
    obtain ⟨wo, rfl⟩ : ∃ x, x = wr := ⟨_, rfl⟩
    obtain ⟨q, hq, rfl, hbel⟩ := hrel
    have HBO := hide (HB2.out.trans (hbel.mono HB2.out.size))
    obtain ⟨g0, g1, g2, g3, g4, g5⟩ := o_rows (Below.row hbel HY1.out (lt_of_row HY1.out))
    obtain ⟨i0, i1⟩ := book2 (Below.row hbel HY2.out (lt_of_row HY2.out))
    obtain ⟨j0, j1⟩ := book2 (Below.row hbel HY3.out (lt_of_row HY3.out))
    by_cases hlt : q < L.length
    · have hki : (q : Int) < (L.length : Int) := by omega
      obtain ⟨rfl, a0, a1, a2⟩ := HW.out wo HBO.out q hlt
      obtain ⟨rfl, b0, b1, b2⟩ := HN.out wo HBO.out q hlt
      generalize L[q] = z at *
      obtain ⟨z0, z1, z2⟩ := z
      simp only at a0 a1 a2 b0 b1 b2
      go_wp2_with fail
      go_quiet (fail)
      go_wp2
      go_roundw
      case rel => exact ⟨q + 1, by omega, by go_num, bel_drawn hbel _⟩
      case measure => simp [intOf]; omega
    · obtain rfl : q = L.length := by omega
      have hkc : decide ((L.length : Int) < (L.length : Int)) = false := by simp
      go_wp2_with fail
      go_quiet (fail)
      go_wp2
      go_ret
      exact ⟨rfl, bel_drawn HBO.out _⟩
set_option maxRecDepth 100000 in
set_option maxHeartbeats 8000000 in
theorem kkept_Bt (c : Cfg) (v : CfgV) (hr : Right c) (sv : Value) (kind level lo hi label : Int) (text : ByteArray) (e : Int) (d : Nat) (hd : d < c.n) (L : List Rec) (lw ln : Value) (V : Nat) (w : World) (hat : CfgAt w c v) (hw : SeqV 3 recV w lw L) (hn : SeqV 3 recV w ln L) (hL : L.length ≤ 8) (hV : V ≤ 4000000000000) (hsd : seesB c level d = true) (k1 : 1 ≤ kind) (k5 : kind ≤ 4) (he : e = 0) (k4 : (kind == 4) = false) :
    Calls Try.prog 16 #[.agg (caseC c v sv), .agg #[.int .i64 kind, .int .i64 level, .int .i64 lo, .int .i64 hi, .int .i64 label, .string text], .int .i64 e, .int .i64 d, .agg #[lw, .int .i64 V], .agg #[ln, .int .i64 ((V : Int) + 1)]] w fun r w' => r = .returned (.bool true) ∧ Below w.heap.size w w' := by
  subst he
  obtain ⟨aw, cw, bw, rfl, haw, hcw⟩ := hw
  obtain ⟨an, cn, bn, rfl, han, hcn⟩ := hn
  have HSE := hide (fun (w' : World) (hb : Below w.heap.size w w') => ksees_any c v hr level d w' (hat.below hb) hd)
  rw [hsd] at HSE
  clear hsd
  have HW := hide (fun (w' : World) (hb : Below w.heap.size w w') (q : Nat) (hq : q < L.length) => recs_at (q := q) haw hcw hb hq)
  have HN := hide (fun (w' : World) (hb : Below w.heap.size w w') (q : Nat) (hq : q < L.length) => recs_at (q := q) han hcn hb hq)
  clear hat haw hcw han hcn hr
  have HBX := hide (kept_boxes w (.cells #[.int .i64 c.labels, .slice v.ea c.edges.length v.ec, .slice v.ra c.rules.length v.rc, .slice v.ga c.grants.length v.gc, sv] 29) (.cells #[.int .i64 kind, .int .i64 level, .int .i64 lo, .int .i64 hi, .int .i64 label, .string text] 40) (.cells #[.slice aw L.length cw, .int .i64 V] 56) (.cells #[.slice an L.length cn, .int .i64 ((V : Int) + 1)] 56))
  unfold caseC cfgCells at *
  go_enter Try.func16, Try.ntmps16
  generalize hW1 : (((w.alloc (.cells #[.int .i64 c.labels, .slice v.ea c.edges.length v.ec, .slice v.ra c.rules.length v.rc, .slice v.ga c.grants.length v.gc, sv] 29)).alloc (.cells #[.int .i64 kind, .int .i64 level, .int .i64 lo, .int .i64 hi, .int .i64 label, .string text] 40)).alloc (.cells #[.slice aw L.length cw, .int .i64 V] 56)).alloc (.cells #[.slice an L.length cn, .int .i64 ((V : Int) + 1)] 56) = w1 at HBX
  have HW1 := hide hW1
  clear hW1
  obtain ⟨hbB, hsz, x0, x1, x2, x3⟩ := HBX.out
  obtain ⟨q0, q1, q2, q3, q4⟩ := case_rows x0
  obtain ⟨p0, p1, p2, p3, p4, p5⟩ := o_rows x1
  obtain ⟨m0, m1⟩ := book2 x2
  obtain ⟨n0, n1⟩ := book2 x3
  rw [← HW1.out] at q0 q1 q2 q3 q4 p0 p1 p2 p3 p4 p5
  clear x0 x1 x2 x3
  go_wp2_with fail
  rw [HW1.out] at *
  refine (HSE.out w1 hbB).mono ?_
  rintro r w2 ⟨rfl, hb2⟩
  have HB2 := hide (hbB.trans (hb2.mono hbB.size))
  obtain ⟨_, _, x0, x1, x2, x3⟩ := HBX.out
  have y1 := Below.row hb2 x1 (by omega)
  have y2 := Below.row hb2 x2 (by omega)
  have y3 := Below.row hb2 x3 (by omega)
  have HY1 := hide y1
  have HY2 := hide y2
  have HY3 := hide y3
  obtain ⟨r0, r1, r2, r3, r4, r5⟩ := o_rows y1
  obtain ⟨u0, u1⟩ := book2 y2
  obtain ⟨s0, s1⟩ := book2 y3
  clear q0 q1 q2 q3 q4 p0 p1 p2 p3 p4 p5 m0 m1 n0 n1 x0 x1 x2 x3 y1 y2 y3 hb2 hbB hsz HW1 HBX
  have f8 : decide ((8 : Int) < (L.length : Int)) = false := by simp; omega
  go_wp2
  go_loopw [19] (fun i wr => ∃ q : Nat, q ≤ L.length ∧ i = .int .i64 q ∧ Below w2.heap.size w2 wr) (fun i _ => L.length - (intOf i).toNat)
  case atStart => exact ⟨0, Nat.zero_le _, rfl, Below.refl _ _⟩
  case round =>
    obtain ⟨wo, rfl⟩ : ∃ x, x = wr := ⟨_, rfl⟩
    obtain ⟨q, hq, rfl, hbel⟩ := hrel
    have HBO := hide (HB2.out.trans (hbel.mono HB2.out.size))
    obtain ⟨g0, g1, g2, g3, g4, g5⟩ := o_rows (Below.row hbel HY1.out (lt_of_row HY1.out))
    obtain ⟨i0, i1⟩ := book2 (Below.row hbel HY2.out (lt_of_row HY2.out))
    obtain ⟨j0, j1⟩ := book2 (Below.row hbel HY3.out (lt_of_row HY3.out))
    by_cases hlt : q < L.length
    · have hki : (q : Int) < (L.length : Int) := by omega
      obtain ⟨rfl, a0, a1, a2⟩ := HW.out wo HBO.out q hlt
      obtain ⟨rfl, b0, b1, b2⟩ := HN.out wo HBO.out q hlt
      generalize L[q] = z at *
      obtain ⟨z0, z1, z2⟩ := z
      simp only at a0 a1 a2 b0 b1 b2
      go_wp2_with fail
      go_quiet (fail)
      go_wp2
      go_roundw
      case rel => exact ⟨q + 1, by omega, by go_num, bel_drawn hbel _⟩
      case measure => simp [intOf]; omega
    · obtain rfl : q = L.length := by omega
      have hkc : decide ((L.length : Int) < (L.length : Int)) = false := by simp
      go_wp2_with fail
      go_quiet (fail)
      go_wp2
      go_ret
      exact ⟨rfl, bel_drawn HBO.out _⟩
set_option maxRecDepth 100000 in
set_option maxHeartbeats 8000000 in
theorem kkept_Bf (c : Cfg) (v : CfgV) (hr : Right c) (sv : Value) (kind level lo hi label : Int) (text : ByteArray) (e : Int) (d : Nat) (hd : d < c.n) (L : List Rec) (lw ln : Value) (V : Nat) (w : World) (hat : CfgAt w c v) (hw : SeqV 3 recV w lw L) (hn : SeqV 3 recV w ln L) (hL : L.length ≤ 8) (hsd : seesB c level d = false) (k1 : 1 ≤ kind) (k5 : kind ≤ 4) (he : e = 0) (k4 : (kind == 4) = false) :
    Calls Try.prog 16 #[.agg (caseC c v sv), .agg #[.int .i64 kind, .int .i64 level, .int .i64 lo, .int .i64 hi, .int .i64 label, .string text], .int .i64 e, .int .i64 d, .agg #[lw, .int .i64 V], .agg #[ln, .int .i64 (V : Int)]] w fun r w' => r = .returned (.bool true) ∧ Below w.heap.size w w' := by
  subst he
  obtain ⟨aw, cw, bw, rfl, haw, hcw⟩ := hw
  obtain ⟨an, cn, bn, rfl, han, hcn⟩ := hn
  have HSE := hide (fun (w' : World) (hb : Below w.heap.size w w') => ksees_any c v hr level d w' (hat.below hb) hd)
  rw [hsd] at HSE
  clear hsd
  have HW := hide (fun (w' : World) (hb : Below w.heap.size w w') (q : Nat) (hq : q < L.length) => recs_at (q := q) haw hcw hb hq)
  have HN := hide (fun (w' : World) (hb : Below w.heap.size w w') (q : Nat) (hq : q < L.length) => recs_at (q := q) han hcn hb hq)
  clear hat haw hcw han hcn hr
  have HBX := hide (kept_boxes w (.cells #[.int .i64 c.labels, .slice v.ea c.edges.length v.ec, .slice v.ra c.rules.length v.rc, .slice v.ga c.grants.length v.gc, sv] 29) (.cells #[.int .i64 kind, .int .i64 level, .int .i64 lo, .int .i64 hi, .int .i64 label, .string text] 40) (.cells #[.slice aw L.length cw, .int .i64 V] 56) (.cells #[.slice an L.length cn, .int .i64 (V : Int)] 56))
  unfold caseC cfgCells at *
  go_enter Try.func16, Try.ntmps16
  generalize hW1 : (((w.alloc (.cells #[.int .i64 c.labels, .slice v.ea c.edges.length v.ec, .slice v.ra c.rules.length v.rc, .slice v.ga c.grants.length v.gc, sv] 29)).alloc (.cells #[.int .i64 kind, .int .i64 level, .int .i64 lo, .int .i64 hi, .int .i64 label, .string text] 40)).alloc (.cells #[.slice aw L.length cw, .int .i64 V] 56)).alloc (.cells #[.slice an L.length cn, .int .i64 (V : Int)] 56) = w1 at HBX
  have HW1 := hide hW1
  clear hW1
  obtain ⟨hbB, hsz, x0, x1, x2, x3⟩ := HBX.out
  obtain ⟨q0, q1, q2, q3, q4⟩ := case_rows x0
  obtain ⟨p0, p1, p2, p3, p4, p5⟩ := o_rows x1
  obtain ⟨m0, m1⟩ := book2 x2
  obtain ⟨n0, n1⟩ := book2 x3
  rw [← HW1.out] at q0 q1 q2 q3 q4 p0 p1 p2 p3 p4 p5
  clear x0 x1 x2 x3
  go_wp2_with fail
  rw [HW1.out] at *
  refine (HSE.out w1 hbB).mono ?_
  rintro r w2 ⟨rfl, hb2⟩
  have HB2 := hide (hbB.trans (hb2.mono hbB.size))
  obtain ⟨_, _, x0, x1, x2, x3⟩ := HBX.out
  have y1 := Below.row hb2 x1 (by omega)
  have y2 := Below.row hb2 x2 (by omega)
  have y3 := Below.row hb2 x3 (by omega)
  have HY1 := hide y1
  have HY2 := hide y2
  have HY3 := hide y3
  obtain ⟨r0, r1, r2, r3, r4, r5⟩ := o_rows y1
  obtain ⟨u0, u1⟩ := book2 y2
  obtain ⟨s0, s1⟩ := book2 y3
  clear q0 q1 q2 q3 q4 p0 p1 p2 p3 p4 p5 m0 m1 n0 n1 x0 x1 x2 x3 y1 y2 y3 hb2 hbB hsz HW1 HBX
  have f8 : decide ((8 : Int) < (L.length : Int)) = false := by simp; omega
  go_wp2
  go_loopw [19] (fun i wr => ∃ q : Nat, q ≤ L.length ∧ i = .int .i64 q ∧ Below w2.heap.size w2 wr) (fun i _ => L.length - (intOf i).toNat)
  case atStart => exact ⟨0, Nat.zero_le _, rfl, Below.refl _ _⟩
  case round =>
    obtain ⟨wo, rfl⟩ : ∃ x, x = wr := ⟨_, rfl⟩
    obtain ⟨q, hq, rfl, hbel⟩ := hrel
    have HBO := hide (HB2.out.trans (hbel.mono HB2.out.size))
    obtain ⟨g0, g1, g2, g3, g4, g5⟩ := o_rows (Below.row hbel HY1.out (lt_of_row HY1.out))
    obtain ⟨i0, i1⟩ := book2 (Below.row hbel HY2.out (lt_of_row HY2.out))
    obtain ⟨j0, j1⟩ := book2 (Below.row hbel HY3.out (lt_of_row HY3.out))
    by_cases hlt : q < L.length
    · have hki : (q : Int) < (L.length : Int) := by omega
      obtain ⟨rfl, a0, a1, a2⟩ := HW.out wo HBO.out q hlt
      obtain ⟨rfl, b0, b1, b2⟩ := HN.out wo HBO.out q hlt
      generalize L[q] = z at *
      obtain ⟨z0, z1, z2⟩ := z
      simp only at a0 a1 a2 b0 b1 b2
      go_wp2_with fail
      go_quiet (fail)
      go_wp2
      go_roundw
      case rel => exact ⟨q + 1, by omega, by go_num, bel_drawn hbel _⟩
      case measure => simp [intOf]; omega
    · obtain rfl : q = L.length := by omega
      have hkc : decide ((L.length : Int) < (L.length : Int)) = false := by simp
      go_wp2_with fail
      go_quiet (fail)
      go_wp2
      go_ret
      exact ⟨rfl, bel_drawn HBO.out _⟩
set_option maxRecDepth 100000 in
set_option maxHeartbeats 8000000 in
theorem kkept_R1 (c : Cfg) (v : CfgV) (hr : Right c) (sv : Value) (kind level lo hi label : Int) (text : ByteArray) (e : Int) (d : Nat) (hd : d < c.n) (L : List Rec) (lw ln : Value) (V : Nat) (w : World) (hat : CfgAt w c v) (hw : SeqV 3 recV w lw L) (hn : SeqV 3 recV w ln (L ++ [⟨level, hi - lo, (V : Int) + 1⟩])) (hL : L.length ≤ 7) (hV : V ≤ 4000000000000) (hsd : seesB c label d = true) (k1 : kind = 4) (he : e = 0) (hld : label = (d : Int)) (hlo : 0 ≤ lo) (hhi : lo < hi) (hhi2 : hi ≤ 1200) :
    Calls Try.prog 16 #[.agg (caseC c v sv), .agg #[.int .i64 kind, .int .i64 level, .int .i64 lo, .int .i64 hi, .int .i64 label, .string text], .int .i64 e, .int .i64 d, .agg #[lw, .int .i64 V], .agg #[ln, .int .i64 ((V : Int) + 1)]] w fun r w' => r = .returned (.bool true) ∧ Below w.heap.size w w' := by
  subst k1
  subst he
  subst hld
  obtain ⟨aw, cw, bw, rfl, haw, hcw⟩ := hw
  obtain ⟨an, cn, bn, rfl, han, hcn⟩ := hn
  have HSE := hide (fun (w' : World) (hb : Below w.heap.size w w') => ksees_any c v hr (d : Int) d w' (hat.below hb) hd)
  rw [hsd] at HSE
  clear hsd
  have HW := hide (fun (w' : World) (hb : Below w.heap.size w w') (q : Nat) (hq : q < L.length) => recs_at (q := q) haw hcw hb hq)
  generalize hM : L ++ [⟨level, hi - lo, (V : Int) + 1⟩] = M at *
  have HML := hide (show M.length = L.length + 1 by rw [← hM, List.length_append]; rfl)
  have HMQ := hide (show ∀ (q : Nat) (hq : q < L.length) (hq2 : q < M.length), M[q] = L[q] by intro q hq hq2; subst hM; rw [List.getElem_append_left hq])
  have HME := hide (show ∀ (hq2 : L.length < M.length), M[L.length] = ⟨level, hi - lo, (V : Int) + 1⟩ by intro hq2; subst hM; rw [List.getElem_append_right (Nat.le_refl _)]; simp)
  have HN := hide (fun (w' : World) (hb : Below w.heap.size w w') (q : Nat) (hq : q < M.length) => recs_at (q := q) han hcn hb hq)
  clear hM
  clear hat haw hcw han hcn hr
  have HBX := hide (kept_boxes w (.cells #[.int .i64 c.labels, .slice v.ea c.edges.length v.ec, .slice v.ra c.rules.length v.rc, .slice v.ga c.grants.length v.gc, sv] 29) (.cells #[.int .i64 4, .int .i64 level, .int .i64 lo, .int .i64 hi, .int .i64 (d : Int), .string text] 40) (.cells #[.slice aw L.length cw, .int .i64 V] 56) (.cells #[.slice an M.length cn, .int .i64 ((V : Int) + 1)] 56))
  unfold caseC cfgCells at *
  go_enter Try.func16, Try.ntmps16
  generalize hW1 : (((w.alloc (.cells #[.int .i64 c.labels, .slice v.ea c.edges.length v.ec, .slice v.ra c.rules.length v.rc, .slice v.ga c.grants.length v.gc, sv] 29)).alloc (.cells #[.int .i64 4, .int .i64 level, .int .i64 lo, .int .i64 hi, .int .i64 (d : Int), .string text] 40)).alloc (.cells #[.slice aw L.length cw, .int .i64 V] 56)).alloc (.cells #[.slice an M.length cn, .int .i64 ((V : Int) + 1)] 56) = w1 at HBX
  have HW1 := hide hW1
  clear hW1
  obtain ⟨hbB, hsz, x0, x1, x2, x3⟩ := HBX.out
  obtain ⟨q0, q1, q2, q3, q4⟩ := case_rows x0
  obtain ⟨p0, p1, p2, p3, p4, p5⟩ := o_rows x1
  obtain ⟨m0, m1⟩ := book2 x2
  obtain ⟨n0, n1⟩ := book2 x3
  rw [← HW1.out] at q0 q1 q2 q3 q4 p0 p1 p2 p3 p4 p5
  clear x0 x1 x2 x3
  go_wp2_with fail
  rw [HW1.out] at *
  refine (HSE.out w1 hbB).mono ?_
  rintro r w2 ⟨rfl, hb2⟩
  have HB2 := hide (hbB.trans (hb2.mono hbB.size))
  obtain ⟨_, _, x0, x1, x2, x3⟩ := HBX.out
  have y1 := Below.row hb2 x1 (by omega)
  have y2 := Below.row hb2 x2 (by omega)
  have y3 := Below.row hb2 x3 (by omega)
  have HY1 := hide y1
  have HY2 := hide y2
  have HY3 := hide y3
  obtain ⟨r0, r1, r2, r3, r4, r5⟩ := o_rows y1
  obtain ⟨u0, u1⟩ := book2 y2
  obtain ⟨s0, s1⟩ := book2 y3
  clear q0 q1 q2 q3 q4 p0 p1 p2 p3 p4 p5 m0 m1 n0 n1 x0 x1 x2 x3 y1 y2 y3 hb2 hbB hsz HW1 HBX
  have f8 : decide ((8 : Int) < (L.length : Int) + 1) = false := by simp; omega
  have fl : ((M.length : Int) == (L.length : Int) + 1) = true := by rw [HML.out]; simp
  go_wp2
  rotate_left 1
  · (exfalso; have := HML.out; omega)
  go_loopw [19] (fun i wr => ∃ q : Nat, q ≤ L.length ∧ i = .int .i64 q ∧ Below w2.heap.size w2 wr) (fun i _ => L.length - (intOf i).toNat)
  case atStart => exact ⟨0, Nat.zero_le _, rfl, Below.refl _ _⟩
  case round =>
    obtain ⟨wo, rfl⟩ : ∃ x, x = wr := ⟨_, rfl⟩
    obtain ⟨q, hq, rfl, hbel⟩ := hrel
    have HBO := hide (HB2.out.trans (hbel.mono HB2.out.size))
    obtain ⟨g0, g1, g2, g3, g4, g5⟩ := o_rows (Below.row hbel HY1.out (lt_of_row HY1.out))
    obtain ⟨i0, i1⟩ := book2 (Below.row hbel HY2.out (lt_of_row HY2.out))
    obtain ⟨j0, j1⟩ := book2 (Below.row hbel HY3.out (lt_of_row HY3.out))
    by_cases hlt : q < L.length
    · have hki : (q : Int) < (L.length : Int) := by omega
      obtain ⟨rfl, a0, a1, a2⟩ := HW.out wo HBO.out q hlt
      have hq2 : q < M.length := by have := HML.out; omega
      have hqi2 : (q : Int) < (M.length : Int) := by omega
      obtain ⟨rfl, b0, b1, b2⟩ := HN.out wo HBO.out q hq2
      rw [HMQ.out q hlt hq2] at b0 b1 b2
      generalize L[q] = z at *
      obtain ⟨z0, z1, z2⟩ := z
      simp only at a0 a1 a2 b0 b1 b2
      go_wp2_with fail
      go_quiet (fail)
      go_wp2
      go_roundw
      case rel => exact ⟨q + 1, by omega, by go_num, bel_drawn hbel _⟩
      case measure => simp [intOf]; omega
    · obtain rfl : q = L.length := by omega
      have hkc : decide ((L.length : Int) < (L.length : Int)) = false := by simp
      have hq2 : L.length < M.length := by have := HML.out; omega
      have hqi2 : (L.length : Int) < (M.length : Int) := by omega
      obtain ⟨rfl, b0, b1, b2⟩ := HN.out wo HBO.out L.length hq2
      rw [HME.out hq2] at b0 b1 b2
      simp only at b0 b1 b2
      go_wp2_with fail
      go_quiet (fail)
      go_wp2
      go_ret
      exact ⟨rfl, bel_drawn HBO.out _⟩
set_option maxRecDepth 100000 in
set_option maxHeartbeats 8000000 in
theorem kkept_Rt (c : Cfg) (v : CfgV) (hr : Right c) (sv : Value) (kind level lo hi label : Int) (text : ByteArray) (e : Int) (d : Nat) (hd : d < c.n) (L : List Rec) (lw ln : Value) (V : Nat) (w : World) (hat : CfgAt w c v) (hw : SeqV 3 recV w lw L) (hn : SeqV 3 recV w ln L) (hL : L.length ≤ 8) (hV : V ≤ 4000000000000) (hsd : seesB c label d = true) (k1 : kind = 4) (he : e = 0) (hld : (label == (d : Int)) = false) :
    Calls Try.prog 16 #[.agg (caseC c v sv), .agg #[.int .i64 kind, .int .i64 level, .int .i64 lo, .int .i64 hi, .int .i64 label, .string text], .int .i64 e, .int .i64 d, .agg #[lw, .int .i64 V], .agg #[ln, .int .i64 ((V : Int) + 1)]] w fun r w' => r = .returned (.bool true) ∧ Below w.heap.size w w' := by
  subst k1
  subst he
  obtain ⟨aw, cw, bw, rfl, haw, hcw⟩ := hw
  obtain ⟨an, cn, bn, rfl, han, hcn⟩ := hn
  have HSE := hide (fun (w' : World) (hb : Below w.heap.size w w') => ksees_any c v hr label d w' (hat.below hb) hd)
  rw [hsd] at HSE
  clear hsd
  have HW := hide (fun (w' : World) (hb : Below w.heap.size w w') (q : Nat) (hq : q < L.length) => recs_at (q := q) haw hcw hb hq)
  have HN := hide (fun (w' : World) (hb : Below w.heap.size w w') (q : Nat) (hq : q < L.length) => recs_at (q := q) han hcn hb hq)
  clear hat haw hcw han hcn hr
  have HBX := hide (kept_boxes w (.cells #[.int .i64 c.labels, .slice v.ea c.edges.length v.ec, .slice v.ra c.rules.length v.rc, .slice v.ga c.grants.length v.gc, sv] 29) (.cells #[.int .i64 4, .int .i64 level, .int .i64 lo, .int .i64 hi, .int .i64 label, .string text] 40) (.cells #[.slice aw L.length cw, .int .i64 V] 56) (.cells #[.slice an L.length cn, .int .i64 ((V : Int) + 1)] 56))
  unfold caseC cfgCells at *
  go_enter Try.func16, Try.ntmps16
  generalize hW1 : (((w.alloc (.cells #[.int .i64 c.labels, .slice v.ea c.edges.length v.ec, .slice v.ra c.rules.length v.rc, .slice v.ga c.grants.length v.gc, sv] 29)).alloc (.cells #[.int .i64 4, .int .i64 level, .int .i64 lo, .int .i64 hi, .int .i64 label, .string text] 40)).alloc (.cells #[.slice aw L.length cw, .int .i64 V] 56)).alloc (.cells #[.slice an L.length cn, .int .i64 ((V : Int) + 1)] 56) = w1 at HBX
  have HW1 := hide hW1
  clear hW1
  obtain ⟨hbB, hsz, x0, x1, x2, x3⟩ := HBX.out
  obtain ⟨q0, q1, q2, q3, q4⟩ := case_rows x0
  obtain ⟨p0, p1, p2, p3, p4, p5⟩ := o_rows x1
  obtain ⟨m0, m1⟩ := book2 x2
  obtain ⟨n0, n1⟩ := book2 x3
  rw [← HW1.out] at q0 q1 q2 q3 q4 p0 p1 p2 p3 p4 p5
  clear x0 x1 x2 x3
  go_wp2_with fail
  rw [HW1.out] at *
  refine (HSE.out w1 hbB).mono ?_
  rintro r w2 ⟨rfl, hb2⟩
  have HB2 := hide (hbB.trans (hb2.mono hbB.size))
  obtain ⟨_, _, x0, x1, x2, x3⟩ := HBX.out
  have y1 := Below.row hb2 x1 (by omega)
  have y2 := Below.row hb2 x2 (by omega)
  have y3 := Below.row hb2 x3 (by omega)
  have HY1 := hide y1
  have HY2 := hide y2
  have HY3 := hide y3
  obtain ⟨r0, r1, r2, r3, r4, r5⟩ := o_rows y1
  obtain ⟨u0, u1⟩ := book2 y2
  obtain ⟨s0, s1⟩ := book2 y3
  clear q0 q1 q2 q3 q4 p0 p1 p2 p3 p4 p5 m0 m1 n0 n1 x0 x1 x2 x3 y1 y2 y3 hb2 hbB hsz HW1 HBX
  have f8 : decide ((8 : Int) < (L.length : Int)) = false := by simp; omega
  go_wp2
  go_loopw [19] (fun i wr => ∃ q : Nat, q ≤ L.length ∧ i = .int .i64 q ∧ Below w2.heap.size w2 wr) (fun i _ => L.length - (intOf i).toNat)
  case atStart => exact ⟨0, Nat.zero_le _, rfl, Below.refl _ _⟩
  case round =>
    obtain ⟨wo, rfl⟩ : ∃ x, x = wr := ⟨_, rfl⟩
    obtain ⟨q, hq, rfl, hbel⟩ := hrel
    have HBO := hide (HB2.out.trans (hbel.mono HB2.out.size))
    obtain ⟨g0, g1, g2, g3, g4, g5⟩ := o_rows (Below.row hbel HY1.out (lt_of_row HY1.out))
    obtain ⟨i0, i1⟩ := book2 (Below.row hbel HY2.out (lt_of_row HY2.out))
    obtain ⟨j0, j1⟩ := book2 (Below.row hbel HY3.out (lt_of_row HY3.out))
    by_cases hlt : q < L.length
    · have hki : (q : Int) < (L.length : Int) := by omega
      obtain ⟨rfl, a0, a1, a2⟩ := HW.out wo HBO.out q hlt
      obtain ⟨rfl, b0, b1, b2⟩ := HN.out wo HBO.out q hlt
      generalize L[q] = z at *
      obtain ⟨z0, z1, z2⟩ := z
      simp only at a0 a1 a2 b0 b1 b2
      go_wp2_with fail
      go_quiet (fail)
      go_wp2
      go_roundw
      case rel => exact ⟨q + 1, by omega, by go_num, bel_drawn hbel _⟩
      case measure => simp [intOf]; omega
    · obtain rfl : q = L.length := by omega
      have hkc : decide ((L.length : Int) < (L.length : Int)) = false := by simp
      go_wp2_with fail
      go_quiet (fail)
      go_wp2
      go_ret
      exact ⟨rfl, bel_drawn HBO.out _⟩
set_option maxRecDepth 100000 in
set_option maxHeartbeats 8000000 in
theorem kkept_Rf (c : Cfg) (v : CfgV) (hr : Right c) (sv : Value) (kind level lo hi label : Int) (text : ByteArray) (e : Int) (d : Nat) (hd : d < c.n) (L : List Rec) (lw ln : Value) (V : Nat) (w : World) (hat : CfgAt w c v) (hw : SeqV 3 recV w lw L) (hn : SeqV 3 recV w ln L) (hL : L.length ≤ 8) (hsd : seesB c label d = false) (k1 : kind = 4) (he : e = 0) (hld : (label == (d : Int)) = false) :
    Calls Try.prog 16 #[.agg (caseC c v sv), .agg #[.int .i64 kind, .int .i64 level, .int .i64 lo, .int .i64 hi, .int .i64 label, .string text], .int .i64 e, .int .i64 d, .agg #[lw, .int .i64 V], .agg #[ln, .int .i64 (V : Int)]] w fun r w' => r = .returned (.bool true) ∧ Below w.heap.size w w' := by
  subst k1
  subst he
  obtain ⟨aw, cw, bw, rfl, haw, hcw⟩ := hw
  obtain ⟨an, cn, bn, rfl, han, hcn⟩ := hn
  have HSE := hide (fun (w' : World) (hb : Below w.heap.size w w') => ksees_any c v hr label d w' (hat.below hb) hd)
  rw [hsd] at HSE
  clear hsd
  have HW := hide (fun (w' : World) (hb : Below w.heap.size w w') (q : Nat) (hq : q < L.length) => recs_at (q := q) haw hcw hb hq)
  have HN := hide (fun (w' : World) (hb : Below w.heap.size w w') (q : Nat) (hq : q < L.length) => recs_at (q := q) han hcn hb hq)
  clear hat haw hcw han hcn hr
  have HBX := hide (kept_boxes w (.cells #[.int .i64 c.labels, .slice v.ea c.edges.length v.ec, .slice v.ra c.rules.length v.rc, .slice v.ga c.grants.length v.gc, sv] 29) (.cells #[.int .i64 4, .int .i64 level, .int .i64 lo, .int .i64 hi, .int .i64 label, .string text] 40) (.cells #[.slice aw L.length cw, .int .i64 V] 56) (.cells #[.slice an L.length cn, .int .i64 (V : Int)] 56))
  unfold caseC cfgCells at *
  go_enter Try.func16, Try.ntmps16
  generalize hW1 : (((w.alloc (.cells #[.int .i64 c.labels, .slice v.ea c.edges.length v.ec, .slice v.ra c.rules.length v.rc, .slice v.ga c.grants.length v.gc, sv] 29)).alloc (.cells #[.int .i64 4, .int .i64 level, .int .i64 lo, .int .i64 hi, .int .i64 label, .string text] 40)).alloc (.cells #[.slice aw L.length cw, .int .i64 V] 56)).alloc (.cells #[.slice an L.length cn, .int .i64 (V : Int)] 56) = w1 at HBX
  have HW1 := hide hW1
  clear hW1
  obtain ⟨hbB, hsz, x0, x1, x2, x3⟩ := HBX.out
  obtain ⟨q0, q1, q2, q3, q4⟩ := case_rows x0
  obtain ⟨p0, p1, p2, p3, p4, p5⟩ := o_rows x1
  obtain ⟨m0, m1⟩ := book2 x2
  obtain ⟨n0, n1⟩ := book2 x3
  rw [← HW1.out] at q0 q1 q2 q3 q4 p0 p1 p2 p3 p4 p5
  clear x0 x1 x2 x3
  go_wp2_with fail
  rw [HW1.out] at *
  refine (HSE.out w1 hbB).mono ?_
  rintro r w2 ⟨rfl, hb2⟩
  have HB2 := hide (hbB.trans (hb2.mono hbB.size))
  obtain ⟨_, _, x0, x1, x2, x3⟩ := HBX.out
  have y1 := Below.row hb2 x1 (by omega)
  have y2 := Below.row hb2 x2 (by omega)
  have y3 := Below.row hb2 x3 (by omega)
  have HY1 := hide y1
  have HY2 := hide y2
  have HY3 := hide y3
  obtain ⟨r0, r1, r2, r3, r4, r5⟩ := o_rows y1
  obtain ⟨u0, u1⟩ := book2 y2
  obtain ⟨s0, s1⟩ := book2 y3
  clear q0 q1 q2 q3 q4 p0 p1 p2 p3 p4 p5 m0 m1 n0 n1 x0 x1 x2 x3 y1 y2 y3 hb2 hbB hsz HW1 HBX
  have f8 : decide ((8 : Int) < (L.length : Int)) = false := by simp; omega
  go_wp2
  go_loopw [19] (fun i wr => ∃ q : Nat, q ≤ L.length ∧ i = .int .i64 q ∧ Below w2.heap.size w2 wr) (fun i _ => L.length - (intOf i).toNat)
  case atStart => exact ⟨0, Nat.zero_le _, rfl, Below.refl _ _⟩
  case round =>
    obtain ⟨wo, rfl⟩ : ∃ x, x = wr := ⟨_, rfl⟩
    obtain ⟨q, hq, rfl, hbel⟩ := hrel
    have HBO := hide (HB2.out.trans (hbel.mono HB2.out.size))
    obtain ⟨g0, g1, g2, g3, g4, g5⟩ := o_rows (Below.row hbel HY1.out (lt_of_row HY1.out))
    obtain ⟨i0, i1⟩ := book2 (Below.row hbel HY2.out (lt_of_row HY2.out))
    obtain ⟨j0, j1⟩ := book2 (Below.row hbel HY3.out (lt_of_row HY3.out))
    by_cases hlt : q < L.length
    · have hki : (q : Int) < (L.length : Int) := by omega
      obtain ⟨rfl, a0, a1, a2⟩ := HW.out wo HBO.out q hlt
      obtain ⟨rfl, b0, b1, b2⟩ := HN.out wo HBO.out q hlt
      generalize L[q] = z at *
      obtain ⟨z0, z1, z2⟩ := z
      simp only at a0 a1 a2 b0 b1 b2
      go_wp2_with fail
      go_quiet (fail)
      go_wp2
      go_roundw
      case rel => exact ⟨q + 1, by omega, by go_num, bel_drawn hbel _⟩
      case measure => simp [intOf]; omega
    · obtain rfl : q = L.length := by omega
      have hkc : decide ((L.length : Int) < (L.length : Int)) = false := by simp
      go_wp2_with fail
      go_quiet (fail)
      go_wp2
      go_ret
      exact ⟨rfl, bel_drawn HBO.out _⟩
end Go.Proofs.Ytgigkiocdiffjab
