/- veilkeep.leaks. -/
import Derived.Test.YtgigkiocdiffjabUKsees
import Derived.Test.YtgigkiocdiffjabUKopen
namespace Go.Proofs.Ytgigkiocdiffjab
open Go.RowKit Veil
def leakB (c : Cfg) (o : KS) (z : Nat) : Bool := (o.kind == 4) && okL c.labels o.level && okL c.labels o.label && !c.le o.level z && c.le o.label z
theorem two_boxes (w : World) (a b : Obj) : Below w.heap.size w ((w.alloc a).alloc b) ∧ ((w.alloc a).alloc b).heap.size = w.heap.size + 2 ∧ ((w.alloc a).alloc b).heap[w.heap.size]? = some a ∧ ((w.alloc a).alloc b).heap[w.heap.size + 1]? = some b := by
  have b1 := below_box w a
  have b2 := below_box (w.alloc a) b
  have s1 : (w.alloc a).heap.size = w.heap.size + 1 := by simp
  have n1 := Go.heap_alloc_new w a
  have n2 := Go.heap_alloc_new (w.alloc a) b
  rw [s1] at n2 b2
  exact ⟨b1.trans (b2.mono (by omega)), by simp, (b2.block _ (by omega)).trans n1, n2⟩
theorem rows5 {w : World} {g : Nat} {a b d e f : Value} {ty : TypeId} (h : w.heap[g]? = some (.cells #[a, b, d, e, f] ty (0, 0))) : w.cell? ⟨g, 0, none⟩ = some a ∧ w.cell? ⟨g, 1, none⟩ = some b ∧ w.cell? ⟨g, 2, none⟩ = some d ∧ w.cell? ⟨g, 3, none⟩ = some e ∧ w.cell? ⟨g, 4, none⟩ = some f :=
  ⟨(cell_of_row _ _ _ _ _ _ h).trans rfl, (cell_of_row _ _ _ _ _ _ h).trans rfl, (cell_of_row _ _ _ _ _ _ h).trans rfl, (cell_of_row _ _ _ _ _ _ h).trans rfl, (cell_of_row _ _ _ _ _ _ h).trans rfl⟩
theorem rows6 {w : World} {g : Nat} {a b d e f i : Value} {ty : TypeId} (h : w.heap[g]? = some (.cells #[a, b, d, e, f, i] ty (0, 0))) : w.cell? ⟨g, 0, none⟩ = some a ∧ w.cell? ⟨g, 1, none⟩ = some b ∧ w.cell? ⟨g, 2, none⟩ = some d ∧ w.cell? ⟨g, 3, none⟩ = some e ∧ w.cell? ⟨g, 4, none⟩ = some f ∧ w.cell? ⟨g, 5, none⟩ = some i :=
  ⟨(cell_of_row _ _ _ _ _ _ h).trans rfl, (cell_of_row _ _ _ _ _ _ h).trans rfl, (cell_of_row _ _ _ _ _ _ h).trans rfl, (cell_of_row _ _ _ _ _ _ h).trans rfl, (cell_of_row _ _ _ _ _ _ h).trans rfl, (cell_of_row _ _ _ _ _ _ h).trans rfl⟩
set_option maxRecDepth 100000 in
set_option maxHeartbeats 4000000 in
theorem kleaks_not (c : Cfg) (v : CfgV) (sv : Value) (kind : Int) (hk : ¬ kind = 4) (level lo hi label : Int) (text : ByteArray) (z : Nat) (w : World) :
    Calls Try.prog 17 #[.agg (caseC c v sv), .agg #[.int .i64 kind, .int .i64 level, .int .i64 lo, .int .i64 hi, .int .i64 label, .string text], .int .i64 z] w fun e w' => e = .returned (.bool false) ∧ Below w.heap.size w w' := by
  have HBX := hide (two_boxes w (.cells #[.int .i64 c.labels, .slice v.ea c.edges.length v.ec, .slice v.ra c.rules.length v.rc, .slice v.ga c.grants.length v.gc, sv] 29) (.cells #[.int .i64 kind, .int .i64 level, .int .i64 lo, .int .i64 hi, .int .i64 label, .string text] 40))
  unfold caseC at *
  obtain ⟨hb0, hs0, x0, y0⟩ := HBX.out
  have HX0 := hide x0
  have HY0 := hide y0
  obtain ⟨q0, q1, q2, q3, q4⟩ := rows5 x0
  obtain ⟨p0, p1, p2, p3, p4, p5⟩ := rows6 y0
  clear x0 y0
  go_enter Try.func17, Try.ntmps17
  go_wp2
  go_ret
  exact ⟨rfl, hb0⟩
set_option maxRecDepth 100000 in
set_option maxHeartbeats 4000000 in
theorem kleaks_l (c : Cfg) (v : CfgV) (sv : Value) (level lo hi label : Int) (text : ByteArray) (z : Nat) (w : World) (hlevel : okL c.labels level = false) :
    Calls Try.prog 17 #[.agg (caseC c v sv), .agg #[.int .i64 4, .int .i64 level, .int .i64 lo, .int .i64 hi, .int .i64 label, .string text], .int .i64 z] w fun e w' => e = .returned (.bool false) ∧ Below w.heap.size w w' := by
  have HBX := hide (two_boxes w (.cells #[.int .i64 c.labels, .slice v.ea c.edges.length v.ec, .slice v.ra c.rules.length v.rc, .slice v.ga c.grants.length v.gc, sv] 29) (.cells #[.int .i64 4, .int .i64 level, .int .i64 lo, .int .i64 hi, .int .i64 label, .string text] 40))
  have HC0 := hide (fun (w' : World) (_ : Below w.heap.size w w') => klabel_any c v level w')
  rw [hlevel] at HC0
  unfold caseC cfgCells at *
  obtain ⟨hb0, hs0, x0, y0⟩ := HBX.out
  have HX0 := hide x0
  have HY0 := hide y0
  obtain ⟨q0, q1, q2, q3, q4⟩ := rows5 x0
  obtain ⟨p0, p1, p2, p3, p4, p5⟩ := rows6 y0
  clear x0 y0
  go_enter Try.func17, Try.ntmps17
  go_wp2_with fail
  generalize hW : (w.alloc (.cells #[.int .i64 c.labels, .slice v.ea c.edges.length v.ec, .slice v.ra c.rules.length v.rc, .slice v.ga c.grants.length v.gc, sv] 29)).alloc (.cells #[.int .i64 4, .int .i64 level, .int .i64 lo, .int .i64 hi, .int .i64 label, .string text] 40) = w0 at *
  clear hW
  refine (HC0.out _ hb0).mono ?_
  rintro e w1 ⟨rfl, g1⟩
  have hb1 := hb0.trans (g1.mono hb0.size)
  have HX1 := hide (Below.row g1 HX0.out (lt_of_row HX0.out))
  have HY1 := hide (Below.row g1 HY0.out (lt_of_row HY0.out))
  clear q0 q1 q2 q3 q4 p0 p1 p2 p3 p4 p5 g1
  obtain ⟨q0, q1, q2, q3, q4⟩ := rows5 HX1.out
  obtain ⟨p0, p1, p2, p3, p4, p5⟩ := rows6 HY1.out
  go_wp2
  go_ret
  exact ⟨rfl, hb1⟩
set_option maxRecDepth 100000 in
set_option maxHeartbeats 4000000 in
theorem kleaks_b (c : Cfg) (v : CfgV) (sv : Value) (level lo hi label : Int) (text : ByteArray) (z : Nat) (w : World) (hlevel : okL c.labels level = true) (hlabel : okL c.labels label = false) :
    Calls Try.prog 17 #[.agg (caseC c v sv), .agg #[.int .i64 4, .int .i64 level, .int .i64 lo, .int .i64 hi, .int .i64 label, .string text], .int .i64 z] w fun e w' => e = .returned (.bool false) ∧ Below w.heap.size w w' := by
  have HBX := hide (two_boxes w (.cells #[.int .i64 c.labels, .slice v.ea c.edges.length v.ec, .slice v.ra c.rules.length v.rc, .slice v.ga c.grants.length v.gc, sv] 29) (.cells #[.int .i64 4, .int .i64 level, .int .i64 lo, .int .i64 hi, .int .i64 label, .string text] 40))
  have HC0 := hide (fun (w' : World) (_ : Below w.heap.size w w') => klabel_any c v level w')
  rw [hlevel] at HC0
  have HC1 := hide (fun (w' : World) (_ : Below w.heap.size w w') => klabel_any c v label w')
  rw [hlabel] at HC1
  unfold caseC cfgCells at *
  obtain ⟨hb0, hs0, x0, y0⟩ := HBX.out
  have HX0 := hide x0
  have HY0 := hide y0
  obtain ⟨q0, q1, q2, q3, q4⟩ := rows5 x0
  obtain ⟨p0, p1, p2, p3, p4, p5⟩ := rows6 y0
  clear x0 y0
  go_enter Try.func17, Try.ntmps17
  go_wp2_with fail
  generalize hW : (w.alloc (.cells #[.int .i64 c.labels, .slice v.ea c.edges.length v.ec, .slice v.ra c.rules.length v.rc, .slice v.ga c.grants.length v.gc, sv] 29)).alloc (.cells #[.int .i64 4, .int .i64 level, .int .i64 lo, .int .i64 hi, .int .i64 label, .string text] 40) = w0 at *
  clear hW
  refine (HC0.out _ hb0).mono ?_
  rintro e w1 ⟨rfl, g1⟩
  have hb1 := hb0.trans (g1.mono hb0.size)
  have HX1 := hide (Below.row g1 HX0.out (lt_of_row HX0.out))
  have HY1 := hide (Below.row g1 HY0.out (lt_of_row HY0.out))
  clear q0 q1 q2 q3 q4 p0 p1 p2 p3 p4 p5 g1
  obtain ⟨q0, q1, q2, q3, q4⟩ := rows5 HX1.out
  obtain ⟨p0, p1, p2, p3, p4, p5⟩ := rows6 HY1.out
  go_wp2_with fail
  refine (HC1.out _ hb1).mono ?_
  rintro e w2 ⟨rfl, g2⟩
  have hb2 := hb1.trans (g2.mono hb1.size)
  have HX2 := hide (Below.row g2 HX1.out (lt_of_row HX1.out))
  have HY2 := hide (Below.row g2 HY1.out (lt_of_row HY1.out))
  clear q0 q1 q2 q3 q4 p0 p1 p2 p3 p4 p5 g2
  obtain ⟨q0, q1, q2, q3, q4⟩ := rows5 HX2.out
  obtain ⟨p0, p1, p2, p3, p4, p5⟩ := rows6 HY2.out
  go_wp2
  go_ret
  exact ⟨rfl, hb2⟩
set_option maxRecDepth 100000 in
set_option maxHeartbeats 4000000 in
theorem kleaks_x (c : Cfg) (v : CfgV) (hr : Right c) (sv : Value) (level lo hi label : Int) (text : ByteArray) (z : Nat) (w : World) (hat : CfgAt w c v) (hz : z < c.n) (lv lb : Nat) (hlv : level = (lv : Int)) (hlb : label = (lb : Int)) (hlvn : lv < c.n) (hlbn : lb < c.n) (hlevel : okL c.labels level = true) (hlabel : okL c.labels label = true) :
    Calls Try.prog 17 #[.agg (caseC c v sv), .agg #[.int .i64 4, .int .i64 level, .int .i64 lo, .int .i64 hi, .int .i64 label, .string text], .int .i64 z] w fun e w' => e = .returned (.bool (!c.le lv z && c.le lb z)) ∧ Below w.heap.size w w' := by
  subst hlv hlb
  have HBX := hide (two_boxes w (.cells #[.int .i64 c.labels, .slice v.ea c.edges.length v.ec, .slice v.ra c.rules.length v.rc, .slice v.ga c.grants.length v.gc, sv] 29) (.cells #[.int .i64 4, .int .i64 lv, .int .i64 lo, .int .i64 hi, .int .i64 lb, .string text] 40))
  have HC0 := hide (fun (w' : World) (_ : Below w.heap.size w w') => klabel_any c v (lv : Int) w')
  rw [hlevel] at HC0
  have HC1 := hide (fun (w' : World) (_ : Below w.heap.size w w') => klabel_any c v (lb : Int) w')
  rw [hlabel] at HC1
  have HC2 := hide (fun (w' : World) (hb : Below w.heap.size w w') => kbelow_lt c v hr lv z w' (hat.below hb) hlvn hz)
  have HC3 := hide (fun (w' : World) (hb : Below w.heap.size w w') => kbelow_lt c v hr lb z w' (hat.below hb) hlbn hz)
  clear hat hr hz
  unfold caseC cfgCells at *
  obtain ⟨hb0, hs0, x0, y0⟩ := HBX.out
  have HX0 := hide x0
  have HY0 := hide y0
  obtain ⟨q0, q1, q2, q3, q4⟩ := rows5 x0
  obtain ⟨p0, p1, p2, p3, p4, p5⟩ := rows6 y0
  clear x0 y0
  go_enter Try.func17, Try.ntmps17
  go_wp2_with fail
  generalize hW : (w.alloc (.cells #[.int .i64 c.labels, .slice v.ea c.edges.length v.ec, .slice v.ra c.rules.length v.rc, .slice v.ga c.grants.length v.gc, sv] 29)).alloc (.cells #[.int .i64 4, .int .i64 lv, .int .i64 lo, .int .i64 hi, .int .i64 lb, .string text] 40) = w0 at *
  clear hW
  refine (HC0.out _ hb0).mono ?_
  rintro e w1 ⟨rfl, g1⟩
  have hb1 := hb0.trans (g1.mono hb0.size)
  have HX1 := hide (Below.row g1 HX0.out (lt_of_row HX0.out))
  have HY1 := hide (Below.row g1 HY0.out (lt_of_row HY0.out))
  clear q0 q1 q2 q3 q4 p0 p1 p2 p3 p4 p5 g1
  obtain ⟨q0, q1, q2, q3, q4⟩ := rows5 HX1.out
  obtain ⟨p0, p1, p2, p3, p4, p5⟩ := rows6 HY1.out
  go_wp2_with fail
  refine (HC1.out _ hb1).mono ?_
  rintro e w2 ⟨rfl, g2⟩
  have hb2 := hb1.trans (g2.mono hb1.size)
  have HX2 := hide (Below.row g2 HX1.out (lt_of_row HX1.out))
  have HY2 := hide (Below.row g2 HY1.out (lt_of_row HY1.out))
  clear q0 q1 q2 q3 q4 p0 p1 p2 p3 p4 p5 g2
  obtain ⟨q0, q1, q2, q3, q4⟩ := rows5 HX2.out
  obtain ⟨p0, p1, p2, p3, p4, p5⟩ := rows6 HY2.out
  go_wp2_with fail
  refine (HC2.out _ hb2).mono ?_
  rintro e w3 ⟨rfl, g3⟩
  have hb3 := hb2.trans (g3.mono hb2.size)
  have HX3 := hide (Below.row g3 HX2.out (lt_of_row HX2.out))
  have HY3 := hide (Below.row g3 HY2.out (lt_of_row HY2.out))
  clear q0 q1 q2 q3 q4 p0 p1 p2 p3 p4 p5 g3
  obtain ⟨q0, q1, q2, q3, q4⟩ := rows5 HX3.out
  obtain ⟨p0, p1, p2, p3, p4, p5⟩ := rows6 HY3.out
  go_wp2_with fail
  refine (HC3.out _ hb3).mono ?_
  rintro e w4 ⟨rfl, g4⟩
  have hb4 := hb3.trans (g4.mono hb3.size)
  have HX4 := hide (Below.row g4 HX3.out (lt_of_row HX3.out))
  have HY4 := hide (Below.row g4 HY3.out (lt_of_row HY3.out))
  clear q0 q1 q2 q3 q4 p0 p1 p2 p3 p4 p5 g4
  obtain ⟨q0, q1, q2, q3, q4⟩ := rows5 HX4.out
  obtain ⟨p0, p1, p2, p3, p4, p5⟩ := rows6 HY4.out
  cases h1 : c.le lv z
  · cases h2 : c.le lb z
    · go_wp2
      go_ret
      exact ⟨ret_bool (by rw [h1, h2]; rfl), hb4⟩
    · go_wp2
      go_ret
      exact ⟨ret_bool (by rw [h1, h2]; rfl), hb4⟩
  · cases h2 : c.le lb z
    · go_wp2
      go_ret
      exact ⟨ret_bool (by rw [h1, h2]; rfl), hb4⟩
    · go_wp2
      go_ret
      exact ⟨ret_bool (by rw [h1, h2]; rfl), hb4⟩
theorem kleaks_any (c : Cfg) (v : CfgV) (hr : Right c) (sv : Value) (o : KS) (z : Nat) (w : World) (hat : CfgAt w c v) (hz : z < c.n) :
    Calls Try.prog 17 #[.agg (caseC c v sv), .agg o.cells, .int .i64 z] w fun e w' => e = .returned (.bool (leakB c o z)) ∧ Below w.heap.size w w' := by
  have hcn := (labels_of hr.labels).2.2.2.2.1
  obtain ⟨kind, level, lo, hi, label, text⟩ := o
  show Calls Try.prog 17 #[.agg (caseC c v sv), .agg #[.int .i64 kind, .int .i64 level, .int .i64 lo, .int .i64 hi, .int .i64 label, .string text], .int .i64 z] w _
  unfold leakB
  by_cases k4 : kind = 4
  · subst k4
    cases h1 : okL c.labels level
    · exact kleaks_l c v sv level lo hi label text z w h1
    · cases h2 : okL c.labels label
      · exact kleaks_b c v sv level lo hi label text z w h1 h2
      · obtain ⟨lv, e1, n1⟩ := okL_nat' hcn h1
        obtain ⟨lb, e2, n2⟩ := okL_nat' hcn h2
        have := kleaks_x c v hr sv level lo hi label text z w hat hz lv lb e1 e2 n1 n2 h1 h2
        rw [e1, e2] at this ⊢
        exact this
  · rw [show ((⟨kind, level, lo, hi, label, text⟩ : KS).kind == 4) = false by simpa using k4]
    exact kleaks_not c v sv kind k4 level lo hi label text z w
end Go.Proofs.Ytgigkiocdiffjab
