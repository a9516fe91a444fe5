/- veilkeep.nothing: calls that are refused, and looks. -/
import Derived.Test.YtgigkiocdiffjabUKno
import Derived.Test.YtgigkiocdiffjabUKeepP
import Derived.Test.YtgigkiocdiffjabUKopen
import Derived.Lib.SliceRun
namespace Go.Proofs.Ytgigkiocdiffjab
open Go.RowKit Veil
set_option maxRecDepth 100000 in
set_option maxHeartbeats 4000000 in
theorem knothing_ok {F : Nat → Prop} {B g g2 k k2 : Nat} {w : World} {c : Cfg} {s s2 : PSt} (h : Two F B w g g2 c s s2 k k2) (hk : k ≤ 4000000000000) (v : CfgV) (sv : Value) (n : Int) (hn : -9223372036854775808 ≤ n ∧ n ≤ 9223372036854775807) :
    Calls Try.prog 22 #[.agg (caseC c v sv), .pointer (some ⟨g, 0, none⟩), .int .i64 n] w fun e w' => e = .returned (.bool true) ∧ Two F B w' g g2 c s s2 k k2 ∧ LeftF F B w w' := by
  obtain ⟨_, _, _, _, hc, hn6, hn1⟩ := labels_of h.right.labels
  have HR := hide h.right
  have HC := hide hc
  obtain ⟨lv, hp, hlv⟩ := pickK_lt (n := c.n) hn.1 (by omega)
  have hP := fun w' => kpick_any n c.n w' hn (by omega) (by omega)
  rw [hp, hc] at hP
  have HP := hide hP
  have HX0 := hide (Go.heap_alloc_new w (.cells (caseC c v sv) 29))
  have HB0 := hide (below_box w (.cells (caseC c v sv) 29))
  have HT0 := hide (Two.new (F' := fun x => F x ∨ x = w.heap.size) h HB0.out (fun x hx => hx.imp id (fun e => ⟨by omega, by simp; omega⟩)))
  have HL0 := hide (LeftF.below (F := F) HB0.out h.old h.lt)
  have q0 : (w.alloc (.cells (caseC c v sv) 29)).cell? ⟨w.heap.size, 0, none⟩ = some (.int .i64 c.labels) := (cell_of_row _ _ _ _ _ _ HX0.out).trans rfl
  have hV : (viewT (placesR c s.row lv)).size ≤ 1200 := by
    obtain ⟨pa, pb, h1, h2, h3, h4⟩ := h
    exact viewT_len c s.row lv h1.rowGood
  have HV := hide hV
  have HK1 := hide (no_at (s := s) hc hlv)
  have HK2 := hide (no_text (s := s) hc hlv)
  have HK3 := hide (no_del (s := s) hc hlv)
  have HK4 := hide (no_rai (s := s) hc hlv)
  have HK5 := hide (no_rel (s := s) h.right.grants hc hlv)
  have HK6 := hide (no_lv (c := c) (s := s))
  have HA6 := hide (ask_st (s := s) (k := 6) hc hlv (by decide) (by decide))
  have HA7 := hide (ask_st (s := s) (k := 7) hc hlv (by decide) (by decide))
  have HA8 := hide (ask_st (s := s) (k := 8) hc hlv (by decide) (by decide))
  have HA9 := hide (ask_st (s := s) (k := 9) hc hlv (by decide) (by decide))
  have HS := hide (fun (w' : World) (ht : Two (fun x => F x ∨ x = w.heap.size) B w' g g2 c s s2 k k2) => two_view ht lv hlv)
  generalize viewT (placesR c s.row lv) = V at *
  unfold caseC at *
  clear hV h hc hn hn1 hn6 hp hP
  go_enter Try.func22, Try.ntmps22
  go_wp2_with fail
  generalize hW0 : w.alloc (.cells #[.int .i64 c.labels, .slice v.ea c.edges.length v.ec, .slice v.ra c.rules.length v.rc, .slice v.ga c.grants.length v.gc, sv] 29) = w0 at *
  refine (HP.out _).mono ?_
  rintro e wz ⟨rfl, rfl⟩
  have HW0 := hide hW0
  clear hW0
  have hVs := HV.out
  go_wp2_with fail
  refine (HS.out _ HT0.out).mono ?_
  rintro e w1 ⟨rfl, ht, hl⟩
  have HT1 := hide ht
  have HL1 := hide (HL0.out.trans (hl.sub (F' := F) (fun _ => Or.inl)))
  have HX1 := hide ((hl.kept w.heap.size (Or.inr rfl)).trans HX0.out)
  have q1 : w1.cell? ⟨w.heap.size, 0, none⟩ = some (.int .i64 c.labels) := (cell_of_row _ _ _ _ _ _ HX1.out).trans rfl
  clear ht hl q0 HT0 HL0 HX0
  go_wp2_with fail
  refine (two_insert_no HT1.out hk lv (V.size + 1) textA 7 (by show (1 : Nat) ≤ _; omega) HK1.out rfl).mono ?_
  rintro e w2 ⟨rfl, ht, hl⟩
  have HT2 := hide ht
  have HL2 := hide (HL1.out.trans (hl.sub (F' := F) (fun _ => Or.inl)))
  have HX2 := hide ((hl.kept w.heap.size (Or.inr rfl)).trans HX1.out)
  have q2 : w2.cell? ⟨w.heap.size, 0, none⟩ = some (.int .i64 c.labels) := (cell_of_row _ _ _ _ _ _ HX2.out).trans rfl
  clear ht hl q1 HT1 HL1 HX1
  go_wp2_with fail
  refine (two_insert_no HT2.out hk lv 0 textAM 8 (by show (2 : Nat) ≤ _; omega) HK2.out rfl).mono ?_
  rintro e w3 ⟨rfl, ht, hl⟩
  have HT3 := hide ht
  have HL3 := hide (HL2.out.trans (hl.sub (F' := F) (fun _ => Or.inl)))
  have HX3 := hide ((hl.kept w.heap.size (Or.inr rfl)).trans HX2.out)
  have q3 : w3.cell? ⟨w.heap.size, 0, none⟩ = some (.int .i64 c.labels) := (cell_of_row _ _ _ _ _ _ HX3.out).trans rfl
  clear ht hl q2 HT2 HL2 HX2
  go_wp2_with fail
  refine (two_delete_no HT3.out hk lv 0 0 7 HK3.out rfl).mono ?_
  rintro e w4 ⟨rfl, ht, hl⟩
  have HT4 := hide ht
  have HL4 := hide (HL3.out.trans (hl.sub (F' := F) (fun _ => Or.inl)))
  have HX4 := hide ((hl.kept w.heap.size (Or.inr rfl)).trans HX3.out)
  have q4 : w4.cell? ⟨w.heap.size, 0, none⟩ = some (.int .i64 c.labels) := (cell_of_row _ _ _ _ _ _ HX4.out).trans rfl
  clear ht hl q3 HT3 HL3 HX3
  go_wp2_with fail
  refine (two_raise_no HT4.out hk lv 0 (V.size + 1) lv 7 HK4.out rfl).mono ?_
  rintro e w5 ⟨rfl, ht, hl⟩
  have HT5 := hide ht
  have HL5 := hide (HL4.out.trans (hl.sub (F' := F) (fun _ => Or.inl)))
  have HX5 := hide ((hl.kept w.heap.size (Or.inr rfl)).trans HX4.out)
  have q5 : w5.cell? ⟨w.heap.size, 0, none⟩ = some (.int .i64 c.labels) := (cell_of_row _ _ _ _ _ _ HX5.out).trans rfl
  clear ht hl q4 HT4 HL4 HX4
  go_wp2_with fail
  refine (two_release_no HT5.out hk lv 0 1 lv 10 HK5.out rfl).mono ?_
  rintro e w6 ⟨rfl, ht, hl⟩
  have HT6 := hide ht
  have HL6 := hide (HL5.out.trans (hl.sub (F' := F) (fun _ => Or.inl)))
  have HX6 := hide ((hl.kept w.heap.size (Or.inr rfl)).trans HX5.out)
  have q6 : w6.cell? ⟨w.heap.size, 0, none⟩ = some (.int .i64 c.labels) := (cell_of_row _ _ _ _ _ _ HX6.out).trans rfl
  clear ht hl q5 HT5 HL5 HX5
  go_wp2_with fail
  refine (two_insert_no HT6.out hk c.labels 0 textA 6 (by show (1 : Nat) ≤ _; omega) HK6.out rfl).mono ?_
  rintro e w7 ⟨rfl, ht, hl⟩
  have HT7 := hide ht
  have HL7 := hide (HL6.out.trans (hl.sub (F' := F) (fun _ => Or.inl)))
  have HX7 := hide ((hl.kept w.heap.size (Or.inr rfl)).trans HX6.out)
  have q7 : w7.cell? ⟨w.heap.size, 0, none⟩ = some (.int .i64 c.labels) := (cell_of_row _ _ _ _ _ _ HX7.out).trans rfl
  clear ht hl q6 HT6 HL6 HX6
  go_wp2_with fail
  refine (two_poll_no HT7.out (-1) no_m1).mono ?_
  rintro e w8 ⟨rfl, ht, hl⟩
  have HT8 := hide ht
  have HL8 := hide (HL7.out.trans (hl.sub (F' := F) (fun _ => Or.inl)))
  have HX8 := hide ((hl.kept w.heap.size (Or.inr rfl)).trans HX7.out)
  have q8 : w8.cell? ⟨w.heap.size, 0, none⟩ = some (.int .i64 c.labels) := (cell_of_row _ _ _ _ _ _ HX8.out).trans rfl
  clear ht hl q7 HT7 HL7 HX7
  go_wp2_with fail
  refine (two_look HT8.out hk (askK 6 lv) (by show (0 : Nat) ≤ _; omega) HA6.out).mono ?_
  rintro e w9 ⟨⟨vl, rfl⟩, ht, hl⟩
  have HT9 := hide ht
  have HL9 := hide (HL8.out.trans (hl.sub (F' := F) (fun _ => Or.inl)))
  have HX9 := hide ((hl.kept w.heap.size (Or.inr rfl)).trans HX8.out)
  have q9 : w9.cell? ⟨w.heap.size, 0, none⟩ = some (.int .i64 c.labels) := (cell_of_row _ _ _ _ _ _ HX9.out).trans rfl
  clear ht hl q8 HT8 HL8 HX8
  go_wp2_with fail
  refine (two_look HT9.out hk (askK 7 lv) (by show (0 : Nat) ≤ _; omega) HA7.out).mono ?_
  rintro e w10 ⟨⟨vl, rfl⟩, ht, hl⟩
  have HT10 := hide ht
  have HL10 := hide (HL9.out.trans (hl.sub (F' := F) (fun _ => Or.inl)))
  have HX10 := hide ((hl.kept w.heap.size (Or.inr rfl)).trans HX9.out)
  have q10 : w10.cell? ⟨w.heap.size, 0, none⟩ = some (.int .i64 c.labels) := (cell_of_row _ _ _ _ _ _ HX10.out).trans rfl
  clear ht hl q9 HT9 HL9 HX9
  go_wp2_with fail
  refine (two_look HT10.out hk (askK 8 lv) (by show (0 : Nat) ≤ _; omega) HA8.out).mono ?_
  rintro e w11 ⟨⟨vl, rfl⟩, ht, hl⟩
  have HT11 := hide ht
  have HL11 := hide (HL10.out.trans (hl.sub (F' := F) (fun _ => Or.inl)))
  have HX11 := hide ((hl.kept w.heap.size (Or.inr rfl)).trans HX10.out)
  have q11 : w11.cell? ⟨w.heap.size, 0, none⟩ = some (.int .i64 c.labels) := (cell_of_row _ _ _ _ _ _ HX11.out).trans rfl
  clear ht hl q10 HT10 HL10 HX10
  go_wp2_with fail
  refine (two_look HT11.out hk (askK 9 lv) (by show (0 : Nat) ≤ _; omega) HA9.out).mono ?_
  rintro e w12 ⟨⟨vl, rfl⟩, ht, hl⟩
  have HT12 := hide ht
  have HL12 := hide (HL11.out.trans (hl.sub (F' := F) (fun _ => Or.inl)))
  have HX12 := hide ((hl.kept w.heap.size (Or.inr rfl)).trans HX11.out)
  have q12 : w12.cell? ⟨w.heap.size, 0, none⟩ = some (.int .i64 c.labels) := (cell_of_row _ _ _ _ _ _ HX12.out).trans rfl
  clear ht hl q11 HT11 HL11 HX11
  have nn : ∀ (w : World) a n c, (Go.binOp .eql 77 (.slice a n c) (.slice none 0 0)).run Try.prog w = .ok (.bool a.isNone) w := fun w a n c => Go.Lib.run_eql_slice_nil w 77 129 a n c 0 0 Try.underlying77
  go_wp2
  go_ret
  exact ⟨rfl, Two.sub HT12.out (fun _ => Or.inl), HL12.out⟩
end Go.Proofs.Ytgigkiocdiffjab
