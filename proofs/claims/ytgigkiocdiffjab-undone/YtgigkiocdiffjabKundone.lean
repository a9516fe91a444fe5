/- veilkeep.Undone. -/
import Derived.Test.YtgigkiocdiffjabKund0
import Derived.Test.YtgigkiocdiffjabKviews
import Derived.Test.YtgigkiocdiffjabU18
import Derived.Test.YtgigkiocdiffjabUOpenCase
import Derived.Test.YtgigkiocdiffjabKcheck
import Derived.Deep.QuietTactic
import Derived.BigQuiet
namespace Go.Proofs.Ytgigkiocdiffjab
open Go.RowKit Veil
/-- A configuration without its rules. -/
def bare (c : Cfg) : Cfg := ⟨c.labels, c.edges, [], c.grants⟩
def bareV (v : CfgV) : CfgV := ⟨v.ea, v.ec, none, 0, v.ga, v.gc⟩
theorem bel_drawn {B : Nat} {a w : World} (h : Below B a w) (n : Nat) : Below B a (w.drewN n) := ⟨h.os, h.tape, h.output, h.size, h.block⟩
theorem case5 {w : World} {g : Nat} {a b d e f : Value} {ty : TypeId} (h : w.heap[g]? = some (.cells #[a, b, d, e, f] ty (0, 0))) : w.cell? ⟨g, 0, none⟩ = some a ∧ w.cell? ⟨g, 1, none⟩ = some b ∧ w.cell? ⟨g, 2, none⟩ = some d ∧ w.cell? ⟨g, 3, none⟩ = some e ∧ w.cell? ⟨g, 4, none⟩ = some f :=
  ⟨(cell_of_row _ _ _ _ _ _ h).trans rfl, (cell_of_row _ _ _ _ _ _ h).trans rfl, (cell_of_row _ _ _ _ _ _ h).trans rfl, (cell_of_row _ _ _ _ _ _ h).trans rfl, (cell_of_row _ _ _ _ _ _ h).trans rfl⟩
theorem bare_ok {c : Cfg} (h : CfgOk c) : CfgOk (bare c) := ⟨h.edges, Nat.zero_le _, h.grants, fun r hr => by cases hr⟩
theorem bare_at {w : World} {c : Cfg} {v : CfgV} (h : CfgAt w c v) : CfgAt w (bare c) (bareV v) := ⟨h.edges, Or.inl rfl, h.grants⟩
theorem cell_heap {w w' : World} {b i : Nat} (h : w'.heap[b]? = w.heap[b]?) : w'.cell? ⟨b, i, none⟩ = w.cell? ⟨b, i, none⟩ := by
  unfold World.cell?
  rw [h]
theorem SeqV.leftF {α : Type} {F : Nat → Prop} {B sz : Nat} {f : α → List Value} {w w' : World} {v : Value} {l : List α} (h : SeqV sz f w v l) (hF : ∀ x, v.ownBlock = some x → F x) (hl : LeftF F B w w') : SeqV sz f w' v l := by
  obtain ⟨ao, cap, b, h1, h2, h3⟩ := h
  subst h1
  refine ⟨ao, cap, b, rfl, h2.imp id (fun h => ⟨h.1, Nat.lt_of_lt_of_le h.2 hl.low.size⟩), fun i a hi j hj => ?_⟩
  rcases h2 with h2 | ⟨h2, _⟩
  · rw [h2] at hi
    simp at hi
  · subst h2
    rw [cell_heap (hl.kept b (hF b rfl))]
    exact h3 i a hi j hj
theorem strs_at {w : World} {ao : Option Addr} {n cap : Nat} {l : List ByteArray} (h : SeqV 1 strV w (.slice ao n cap) l) {d : Nat} {s : ByteArray} (hd : l[d]? = some s) : ∃ b, ao = some ⟨b, 0, none⟩ ∧ w.cell? ⟨b, d, none⟩ = some (.string s) ∧ b < w.heap.size := by
  obtain ⟨ao', cap', b, h1, h2, h3⟩ := h
  simp only [Value.slice.injEq] at h1
  obtain ⟨h4, h5⟩ := h2.resolve_left (fun e => by rw [e] at hd; simp at hd)
  have h6 := h3 d s hd 0 (by omega)
  rw [Nat.mul_one, Nat.add_zero] at h6
  exact ⟨b, h1.1.trans h4, h6, h5⟩
theorem one_open {B : Nat} {g : Nat} {w : World} {c : Cfg} {s : PSt} {p : PV} (h : PInv B w g c s p 0) (x : Nat) (hx : x < B) : One (fun y => y = x) B w g c s 0 := by
  refine ⟨p, h, fun y hy => ⟨?_, fun i hi => ?_⟩⟩
  · have := h.old
    omega
  · have := (h.own.low i y hi).1
    omega
def unF (x lo hi : Nat) : Nat → Prop := fun y => y = x ∨ (lo ≤ y ∧ y < hi)
theorem ins_of {c : Cfg} {s : PSt} {lv : Nat} {o : KS} (h : ((o.kind == 1) && (o.level == (lv : Int)) && ((stepAns c s o).e == 0)) = false) : insOf c s lv o = 0 := by
  unfold insOf
  rw [h]
  rfl
theorem views_back {c : Cfg} {s s2 : PSt} (h : ∀ d, viewT (placesR c s2.row d) = viewT (placesR c s.row d)) (n : Nat) : viewsTo c s2 n = viewsTo c s n := by
  unfold viewsTo
  congr 1
  funext d
  exact h d
set_option maxRecDepth 100000 in
set_option maxHeartbeats 8000000 in
theorem kundone_walk (c : Cfg) (v : CfgV) (ao : Option Addr) (m cap : Nat) (st : Nat → KS) (l a n : Int) (w : World) (s0 : PSt) (hz0 : s0.row = []) (hr8 : c.rules.length ≤ 8) (hr : Right (bare c))
    (hO : ∀ w', Below w.heap.size w w' → Calls Try.prog 7 #[.agg (caseC (bare c) (bareV v) (.slice ao m cap))] w' fun e w'' => ∃ g p, e = .returned (.tuple #[.pointer (some ⟨g, 0, none⟩), .bool true]) ∧ PInv w'.heap.size w'' g (bare c) s0 p 0 ∧ Below w'.heap.size w' w'')
    (hst : StepsAt w ao m st) (hm : m ≤ 2513169434916) (htx : ∀ i, i < m → (st i).text.size ≤ 140737488355328) (hl : -9223372036854775808 ≤ l ∧ l ≤ 9223372036854775807) (ha : -9223372036854775808 ≤ a ∧ a ≤ 9223372036854775807) (hn : -9223372036854775808 ≤ n ∧ n ≤ 9223372036854775807) :
    Calls Try.prog 3 #[.agg (caseC c v (.slice ao m cap)), .int .i64 l, .int .i64 a, .int .i64 n] w fun e w' => e = .returned (.bool true) ∧ Below w.heap.size w w' := by
  have HO : Hid (∀ w', Below w.heap.size w w' → Calls Try.prog 7 #[.agg #[.int .i64 c.labels, .slice v.ea c.edges.length v.ec, .slice none 0 0, .slice v.ga c.grants.length v.gc, .slice ao m cap]] w' fun e w'' => ∃ g p, e = .returned (.tuple #[.pointer (some ⟨g, 0, none⟩), .bool true]) ∧ PInv w'.heap.size w'' g (bare c) s0 p 0 ∧ Below w'.heap.size w' w'') := hide hO
  have HVW : Hid (∀ (F : Nat → Prop) (B : Nat) (w : World) (g : Nat) (s : PSt) (k : Nat), One F B w g (bare c) s k → Calls Try.prog 10 #[.agg #[.int .i64 c.labels, .slice v.ea c.edges.length v.ec, .slice none 0 0, .slice v.ga c.grants.length v.gc, .slice ao m cap], .pointer (some ⟨g, 0, none⟩)] w fun e w' => ∃ vl, e = .returned (.tuple #[vl, .bool true]) ∧ OwnL 9 1 strV w' w.heap.size vl (viewsTo (bare c) s (bare c).n) ∧ Below w.heap.size w w') := hide (fun F B w g s k h => kviews_ok h (bareV v) (.slice ao m cap))
  have hcn0 : ((bare c).n : Int) = c.labels := (labels_of hr.labels).2.2.2.2.1
  have hcn1 : ((bare c).n : Int) = (bare c).labels := (labels_of hr.labels).2.2.2.2.1
  have hn6 : (bare c).n ≤ 6 := (labels_of hr.labels).2.2.2.2.2.1
  have hn1 : 1 ≤ (bare c).n := (labels_of hr.labels).2.2.2.2.2.2
  obtain ⟨lv, hp, hlv⟩ := pickK_lt (n := (bare c).n) hl.1 (by omega)
  have hP := fun w' => kpick_any l (bare c).n w' hl (by omega) (by omega)
  rw [hp, hcn0] at hP
  have HP := hide hP
  obtain ⟨i4, hi4, hi5⟩ := pickK_lt (n := 4) hn.1 (by decide)
  have HSG := hide (fun w' => ksigns_any n i4 w' hn hi4 hi5)
  obtain ⟨hT1, hT2⟩ := signs_is i4 hi5
  have HPA := hide (fun (q : Nat) (hq : q ≤ 1200) => pickK_lt (c := a) (n := q + 1) ha.1 (by omega))
  have HPB := hide (fun (q : Nat) (hq : q ≤ 1200) (w' : World) => kpick_any a (q + 1) w' ha (by omega) (by omega))
  have HUI := hide (fun (s : PSt) (p : Nat) (hp : p ≤ (placesR (bare c) s.row lv).length) => und_ins (s := s) (a := p) (t := signsT i4) hcn1 hlv hp hT1)
  have HUO := hide (fun (s : PSt) (p : Nat) (hg : RowGood (bare c) s.row) (hp : p ≤ (placesR (bare c) s.row lv).length) (hg1 : RowGood (bare c) (insSt (bare c) s lv p (signsT i4)).row) => und_ok (t := signsT i4) rfl hcn1 hlv (le_refl' hr.labels lv hlv) hg hp (by omega) hg1)
  have HOW := hide (fun (s : PSt) (o : KS) => step_own (s := s) (lv := lv) hcn1 o)
  have HCN := hide hcn0
  have HST := hide hst
  have HTX := hide htx
  have HX0 := hide (Go.heap_alloc_new w (.cells #[.int .i64 c.labels, .slice v.ea c.edges.length v.ec, .slice none 0 0, .slice v.ga c.grants.length v.gc, .slice ao m cap] 29))
  have HB0 := hide (below_box w (.cells #[.int .i64 c.labels, .slice v.ea c.edges.length v.ec, .slice none 0 0, .slice v.ga c.grants.length v.gc, .slice ao m cap] 29))
  have HY0 := hide (Go.heap_alloc_new w (.cells (caseC c v (.slice ao m cap)) 29))
  have HLN := hide (viewsTo_length (bare c))
  have HAT := hide (fun s d (h : d < (bare c).n) => viewsTo_at (bare c) s h)
  have hri : (c.rules.length : Int) ≤ 8 := by omega
  have hTs : (signsT i4).size ≤ 4 := by omega
  clear hO hst htx hr hl ha hn hP hp hcn0 hcn1 hi4 hT1 hT2 hi5
  generalize signsT i4 = T at *
  generalize bare c = c' at *
  unfold caseC at *
  obtain ⟨q0, q1, q2, q3, q4⟩ := case5 HY0.out
  have f2 := frozen_of_row _ _ 2 _ _ HY0.out
  go_enter Try.func3, Try.ntmps3
  go_wp2_with fail
  generalize hW0 : w.alloc (.cells #[.int .i64 c.labels, .slice v.ea c.edges.length v.ec, .slice none 0 0, .slice v.ga c.grants.length v.gc, .slice ao m cap] 29) = w0 at *
  have hs0 : w0.heap.size = w.heap.size + 1 := by rw [← hW0]; simp
  have HS0 := hide hs0
  clear hs0 hW0 q0 q1 q2 q3 q4 f2 HY0
  refine (HO.out _ HB0.out).mono ?_
  rintro e w1 ⟨g, p, rfl, hia, hb1⟩
  have HO1 := hide (one_open hia w.heap.size (by rw [HS0.out]; omega))
  have HX1 := hide (Below.row hb1 HX0.out (lt_of_row HX0.out))
  have HB1 := hide (HB0.out.trans (hb1.mono HB0.out.size))
  obtain ⟨q0, q1, q2, q3, q4⟩ := case5 HX1.out
  clear hia hb1
  go_wp2_with fail
  refine (HP.out _).mono ?_
  rintro e wz ⟨rfl, rfl⟩
  have HL1 := hide (LeftF.refl (fun y => y = w.heap.size) w0.heap.size w1)
  have hz1 : ownC s0.row lv = 0 := by rw [hz0]; rfl
  have HZ1 := hide hz1
  clear hz0 hz1 q0 q1 q2 q3 q4
  go_wp2_with fail
  go_loopw [11, 12] (fun lf i wr => ∃ (k : Nat) (s' : PSt), k ≤ m ∧ i = .int .i64 k ∧ lf = .int .i64 (200 - (ownC s'.row lv : Int)) ∧ One (fun y => y = w.heap.size) w0.heap.size wr g c' s' k ∧ LeftF (fun y => y = w.heap.size) w0.heap.size w1 wr) (fun _ i _ => m - (intOf i).toNat)
  case atStart => exact ⟨0, s0, Nat.zero_le _, rfl, by rw [HZ1.out]; rfl, HO1.out, HL1.out⟩
  case round =>
    obtain ⟨wo, rfl⟩ : ∃ x, x = wr := ⟨_, rfl⟩
    obtain ⟨k, s, hk, rfl, rfl, hone, hleft⟩ := hrel
    have HON := hide hone
    have HLE := hide hleft
    have HXO := hide ((hleft.kept w.heap.size rfl).trans HX1.out)
    have HBO := hide (HB1.out.trans (hleft.low.mono (by rw [HS0.out]; omega)))
    have hqu := hone.quota lv
    clear hone hleft
    obtain ⟨q0, q1, q2, q3, q4⟩ := case5 HXO.out
    by_cases hlt : k < m
    · have hki : (k : Int) < (m : Int) := by omega
      obtain ⟨b, off, hao, hbl, hcs⟩ := HST.out.resolve_left (by omega)
      obtain ⟨z0, z1, z2, z3, z4, z5⟩ := StepsAt.cells hcs HBO.out hbl k hlt
      have HZ := hide (fun (w' : World) (hb : Below w.heap.size w w') => StepsAt.cells hcs hb hbl k hlt)
      have HD := hide (one_does HON.out (by omega) (st k) (HTX.out k hlt))
      have HOWk := hide (HOW.out s (st k))
      have HINS := hide (ins_of (c := c') (s := s) (lv := lv) (o := st k))
      have HINY := hide (fun (h : (((st k).kind == 1) && ((st k).level == (lv : Int)) && ((stepAns c' s (st k)).e == 0)) = true) => (show insOf c' s lv (st k) = (st k).text.size by unfold insOf; rw [h]; rfl))
      have hidx : ∀ w', (Instr.indexAt 27 (.slice ao m cap) (.int .i64 (k : Int))).run Try.prog w' = .ok (.pointer (some ⟨b, off + k * 6, none⟩)) w' := by
        intro w'
        rw [hao]
        go_simp
      generalize st k = o at *
      generalize hA : stepAns c' s o = A at *
      generalize hSS : stepSt c' s o = s2 at *
      clear hao hcs hA hSS
      generalize insOf c' s lv o = ins at *
      obtain ⟨kind, level, lo, hi, label, text⟩ := o
      obtain ⟨ae, an, ax, al⟩ := A
      unfold KS.cells toldC at *
      simp only at *
      go_wp2_with fail
      refine (HD.out).mono ?_
      rintro e w3 ⟨vt, rfl, ⟨tao, tn, tcap, rfl⟩, hone3, hl3⟩
      have HO3 := hide hone3
      have hqu2 := hone3.quota lv
      rw [HOWk.out] at hqu2
      have HX3 := hide ((hl3.kept w.heap.size rfl).trans HXO.out)
      have HL3 := hide (HLE.out.trans hl3)
      have HB3 := hide (HBO.out.trans (hl3.low.mono (by rw [HS0.out]; omega)))
      clear hone3 hl3 z0 z1 z2 z3 z4 z5 q0 q1 q2 q3 q4
      have HBT := hide (below_box w3 (.cells #[.int .i64 ae, .int .i64 an, .string ax, .slice tao tn tcap] 37))
      have HXT := hide (Go.heap_alloc_new w3 (.cells #[.int .i64 ae, .int .i64 an, .string ax, .slice tao tn tcap] 37))
      have HX4 := hide (Below.row HBT.out HX3.out (lt_of_row HX3.out))
      obtain ⟨q0, q1, q2, q3, q4⟩ := case5 HX4.out
      have HO4 := hide (HO3.out.below HBT.out)
      have HL4 := hide (HL3.out.trans (LeftF.below HBT.out HO3.out.old HO3.out.lt))
      have HB4 := hide (HB3.out.trans (HBT.out.mono HB3.out.size))
      obtain ⟨z0, z1, z2, z3, z4, z5⟩ := HZ.out _ HB4.out
      have t0 : (w3.alloc (.cells #[.int .i64 ae, .int .i64 an, .string ax, .slice tao tn tcap] 37)).cell? ⟨w3.heap.size, 0, none⟩ = some (.int .i64 ae) := (cell_of_row _ _ _ _ _ _ HXT.out).trans rfl
      have HOW2 := hide HOWk.out
      generalize ownC s.row lv = own at *
      by_cases k1 : kind = 1
      rotate_left 1
      · have e1 : (kind == 1) = false := by simpa using k1
        have hins := HINS.out (by rw [e1]; rfl)
        rw [hins, Nat.add_zero] at HOW2
        clear hins
        go_wp2
        go_roundw
        case rel => exact ⟨k + 1, s2, by omega, by go_num, by rw [HOW2.out], HO4.out, HL4.out⟩
        case measure => simp [intOf]; omega
      subst k1
      by_cases k2 : level = (lv : Int)
      rotate_left 1
      · have e1 : (level == (lv : Int)) = false := by simpa using k2
        have hins := HINS.out (by rw [e1]; rfl)
        rw [hins, Nat.add_zero] at HOW2
        clear hins
        go_wp2
        go_roundw
        case rel => exact ⟨k + 1, s2, by omega, by go_num, by rw [HOW2.out], HO4.out, HL4.out⟩
        case measure => simp [intOf]; omega
      subst k2
      by_cases k3 : ae = 0
      rotate_left 1
      · have e1 : (ae == 0) = false := by simpa using k3
        have hins := HINS.out (by rw [e1, Bool.and_false])
        rw [hins, Nat.add_zero] at HOW2
        clear hins
        go_wp2
        go_roundw
        case rel => exact ⟨k + 1, s2, by omega, by go_num, by rw [HOW2.out], HO4.out, HL4.out⟩
        case measure => simp [intOf]; omega
      subst k3
      have hins := HINY.out (by simp)
      rw [hins] at HOW2 hqu2
      clear hins
      go_wp2
      go_roundw
      case rel => exact ⟨k + 1, s2, by omega, by go_num, by rw [HOW2.out]; congr 1; omega, HO4.out, HL4.out⟩
      case measure => simp [intOf]; omega
    · obtain rfl : k = m := by omega
      have hkc : decide ((k : Int) < (k : Int)) = false := by simp
      have HV1 := hide (HVW.out _ _ _ _ _ _ HON.out)
      go_wp2_with fail
      refine (HV1.out).mono ?_
      rintro e w2 ⟨vl, rfl, hol, hb2⟩
      have HSQ := hide (hol.seqV (show ∀ a : ByteArray, (strV a).length = 1 from fun _ => rfl))
      have HOB := hide (fun x hx => (hol.lt (k := x) hx))
      obtain ⟨lao, lcap, hvl⟩ := hol.shape
      rw [HLN.out] at hvl
      subst hvl
      have HO2 := hide (One.new (F' := unF w.heap.size wo.heap.size w2.heap.size) HON.out hb2 (fun x hx => hx.imp id id))
      have HX2 := hide (Below.row hb2 HXO.out (lt_of_row HXO.out))
      have HB2 := hide (HBO.out.trans (hb2.mono HBO.out.size))
      obtain ⟨lb, hlao, c0, hlb⟩ := strs_at HSQ.out (HAT.out s lv hlv)
      subst hlao
      have hli : (lv : Int) < (c'.n : Int) := by omega
      have hVl : (viewT (placesR c' s.row lv)).size ≤ 1200 := viewT_len c' s.row lv HON.out.rowGood
      have HVS := hide (viewT_size (placesR c' s.row lv))
      obtain ⟨q, hq, hq2⟩ := HPA.out _ hVl
      have hpb := HPB.out _ hVl
      rw [hq, show (((viewT (placesR c' s.row lv)).size + 1 : Nat) : Int) = ((viewT (placesR c' s.row lv)).size : Int) + 1 by omega] at hpb
      have HPC := hide hpb
      have hqp : q ≤ (placesR c' s.row lv).length := by rw [← HVS.out]; omega
      have HCD := hide (HUI.out s q hqp)
      have HUQ := hide (HUO.out s q HON.out.rowGood hqp)
      have HIN := hide (one_insert HO2.out (by omega) lv q T (by omega))
      clear hol hb2 q0 q1 q2 q3 q4 hpb hq hqp
      generalize hV : viewT (placesR c' s.row lv) = V at *
      have HVV := hide hV
      clear hV
      go_wp2_with fail
      refine (HSG.out _).mono ?_
      rintro e wz ⟨rfl, rfl⟩
      clear c0
      go_wp2_with fail
      refine (HPC.out _).mono ?_
      rintro e wz ⟨rfl, rfl⟩
      rw [HCD.out] at HIN
      go_wp2_with fail
      refine (HIN.out).mono ?_
      rintro e w3 ⟨rfl, hone3, hl3⟩
      have HO3 := hide hone3
      have HL3 := hide hl3
      have HX3 := hide ((hl3.kept w.heap.size (Or.inl rfl)).trans HX2.out)
      have HB3 := hide (HB2.out.trans (hl3.low.mono (by rw [HS0.out]; omega)))
      have HS3 := hide (HSQ.out.leftF (fun x hx => Or.inr (HOB.out x hx)) hl3)
      clear hone3 hl3
      by_cases hov : 200 < ownC s.row lv + T.size
      · have hov2 : (200 : Int) - (ownC s.row lv : Int) < (T.size : Int) := by omega
        rw [show decide (200 < ownC s.row lv + T.size) = true by simpa using hov]
        generalize ownC s.row lv = own at *
        rw [show (bif true then (9 : Int) else 0) = 9 from rfl]
        go_wp2
        go_ret
        exact ⟨rfl, HB3.out⟩
      have hov2 : decide ((200 : Int) - (ownC s.row lv : Int) < (T.size : Int)) = false := by simp; omega
      have hc0 : (bif decide (200 < ownC s.row lv + T.size) then (9 : Int) else 0) = 0 := by rw [show decide (200 < ownC s.row lv + T.size) = false by simpa using hov]; rfl
      rw [hc0] at HCD ⊢
      rw [und_res HCD.out] at HO3
      generalize ownC s.row lv = own at *
      have HUK := hide (HUQ.out HO3.out.rowGood)
      have hov3 := HO3.out
      generalize insSt c' s lv q T = s1 at *
      clear hov3 hc0
      have HV3 := hide (one_view HO3.out lv hlv)
      have hvw := HUK.out.view
      rw [HVV.out] at hvw
      rw [hvw] at HV3
      have hqV : (q : Int) ≤ (V.size : Int) := by omega
      clear hvw
      go_wp2_with fail
      refine (HV3.out).mono ?_
      rintro e w4 ⟨rfl, hb4⟩
      have HO4 := hide (HO3.out.below hb4)
      have HX4 := hide (Below.row hb4 HX3.out (lt_of_row HX3.out))
      have HB4 := hide (HB3.out.trans (hb4.mono HB3.out.size))
      have HS4 := hide (HS3.out.below hb4)
      have hdl := fun nq => one_delete (w := w4.drewN nq) (HO4.out.below (bel_drawn (Below.refl _ _) nq)) (by omega) lv q ((q + T.size : Nat) : Int)
      rw [HUK.out.del, show ((q + T.size : Nat) : Int) = (q : Int) + (T.size : Int) by omega] at hdl
      have HDL := hide hdl
      clear hb4 hdl
      go_wp2_with fail
      go_quiet (fail)
      go_wp2_with fail
      refine (HDL.out nq).mono ?_
      rintro e w5 ⟨rfl, hone5, hl5⟩
      have hbk := HUK.out.back
      rw [show ((q + T.size : Nat) : Int) = (q : Int) + (T.size : Int) by omega] at hbk
      have HVB := hide (views_back (hbk hone5.rowGood) c'.n)
      have HO5 := hide hone5
      have HX5 := hide ((hl5.kept w.heap.size (Or.inl rfl)).trans (show (w4.drewN nq).heap[w.heap.size]? = _ from HX4.out))
      have HB5 := hide ((bel_drawn HB4.out nq).trans (hl5.low.mono (by rw [HS0.out]; omega)))
      have HS5 := hide (SeqV.leftF (HS4.out.below (bel_drawn (Below.refl _ _) nq)) (fun x hx => Or.inr (HOB.out x hx)) hl5)
      obtain ⟨q0, q1, q2, q3, q4⟩ := case5 HX5.out
      have hv5 := HVW.out _ _ _ _ _ _ HO5.out
      rw [HVB.out] at hv5
      have HV5 := hide hv5
      clear hone5 hl5 hbk hv5
      go_wp2_with fail
      refine (HV5.out).mono ?_
      rintro e w6 ⟨vl, rfl, hol, hb6⟩
      have HSQ6 := hide (hol.seqV (show ∀ a : ByteArray, (strV a).length = 1 from fun _ => rfl))
      obtain ⟨nao, ncap, hvl⟩ := hol.shape
      rw [HLN.out] at hvl
      subst hvl
      have HX6 := hide (Below.row hb6 HX5.out (lt_of_row HX5.out))
      have HB6 := hide (HB5.out.trans (hb6.mono HB5.out.size))
      have HS6 := hide (HS5.out.below hb6)
      clear hol hb6 q0 q1 q2 q3 q4
      go_wp2_with fail
      go_loopw [21] (fun i wr => ∃ d : Nat, d ≤ c'.n ∧ i = .int .i64 d ∧ Below w6.heap.size w6 wr) (fun i _ => c'.n - (intOf i).toNat)
      case atStart => exact ⟨0, Nat.zero_le _, rfl, Below.refl _ _⟩
      case round =>
        obtain ⟨wi, rfl⟩ : ∃ x, x = wr := ⟨_, rfl⟩
        obtain ⟨d, hd, rfl, hbi⟩ := hrel
        have HXI := hide (Below.row hbi HX6.out (lt_of_row HX6.out))
        obtain ⟨y0, y1, y2, y3, y4⟩ := case5 HXI.out
        by_cases hdn : d < c'.n
        · have hdi : (d : Int) < c.labels := by rw [← HCN.out]; omega
          have hdj : (d : Int) < (c'.n : Int) := by omega
          obtain ⟨xb, hx1, hx2, _⟩ := strs_at (HS6.out.below hbi) (HAT.out s d hdn)
          obtain ⟨nb, hx3, hx4, _⟩ := strs_at (HSQ6.out.below hbi) (HAT.out s d hdn)
          obtain rfl : lb = xb := by simpa using hx1
          subst hx3
          generalize viewT (placesR c' s.row d) = Vd at *
          clear hx1
          go_wp2_with fail
          go_quiet (fail)
          go_wp2
          go_roundw
          case rel => exact ⟨d + 1, by omega, by go_num, bel_drawn hbi _⟩
          case measure => simp [intOf]; omega
        · obtain rfl : d = c'.n := by omega
          have hkc : decide ((c'.n : Int) < c.labels) = false := by rw [← HCN.out]; simp
          have HBE := hide (HB6.out.trans (hbi.mono HB6.out.size))
          go_wp2
          go_ret
          exact ⟨rfl, HBE.out⟩
set_option maxRecDepth 100000 in
set_option maxHeartbeats 4000000 in
theorem kundone_no (c : Cfg) (v : CfgV) (sv : Value) (l a n : Int) (w : World) (hr8 : c.rules.length ≤ 8)
    (hO : ∀ w', Below w.heap.size w w' → Calls Try.prog 7 #[.agg #[.int .i64 c.labels, .slice v.ea c.edges.length v.ec, .slice none 0 0, .slice v.ga c.grants.length v.gc, sv]] w' fun e w'' => e = .returned (.tuple #[.pointer none, .bool true]) ∧ Below w'.heap.size w' w'') :
    Calls Try.prog 3 #[.agg (caseC c v sv), .int .i64 l, .int .i64 a, .int .i64 n] w fun e w' => e = .returned (.bool true) ∧ Below w.heap.size w w' := by
  have HO := hide hO
  have HB0 := hide (below_box w (.cells #[.int .i64 c.labels, .slice v.ea c.edges.length v.ec, .slice none 0 0, .slice v.ga c.grants.length v.gc, sv] 29))
  have HY0 := hide (Go.heap_alloc_new w (.cells (caseC c v sv) 29))
  have hri : (c.rules.length : Int) ≤ 8 := by omega
  clear hO
  unfold caseC at *
  obtain ⟨q0, q1, q2, q3, q4⟩ := case5 HY0.out
  have f2 := frozen_of_row _ _ 2 _ _ HY0.out
  go_enter Try.func3, Try.ntmps3
  go_wp2_with fail
  refine (HO.out _ HB0.out).mono ?_
  rintro e w1 ⟨rfl, hb1⟩
  have HB1 := hide (HB0.out.trans (hb1.mono HB0.out.size))
  clear hb1 q0 q1 q2 q3 q4 f2
  go_wp2
  go_ret
  exact ⟨rfl, HB1.out⟩
set_option maxRecDepth 100000 in
set_option maxHeartbeats 4000000 in
theorem kundone_many (c : Cfg) (v : CfgV) (sv : Value) (l a n : Int) (w : World) (hr8 : 8 < c.rules.length)
    (hO : ∀ w', Below w.heap.size w w' → Calls Try.prog 7 #[.agg (caseC c v sv)] w' fun e w'' => e = .returned (.tuple #[.pointer none, .bool true]) ∧ Below w'.heap.size w' w'') :
    Calls Try.prog 3 #[.agg (caseC c v sv), .int .i64 l, .int .i64 a, .int .i64 n] w fun e w' => e = .returned (.bool true) ∧ Below w.heap.size w w' := by
  have HO := hide hO
  have HB0 := hide (below_box w (.cells (caseC c v sv) 29))
  have HY0 := hide (Go.heap_alloc_new w (.cells (caseC c v sv) 29))
  have hri : decide ((c.rules.length : Int) ≤ 8) = false := by simp; omega
  clear hO
  unfold caseC at *
  obtain ⟨q0, q1, q2, q3, q4⟩ := case5 HY0.out
  go_enter Try.func3, Try.ntmps3
  go_wp2_with fail
  refine (HO.out _ HB0.out).mono ?_
  rintro e w1 ⟨rfl, hb1⟩
  have HB1 := hide (HB0.out.trans (hb1.mono HB0.out.size))
  clear hb1 q0 q1 q2 q3 q4
  go_wp2
  go_ret
  exact ⟨rfl, HB1.out⟩
theorem many_wrong {c : Cfg} (h8 : 8 < c.rules.length) {k : Int} (hk : CheckIs c k) : k ≠ 0 := by
  intro h0
  subst h0
  obtain ⟨h1, h2, h3⟩ := hk.right rfl
  have h4 : rulesB c = false := by
    unfold rulesB
    rw [show decide (c.rules.length ≤ 8) = false by simp; omega]
    rfl
  have := hk.four h1 h2 h3 h4
  omega
theorem kundone_any (c : Cfg) (v : CfgV) (ao : Option Addr) (m cap : Nat) (st : Nat → KS) (l a n : Int) (w : World) (hok : CfgOk c) (hat : CfgAt w c v) (hcap : c.rules.length ≤ v.rc) (hst : StepsAt w ao m st) (hm : m ≤ 2513169434916) (htx : ∀ i, i < m → (st i).text.size ≤ 140737488355328) (hl : -9223372036854775808 ≤ l ∧ l ≤ 9223372036854775807) (ha : -9223372036854775808 ≤ a ∧ a ≤ 9223372036854775807) (hn : -9223372036854775808 ≤ n ∧ n ≤ 9223372036854775807) :
    Calls Try.prog 3 #[.agg (caseC c v (.slice ao m cap)), .int .i64 l, .int .i64 a, .int .i64 n] w fun e w' => e = .returned (.bool true) ∧ Below w.heap.size w w' := by
  by_cases h8 : c.rules.length ≤ 8
  · obtain ⟨k, hk⟩ := kcheck_ex (bare c)
    by_cases h0 : k = 0
    · subst h0
      exact kundone_walk c v ao m cap st l a n w stZ rfl h8 (right_of hk) (fun w' hb => kopen_ok (bare c) (bareV v) _ w' (bare_ok hok) ((bare_at hat).below hb) (Nat.le_refl _) hk) hst hm htx hl ha hn
    · exact kundone_no c v _ l a n w h8 (fun w' hb => kopen_no (bare c) (bareV v) _ k w' (bare_ok hok) ((bare_at hat).below hb) (Nat.le_refl _) hk h0)
  · obtain ⟨k, hk⟩ := kcheck_ex c
    exact kundone_many c v _ l a n w (by omega) (fun w' hb => kopen_no c v _ k w' hok (hat.below hb) hcap hk (many_wrong (by omega) hk))
end Go.Proofs.Ytgigkiocdiffjab
