/- veilkeep.Shown. -/
import Derived.Test.YtgigkiocdiffjaaGreatKmov0
import Derived.Test.YtgigkiocdiffjaaGreatSOpenCase
import Derived.Test.YtgigkiocdiffjaaGreatKcheck
import Derived.Test.YtgigkiocdiffjaaGreatS07
import Derived.Deep.RegionHeld
namespace Go.Proofs.YtgigkiocdiffjaaGreat
open Go.RowKit Veil
/-- A configuration without its rules. -/
def bare (c : Cfg) : Cfg := ⟨c.labels, c.edges, [], c.grants⟩
def bareV (v : CfgV) : CfgV := ⟨v.ea, v.ec, none, 0, v.ga, v.gc⟩
theorem case5 {w : World} {g : Nat} {a b d e f : Value} {ty : TypeId} (h : w.heap[g]? = some (.cells #[a, b, d, e, f] ty (0, 0))) : w.cell? ⟨g, 0, none⟩ = some a ∧ w.cell? ⟨g, 1, none⟩ = some b ∧ w.cell? ⟨g, 2, none⟩ = some d ∧ w.cell? ⟨g, 3, none⟩ = some e ∧ w.cell? ⟨g, 4, none⟩ = some f :=
  ⟨(cell_of_row _ _ _ _ _ _ h).trans rfl, (cell_of_row _ _ _ _ _ _ h).trans rfl, (cell_of_row _ _ _ _ _ _ h).trans rfl, (cell_of_row _ _ _ _ _ _ h).trans rfl, (cell_of_row _ _ _ _ _ _ h).trans rfl⟩
theorem bare_ok {c : Cfg} (h : CfgOk c) : CfgOk (bare c) := ⟨h.edges, Nat.zero_le _, h.grants, fun r hr => by cases hr⟩
theorem bare_at {w : World} {c : Cfg} {v : CfgV} (h : CfgAt w c v) : CfgAt w (bare c) (bareV v) := ⟨h.edges, Or.inl rfl, h.grants⟩
theorem cell_heap {w w' : World} {b i : Nat} (h : w'.heap[b]? = w.heap[b]?) : w'.cell? ⟨b, i, none⟩ = w.cell? ⟨b, i, none⟩ := by
  unfold World.cell?
  rw [h]
theorem SeqV.leftF {α : Type} {F : Nat → Prop} {B sz : Nat} {f : α → List Value} {w w' : World} {v : Value} {l : List α} (h : SeqV sz f w v l) (hF : ∀ x, v.ownBlock = some x → F x) (hl : LeftF F B w w') : SeqV sz f w' v l := by
  obtain ⟨ao, cap, b, h1, h2, h3⟩ := h
  subst h1
  refine ⟨ao, cap, b, rfl, h2.imp id (fun h => ⟨h.1, Nat.lt_of_lt_of_le h.2 hl.low.size⟩), fun i a hi j hj => ?_⟩
  rcases h2 with h2 | ⟨h2, _⟩
  · rw [h2] at hi
    simp at hi
  · subst h2
    rw [cell_heap (hl.kept b (hF b rfl))]
    exact h3 i a hi j hj
theorem one_open {B : Nat} {g : Nat} {w : World} {c : Cfg} {s : PSt} {p : PV} (h : PInv B w g c s p 0) (x : Nat) (hx : x < B) : One (fun y => y = x) B w g c s 0 := by
  refine ⟨p, h, fun y hy => ⟨?_, fun i hi => ?_⟩⟩
  · have := h.old
    omega
  · have := (h.own.low i y hi).1
    omega
theorem kmoved_any (c : Cfg) (v : CfgV) (hr : Right c) (sv : Value) (o : KS) (e : Int) (was now : List ByteArray) (vw vn : Value) (w : World) (hat : CfgAt w c v) (hw : SeqV 1 strV w vw was) (hn : SeqV 1 strV w vn now) (hlw : was.length = c.n) (hln : now.length = c.n) (h : MovOk c o e was now) :
    Calls Tryz.prog 16 #[.agg (caseC c v sv), .agg o.cells, .int .i64 e, vw, vn] w fun r w' => r = .returned (.bool true) ∧ Below w.heap.size w w' := by
  by_cases k4 : o.kind = 4
  · exact kmoved_rel c v hr sv o e was now vw vn w hat hw hn hlw hln h k4
  · exact kmoved_not c v hr sv o e was now vw vn w hat hw hn hlw hln h (by simpa using k4)
/-- The blocks beside the document: the case's, and the views' of the last step. -/
def shF (x lo hi : Nat) : Nat → Prop := fun y => y = x ∨ (lo ≤ y ∧ y < hi)
set_option maxRecDepth 100000 in
set_option maxHeartbeats 8000000 in
theorem kshown_walk (c : Cfg) (v : CfgV) (ao : Option Addr) (m cap : Nat) (st : Nat → KS) (w : World) (s0 : PSt) (hr8 : c.rules.length ≤ 8) (hr : Right (bare c)) (hat : CfgAt w (bare c) (bareV v))
    (hO : ∀ w', Below w.heap.size w w' → Calls Tryz.prog 13 #[.agg (caseC (bare c) (bareV v) (.slice ao m cap))] w' fun e w'' => ∃ g p, e = .returned (.tuple #[.pointer (some ⟨g, 0, none⟩), .bool true]) ∧ PInv w'.heap.size w'' g (bare c) s0 p 0 ∧ Below w'.heap.size w' w'')
    (hst : StepsAt w ao m st) (hm : m ≤ 2513169434916) (htx : ∀ i, i < m → (st i).text.size ≤ 140737488355328) :
    Calls Tryz.prog 11 #[.agg (caseC c v (.slice ao m cap))] w fun e w' => e = .returned (.bool true) ∧ Below w.heap.size w w' := by
  have HO : Hid (∀ w', Below w.heap.size w w' → Calls Tryz.prog 13 #[.agg #[.int .i64 c.labels, .slice v.ea c.edges.length v.ec, .slice none 0 0, .slice v.ga c.grants.length v.gc, .slice ao m cap]] w' fun e w'' => ∃ g p, e = .returned (.tuple #[.pointer (some ⟨g, 0, none⟩), .bool true]) ∧ PInv w'.heap.size w'' g (bare c) s0 p 0 ∧ Below w'.heap.size w' w'') := hide hO
  have HVW : Hid (∀ (F : Nat → Prop) (B : Nat) (w : World) (g : Nat) (s : PSt) (k : Nat), One F B w g (bare c) s k → Calls Tryz.prog 14 #[.agg #[.int .i64 c.labels, .slice v.ea c.edges.length v.ec, .slice none 0 0, .slice v.ga c.grants.length v.gc, .slice ao m cap], .pointer (some ⟨g, 0, none⟩)] w fun e w' => ∃ vl, e = .returned (.tuple #[vl, .bool true]) ∧ OwnL 9 1 strV w' w.heap.size vl (viewsTo (bare c) s (bare c).n) ∧ Below w.heap.size w w') := hide (fun F B w g s k h => kviews_ok h (bareV v) (.slice ao m cap))
  have HMV : Hid (∀ (o : KS) (e : Int) (was now : List ByteArray) (vw vn : Value) (w' : World), Below w.heap.size w w' → SeqV 1 strV w' vw was → SeqV 1 strV w' vn now → was.length = (bare c).n → now.length = (bare c).n → MovOk (bare c) o e was now → Calls Tryz.prog 16 #[.agg #[.int .i64 c.labels, .slice v.ea c.edges.length v.ec, .slice none 0 0, .slice v.ga c.grants.length v.gc, .slice ao m cap], .agg o.cells, .int .i64 e, vw, vn] w' fun r w'' => r = .returned (.bool true) ∧ Below w'.heap.size w' w'') := hide (fun o e was now vw vn w' hb hw hn hlw hln h => kmoved_any (bare c) (bareV v) hr (.slice ao m cap) o e was now vw vn w' (hat.below hb) hw hn hlw hln h)
  have HMO := hide (fun (o : KS) (s : PSt) (hg : RowGood (bare c) s.row) (hg' : RowGood (bare c) (stepSt (bare c) s o).row) => mov_ok hr rfl o hg hg')
  have HST := hide hst
  have HTX := hide htx
  have HX0 := hide (Go.heap_alloc_new w (.cells #[.int .i64 c.labels, .slice v.ea c.edges.length v.ec, .slice none 0 0, .slice v.ga c.grants.length v.gc, .slice ao m cap] 34))
  have HB0 := hide (below_box w (.cells #[.int .i64 c.labels, .slice v.ea c.edges.length v.ec, .slice none 0 0, .slice v.ga c.grants.length v.gc, .slice ao m cap] 34))
  have HY0 := hide (Go.heap_alloc_new w (.cells (caseC c v (.slice ao m cap)) 34))
  have HLN := hide (viewsTo_length (bare c))
  have hri : (c.rules.length : Int) ≤ 8 := by omega
  clear hO hst htx hr hat
  generalize bare c = c' at *
  unfold caseC at *
  obtain ⟨q0, q1, q2, q3, q4⟩ := case5 HY0.out
  have f2 := frozen_of_row _ _ 2 _ _ HY0.out
  go_enter Tryz.func11, Tryz.ntmps11
  go_wp2_with fail
  generalize hW0 : w.alloc (.cells #[.int .i64 c.labels, .slice v.ea c.edges.length v.ec, .slice none 0 0, .slice v.ga c.grants.length v.gc, .slice ao m cap] 34) = w0 at *
  have hs0 : w0.heap.size = w.heap.size + 1 := by rw [← hW0]; simp
  have HS0 := hide hs0
  clear hs0 hW0 q0 q1 q2 q3 q4 f2 HY0
  refine (HO.out _ HB0.out).mono ?_
  rintro e w1 ⟨g, p, rfl, hia, hb1⟩
  have HO1 := hide (one_open hia w.heap.size (by rw [HS0.out]; omega))
  have HX1 := hide (Below.row hb1 HX0.out (lt_of_row HX0.out))
  have HB1 := hide (HB0.out.trans (hb1.mono HB0.out.size))
  obtain ⟨q0, q1, q2, q3, q4⟩ := case5 HX1.out
  have HV1 := hide (HVW.out _ _ _ _ _ _ HO1.out)
  clear hia hb1
  go_wp2_with fail
  refine (HV1.out).mono ?_
  rintro e w2 ⟨vl, rfl, hol, hb2⟩
  have HSQ := hide (hol.seqV (show ∀ a : ByteArray, (strV a).length = 1 from fun _ => rfl))
  have HOB := hide (fun x hx => (hol.lt (k := x) hx))
  obtain ⟨lao, lcap, hvl⟩ := hol.shape
  rw [HLN.out] at hvl
  subst hvl
  have HO2 := hide (One.new (F' := shF w.heap.size w1.heap.size w2.heap.size) HO1.out hb2 (fun x hx => hx.imp id id))
  have HX2 := hide (Below.row hb2 HX1.out (lt_of_row HX1.out))
  have HB2 := hide (HB1.out.trans (hb2.mono HB1.out.size))
  clear hol hb2 q0 q1 q2 q3 q4
  go_wp2_with fail
  go_loopw [5, 6] (fun wv i wr => ∃ (k : Nat) (s' : PSt) (F : Nat → Prop), k ≤ m ∧ i = .int .i64 k ∧ F w.heap.size ∧ One F w0.heap.size wr g c' s' k ∧ SeqV 1 strV wr wv (viewsTo c' s' c'.n) ∧ (∀ x, wv.ownBlock = some x → F x) ∧ wr.heap[w.heap.size]? = some (.cells #[.int .i64 c.labels, .slice v.ea c.edges.length v.ec, .slice none 0 0, .slice v.ga c.grants.length v.gc, .slice ao m cap] 34 (0, 0)) ∧ Below w.heap.size w wr) (fun _ i _ => m - (intOf i).toNat)
  case atStart => exact ⟨0, _, _, Nat.zero_le _, rfl, Or.inl rfl, HO2.out, HSQ.out, fun x hx => Or.inr (HOB.out x hx), HX2.out, HB2.out⟩
  case round =>
    obtain ⟨wo, rfl⟩ : ∃ x, x = wr := ⟨_, rfl⟩
    obtain ⟨k, s, F, hk, rfl, hF, hone, hsq, hown, hrow, hbel⟩ := hrel
    have HF := hide hF
    have HON := hide hone
    have HSW := hide hsq
    have HWF := hide hown
    have HXO := hide hrow
    obtain ⟨q0, q1, q2, q3, q4⟩ := case5 hrow
    obtain ⟨wao, wcap, wb, hwv, _⟩ := hsq
    rw [HLN.out] at hwv
    subst hwv
    have HBO := hide hbel
    clear hF hone hown hrow hbel
    by_cases hlt : k < m
    · have hki : (k : Int) < (m : Int) := by omega
      obtain ⟨b, off, hao, hbl, hcs⟩ := HST.out.resolve_left (by omega)
      obtain ⟨z0, z1, z2, z3, z4, z5⟩ := StepsAt.cells hcs HBO.out hbl k hlt
      have HZ := hide (fun (w' : World) (hb : Below w.heap.size w w') => StepsAt.cells hcs hb hbl k hlt)
      have HD := hide (one_does HON.out (by omega) (st k) (HTX.out k hlt))
      have HMk := hide (HMO.out (st k) s HON.out.rowGood)
      have hidx : ∀ w', (Instr.indexAt 32 (.slice ao m cap) (.int .i64 (k : Int))).run Tryz.prog w' = .ok (.pointer (some ⟨b, off + k * 6, none⟩)) w' := by
        intro w'
        rw [hao]
        go_simp
      have HMV1 := hide (fun e was now vw vn w' h1 h2 h3 h4 h5 h6 => HMV.out (st k) e was now vw vn w' h1 h2 h3 h4 h5 h6)
      generalize st k = o at *
      generalize hA : stepAns c' s o = A at *
      have HA := hide hA
      generalize hSS : stepSt c' s o = s2 at *
      clear hao hcs hA hSS
      obtain ⟨kind, level, lo, hi, label, text⟩ := o
      obtain ⟨ae, an, ax, al⟩ := A
      unfold KS.cells toldC at *
      simp only at *
      go_wp2_with fail
      refine (HD.out).mono ?_
      rintro e w3 ⟨vt, rfl, ⟨tao, tn, tcap, rfl⟩, hone3, hl3⟩
      have HO3 := hide hone3
      have HX3 := hide ((hl3.kept w.heap.size HF.out).trans HXO.out)
      have HS3 := hide (HSW.out.leftF HWF.out hl3)
      have HB3 := hide (HBO.out.trans (hl3.low.mono (by rw [HS0.out]; omega)))
      clear hone3 hl3 z0 z1 z2 z3 z4 z5 q0 q1 q2 q3 q4
      have HBT := hide (below_box w3 (.cells #[.int .i64 ae, .int .i64 an, .string ax, .slice tao tn tcap] 43))
      have HXT := hide (Go.heap_alloc_new w3 (.cells #[.int .i64 ae, .int .i64 an, .string ax, .slice tao tn tcap] 43))
      have HX4 := hide (Below.row HBT.out HX3.out (lt_of_row HX3.out))
      obtain ⟨q0, q1, q2, q3, q4⟩ := case5 HX4.out
      have HO4 := hide (HO3.out.below HBT.out)
      have HV4 := hide (HVW.out _ _ _ _ _ _ HO4.out)
      go_wp2_with fail
      generalize hW4 : w3.alloc (.cells #[.int .i64 ae, .int .i64 an, .string ax, .slice tao tn tcap] 43) = w4 at *
      have hs4 : w4.heap.size = w3.heap.size + 1 := by rw [← hW4]; simp
      have HS4 := hide hs4
      clear hs4 hW4
      refine (HV4.out).mono ?_
      rintro e w5 ⟨vl, rfl, hol, hb5⟩
      have HSQ5 := hide (hol.seqV (show ∀ a : ByteArray, (strV a).length = 1 from fun _ => rfl))
      have HOB5 := hide (fun x hx => (hol.lt (k := x) hx))
      obtain ⟨lao5, lcap5, hvl⟩ := hol.shape
      rw [HLN.out] at hvl
      subst hvl
      have HX5 := hide (Below.row hb5 HX4.out (lt_of_row HX4.out))
      have HXT5 := hide (Below.row hb5 HXT.out (by rw [HS4.out]; omega))
      have HB5 := hide ((HB3.out.trans (HBT.out.mono HB3.out.size)).trans (hb5.mono ((HB3.out.trans (HBT.out.mono HB3.out.size)).size)))
      have HS5 := hide ((HS3.out.below HBT.out).below hb5)
      have HO5 := hide (One.new (F' := shF w.heap.size w4.heap.size w5.heap.size) HO4.out hb5 (fun x hx => hx.imp (fun e => by rw [e]; exact HF.out) id))
      obtain ⟨y0, y1, y2, y3, y4⟩ := case5 HX5.out
      have t0 : w5.cell? ⟨w3.heap.size, 0, none⟩ = some (.int .i64 ae) := (cell_of_row _ _ _ _ _ _ HXT5.out).trans rfl
      obtain ⟨z0, z1, z2, z3, z4, z5⟩ := HZ.out _ HB5.out
      have HMV5 := hide (HMV1.out ae _ _ _ _ w5.drew HB5.out.drew HS5.out HSQ5.out (HLN.out _ _) (HLN.out _ _) (HMk.out HO5.out.rowGood))
      have HXD := hide (show w5.drew.heap[w.heap.size]? = _ from HX5.out)
      have HTD := hide (show w5.drew.heap[w3.heap.size]? = _ from HXT5.out)
      clear hol hb5 q0 q1 q2 q3 q4
      go_wp2_with fail
      refine wp_region_held_drew (S := (fun w' => (w'.cell? ⟨w.heap.size, 0, none⟩ = some (.int .i64 c.labels) ∧ w'.cell? ⟨w.heap.size, 1, none⟩ = some (.slice v.ea c.edges.length v.ec) ∧ w'.cell? ⟨w.heap.size, 2, none⟩ = some (.slice none 0 0) ∧ w'.cell? ⟨w.heap.size, 3, none⟩ = some (.slice v.ga c.grants.length v.gc) ∧ w'.cell? ⟨w.heap.size, 4, none⟩ = some (.slice ao m cap)) ∧ w'.cell? ⟨w3.heap.size, 0, none⟩ = some (.int .i64 ae) ∧ w'.cell? ⟨b, off + k * 6, none⟩ = some (.int .i64 kind) ∧ w'.cell? ⟨b, off + k * 6 + 1, none⟩ = some (.int .i64 level) ∧ w'.cell? ⟨b, off + k * 6 + 2, none⟩ = some (.int .i64 lo) ∧ w'.cell? ⟨b, off + k * 6 + 3, none⟩ = some (.int .i64 hi) ∧ w'.cell? ⟨b, off + k * 6 + 4, none⟩ = some (.int .i64 label) ∧ w'.cell? ⟨b, off + k * 6 + 5, none⟩ = some (.string text))) (by kernel_rfl) ?_ (fun hHeld => ?_)
      · (try dsimp only); go_keep
      refine takeW 0 (some 59) ?_ rfl rfl (by kernel_rfl) (by kernel_rfl) (by kernel_rfl) (fun _ _ _ h => h) ?_ (by assumption) ?_
      rotate_left 1
      · (intro o ho w hSw; obtain rfl := Option.some.inj ho; clear ho; (try dsimp only at hSw); go_simp; try (with_reducible rfl))
      (try simp only [Act.put, List.setIfInBounds_toArray, List.set_cons_zero, List.set_cons_succ])
      refine takeW 1 (some 60) ?_ rfl rfl (by kernel_rfl) (by kernel_rfl) (by kernel_rfl) (fun _ _ _ h => h) ?_ (by assumption) ?_
      rotate_left 1
      · (intro o ho w hSw; obtain rfl := Option.some.inj ho; clear ho; (try dsimp only at hSw); go_simp; try (with_reducible rfl))
      (try simp only [Act.put, List.setIfInBounds_toArray, List.set_cons_zero, List.set_cons_succ])
      refine takeW 2 (some 61) ?_ rfl rfl (by kernel_rfl) (by kernel_rfl) (by kernel_rfl) (fun _ _ _ h => h) ?_ (by assumption) ?_
      rotate_left 1
      · (intro o ho w hSw; obtain rfl := Option.some.inj ho; clear ho; (try dsimp only at hSw); go_simp; try (with_reducible rfl))
      (try simp only [Act.put, List.setIfInBounds_toArray, List.set_cons_zero, List.set_cons_succ])
      refine takeW 3 (some 62) ?_ rfl rfl (by kernel_rfl) (by kernel_rfl) (by kernel_rfl) (fun _ _ _ h => h) ?_ (by assumption) ?_
      rotate_left 1
      · (intro o ho w hSw; obtain rfl := Option.some.inj ho; clear ho; (try dsimp only at hSw); go_simp; try (with_reducible rfl))
      (try simp only [Act.put, List.setIfInBounds_toArray, List.set_cons_zero, List.set_cons_succ])
      refine takeW 4 (some 63) ?_ rfl rfl (by kernel_rfl) (by kernel_rfl) (by kernel_rfl) (fun _ _ _ h => h) ?_ (by assumption) ?_
      rotate_left 1
      · (intro o ho w hSw; obtain rfl := Option.some.inj ho; clear ho; (try dsimp only at hSw); go_simp; try (with_reducible rfl))
      (try simp only [Act.put, List.setIfInBounds_toArray, List.set_cons_zero, List.set_cons_succ])
      refine takeW 5 (some 64) ?_ rfl rfl (by kernel_rfl) (by kernel_rfl) (by kernel_rfl) (fun _ _ _ h => h) ?_ (by assumption) ?_
      rotate_left 1
      · (intro o ho w hSw; obtain rfl := Option.some.inj ho; clear ho; (try dsimp only at hSw); go_simp; try (with_reducible rfl))
      (try simp only [Act.put, List.setIfInBounds_toArray, List.set_cons_zero, List.set_cons_succ])
      refine takeW 6 (some 65) ?_ rfl rfl (by kernel_rfl) (by kernel_rfl) (by kernel_rfl) (fun _ _ _ h => h) ?_ (by assumption) ?_
      rotate_left 1
      · (intro o ho w hSw; obtain rfl := Option.some.inj ho; clear ho; (try dsimp only at hSw); go_simp; try (with_reducible rfl))
      (try simp only [Act.put, List.setIfInBounds_toArray, List.set_cons_zero, List.set_cons_succ])
      refine takeW 7 (some 66) ?_ rfl rfl (by kernel_rfl) (by kernel_rfl) (by kernel_rfl) (fun _ _ _ h => h) ?_ (by assumption) ?_
      rotate_left 1
      · (intro o ho w hSw; obtain rfl := Option.some.inj ho; clear ho; (try dsimp only at hSw); go_simp; try (with_reducible rfl))
      (try simp only [Act.put, List.setIfInBounds_toArray, List.set_cons_zero, List.set_cons_succ])
      refine takeW 8 (some 67) ?_ rfl rfl (by kernel_rfl) (by kernel_rfl) (by kernel_rfl) (fun _ _ _ h => h) ?_ (by assumption) ?_
      rotate_left 1
      · (intro o ho w hSw; obtain rfl := Option.some.inj ho; clear ho; (try dsimp only at hSw); go_simp; try (with_reducible rfl))
      (try simp only [Act.put, List.setIfInBounds_toArray, List.set_cons_zero, List.set_cons_succ])
      refine takeW 9 (some 68) ?_ rfl rfl (by kernel_rfl) (by kernel_rfl) (by kernel_rfl) (fun _ _ _ h => h) ?_ (by assumption) ?_
      rotate_left 1
      · (intro o ho w hSw; obtain rfl := Option.some.inj ho; clear ho; (try dsimp only at hSw); go_simp; try (with_reducible rfl))
      (try simp only [Act.put, List.setIfInBounds_toArray, List.set_cons_zero, List.set_cons_succ])
      refine wpAnyH_ready (rs := [10]) (by kernel_rfl) (by simp) ?_
      refine AllReadyH.cons rfl (fun K hK => ?_) AllReadyH.nil
      go_simp
      go_wp2_with (go_at_call 16; refine (HMV5.out).mono ?_; rintro e w6 ⟨rfl, hb6⟩)
      have HX6 := hide (Below.row hb6 HXD.out (lt_of_row HXD.out))
      have HT6 := hide (Below.row hb6 HTD.out (lt_of_row HTD.out))
      have HB6 := hide (HB5.out.drew.trans (hb6.mono HB5.out.drew.size))
      refine hK.out _ _ ?_ (fun hHeld => ?_)
      · exact ⟨case5 HX6.out, (cell_of_row _ _ _ _ _ _ HT6.out).trans rfl, HZ.out _ HB6.out⟩
      clear hK K
      refine takeW 11 (some 9) ?_ rfl rfl (by kernel_rfl) (by kernel_rfl) (by kernel_rfl) (fun _ _ _ h => h) ?_ (by assumption) ?_
      rotate_left 1
      · (intro o ho w hSw; obtain rfl := Option.some.inj ho; clear ho; (try dsimp only at hSw); go_simp; try (with_reducible rfl))
      (try simp only [Act.put, List.setIfInBounds_toArray, List.set_cons_zero, List.set_cons_succ])
      refine wpAnyH_done (by kernel_rfl) ?_ _
      have HO6 := hide (One.below (w := w5.drew) (One.below HO5.out (below_drew w5)) hb6)
      have HS6 := hide (SeqV.below (w := w5.drew) (HSQ5.out.below (below_drew w5)) hb6)
      clear hHeld y0 y1 y2 y3 y4 z0 z1 z2 z3 z4 z5 t0 hb6
      go_wp2
      go_roundw
      case rel => exact ⟨k + 1, _, _, by omega, by go_num, Or.inl rfl, HO6.out, HS6.out, fun x hx => Or.inr (HOB5.out x hx), HX6.out, HB6.out⟩
      case measure => simp [intOf]; omega
    · obtain rfl : k = m := by omega
      have hkc : decide ((k : Int) < (k : Int)) = false := by simp
      go_wp2
      go_ret
      exact ⟨rfl, HBO.out⟩
set_option maxRecDepth 100000 in
set_option maxHeartbeats 4000000 in
theorem kshown_no (c : Cfg) (v : CfgV) (sv : Value) (w : World) (hr8 : c.rules.length ≤ 8)
    (hO : ∀ w', Below w.heap.size w w' → Calls Tryz.prog 13 #[.agg #[.int .i64 c.labels, .slice v.ea c.edges.length v.ec, .slice none 0 0, .slice v.ga c.grants.length v.gc, sv]] w' fun e w'' => e = .returned (.tuple #[.pointer none, .bool true]) ∧ Below w'.heap.size w' w'') :
    Calls Tryz.prog 11 #[.agg (caseC c v sv)] w fun e w' => e = .returned (.bool true) ∧ Below w.heap.size w w' := by
  have HO := hide hO
  have HB0 := hide (below_box w (.cells #[.int .i64 c.labels, .slice v.ea c.edges.length v.ec, .slice none 0 0, .slice v.ga c.grants.length v.gc, sv] 34))
  have HY0 := hide (Go.heap_alloc_new w (.cells (caseC c v sv) 34))
  have hri : (c.rules.length : Int) ≤ 8 := by omega
  clear hO
  unfold caseC at *
  obtain ⟨q0, q1, q2, q3, q4⟩ := case5 HY0.out
  have f2 := frozen_of_row _ _ 2 _ _ HY0.out
  go_enter Tryz.func11, Tryz.ntmps11
  go_wp2_with fail
  refine (HO.out _ HB0.out).mono ?_
  rintro e w1 ⟨rfl, hb1⟩
  have HB1 := hide (HB0.out.trans (hb1.mono HB0.out.size))
  clear hb1 q0 q1 q2 q3 q4 f2
  go_wp2
  go_ret
  exact ⟨rfl, HB1.out⟩
set_option maxRecDepth 100000 in
set_option maxHeartbeats 4000000 in
theorem kshown_many (c : Cfg) (v : CfgV) (sv : Value) (w : World) (hr8 : 8 < c.rules.length)
    (hO : ∀ w', Below w.heap.size w w' → Calls Tryz.prog 13 #[.agg (caseC c v sv)] w' fun e w'' => e = .returned (.tuple #[.pointer none, .bool true]) ∧ Below w'.heap.size w' w'') :
    Calls Tryz.prog 11 #[.agg (caseC c v sv)] w fun e w' => e = .returned (.bool true) ∧ Below w.heap.size w w' := by
  have HO := hide hO
  have HB0 := hide (below_box w (.cells (caseC c v sv) 34))
  have HY0 := hide (Go.heap_alloc_new w (.cells (caseC c v sv) 34))
  have hri : decide ((c.rules.length : Int) ≤ 8) = false := by simp; omega
  clear hO
  unfold caseC at *
  obtain ⟨q0, q1, q2, q3, q4⟩ := case5 HY0.out
  go_enter Tryz.func11, Tryz.ntmps11
  go_wp2_with fail
  refine (HO.out _ HB0.out).mono ?_
  rintro e w1 ⟨rfl, hb1⟩
  have HB1 := hide (HB0.out.trans (hb1.mono HB0.out.size))
  clear hb1 q0 q1 q2 q3 q4
  go_wp2
  go_ret
  exact ⟨rfl, HB1.out⟩
theorem many_wrong {c : Cfg} (h8 : 8 < c.rules.length) {k : Int} (hk : CheckIs c k) : k ≠ 0 := by
  intro h0
  subst h0
  obtain ⟨h1, h2, h3⟩ := hk.right rfl
  have h4 : rulesB c = false := by
    unfold rulesB
    rw [show decide (c.rules.length ≤ 8) = false by simp; omega]
    rfl
  have := hk.four h1 h2 h3 h4
  omega
theorem kshown_any (c : Cfg) (v : CfgV) (ao : Option Addr) (m cap : Nat) (st : Nat → KS) (w : World) (hok : CfgOk c) (hat : CfgAt w c v) (hcap : c.rules.length ≤ v.rc) (hst : StepsAt w ao m st) (hm : m ≤ 2513169434916) (htx : ∀ i, i < m → (st i).text.size ≤ 140737488355328) :
    Calls Tryz.prog 11 #[.agg (caseC c v (.slice ao m cap))] w fun e w' => e = .returned (.bool true) ∧ Below w.heap.size w w' := by
  by_cases h8 : c.rules.length ≤ 8
  · obtain ⟨k, hk⟩ := kcheck_ex (bare c)
    by_cases h0 : k = 0
    · subst h0
      exact kshown_walk c v ao m cap st w stZ h8 (right_of hk) (bare_at hat) (fun w' hb => kopen_ok (bare c) (bareV v) _ w' (bare_ok hok) ((bare_at hat).below hb) (Nat.le_refl _) hk) hst hm htx
    · exact kshown_no c v _ w h8 (fun w' hb => kopen_no (bare c) (bareV v) _ k w' (bare_ok hok) ((bare_at hat).below hb) (Nat.le_refl _) hk h0)
  · obtain ⟨k, hk⟩ := kcheck_ex c
    exact kshown_many c v _ w (by omega) (fun w' hb => kopen_no c v _ k w' hok (hat.below hb) hcap hk (many_wrong (by omega) hk))
end Go.Proofs.YtgigkiocdiffjaaGreat
