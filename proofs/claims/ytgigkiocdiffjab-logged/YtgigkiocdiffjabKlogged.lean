/- veilkeep.Logged. -/
import Derived.Test.YtgigkiocdiffjabKbooks
import Derived.Test.YtgigkiocdiffjabKkept2
import Derived.Test.YtgigkiocdiffjabUOpenCase
import Derived.Test.YtgigkiocdiffjabKcheck
import Derived.Test.YtgigkiocdiffjabU07
import Derived.Deep.RegionHeld
namespace Go.Proofs.Ytgigkiocdiffjab
open Go.RowKit Veil
theorem case5 {w : World} {g : Nat} {a b d e f : Value} {ty : TypeId} (h : w.heap[g]? = some (.cells #[a, b, d, e, f] ty (0, 0))) : w.cell? ⟨g, 0, none⟩ = some a ∧ w.cell? ⟨g, 1, none⟩ = some b ∧ w.cell? ⟨g, 2, none⟩ = some d ∧ w.cell? ⟨g, 3, none⟩ = some e ∧ w.cell? ⟨g, 4, none⟩ = some f :=
  ⟨(cell_of_row _ _ _ _ _ _ h).trans rfl, (cell_of_row _ _ _ _ _ _ h).trans rfl, (cell_of_row _ _ _ _ _ _ h).trans rfl, (cell_of_row _ _ _ _ _ _ h).trans rfl, (cell_of_row _ _ _ _ _ _ h).trans rfl⟩
theorem cell_heap {w w' : World} {b i : Nat} (h : w'.heap[b]? = w.heap[b]?) : w'.cell? ⟨b, i, none⟩ = w.cell? ⟨b, i, none⟩ := by
  unfold World.cell?
  rw [h]
theorem SeqV.leftF {α : Type} {F : Nat → Prop} {B sz : Nat} {f : α → List Value} {w w' : World} {v : Value} {l : List α} (h : SeqV sz f w v l) (hF : ∀ x, v.ownBlock = some x → F x) (hl : LeftF F B w w') : SeqV sz f w' v l := by
  obtain ⟨ao, cap, b, h1, h2, h3⟩ := h
  subst h1
  refine ⟨ao, cap, b, rfl, h2.imp id (fun h => ⟨h.1, Nat.lt_of_lt_of_le h.2 hl.low.size⟩), fun i a hi j hj => ?_⟩
  rcases h2 with h2 | ⟨h2, _⟩
  · rw [h2] at hi
    simp at hi
  · subst h2
    rw [cell_heap (hl.kept b (hF b rfl))]
    exact h3 i a hi j hj
theorem one_open {B : Nat} {g : Nat} {w : World} {c : Cfg} {s : PSt} {p : PV} (h : PInv B w g c s p 0) (x : Nat) (hx : x < B) : One (fun y => y = x) B w g c s 0 := by
  refine ⟨p, h, fun y hy => ⟨?_, fun i hi => ?_⟩⟩
  · have := h.old
    omega
  · have := (h.own.low i y hi).1
    omega
/-- The books as they are read; their blocks are among F. -/
def BooksF (F : Nat → Prop) (w : World) (vl : Value) (s : PSt) (n : Nat) : Prop :=
  ∃ L : List Bk, L.length = n ∧ SeqV 2 bkV w vl L ∧ (∀ x, vl.ownBlock = some x → F x) ∧ ∀ i b, L[i]? = some b → b.ver = s.V i ∧ SeqV 3 recV w b.log (s.L i) ∧ ∀ x, b.log.ownBlock = some x → F x
theorem BooksTo.reads {w : World} {B : Nat} {vl : Value} {s : PSt} {n : Nat} (h : BooksTo w B vl s n) : BooksF (fun y => B ≤ y ∧ y < w.heap.size) w vl s n := by
  obtain ⟨L, h1, h2, h3⟩ := h
  exact ⟨L, h1, h2.seqV (fun _ => rfl), fun x hx => h2.lt hx, fun i b hi => ⟨(h3 i b hi).1, (h3 i b hi).2.1.seqV (fun _ => rfl), fun x hx => (h3 i b hi).2.1.lt hx⟩⟩
theorem BooksF.sub {F F' : Nat → Prop} {w : World} {vl : Value} {s : PSt} {n : Nat} (h : BooksF F w vl s n) (hF : ∀ x, F x → F' x) : BooksF F' w vl s n := by
  obtain ⟨L, h1, h2, h3, h4⟩ := h
  exact ⟨L, h1, h2, fun x hx => hF x (h3 x hx), fun i b hi => ⟨(h4 i b hi).1, (h4 i b hi).2.1, fun x hx => hF x ((h4 i b hi).2.2 x hx)⟩⟩
theorem BooksF.left {F : Nat → Prop} {B : Nat} {w w' : World} {vl : Value} {s : PSt} {n : Nat} (h : BooksF F w vl s n) (hl : LeftF F B w w') : BooksF F w' vl s n := by
  obtain ⟨L, h1, h2, h3, h4⟩ := h
  exact ⟨L, h1, h2.leftF h3 hl, h3, fun i b hi => ⟨(h4 i b hi).1, (h4 i b hi).2.1.leftF (h4 i b hi).2.2 hl, (h4 i b hi).2.2⟩⟩
theorem BooksF.below {F : Nat → Prop} {w w' : World} {vl : Value} {s : PSt} {n : Nat} (h : BooksF F w vl s n) (hb : Below w.heap.size w w') : BooksF F w' vl s n := by
  obtain ⟨L, h1, h2, h3, h4⟩ := h
  exact ⟨L, h1, h2.below hb, h3, fun i b hi => ⟨(h4 i b hi).1, (h4 i b hi).2.1.below hb, (h4 i b hi).2.2⟩⟩
theorem BooksF.shape {F : Nat → Prop} {w : World} {vl : Value} {s : PSt} {n : Nat} (h : BooksF F w vl s n) : ∃ ao cap, vl = .slice ao n cap := by
  obtain ⟨L, h1, ⟨ao, cap, b, h2, _⟩, _⟩ := h
  exact ⟨ao, cap, by rw [h2, h1]⟩
/-- One book. -/
theorem BooksF.at {F : Nat → Prop} {w : World} {ao : Option Addr} {n m cap : Nat} {s : PSt} (h : BooksF F w (.slice ao m cap) s n) {d : Nat} (hd : d < n) :
    ∃ (b : Nat) (lo : Option Addr) (ln lc : Nat), ao = some ⟨b, 0, none⟩ ∧ w.cell? ⟨b, d * 2, none⟩ = some (.slice lo ln lc) ∧ w.cell? ⟨b, d * 2 + 1, none⟩ = some (.int .i64 (s.V d : Nat)) ∧ SeqV 3 recV w (.slice lo ln lc) (s.L d) ∧ b < w.heap.size := by
  obtain ⟨L, h1, ⟨ao', cap', b, h2, h3, h5⟩, _, h4⟩ := h
  have hg : L[d]? = some L[d] := List.getElem?_eq_getElem (by omega)
  obtain ⟨h6, h7, _⟩ := h4 d _ hg
  obtain ⟨h8, h9⟩ := h3.resolve_left (fun e => by rw [e] at h1; simp at h1; omega)
  have e0 := h5 d _ hg 0 (by omega)
  have e1 := h5 d _ hg 1 (by omega)
  simp only [Value.slice.injEq] at h2
  refine ⟨b, L[d].ao, L[d].n, L[d].cap, h2.1.trans h8, e0, ?_, h7, h9⟩
  rw [← h6]
  exact e1
def lgF (x lo hi : Nat) : Nat → Prop := fun y => y = x ∨ (lo ≤ y ∧ y < hi)
set_option maxRecDepth 100000 in
set_option maxHeartbeats 8000000 in
theorem klogged_walk (c : Cfg) (v : CfgV) (ao : Option Addr) (m cap : Nat) (st : Nat → KS) (w : World) (s0 : PSt) (hr : Right c) (hat : CfgAt w c v)
    (hO : ∀ w', Below w.heap.size w w' → Calls Try.prog 7 #[.agg (caseC c v (.slice ao m cap))] w' fun e w'' => ∃ g p, e = .returned (.tuple #[.pointer (some ⟨g, 0, none⟩), .bool true]) ∧ PInv w'.heap.size w'' g c s0 p 0 ∧ Below w'.heap.size w' w'')
    (hst : StepsAt w ao m st) (hm : m ≤ 2513169434916) (htx : ∀ i, i < m → (st i).text.size ≤ 140737488355328) :
    Calls Try.prog 4 #[.agg (caseC c v (.slice ao m cap))] w fun e w' => e = .returned (.bool true) ∧ Below w.heap.size w w' := by
  obtain ⟨_, _, _, _, hcn, hn6, _⟩ := labels_of hr.labels
  have HCN := hide hcn
  have HO := hide hO
  have HST := hide hst
  have HTX := hide htx
  have HKP := hide (fun (o : KS) (s : PSt) (d : Nat) (hd : d < c.n) (lw ln : Value) (w' : World) (hb : Below w.heap.size w w') (hw : SeqV 3 recV w' lw (s.L d)) (hn : SeqV 3 recV w' ln ((stepSt c s o).L d)) (hL : (s.L d).length ≤ 8) (hV : s.V d ≤ 4000000000000) (hg : RowGood c s.row) => kkept_any c v hr (.slice ao m cap) o s d hd lw ln w' (hat.below hb) hw hn hL hV hg)
  have HBK := hide (fun (F : Nat → Prop) (B : Nat) (w : World) (g : Nat) (s : PSt) (k : Nat) (h : One F B w g c s k) => kbooks_ok h v (.slice ao m cap))
  have HX0 := hide (Go.heap_alloc_new w (.cells (caseC c v (.slice ao m cap)) 29))
  have HB0 := hide (below_box w (.cells (caseC c v (.slice ao m cap)) 29))
  clear hO hst htx hcn hr hat
  unfold caseC at *
  obtain ⟨q0, q1, q2, q3, q4⟩ := case5 HX0.out
  go_enter Try.func4, Try.ntmps4
  go_wp2_with fail
  generalize hW0 : w.alloc (.cells #[.int .i64 c.labels, .slice v.ea c.edges.length v.ec, .slice v.ra c.rules.length v.rc, .slice v.ga c.grants.length v.gc, .slice ao m cap] 29) = w0 at *
  have hs0 : w0.heap.size = w.heap.size + 1 := by rw [← hW0]; simp
  have HS0 := hide hs0
  clear hs0 hW0 q0 q1 q2 q3 q4
  refine (HO.out _ HB0.out).mono ?_
  rintro e w1 ⟨g, p, rfl, hia, hb1⟩
  have HO1 := hide (one_open hia w.heap.size (by rw [HS0.out]; omega))
  have HX1 := hide (Below.row hb1 HX0.out (lt_of_row HX0.out))
  have HB1 := hide (HB0.out.trans (hb1.mono HB0.out.size))
  obtain ⟨q0, q1, q2, q3, q4⟩ := case5 HX1.out
  have HV1 := hide (HBK.out _ _ _ _ _ _ HO1.out)
  clear hia hb1
  go_wp2_with fail
  refine (HV1.out).mono ?_
  rintro e w2 ⟨vl, rfl, hbk, hb2⟩
  have HBF := hide (hbk.reads.sub (F' := lgF w.heap.size w1.heap.size w2.heap.size) (fun x hx => Or.inr hx))
  obtain ⟨lao, lcap, hvl⟩ := hbk.reads.shape
  subst hvl
  have HO2 := hide (One.new (F' := lgF w.heap.size w1.heap.size w2.heap.size) HO1.out hb2 (fun x hx => hx.imp id id))
  have HX2 := hide (Below.row hb2 HX1.out (lt_of_row HX1.out))
  have HB2 := hide (HB1.out.trans (hb2.mono HB1.out.size))
  clear hbk hb2 q0 q1 q2 q3 q4
  go_wp2_with fail
  go_loopw [5, 6] (fun wv i wr => ∃ (k : Nat) (s' : PSt) (F : Nat → Prop), k ≤ m ∧ i = .int .i64 k ∧ F w.heap.size ∧ One F w0.heap.size wr g c s' k ∧ BooksF F wr wv s' c.n ∧ wr.heap[w.heap.size]? = some (.cells #[.int .i64 c.labels, .slice v.ea c.edges.length v.ec, .slice v.ra c.rules.length v.rc, .slice v.ga c.grants.length v.gc, .slice ao m cap] 29 (0, 0)) ∧ Below w.heap.size w wr) (fun _ i _ => m - (intOf i).toNat)
  case atStart => exact ⟨0, _, _, Nat.zero_le _, rfl, Or.inl rfl, HO2.out, HBF.out, HX2.out, HB2.out⟩
  case round =>
    obtain ⟨wo, rfl⟩ : ∃ x, x = wr := ⟨_, rfl⟩
    obtain ⟨k, s, F, hk, rfl, hF, hone, hbf, hrow, hbel⟩ := hrel
    have HF := hide hF
    have HON := hide hone
    have HBO := hide hbel
    have HXO := hide hrow
    obtain ⟨q0, q1, q2, q3, q4⟩ := case5 hrow
    have HBF1 := hide hbf
    obtain ⟨wao, wcap, hwv⟩ := hbf.shape
    subst hwv
    clear hF hone hbf hrow hbel
    by_cases hlt : k < m
    · have hki : (k : Int) < (m : Int) := by omega
      obtain ⟨b, off, hao, hbl, hcs⟩ := HST.out.resolve_left (by omega)
      obtain ⟨z0, z1, z2, z3, z4, z5⟩ := StepsAt.cells hcs HBO.out hbl k hlt
      have HZ := hide (fun (w' : World) (hb : Below w.heap.size w w') => StepsAt.cells hcs hb hbl k hlt)
      have HD := hide (one_does HON.out (by omega) (st k) (HTX.out k hlt))
      have hidx : ∀ w', (Instr.indexAt 27 (.slice ao m cap) (.int .i64 (k : Int))).run Try.prog w' = .ok (.pointer (some ⟨b, off + k * 6, none⟩)) w' := by
        intro w'
        rw [hao]
        go_simp
      have HKP1 := hide (fun (d : Nat) (hd : d < c.n) (lw ln : Value) (w' : World) (hb : Below w.heap.size w w') (hw : SeqV 3 recV w' lw (s.L d)) (hn : SeqV 3 recV w' ln ((stepSt c s (st k)).L d)) => HKP.out (st k) s d hd lw ln w' hb hw hn (HON.out.logs d hd) (Nat.le_trans (HON.out.vers d hd) (by omega)) HON.out.rowGood)
      generalize st k = o at *
      generalize hA : stepAns c s o = A at *
      generalize hSS : stepSt c s o = s2 at *
      clear hao hcs hA hSS
      obtain ⟨kind, level, lo, hi, label, text⟩ := o
      obtain ⟨ae, an, ax, al⟩ := A
      unfold KS.cells toldC at *
      simp only at *
      go_wp2_with fail
      refine (HD.out).mono ?_
      rintro e w3 ⟨vt, rfl, ⟨tao, tn, tcap, rfl⟩, hone3, hl3⟩
      have HO3 := hide hone3
      have HX3 := hide ((hl3.kept w.heap.size HF.out).trans HXO.out)
      have HS3 := hide (HBF1.out.left hl3)
      have HB3 := hide (HBO.out.trans (hl3.low.mono (by rw [HS0.out]; omega)))
      clear hone3 hl3 z0 z1 z2 z3 z4 z5 q0 q1 q2 q3 q4
      have HBT := hide (below_box w3 (.cells #[.int .i64 ae, .int .i64 an, .string ax, .slice tao tn tcap] 37))
      have HXT := hide (Go.heap_alloc_new w3 (.cells #[.int .i64 ae, .int .i64 an, .string ax, .slice tao tn tcap] 37))
      have HX4 := hide (Below.row HBT.out HX3.out (lt_of_row HX3.out))
      obtain ⟨q0, q1, q2, q3, q4⟩ := case5 HX4.out
      have HO4 := hide (HO3.out.below HBT.out)
      have HV4 := hide (HBK.out _ _ _ _ _ _ HO4.out)
      go_wp2_with fail
      generalize hW4 : w3.alloc (.cells #[.int .i64 ae, .int .i64 an, .string ax, .slice tao tn tcap] 37) = w4 at *
      have hs4 : w4.heap.size = w3.heap.size + 1 := by rw [← hW4]; simp
      have HS4 := hide hs4
      clear hs4 hW4
      refine (HV4.out).mono ?_
      rintro e w5 ⟨vl, rfl, hbk, hb5⟩
      have HBF5 := hide (hbk.reads.sub (F' := lgF w.heap.size w4.heap.size w5.heap.size) (fun x hx => Or.inr hx))
      obtain ⟨lao5, lcap5, hvl⟩ := hbk.reads.shape
      subst hvl
      have HX5 := hide (Below.row hb5 HX4.out (lt_of_row HX4.out))
      have HXT5 := hide (Below.row hb5 HXT.out (by rw [HS4.out]; omega))
      have HB5 := hide ((HB3.out.trans (HBT.out.mono HB3.out.size)).trans (hb5.mono ((HB3.out.trans (HBT.out.mono HB3.out.size)).size)))
      have HS5 := hide ((HS3.out.below HBT.out).below hb5)
      have HO5 := hide (One.new (F' := lgF w.heap.size w4.heap.size w5.heap.size) HO4.out hb5 (fun x hx => hx.imp (fun e => by rw [e]; exact HF.out) id))
      clear hbk hb5 q0 q1 q2 q3 q4
      go_wp2_with fail
      go_loopw [10] (fun i wr => ∃ d : Nat, d ≤ c.n ∧ i = .int .i64 d ∧ Below w5.heap.size w5 wr) (fun i _ => c.n - (intOf i).toNat)
      case atStart => exact ⟨0, Nat.zero_le _, rfl, Below.refl _ _⟩
      case round =>
        obtain ⟨wi, rfl⟩ : ∃ x, x = wr := ⟨_, rfl⟩
        obtain ⟨d, hd, rfl, hbi⟩ := hrel
        have HXI := hide (Below.row hbi HX5.out (lt_of_row HX5.out))
        have HTI := hide (Below.row hbi HXT5.out (lt_of_row HXT5.out))
        have HBI := hide (HB5.out.trans (hbi.mono HB5.out.size))
        obtain ⟨y0, y1, y2, y3, y4⟩ := case5 HXI.out
        by_cases hdn : d < c.n
        · have hdi : (d : Int) < c.labels := by rw [← HCN.out]; omega
          have hdj : (d : Int) < (c.n : Int) := by omega
          obtain ⟨wb, wlo, wln, wlc, rfl, a0, a1, HAS, hwb⟩ := (HS5.out.below hbi).at hdn
          obtain ⟨nb, nlo, nln, nlc, rfl, b0, b1, HBS, hnb⟩ := (HBF5.out.below hbi).at hdn
          have HAH := hide HAS
          have HBH := hide HBS
          clear HAS HBS
          have t0 : wi.cell? ⟨w3.heap.size, 0, none⟩ = some (.int .i64 ae) := (cell_of_row _ _ _ _ _ _ HTI.out).trans rfl
          obtain ⟨z0, z1, z2, z3, z4, z5⟩ := HZ.out _ HBI.out
          have HK5 := hide (HKP1.out d hdn _ _ wi.drew HBI.out.drew (HAH.out.below (below_drew wi)) (HBH.out.below (below_drew wi)))
          generalize (s.V d) = V1 at *
          generalize (s2.V d) = V2 at *
          go_wp2_with fail
          refine wp_region_held_drew (S := (fun w' => (w'.cell? ⟨w.heap.size, 0, none⟩ = some (.int .i64 c.labels) ∧ w'.cell? ⟨w.heap.size, 1, none⟩ = some (.slice v.ea c.edges.length v.ec) ∧ w'.cell? ⟨w.heap.size, 2, none⟩ = some (.slice v.ra c.rules.length v.rc) ∧ w'.cell? ⟨w.heap.size, 3, none⟩ = some (.slice v.ga c.grants.length v.gc) ∧ w'.cell? ⟨w.heap.size, 4, none⟩ = some (.slice ao m cap)) ∧ w'.cell? ⟨w3.heap.size, 0, none⟩ = some (.int .i64 ae) ∧ (w'.cell? ⟨b, off + k * 6, none⟩ = some (.int .i64 kind) ∧ w'.cell? ⟨b, off + k * 6 + 1, none⟩ = some (.int .i64 level) ∧ w'.cell? ⟨b, off + k * 6 + 2, none⟩ = some (.int .i64 lo) ∧ w'.cell? ⟨b, off + k * 6 + 3, none⟩ = some (.int .i64 hi) ∧ w'.cell? ⟨b, off + k * 6 + 4, none⟩ = some (.int .i64 label) ∧ w'.cell? ⟨b, off + k * 6 + 5, none⟩ = some (.string text)) ∧ w'.cell? ⟨wb, d * 2, none⟩ = some (.slice wlo wln wlc) ∧ w'.cell? ⟨wb, d * 2 + 1, none⟩ = some (.int .i64 V1) ∧ w'.cell? ⟨nb, d * 2, none⟩ = some (.slice nlo nln nlc) ∧ w'.cell? ⟨nb, d * 2 + 1, none⟩ = some (.int .i64 V2))) (by kernel_rfl) ?_ (fun hHeld => ?_)
          · (try dsimp only); go_keep
          refine takeW 0 (some 60) ?_ rfl rfl (by kernel_rfl) (by kernel_rfl) (by kernel_rfl) (fun _ _ _ h => h) ?_ (by assumption) ?_
          rotate_left 1
          · (intro o ho w hSw; obtain rfl := Option.some.inj ho; clear ho; (try dsimp only at hSw); go_simp; try (with_reducible rfl))
          (try simp only [Act.put, List.setIfInBounds_toArray, List.set_cons_zero, List.set_cons_succ])
          refine takeW 1 (some 61) ?_ rfl rfl (by kernel_rfl) (by kernel_rfl) (by kernel_rfl) (fun _ _ _ h => h) ?_ (by assumption) ?_
          rotate_left 1
          · (intro o ho w hSw; obtain rfl := Option.some.inj ho; clear ho; (try dsimp only at hSw); go_simp; try (with_reducible rfl))
          (try simp only [Act.put, List.setIfInBounds_toArray, List.set_cons_zero, List.set_cons_succ])
          refine takeW 2 (some 62) ?_ rfl rfl (by kernel_rfl) (by kernel_rfl) (by kernel_rfl) (fun _ _ _ h => h) ?_ (by assumption) ?_
          rotate_left 1
          · (intro o ho w hSw; obtain rfl := Option.some.inj ho; clear ho; (try dsimp only at hSw); go_simp; try (with_reducible rfl))
          (try simp only [Act.put, List.setIfInBounds_toArray, List.set_cons_zero, List.set_cons_succ])
          refine takeW 3 (some 63) ?_ rfl rfl (by kernel_rfl) (by kernel_rfl) (by kernel_rfl) (fun _ _ _ h => h) ?_ (by assumption) ?_
          rotate_left 1
          · (intro o ho w hSw; obtain rfl := Option.some.inj ho; clear ho; (try dsimp only at hSw); go_simp; try (with_reducible rfl))
          (try simp only [Act.put, List.setIfInBounds_toArray, List.set_cons_zero, List.set_cons_succ])
          refine takeW 4 (some 64) ?_ rfl rfl (by kernel_rfl) (by kernel_rfl) (by kernel_rfl) (fun _ _ _ h => h) ?_ (by assumption) ?_
          rotate_left 1
          · (intro o ho w hSw; obtain rfl := Option.some.inj ho; clear ho; (try dsimp only at hSw); go_simp; try (with_reducible rfl))
          (try simp only [Act.put, List.setIfInBounds_toArray, List.set_cons_zero, List.set_cons_succ])
          refine takeW 5 (some 65) ?_ rfl rfl (by kernel_rfl) (by kernel_rfl) (by kernel_rfl) (fun _ _ _ h => h) ?_ (by assumption) ?_
          rotate_left 1
          · (intro o ho w hSw; obtain rfl := Option.some.inj ho; clear ho; (try dsimp only at hSw); go_simp; try (with_reducible rfl))
          (try simp only [Act.put, List.setIfInBounds_toArray, List.set_cons_zero, List.set_cons_succ])
          refine takeW 6 (some 66) ?_ rfl rfl (by kernel_rfl) (by kernel_rfl) (by kernel_rfl) (fun _ _ _ h => h) ?_ (by assumption) ?_
          rotate_left 1
          · (intro o ho w hSw; obtain rfl := Option.some.inj ho; clear ho; (try dsimp only at hSw); go_simp; try (with_reducible rfl))
          (try simp only [Act.put, List.setIfInBounds_toArray, List.set_cons_zero, List.set_cons_succ])
          refine takeW 7 (some 67) ?_ rfl rfl (by kernel_rfl) (by kernel_rfl) (by kernel_rfl) (fun _ _ _ h => h) ?_ (by assumption) ?_
          rotate_left 1
          · (intro o ho w hSw; obtain rfl := Option.some.inj ho; clear ho; (try dsimp only at hSw); go_simp; try (with_reducible rfl))
          (try simp only [Act.put, List.setIfInBounds_toArray, List.set_cons_zero, List.set_cons_succ])
          refine takeW 8 (some 68) ?_ rfl rfl (by kernel_rfl) (by kernel_rfl) (by kernel_rfl) (fun _ _ _ h => h) ?_ (by assumption) ?_
          rotate_left 1
          · (intro o ho w hSw; obtain rfl := Option.some.inj ho; clear ho; (try dsimp only at hSw); go_simp; try (with_reducible rfl))
          (try simp only [Act.put, List.setIfInBounds_toArray, List.set_cons_zero, List.set_cons_succ])
          refine takeW 9 (some 69) ?_ rfl rfl (by kernel_rfl) (by kernel_rfl) (by kernel_rfl) (fun _ _ _ h => h) ?_ (by assumption) ?_
          rotate_left 1
          · (intro o ho w hSw; obtain rfl := Option.some.inj ho; clear ho; (try dsimp only at hSw); go_simp; try (with_reducible rfl))
          (try simp only [Act.put, List.setIfInBounds_toArray, List.set_cons_zero, List.set_cons_succ])
          refine takeW 10 (some 70) ?_ rfl rfl (by kernel_rfl) (by kernel_rfl) (by kernel_rfl) (fun _ _ _ h => h) ?_ (by assumption) ?_
          rotate_left 1
          · (intro o ho w hSw; obtain rfl := Option.some.inj ho; clear ho; (try dsimp only at hSw); go_simp; try (with_reducible rfl))
          (try simp only [Act.put, List.setIfInBounds_toArray, List.set_cons_zero, List.set_cons_succ])
          refine takeW 11 (some 71) ?_ rfl rfl (by kernel_rfl) (by kernel_rfl) (by kernel_rfl) (fun _ _ _ h => h) ?_ (by assumption) ?_
          rotate_left 1
          · (intro o ho w hSw; obtain rfl := Option.some.inj ho; clear ho; (try dsimp only at hSw); go_simp; try (with_reducible rfl))
          (try simp only [Act.put, List.setIfInBounds_toArray, List.set_cons_zero, List.set_cons_succ])
          refine takeW 12 (some 72) ?_ rfl rfl (by kernel_rfl) (by kernel_rfl) (by kernel_rfl) (fun _ _ _ h => h) ?_ (by assumption) ?_
          rotate_left 1
          · (intro o ho w hSw; obtain rfl := Option.some.inj ho; clear ho; (try dsimp only at hSw); go_simp; try (with_reducible rfl))
          (try simp only [Act.put, List.setIfInBounds_toArray, List.set_cons_zero, List.set_cons_succ])
          refine takeW 13 (some 73) ?_ rfl rfl (by kernel_rfl) (by kernel_rfl) (by kernel_rfl) (fun _ _ _ h => h) ?_ (by assumption) ?_
          rotate_left 1
          · (intro o ho w hSw; obtain rfl := Option.some.inj ho; clear ho; (try dsimp only at hSw); go_simp; try (with_reducible rfl))
          (try simp only [Act.put, List.setIfInBounds_toArray, List.set_cons_zero, List.set_cons_succ])
          refine takeW 14 (some 74) ?_ rfl rfl (by kernel_rfl) (by kernel_rfl) (by kernel_rfl) (fun _ _ _ h => h) ?_ (by assumption) ?_
          rotate_left 1
          · (intro o ho w hSw; obtain rfl := Option.some.inj ho; clear ho; (try dsimp only at hSw); go_simp; try (with_reducible rfl))
          (try simp only [Act.put, List.setIfInBounds_toArray, List.set_cons_zero, List.set_cons_succ])
          refine takeW 15 (some 75) ?_ rfl rfl (by kernel_rfl) (by kernel_rfl) (by kernel_rfl) (fun _ _ _ h => h) ?_ (by assumption) ?_
          rotate_left 1
          · (intro o ho w hSw; obtain rfl := Option.some.inj ho; clear ho; (try dsimp only at hSw); go_simp; try (with_reducible rfl))
          (try simp only [Act.put, List.setIfInBounds_toArray, List.set_cons_zero, List.set_cons_succ])
          refine takeW 16 (some 76) ?_ rfl rfl (by kernel_rfl) (by kernel_rfl) (by kernel_rfl) (fun _ _ _ h => h) ?_ (by assumption) ?_
          rotate_left 1
          · (intro o ho w hSw; obtain rfl := Option.some.inj ho; clear ho; (try dsimp only at hSw); go_simp; try (with_reducible rfl))
          (try simp only [Act.put, List.setIfInBounds_toArray, List.set_cons_zero, List.set_cons_succ])
          refine wpAnyH_ready (rs := [17]) (by kernel_rfl) (by simp) ?_
          refine AllReadyH.cons rfl (fun K hK => ?_) AllReadyH.nil
          go_simp
          go_wp2_with (go_at_call 16; refine (HK5.out).mono ?_; rintro e w6 ⟨rfl, hb6⟩)
          have HX6 := hide (Below.row (w := wi.drew) hb6 HXI.out (lt_of_row HXI.out))
          have HT6 := hide (Below.row (w := wi.drew) hb6 HTI.out (lt_of_row HTI.out))
          have HB6 := hide (HBI.out.drew.trans (hb6.mono HBI.out.drew.size))
          refine hK.out _ _ ?_ (fun hHeld => ?_)
          · exact ⟨case5 HX6.out, (cell_of_row _ _ _ _ _ _ HT6.out).trans rfl, HZ.out _ HB6.out, (hb6.cell (p := ⟨wb, d * 2, none⟩) hwb).trans a0, (hb6.cell (p := ⟨wb, d * 2 + 1, none⟩) hwb).trans a1, (hb6.cell (p := ⟨nb, d * 2, none⟩) hnb).trans b0, (hb6.cell (p := ⟨nb, d * 2 + 1, none⟩) hnb).trans b1⟩
          clear hK K
          refine takeW 18 (some 9) ?_ rfl rfl (by kernel_rfl) (by kernel_rfl) (by kernel_rfl) (fun _ _ _ h => h) ?_ (by assumption) ?_
          rotate_left 1
          · (intro o ho w hSw; obtain rfl := Option.some.inj ho; clear ho; (try dsimp only at hSw); go_simp; try (with_reducible rfl))
          (try simp only [Act.put, List.setIfInBounds_toArray, List.set_cons_zero, List.set_cons_succ])
          refine wpAnyH_done (by kernel_rfl) ?_ _
          have hbi6 := hbi.drew.trans (hb6.mono hbi.drew.size)
          clear hHeld y0 y1 y2 y3 y4 z0 z1 z2 z3 z4 z5 t0 hb6 a0 a1 b0 b1
          go_wp2
          go_roundw
          case rel => exact ⟨d + 1, by omega, by go_num, hbi6⟩
          case measure => simp [intOf]; omega
        · obtain rfl : d = c.n := by omega
          have hkc : decide ((c.n : Int) < c.labels) = false := by rw [← HCN.out]; simp
          have HO6 := hide (HO5.out.below hbi)
          have HF6 := hide (HBF5.out.below hbi)
          go_wp2
          go_roundw
          case rel => exact ⟨k + 1, _, _, by omega, by go_num, Or.inl rfl, HO6.out, HF6.out, HXI.out, HBI.out⟩
          case measure => simp [intOf]; omega
    · obtain rfl : k = m := by omega
      have hkc : decide ((k : Int) < (k : Int)) = false := by simp
      go_wp2
      go_ret
      exact ⟨rfl, HBO.out⟩
set_option maxRecDepth 100000 in
set_option maxHeartbeats 4000000 in
theorem klogged_no (c : Cfg) (v : CfgV) (sv : Value) (w : World)
    (hO : ∀ w', Below w.heap.size w w' → Calls Try.prog 7 #[.agg (caseC c v sv)] w' fun e w'' => e = .returned (.tuple #[.pointer none, .bool true]) ∧ Below w'.heap.size w' w'') :
    Calls Try.prog 4 #[.agg (caseC c v sv)] w fun e w' => e = .returned (.bool true) ∧ Below w.heap.size w w' := by
  have HO := hide hO
  have HX0 := hide (Go.heap_alloc_new w (.cells (caseC c v sv) 29))
  have HB0 := hide (below_box w (.cells (caseC c v sv) 29))
  clear hO
  unfold caseC at *
  obtain ⟨q0, q1, q2, q3, q4⟩ := case5 HX0.out
  go_enter Try.func4, Try.ntmps4
  go_wp2_with fail
  refine (HO.out _ HB0.out).mono ?_
  rintro e w1 ⟨rfl, hb1⟩
  have HB1 := hide (HB0.out.trans (hb1.mono HB0.out.size))
  clear hb1 q0 q1 q2 q3 q4
  go_wp2
  go_ret
  exact ⟨rfl, HB1.out⟩
theorem klogged_any (c : Cfg) (v : CfgV) (ao : Option Addr) (m cap : Nat) (st : Nat → KS) (w : World) (hok : CfgOk c) (hat : CfgAt w c v) (hcap : c.rules.length ≤ v.rc) (hst : StepsAt w ao m st) (hm : m ≤ 2513169434916) (htx : ∀ i, i < m → (st i).text.size ≤ 140737488355328) :
    Calls Try.prog 4 #[.agg (caseC c v (.slice ao m cap))] w fun e w' => e = .returned (.bool true) ∧ Below w.heap.size w w' := by
  obtain ⟨k, hk⟩ := kcheck_ex c
  by_cases h0 : k = 0
  · subst h0
    obtain ⟨_, _, _, _, _, _, _⟩ := labels_of (right_of hk).labels
    exact klogged_walk c v ao m cap st w stZ (right_of hk) hat (fun w' hb => kopen_ok c v _ w' hok (hat.below hb) hcap hk) hst hm htx
  · exact klogged_no c v _ w (fun w' hb => kopen_no c v _ k w' hok (hat.below hb) hcap hk h0)
end Go.Proofs.Ytgigkiocdiffjab
