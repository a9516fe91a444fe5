import Derived.Test.YtgigkiocdiffjaaGreatS18
import Derived.Test.YtgigkiocdiffjaaGreatS17
import Derived.Test.YtgigkiocdiffjaaGreatSKlogp
set_option maxRecDepth 100000
set_option maxHeartbeats 16000000
namespace Go.Proofs.YtgigkiocdiffjaaGreat
open Go.RowKit Veil
theorem kbelow_lt (c:Cfg) (v:CfgV) (hr:Right c) (a b:Nat) (w:World) (hat:CfgAt w c v) (ha:a<c.n) (hb:b<c.n) :
  Calls Tryz.prog 53 #[.agg (cfgCells c v),.int .i64 a,.int .i64 b] w fun e w'=>e=.returned (.bool (c.le a b))∧Below w.heap.size w w':=
 kbelow_any c v hr (rankC c a) a b w (Nat.le_refl _) hat ha hb
theorem ksees_any (c:Cfg) (v:CfgV) (hr:Right c) (a:Int) (d:Nat) (w:World) (hat:CfgAt w c v) (hd:d<c.n) :
  Calls Tryz.prog 36 #[.agg (cfgCells c v),.int .i64 a,.int .i64 d] w fun e w'=>e=.returned (.bool (seesB c a d))∧Below w.heap.size w w':=by
 have hn:=(labels_of hr.labels).2.2.2.2.1
 have HL:=hide (fun w'=>klabel_any c v a w')
 have HB0:=hide (below_box w (.cells (cfgCells c v) 31))
 have HX0:=hide (Go.heap_alloc_new w (.cells (cfgCells c v) 31))
 cases hok:okL c.labels a
 ·rw [hok] at HL
  have HS:=hide (show seesB c a d=false by unfold seesB;rw [hok];rfl)
  unfold cfgCells at *
  clear hok hat
  go_enter Tryz.func36,Tryz.ntmps36
  go_wp2_with fail
  refine (HL.out _).mono ?_
  rintro e w1 ⟨rfl,hb1⟩
  go_wp2
  go_ret
  exact⟨ret_bool HS.out.symm,HB0.out.trans (hb1.mono HB0.out.size)⟩
 ·rw [hok] at HL
  obtain⟨x,hx,hxn⟩:=okL_nat' hn hok
  have HS:=hide (show seesB c a d=c.le x d by unfold seesB;rw [hok,hx];rfl)
  subst hx
  have HB:=hide (fun w' (hb:Below w.heap.size w w')=>kbelow_lt c v hr x d w' (hat.below hb) hxn hd)
  unfold cfgCells at *
  clear hok hat
  go_enter Tryz.func36,Tryz.ntmps36
  go_wp2_with fail
  refine (HL.out _).mono ?_
  rintro e w1 ⟨rfl,hb1⟩
  have HB1:=hide (HB0.out.trans (hb1.mono HB0.out.size))
  have hx1:=Below.row hb1 HX0.out (lt_of_row HX0.out)
  have q0:w1.cell? ⟨w.heap.size,0,none⟩=some (.int .i64 c.labels):=(cell_of_row _ _ _ _ _ _ hx1).trans rfl
  have q1:w1.cell? ⟨w.heap.size,1,none⟩=some (.slice v.ea c.edges.length v.ec):=(cell_of_row _ _ _ _ _ _ hx1).trans rfl
  have q2:w1.cell? ⟨w.heap.size,2,none⟩=some (.slice v.ra c.rules.length v.rc):=(cell_of_row _ _ _ _ _ _ hx1).trans rfl
  have q3:w1.cell? ⟨w.heap.size,3,none⟩=some (.slice v.ga c.grants.length v.gc):=(cell_of_row _ _ _ _ _ _ hx1).trans rfl
  clear hx1
  go_wp2_with fail
  refine (HB.out _ HB1.out).mono ?_
  rintro e w2 ⟨rfl,hb2⟩
  go_wp2
  go_ret
  exact⟨ret_bool HS.out.symm,HB1.out.trans (hb2.mono HB1.out.size)⟩
end Go.Proofs.YtgigkiocdiffjaaGreat
