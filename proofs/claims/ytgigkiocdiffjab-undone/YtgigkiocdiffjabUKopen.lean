import Derived.Test.YtgigkiocdiffjabU32
import Derived.Test.YtgigkiocdiffjabU18
set_option maxRecDepth 100000
set_option maxHeartbeats 16000000
namespace Go.Proofs.Ytgigkiocdiffjab
open Go.RowKit Veil
def caseC (c:Cfg) (v:CfgV) (sv:Value):Array Value:=#[.int .i64 c.labels,.slice v.ea c.edges.length v.ec,.slice v.ra c.rules.length v.rc,.slice v.ga c.grants.length v.gc,sv]
theorem case_cells {w:World} {g:Nat} {c:Cfg} {v:CfgV} {sv:Value} {ty:TypeId} (h:w.heap[g]?=some (.cells (caseC c v sv) ty (0,0))):w.cell? ⟨g,0,none⟩=some (.int .i64 c.labels)∧w.cell? ⟨g,1,none⟩=some (.slice v.ea c.edges.length v.ec)∧w.cell? ⟨g,2,none⟩=some (.slice v.ra c.rules.length v.rc)∧w.cell? ⟨g,3,none⟩=some (.slice v.ga c.grants.length v.gc)∧w.cell? ⟨g,4,none⟩=some sv:=
 ⟨(cell_of_row _ _ _ _ _ _ h).trans rfl,(cell_of_row _ _ _ _ _ _ h).trans rfl,(cell_of_row _ _ _ _ _ _ h).trans rfl,(cell_of_row _ _ _ _ _ _ h).trans rfl,(cell_of_row _ _ _ _ _ _ h).trans rfl⟩
theorem kopen_ok (c:Cfg) (v:CfgV) (sv:Value) (w:World) (hok:CfgOk c) (hat:CfgAt w c v) (hcap:c.rules.length≤v.rc) (hk:CheckIs c 0) :
  Calls Try.prog 7 #[.agg (caseC c v sv)] w fun e w'=>∃ g p,e=.returned (.tuple #[.pointer (some ⟨g,0,none⟩),.bool true])∧PInv w.heap.size w' g c stZ p 0∧Below w.heap.size w w':=by
 have HB0:=hide (below_box w (.cells (caseC c v sv) 29))
 have HX0:=hide (Go.heap_alloc_new w (.cells (caseC c v sv) 29))
 have HOP:=hide (fun w' (hb:Below w.heap.size w w')=>pOpen c v w' hok (hat.below hb) hcap hk)
 have HKR:=hide (fun w' (hb:Below w.heap.size w w')=>kright_any c v w' hok (hat.below hb))
 have HKW:=hide (fun w' (hb:Below w.heap.size w w')=>kworks_any c v w' hok (hat.below hb) hcap hk)
 have HK:=hide hk
 obtain⟨q0,q1,q2,q3,q4⟩:=case_cells HX0.out
 clear hok hat hcap hk q4
 unfold cfgCells at *
 unfold caseC at *
 go_enter Try.func7,Try.ntmps7
 go_wp2_with fail
 refine (HOP.out _ HB0.out).mono ?_
 rintro e w1 ⟨g,p,rfl,hinv,hb1⟩
 have hbel1:=HB0.out.trans (hb1.mono HB0.out.size)
 have HX1:=hide (Below.row hb1 HX0.out (lt_of_row HX0.out))
 obtain⟨r0,r1,r2,r3,r4⟩:=case_cells (c:=c) (v:=v) (sv:=sv) HX1.out
 have HINV:=hide hinv
 clear hinv q0 q1 q2 q3 r4
 go_wp2_with fail
 refine (HKR.out _ hbel1).mono ?_
 rintro e w2 ⟨code,rfl,hc,hb2⟩
 obtain rfl:=hc.same HK.out
 have hbel2:=hbel1.trans (hb2.mono hbel1.size)
 have HX2:=hide (Below.row hb2 HX1.out (lt_of_row HX1.out))
 obtain⟨s0,s1,s2,s3,s4⟩:=case_cells (c:=c) (v:=v) (sv:=sv) HX2.out
 have h00:((0:Int) == 0)=true:=rfl
 clear hc r0 r1 r2 r3 s4
 go_wp2_with fail
 refine (HKW.out _ hbel2).mono ?_
 rintro e w3 ⟨rfl,hb3⟩
 have hbel3:=hbel2.trans (hb3.mono hbel2.size)
 have HI3:=hide ((HINV.out.below hb2).below hb3)
 have hs0:w.heap.size≤(w.alloc (.cells #[.int .i64 c.labels,.slice v.ea c.edges.length v.ec,.slice v.ra c.rules.length v.rc,.slice v.ga c.grants.length v.gc,sv] 29)).heap.size:=by simp
 clear s0 s1 s2 s3
 go_wp2
 go_ret2
 exact⟨g,p,rfl,HI3.out.base hs0,hbel3⟩
theorem kopen_no (c:Cfg) (v:CfgV) (sv:Value) (k:Int) (w:World) (hok:CfgOk c) (hat:CfgAt w c v) (hcap:c.rules.length≤v.rc) (hk:CheckIs c k) (hne:k≠0) :
  Calls Try.prog 7 #[.agg (caseC c v sv)] w fun e w'=>e=.returned (.tuple #[.pointer none,.bool true])∧Below w.heap.size w w':=by
 have HB0:=hide (below_box w (.cells (caseC c v sv) 29))
 have HX0:=hide (Go.heap_alloc_new w (.cells (caseC c v sv) 29))
 have HOP:=hide (fun w' (hb:Below w.heap.size w w')=>vOpen_bad c v k w' hok (hat.below hb) hcap hk hne)
 have HKR:=hide (fun w' (hb:Below w.heap.size w w')=>kright_any c v w' hok (hat.below hb))
 have HK:=hide hk
 have hk0:(k == 0)=false:=by simpa using hne
 obtain⟨q0,q1,q2,q3,q4⟩:=case_cells HX0.out
 clear hok hat hcap hk hne q4
 unfold cfgCells at *
 unfold caseC at *
 go_enter Try.func7,Try.ntmps7
 go_wp2_with fail
 refine (HOP.out _ HB0.out).mono ?_
 rintro e w1 ⟨rfl,hb1⟩
 have hbel1:=HB0.out.trans (hb1.mono HB0.out.size)
 have HX1:=hide (Below.row hb1 HX0.out (lt_of_row HX0.out))
 obtain⟨r0,r1,r2,r3,r4⟩:=case_cells (c:=c) (v:=v) (sv:=sv) HX1.out
 clear q0 q1 q2 q3 r4
 go_wp2_with fail
 refine (HKR.out _ hbel1).mono ?_
 rintro e w2 ⟨code,rfl,hc,hb2⟩
 obtain rfl:=hc.same HK.out
 have hbel2:=hbel1.trans (hb2.mono hbel1.size)
 clear hc r0 r1 r2 r3
 rw [hk0]
 go_wp2
 go_ret2
 exact⟨rfl,hbel2⟩
end Go.Proofs.Ytgigkiocdiffjab
