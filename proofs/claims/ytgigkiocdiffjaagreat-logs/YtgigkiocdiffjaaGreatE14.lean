import Derived.Test.YtgigkiocdiffjaaGreatE13
import Derived.Test.YtgigkiocdiffjaaGreatE07
set_option maxRecDepth 100000
set_option maxHeartbeats 16000000
namespace Go.Proofs.YtgigkiocdiffjaaGreat
open Go.RowKit Veil
def hitB (s p:ByteArray) (x:Sp):Bool:=(x.kind == 1 || x.kind == 2) && cutB (bytes p) (bytes (s.extract x.lo x.hi))
def findTo (s p:ByteArray) (L:List Sp) (k:Nat):List Sp:=(L.take k).filter (hitB s p)
theorem findTo_yes {s p:ByteArray} {L:List Sp} {k:Nat} {x:Sp} (hx:L[k]?=some x) (h:hitB s p x=true):findTo s p L (k+1)=findTo s p L k++[x]:=by
 unfold findTo;rw [List.take_add_one,hx,List.filter_append];simp [h]
theorem findTo_no {s p:ByteArray} {L:List Sp} {k:Nat} {x:Sp} (hx:L[k]?=some x) (h:hitB s p x=false):findTo s p L (k+1)=findTo s p L k:=by
 unfold findTo;rw [List.take_add_one,hx,List.filter_append];simp [h]
theorem findTo_length (s p:ByteArray) (L:List Sp) (k:Nat):(findTo s p L k).length≤k:=by
 unfold findTo
 have h1:=List.length_filter_le (hitB s p) (L.take k)
 have h2:(L.take k).length≤k:=by simp;omega
 omega
theorem spanF_le (s:ByteArray) (i:Nat) (hi:i<s.size):(spanF s i).lo≤(spanF s i).hi∧(spanF s i).hi≤s.size:=by
 have hf:=backF_fwd_le (fun j=>kindN (bt s j) == kindN (bt s i)) s.size (s.size-i) i (by omega)
 unfold spanF
 cases bt s i == 32
 ·cases bt s i == 35
  ·cases kindN (bt s i) == 0
   ·cases (decide (0<i) && (kindN (bt s (i-1)) == kindN (bt s i)))
    ·cases kindN (bt s i) == 97
     ·exact⟨hf.2,hf.1⟩
     ·exact⟨hf.2,hf.1⟩
    ·exact⟨Nat.le_refl _,Nat.zero_le _⟩
   ·exact⟨Nat.le_succ _,hi⟩
  ·exact⟨Nat.le_succ _,hi⟩
 ·exact⟨Nat.le_refl _,Nat.zero_le _⟩
theorem spansTo_le {s:ByteArray} {x:Sp} (h:x ∈ spansTo s s.size):x.lo≤x.hi∧x.hi≤s.size:=by
 unfold spansTo at h
 obtain⟨h1,_⟩:=List.mem_filter.1 h
 obtain⟨i,hi,rfl⟩:=List.mem_map.1 h1
 exact spanF_le s i (by simpa using hi)
theorem rfind_no1 (c:Cfg) (v:CfgV) (rows:List (RC × Value)) (rv av:Value) (g:Nat) (level:Int) (p:ByteArray) (w:World) (hdoc:RDocR w g c v rows rv av) (hlv:okL c.labels level=false) :
  Calls Tryz.prog 94 #[.pointer (some ⟨g,0,none⟩),.int .i64 level,.string p] w fun e w'=>e=.returned (.tuple #[.slice none 0 0,.int .i64 6])∧Below w.heap.size w w':=by
 have HVW:=hide (rview_no c v rows rv av g level w hdoc hlv)
 clear hdoc hlv
 go_enter Tryz.func94,Tryz.ntmps94
 go_wp2_with fail
 refine (HVW.out).mono ?_
 rintro e w1 ⟨rfl,hb1⟩
 go_wp2
 go_ret2
 exact⟨rfl,hb1⟩
theorem rfind_no2 (c:Cfg) (v:CfgV) (rows:List (RC × Value)) (rv av:Value) (g level:Nat) (p:ByteArray) (w:World) (hdoc:RDocR w g c v rows rv av) (hok:RDocOk c rows) (hlv:okL c.labels level=true) (hp:validB p=false) (hps:p.size≤maxLen) :
  Calls Tryz.prog 94 #[.pointer (some ⟨g,0,none⟩),.int .i64 level,.string p] w fun e w'=>e=.returned (.tuple #[.slice none 0 0,.int .i64 8])∧Below w.heap.size w w':=by
 obtain⟨hv1,hv2⟩:=view_of hok level
 have HVW:=hide (rview_ok c v rows rv av g level w hdoc hok hlv hv1 hv2)
 have HPA:=hide (fun w'=>rpattern_any p w' hps)
 rw [hp] at HPA
 generalize viewT (placesR c (rows.map (·.1)) level)=s at *
 clear hdoc hlv hok hv1 hv2 hp
 go_enter Tryz.func94,Tryz.ntmps94
 go_wp2_with fail
 refine (HVW.out).mono ?_
 rintro e w1 ⟨rfl,hb1⟩
 go_wp2_with fail
 refine (HPA.out _).mono ?_
 rintro e w1' ⟨rfl,rfl⟩
 go_wp2
 go_ret2
 exact⟨rfl,hb1⟩
theorem rfind_ok (c:Cfg) (v:CfgV) (rows:List (RC × Value)) (rv av:Value) (g level:Nat) (p:ByteArray) (w:World) (hdoc:RDocR w g c v rows rv av) (hok:RDocOk c rows) (hlv:okL c.labels level=true) (hp:validB p=true) (hps:p.size≤maxLen) :
  Calls Tryz.prog 94 #[.pointer (some ⟨g,0,none⟩),.int .i64 level,.string p] w fun e w'=>∃ vl,e=.returned (.tuple #[vl,.int .i64 0])∧OwnL 94 3 spV w' w.heap.size vl ((spansTo (viewT (placesR c (rows.map (·.1)) level)) (viewT (placesR c (rows.map (·.1)) level)).size).filter (hitB (viewT (placesR c (rows.map (·.1)) level)) p))∧Below w.heap.size w w':=by
 obtain⟨hv1,hv2⟩:=view_of hok level
 have HVW:=hide (rview_ok c v rows rv av g level w hdoc hok hlv hv1 hv2)
 have HPA:=hide (fun w'=>rpattern_any p w' hps)
 have HSP:=hide (fun (w':World) (hb:Below w.heap.size w w')=>rspans_ok c v rows rv av g level w' (hdoc.below hb) hok hlv)
 rw [hp] at HPA
 have hsz:=viewT_size (placesR c (rows.map (·.1)) level)
 generalize viewT (placesR c (rows.map (·.1)) level)=s at *
 have hs:s.size≤1000000:=by omega
 have HMT:=hide (fun (t:ByteArray) (w':World) (ht:t.size≤140737488355328)=>rmatch_any p t w' hps ht)
 have HLE:=hide (fun x h=>spansTo_le (s:=s) (x:=x) h)
 have hLl:=spansTo_length s s.size
 generalize spansTo s s.size=L at *
 clear hdoc hlv hok hv1 hv2 hp hsz
 go_enter Tryz.func94,Tryz.ntmps94
 go_wp2_with fail
 refine (HVW.out).mono ?_
 rintro e w1 ⟨rfl,hb1⟩
 go_wp2_with fail
 refine (HPA.out _).mono ?_
 rintro e w1' ⟨rfl,rfl⟩
 go_wp2_with fail
 refine (HSP.out _ hb1).mono ?_
 rintro e w2 ⟨vs,rfl,hvs,hb2⟩
 have hbw:=hb1.trans (hb2.mono hb1.size)
 have HVS:=hide hvs
 obtain⟨sao,scap,hvv⟩:=hvs.shape
 subst hvv
 clear hb1 hb2 hvs
 go_wp2
 go_loopw [11,14] (fun vo i wr=>∃ k:Nat,k≤L.length∧i=.int .i64 k∧OwnL 94 3 spV wr w2.heap.size vo (findTo s p L k)∧Below w2.heap.size w2 wr) (fun _ i _=>L.length-(intOf i).toNat)
 case atStart=>exact⟨0,Nat.zero_le _,rfl,OwnL.nil _ _ _ _ _,Below.refl _ _⟩
 case round=>
  obtain⟨wo,rfl⟩:∃ x,x=wr:=⟨_,rfl⟩
  obtain⟨k,hk,rfl,hvo,hbel⟩:=hrel
  have HVO:=hide hvo
  clear hvo
  by_cases hlt:k<L.length
  ·obtain⟨gs,sc,hvv,_,hgs⟩:=HVS.out.form (by omega)
   simp only [Value.slice.injEq] at hvv
   obtain⟨rfl,_,rfl⟩:=hvv
   have hej:L[k]?=some L[k]:=List.getElem?_eq_getElem hlt
   have c0:=HVS.out.cell (show ∀ a,(spV a).length=3 from fun _=>rfl) rfl hej (j:=0) (by omega)
   have c1:=HVS.out.cell (show ∀ a,(spV a).length=3 from fun _=>rfl) rfl hej (j:=1) (by omega)
   have c2:=HVS.out.cell (show ∀ a,(spV a).length=3 from fun _=>rfl) rfl hej (j:=2) (by omega)
   obtain⟨hx1,hx2⟩:=HLE.out _ (List.getElem_mem hlt)
   have HYES:=hide (fun h=>findTo_yes (s:=s) (p:=p) hej h)
   have HNO:=hide (fun h=>findTo_no (s:=s) (p:=p) hej h)
   have hfl:=findTo_length s p L k
   generalize L[k]=x at *
   obtain⟨x1,x2,x3⟩:=x
   simp only at hx1 hx2
   have d0:wo.cell? ⟨gs,k*3,none⟩=some (.int .i64 x1):=(hbel.cell (p:=⟨gs,k*3,none⟩) hgs).trans c0
   have d1:wo.cell? ⟨gs,k*3+1,none⟩=some (.int .i64 x2):=(hbel.cell (p:=⟨gs,k*3+1,none⟩) hgs).trans c1
   have d2:wo.cell? ⟨gs,k*3+2,none⟩=some (.int .i64 x3):=(hbel.cell (p:=⟨gs,k*3+2,none⟩) hgs).trans c2
   have hgso:gs<wo.heap.size:=Nat.lt_of_lt_of_le hgs hbel.size
   have hki:(k:Int)<(L.length:Int):=by omega
   have hx1i:(x2:Int)≤(x3:Int):=by omega
   have hx2i:(x3:Int)≤(s.size:Int):=by omega
   have HMT1:=hide (HMT.out (s.extract x2 x3) wo.drew (by rw [ByteArray.size_extract];omega))
   clear c0 c1 c2 hej
   by_cases k1:x1=1
   ·subst k1
    go_wp2_with fail
    refine wp_region_held_drew (S:=fun w'=>w'.cell? ⟨gs,k*3,none⟩=some (.int .i64 1)∧w'.cell? ⟨gs,k*3+1,none⟩=some (.int .i64 x2)∧w'.cell? ⟨gs,k*3+2,none⟩=some (.int .i64 x3)) (by kernel_rfl) ?_ (fun hHeld=>?_)
    ·(try dsimp only);go_keep
    refine tV 0 40 ?_
    (try simp only [Act.put,lA,lZ,lS])
    refine tV 1 41 ?_
    (try simp only [Act.put,lA,lZ,lS])
    refine tV 2 42 ?_
    (try simp only [Act.put,lA,lZ,lS])
    refine tV 3 43 ?_
    (try simp only [Act.put,lA,lZ,lS])
    refine tV 4 44 ?_
    (try simp only [Act.put,lA,lZ,lS])
    refine tV 5 45 ?_
    (try simp only [Act.put,lA,lZ,lS])
    refine tV 6 46 ?_
    (try simp only [Act.put,lA,lZ,lS])
    refine takeU 7 (some 47) rfl rfl (by kernel_rfl) (by kernel_rfl) (by kernel_rfl) (fun _ _ _ h=>h) (by assumption) ?_
    (try simp only [Act.put,lA,lZ,lS])
    refine takeU 8 (some 48) rfl rfl (by kernel_rfl) (by kernel_rfl) (by kernel_rfl) (fun _ _ _ h=>h) (by assumption) ?_
    (try simp only [Act.put,lA,lZ,lS])
    refine takeU 9 (some 49) rfl rfl (by kernel_rfl) (by kernel_rfl) (by kernel_rfl) (fun _ _ _ h=>h) (by assumption) ?_
    (try simp only [Act.put,lA,lZ,lS])
    refine takeU 10 (some 50) rfl rfl (by kernel_rfl) (by kernel_rfl) (by kernel_rfl) (fun _ _ _ h=>h) (by assumption) ?_
    (try simp only [Act.put,lA,lZ,lS])
    refine takeU 11 (some 51) rfl rfl (by kernel_rfl) (by kernel_rfl) (by kernel_rfl) (fun _ _ _ h=>h) (by assumption) ?_
    (try simp only [Act.put,lA,lZ,lS])
    refine takeU 12 (some 52) rfl rfl (by kernel_rfl) (by kernel_rfl) (by kernel_rfl) (fun _ _ _ h=>h) (by assumption) ?_
    (try simp only [Act.put,lA,lZ,lS])
    refine tV 13 53 ?_
    (try simp only [Act.put,lA,lZ,lS])
    refine tV 14 54 ?_
    (try simp only [Act.put,lA,lZ,lS])
    refine tV 15 55 ?_
    (try simp only [Act.put,lA,lZ,lS])
    refine tV 16 56 ?_
    (try simp only [Act.put,lA,lZ,lS])
    refine tV 17 57 ?_
    (try simp only [Act.put,lA,lZ,lS])
    refine tV 18 58 ?_
    (try simp only [Act.put,lA,lZ,lS])
    refine tV 19 59 ?_
    (try simp only [Act.put,lA,lZ,lS])
    refine tV 20 60 ?_
    (try simp only [Act.put,lA,lZ,lS])
    refine tV 21 61 ?_
    (try simp only [Act.put,lA,lZ,lS])
    refine tV 22 62 ?_
    (try simp only [Act.put,lA,lZ,lS])
    refine tV 23 63 ?_
    (try simp only [Act.put,lA,lZ,lS])
    refine tV 24 64 ?_
    (try simp only [Act.put,lA,lZ,lS])
    refine tV 25 65 ?_
    (try simp only [Act.put,lA,lZ,lS])
    refine tV 26 66 ?_
    (try simp only [Act.put,lA,lZ,lS])
    refine tV 27 67 ?_
    (try simp only [Act.put,lA,lZ,lS])
    refine wpAnyH_ready (rs:=[28]) (by kernel_rfl) (by simp) ?_
    refine AllReadyH.cons rfl (fun K hK=>?_) AllReadyH.nil
    go_simp
    go_wp2_with (go_at_call 79;refine (HMT1.out).mono ?_;rintro e w3 ⟨rfl,hb3⟩;have s0:=(hb3.cell (p:=⟨gs,k*3,none⟩) hgso).trans d0;have s1:=(hb3.cell (p:=⟨gs,k*3+1,none⟩) hgso).trans d1;have s2:=(hb3.cell (p:=⟨gs,k*3+2,none⟩) hgso).trans d2)
    refine hK.out _ _ ?_ (fun hHeld=>?_)
    ·(try dsimp only);go_keep
    clear hK K
    refine tV 29 69 ?_
    (try simp only [Act.put,lA,lZ,lS])
    refine wpAnyH_done (by kernel_rfl) ?_ _
    have hbel3:=hbel.drew.trans (hb3.mono hbel.drew.size)
    have HVO3:=hide (show OwnL 94 3 spV w3 w2.heap.size u11 (findTo s p L k) from (HVO.out.below (below_drew wo)).below hb3)
    have e0:=(hb3.cell (p:=⟨gs,k*3,none⟩) hgso).trans d0
    have e1:=(hb3.cell (p:=⟨gs,k*3+1,none⟩) hgso).trans d1
    have e2:=(hb3.cell (p:=⟨gs,k*3+2,none⟩) hgso).trans d2
    clear hb3 d0 d1 d2
    cases hcut:cutB (bytes p) (bytes (s.extract x2 x3))
    ·have HZ:=hide (HNO.out (by simp [hitB,hcut]))
     clear hcut
     go_wp2
     go_roundw
     case rel=>exact⟨k+1,by omega,by go_num,by rw [HZ.out];exact HVO3.out,hbel3⟩
     case measure=>simp [intOf];omega
    ·have HZ:=hide (HYES.out (by simp [hitB,hcut]))
     have hbB:Below w3.heap.size w3 (w3.alloc (.cells #[.int .i64 1,.int .i64 x2,.int .i64 x3] 94)):=below_box w3 _
     have hbelB:Below w2.heap.size w2 (w3.alloc (.cells #[.int .i64 1,.int .i64 x2,.int .i64 x3] 94)):=hbel3.alloc hbel3.size _
     have HVB:=hide (HVO3.out.below hbB)
     have HNB:=hide (Go.heap_alloc_new w3 (.cells #[.int .i64 1,.int .i64 x2,.int .i64 x3] 94))
     clear hcut
     go_wp2_with (at_builtin;refine wpList_push rfl (.tmp 70) (.tmp 75) 69 rfl (.agg #[.int .i64 0,.int .i64 0,.int .i64 0]) 24 Tryz.underlying69 Tryz.infoSpan rfl (by decide) rfl HVB.out w3.heap.size 1 ⟨1,x2,x3⟩ rfl 94 (0,0) HNB.out rfl (by intro u hu;simp [spV] at hu;rcases hu with rfl|rfl|rfl <;> rfl) (by omega) (by decide) hbelB.size (w3.heap.size+1) (by simp) ?_;intro g6 cap6 w6 hown6 hgrow6 hat6 hlt6)
     have hb6:=hbelB.trans (below_of_grown hgrow6 (fun b hb=>(HVB.out.lt hb).1) hbelB.size)
     go_roundw
     case rel=>exact⟨k+1,by omega,by go_num,by rw [HZ.out];exact hown6,hb6⟩
     case measure=>simp [intOf];omega
   by_cases k2:x1=2
   ·subst k2
    go_wp2_with fail
    refine wp_region_held_drew (S:=fun w'=>w'.cell? ⟨gs,k*3,none⟩=some (.int .i64 2)∧w'.cell? ⟨gs,k*3+1,none⟩=some (.int .i64 x2)∧w'.cell? ⟨gs,k*3+2,none⟩=some (.int .i64 x3)) (by kernel_rfl) ?_ (fun hHeld=>?_)
    ·(try dsimp only);go_keep
    refine tV 0 40 ?_
    (try simp only [Act.put,lA,lZ,lS])
    refine tV 1 41 ?_
    (try simp only [Act.put,lA,lZ,lS])
    refine tV 2 42 ?_
    (try simp only [Act.put,lA,lZ,lS])
    refine tV 3 43 ?_
    (try simp only [Act.put,lA,lZ,lS])
    refine tV 4 44 ?_
    (try simp only [Act.put,lA,lZ,lS])
    refine tV 5 45 ?_
    (try simp only [Act.put,lA,lZ,lS])
    refine tV 6 46 ?_
    (try simp only [Act.put,lA,lZ,lS])
    refine tV 7 47 ?_
    (try simp only [Act.put,lA,lZ,lS])
    refine tV 8 48 ?_
    (try simp only [Act.put,lA,lZ,lS])
    refine tV 9 49 ?_
    (try simp only [Act.put,lA,lZ,lS])
    refine tV 10 50 ?_
    (try simp only [Act.put,lA,lZ,lS])
    refine tV 11 51 ?_
    (try simp only [Act.put,lA,lZ,lS])
    refine tV 12 52 ?_
    (try simp only [Act.put,lA,lZ,lS])
    refine tV 13 53 ?_
    (try simp only [Act.put,lA,lZ,lS])
    refine tV 14 54 ?_
    (try simp only [Act.put,lA,lZ,lS])
    refine tV 15 55 ?_
    (try simp only [Act.put,lA,lZ,lS])
    refine tV 16 56 ?_
    (try simp only [Act.put,lA,lZ,lS])
    refine tV 17 57 ?_
    (try simp only [Act.put,lA,lZ,lS])
    refine tV 18 58 ?_
    (try simp only [Act.put,lA,lZ,lS])
    refine tV 19 59 ?_
    (try simp only [Act.put,lA,lZ,lS])
    refine tV 20 60 ?_
    (try simp only [Act.put,lA,lZ,lS])
    refine tV 21 61 ?_
    (try simp only [Act.put,lA,lZ,lS])
    refine tV 22 62 ?_
    (try simp only [Act.put,lA,lZ,lS])
    refine tV 23 63 ?_
    (try simp only [Act.put,lA,lZ,lS])
    refine tV 24 64 ?_
    (try simp only [Act.put,lA,lZ,lS])
    refine tV 25 65 ?_
    (try simp only [Act.put,lA,lZ,lS])
    refine tV 26 66 ?_
    (try simp only [Act.put,lA,lZ,lS])
    refine tV 27 67 ?_
    (try simp only [Act.put,lA,lZ,lS])
    refine wpAnyH_ready (rs:=[28]) (by kernel_rfl) (by simp) ?_
    refine AllReadyH.cons rfl (fun K hK=>?_) AllReadyH.nil
    go_simp
    go_wp2_with (go_at_call 79;refine (HMT1.out).mono ?_;rintro e w3 ⟨rfl,hb3⟩;have s0:=(hb3.cell (p:=⟨gs,k*3,none⟩) hgso).trans d0;have s1:=(hb3.cell (p:=⟨gs,k*3+1,none⟩) hgso).trans d1;have s2:=(hb3.cell (p:=⟨gs,k*3+2,none⟩) hgso).trans d2)
    refine hK.out _ _ ?_ (fun hHeld=>?_)
    ·(try dsimp only);go_keep
    clear hK K
    refine tV 29 69 ?_
    (try simp only [Act.put,lA,lZ,lS])
    refine wpAnyH_done (by kernel_rfl) ?_ _
    have hbel3:=hbel.drew.trans (hb3.mono hbel.drew.size)
    have HVO3:=hide (show OwnL 94 3 spV w3 w2.heap.size u11 (findTo s p L k) from (HVO.out.below (below_drew wo)).below hb3)
    have e0:=(hb3.cell (p:=⟨gs,k*3,none⟩) hgso).trans d0
    have e1:=(hb3.cell (p:=⟨gs,k*3+1,none⟩) hgso).trans d1
    have e2:=(hb3.cell (p:=⟨gs,k*3+2,none⟩) hgso).trans d2
    clear hb3 d0 d1 d2
    cases hcut:cutB (bytes p) (bytes (s.extract x2 x3))
    ·have HZ:=hide (HNO.out (by simp [hitB,hcut]))
     clear hcut
     go_wp2
     go_roundw
     case rel=>exact⟨k+1,by omega,by go_num,by rw [HZ.out];exact HVO3.out,hbel3⟩
     case measure=>simp [intOf];omega
    ·have HZ:=hide (HYES.out (by simp [hitB,hcut]))
     have hbB:Below w3.heap.size w3 (w3.alloc (.cells #[.int .i64 2,.int .i64 x2,.int .i64 x3] 94)):=below_box w3 _
     have hbelB:Below w2.heap.size w2 (w3.alloc (.cells #[.int .i64 2,.int .i64 x2,.int .i64 x3] 94)):=hbel3.alloc hbel3.size _
     have HVB:=hide (HVO3.out.below hbB)
     have HNB:=hide (Go.heap_alloc_new w3 (.cells #[.int .i64 2,.int .i64 x2,.int .i64 x3] 94))
     clear hcut
     go_wp2_with (at_builtin;refine wpList_push rfl (.tmp 70) (.tmp 75) 69 rfl (.agg #[.int .i64 0,.int .i64 0,.int .i64 0]) 24 Tryz.underlying69 Tryz.infoSpan rfl (by decide) rfl HVB.out w3.heap.size 1 ⟨2,x2,x3⟩ rfl 94 (0,0) HNB.out rfl (by intro u hu;simp [spV] at hu;rcases hu with rfl|rfl|rfl <;> rfl) (by omega) (by decide) hbelB.size (w3.heap.size+1) (by simp) ?_;intro g6 cap6 w6 hown6 hgrow6 hat6 hlt6)
     have hb6:=hbelB.trans (below_of_grown hgrow6 (fun b hb=>(HVB.out.lt hb).1) hbelB.size)
     go_roundw
     case rel=>exact⟨k+1,by omega,by go_num,by rw [HZ.out];exact hown6,hb6⟩
     case measure=>simp [intOf];omega
   ·have HZ:=hide (HNO.out (by simp [hitB,k1,k2]))
    have k1':((x1:Int) == 1)=false:=by simp;omega
    have k2':((x1:Int) == 2)=false:=by simp;omega
    clear k1 k2
    go_wp2_with fail
    go_quiet (fail)
    go_wp2
    go_roundw
    case rel=>exact⟨k+1,by omega,by go_num,by rw [HZ.out];exact HVO.out.below ((Below.drawn (Below.refl _ _) _)),Below.drawn hbel _⟩
    case measure=>simp [intOf];omega
  ·obtain rfl:k=L.length:=by omega
   have hkc:decide ((L.length:Int)<(L.length:Int))=false:=by simp
   have HFI:=hide (show findTo s p L L.length=L.filter (hitB s p) by unfold findTo;rw [List.take_length])
   obtain⟨ao,cap,hvv⟩:=HVO.out.shape
   rw [HFI.out] at HVO
   subst hvv
   go_wp2
   go_ret2
   exact⟨_,rfl,HVO.out.mono hbw.size,hbw.trans (hbel.mono hbw.size)⟩
end Go.Proofs.YtgigkiocdiffjaaGreat
