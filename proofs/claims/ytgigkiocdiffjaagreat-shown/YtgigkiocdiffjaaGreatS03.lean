import Derived.Test.YtgigkiocdiffjaaGreatS02
set_option maxRecDepth 100000
set_option maxHeartbeats 16000000
namespace Go.Proofs.YtgigkiocdiffjaaGreat
open Go.RowKit Veil
theorem all_range_succ (k:Nat) (f:Nat→Bool):(List.range (k+1)).all f=((List.range k).all f && f k):=by rw [List.range_succ,List.all_append];simp
theorem ret_int' {a b:Int} (h:a=b):Ending.returned (.int .i64 a)=.returned (.int .i64 b):=by rw [h]
theorem all_false {n k:Nat} {f:Nat→Bool} (h:k≤n) (hf:(List.range k).all f=false):(List.range n).all f=false:=by
 rw [List.all_eq_false] at *
 obtain⟨x,hx,h1⟩:=hf
 exact⟨x,by simp at *;omega,h1⟩
theorem isJoin_def (c:Cfg) (a b j:Nat):c.isJoin a b j=((c.le a j && c.le b j) && (List.range c.n).all fun k=>!((c.le a k && c.le b k) && !c.le j k)):=rfl
theorem rjoin_any (c:Cfg) (v:CfgV) (a b:Nat) (w:World) (hl:labelsB c=true) (hat:CfgAt w c v) (ha:a<c.n) (hb:b<c.n) :
  Calls Tryz.prog 103 #[.agg (cfgCells c v),.int .i64 a,.int .i64 b] w fun e w'=>e=.returned (.int .i64 (c.join a b))∧Below w.heap.size w w':=by
 obtain⟨_,_,_,_,hn,hn6,hn1⟩:=labels_of hl
 have hle1:(c.n:Int)≤c.labels:=by omega
 have hle2:c.labels≤(c.n:Int):=by omega
 have HL:=hide hl
 have HAT:=hide hat
 clear hl hat hn
 have hleq:∀ (x y:Nat) (w':World),x<c.n→y<c.n→Below w.heap.size w w'→Calls Tryz.prog 102 #[.agg (cfgCells c v),.int .i64 x,.int .i64 y] w' fun e w''=>e=.returned (.bool (c.le x y))∧Below w'.heap.size w' w'':=
  fun x y w' hx hy hb=>rleq_any c v x y w' HL.out (HAT.out.below hb) hx hy
 have HQ:=hide hleq
 clear hleq
 unfold cfgCells at *
 go_enter Tryz.func103,Tryz.ntmps103
 go_wp2
 go_loopw [7] (fun i wr=>∃ j:Nat,j≤c.n∧i=.int .i64 j∧(∀ x,x<j→c.isJoin a b x=false)∧BoxAt wr w.heap.size c v∧Below w.heap.size w wr) (fun i _=>c.n-(intOf i).toNat)
 case atStart=>exact⟨0,Nat.zero_le _,rfl,fun x hx=>absurd hx (Nat.not_lt_zero _),box_new _ _ _,below_box _ _⟩
 case round=>
  obtain⟨wo,rfl⟩:∃ x,x=wr:=⟨_,rfl⟩
  obtain⟨j,hj,rfl,hno,hbox,hbel⟩:=hrel
  have HNO:=hide hno
  have HB:=hide hbox
  obtain⟨q0,q1,q2,q3⟩:=hbox.cells
  clear hno hbox
  by_cases hlt:j<c.n
  ·have hlt':(j:Int)<c.labels:=by omega
   have hd:decide ((j:Int)<c.labels)=true:=decide_eq_true hlt'
   have HD:=hide (isJoin_def c a b j)
   cases h1:c.le a j
   ·go_wp2_with fail
    refine (HQ.out a j _ (by omega) (by omega) hbel).mono ?_
    rintro e w1 ⟨rfl,hb1⟩
    rw [h1]
    have HB1:=hide (HB.out.below hb1 HB.out.lt)
    obtain⟨p0,p1,p2,p3⟩:=HB1.out.cells
    have hbel1:=hbel.trans (hb1.mono hbel.size)
    have HF:=hide h1
    clear q0 q1 q2 q3 hb1 h1
    go_wp2
    refine wp_loop_rounds 1 ?_
    rw [rounds_succ]
    go_wp2
    go_roundw
    case rel=>
     refine⟨j+1,by omega,by go_num,fun x hx=>?_,HB1.out,hbel1⟩
     by_cases e:x=j
     ·rw [e,HD.out,HF.out];rfl
     ·exact HNO.out x (by omega)
    case measure=>simp [intOf];omega
   cases h2:c.le b j
   ·go_wp2_with fail
    refine (HQ.out a j _ (by omega) (by omega) hbel).mono ?_
    rintro e w1 ⟨rfl,hb1⟩
    rw [h1]
    have HB1:=hide (HB.out.below hb1 HB.out.lt)
    obtain⟨p0,p1,p2,p3⟩:=HB1.out.cells
    have hbel1:=hbel.trans (hb1.mono hbel.size)
    clear q0 q1 q2 q3 hb1
    go_wp2_with fail
    refine (HQ.out b j _ (by omega) (by omega) hbel1).mono ?_
    rintro e w2 ⟨rfl,hb2⟩
    rw [h2]
    have HB2:=hide (HB1.out.below hb2 HB1.out.lt)
    obtain⟨q0,q1,q2,q3⟩:=HB2.out.cells
    have hbel2:=hbel1.trans (hb2.mono hbel1.size)
    have HF:=hide h2
    clear p0 p1 p2 p3 hb2 h1 h2
    go_wp2
    refine wp_loop_rounds 1 ?_
    rw [rounds_succ]
    go_wp2
    go_roundw
    case rel=>
     refine⟨j+1,by omega,by go_num,fun x hx=>?_,HB2.out,hbel2⟩
     by_cases e:x=j
     ·rw [e,HD.out,HF.out];simp
     ·exact HNO.out x (by omega)
    case measure=>simp [intOf];omega
   go_wp2_with fail
   refine (HQ.out a j _ (by omega) (by omega) hbel).mono ?_
   rintro e w1 ⟨rfl,hb1⟩
   rw [h1]
   have HB1:=hide (HB.out.below hb1 HB.out.lt)
   obtain⟨p0,p1,p2,p3⟩:=HB1.out.cells
   have hbel1:=hbel.trans (hb1.mono hbel.size)
   clear q0 q1 q2 q3 hb1
   go_wp2_with fail
   refine (HQ.out b j _ (by omega) (by omega) hbel1).mono ?_
   rintro e w2 ⟨rfl,hb2⟩
   rw [h2]
   have HB2:=hide (HB1.out.below hb2 HB1.out.lt)
   obtain⟨q0,q1,q2,q3⟩:=HB2.out.cells
   have hbel2:=hbel1.trans (hb2.mono hbel1.size)
   have HU:=hide (show (c.le a j && c.le b j)=true by rw [h1,h2];rfl)
   clear p0 p1 p2 p3 hb2 h1 h2 hbel1
   go_wp2
   go_loopw [8,9] (fun ok kk wr=>∃ k:Nat,k≤c.n∧kk=.int .i64 k∧ok=.bool ((List.range k).all fun k=>!((c.le a k && c.le b k) && !c.le j k))∧BoxAt wr w.heap.size c v∧Below w.heap.size w wr) (fun _ kk _=>c.n-(intOf kk).toNat)
   case atStart=>exact⟨0,Nat.zero_le _,rfl,rfl,HB2.out,hbel2⟩
   case round=>
    obtain⟨wi,rfl⟩:∃ x,x=wr:=⟨_,rfl⟩
    obtain⟨k,hk,rfl,rfl,hbox,hbel3⟩:=hrel
    have HB3:=hide hbox
    obtain⟨s0,s1,s2,s3⟩:=hbox.cells
    clear hbox q0 q1 q2 q3
    cases hall:(List.range k).all fun k=>!((c.le a k && c.le b k) && !c.le j k)
    ·have HF:=hide (all_false hk hall)
     clear hall
     by_cases hkn:k<c.n
     ·have hkd:(k:Int)<c.labels:=by omega
      go_wp2
      go_roundw
      case rel=>
       refine⟨j+1,by omega,by go_num,fun x hx=>?_,HB3.out,hbel3⟩
       by_cases e:x=j
       ·rw [e,HD.out,HF.out];simp
       ·exact HNO.out x (by omega)
      case measure=>simp [intOf];omega
     ·have hkd:c.labels≤(k:Int):=by omega
      go_wp2
      go_roundw
      case rel=>
       refine⟨j+1,by omega,by go_num,fun x hx=>?_,HB3.out,hbel3⟩
       by_cases e:x=j
       ·rw [e,HD.out,HF.out];simp
       ·exact HNO.out x (by omega)
      case measure=>simp [intOf];omega
    by_cases hkn:k<c.n
    ·have hkd:(k:Int)<c.labels:=by omega
     have HS:=hide (all_range_succ k fun k=>!((c.le a k && c.le b k) && !c.le j k))
     have HA:=hide hall
     clear hall
     cases g1:c.le a k
     ·go_wp2_with fail
      refine (HQ.out a k _ (by omega) (by omega) hbel3).mono ?_
      rintro e w3 ⟨rfl,hb3⟩
      rw [g1]
      have HB4:=hide (HB3.out.below hb3 HB3.out.lt)
      have hbel4:=hbel3.trans (hb3.mono hbel3.size)
      have G1:=hide g1
      clear s0 s1 s2 s3 hb3 g1
      go_wp2
      go_roundw
      case rel=>exact⟨k+1,by omega,by go_num,by rw [HS.out,HA.out,G1.out];rfl,HB4.out,hbel4⟩
      case measure=>simp [intOf];omega
     cases g2:c.le b k
     ·go_wp2_with fail
      refine (HQ.out a k _ (by omega) (by omega) hbel3).mono ?_
      rintro e w3 ⟨rfl,hb3⟩
      rw [g1]
      have HB4:=hide (HB3.out.below hb3 HB3.out.lt)
      obtain⟨p0,p1,p2,p3⟩:=HB4.out.cells
      have hbel4:=hbel3.trans (hb3.mono hbel3.size)
      clear s0 s1 s2 s3 hb3
      go_wp2_with fail
      refine (HQ.out b k _ (by omega) (by omega) hbel4).mono ?_
      rintro e w4 ⟨rfl,hb4⟩
      rw [g2]
      have HB5:=hide (HB4.out.below hb4 HB4.out.lt)
      have hbel5:=hbel4.trans (hb4.mono hbel4.size)
      have G2:=hide g2
      clear p0 p1 p2 p3 hb4 g1 g2
      go_wp2
      go_roundw
      case rel=>exact⟨k+1,by omega,by go_num,by rw [HS.out,HA.out,G2.out];simp,HB5.out,hbel5⟩
      case measure=>simp [intOf];omega
     go_wp2_with fail
     refine (HQ.out a k _ (by omega) (by omega) hbel3).mono ?_
     rintro e w3 ⟨rfl,hb3⟩
     rw [g1]
     have HB4:=hide (HB3.out.below hb3 HB3.out.lt)
     obtain⟨p0,p1,p2,p3⟩:=HB4.out.cells
     have hbel4:=hbel3.trans (hb3.mono hbel3.size)
     clear s0 s1 s2 s3 hb3
     go_wp2_with fail
     refine (HQ.out b k _ (by omega) (by omega) hbel4).mono ?_
     rintro e w4 ⟨rfl,hb4⟩
     rw [g2]
     have HB5:=hide (HB4.out.below hb4 HB4.out.lt)
     obtain⟨s0,s1,s2,s3⟩:=HB5.out.cells
     have hbel5:=hbel4.trans (hb4.mono hbel4.size)
     clear p0 p1 p2 p3 hb4
     go_wp2_with fail
     refine (HQ.out j k _ (by omega) (by omega) hbel5).mono ?_
     rintro e w5 ⟨rfl,hb5⟩
     have HB6:=hide (HB5.out.below hb5 HB5.out.lt)
     have hbel6:=hbel5.trans (hb5.mono hbel5.size)
     have G12:=hide (show (c.le a k && c.le b k)=true by rw [g1,g2];rfl)
     clear s0 s1 s2 s3 hb5 g1 g2
     cases g3:c.le j k
     ·have G3:=hide g3
      clear g3
      go_wp2
      go_roundw
      case rel=>exact⟨k+1,by omega,by go_num,by rw [HS.out,HA.out,G12.out,G3.out];rfl,HB6.out,hbel6⟩
      case measure=>simp [intOf];omega
     ·have G3:=hide g3
      clear g3
      go_wp2
      go_roundw
      case rel=>exact⟨k+1,by omega,by go_num,by rw [HS.out,HA.out,G12.out,G3.out];rfl,HB6.out,hbel6⟩
      case measure=>simp [intOf];omega
    ·have hkd:c.labels≤(k:Int):=by omega
     have hkn':k=c.n:=by omega
     have HA:=hide (show c.isJoin a b j=true by rw [HD.out,HU.out,← hkn',hall];rfl)
     clear hall hkn'
     go_wp2
     go_ret
     exact⟨ret_int' (firstN_yes hlt HA.out HNO.out).symm,hbel3⟩
  ·have hge:c.labels≤(j:Int):=by omega
   go_wp2
   go_ret
   exact⟨ret_int' (firstN_no fun i hi=>HNO.out i (by omega)).symm,hbel⟩
theorem isMeet_def (c:Cfg) (a b j:Nat):c.isMeet a b j=((c.le j a && c.le j b) && (List.range c.n).all fun k=>!((c.le k a && c.le k b) && !c.le k j)):=rfl
theorem rmeet_any (c:Cfg) (v:CfgV) (a b:Nat) (w:World) (hl:labelsB c=true) (hat:CfgAt w c v) (ha:a<c.n) (hb:b<c.n) :
  Calls Tryz.prog 104 #[.agg (cfgCells c v),.int .i64 a,.int .i64 b] w fun e w'=>e=.returned (.int .i64 (c.meet a b))∧Below w.heap.size w w':=by
 obtain⟨_,_,_,_,hn,hn6,hn1⟩:=labels_of hl
 have hle1:(c.n:Int)≤c.labels:=by omega
 have hle2:c.labels≤(c.n:Int):=by omega
 have HL:=hide hl
 have HAT:=hide hat
 clear hl hat hn
 have hleq:∀ (x y:Nat) (w':World),x<c.n→y<c.n→Below w.heap.size w w'→Calls Tryz.prog 102 #[.agg (cfgCells c v),.int .i64 x,.int .i64 y] w' fun e w''=>e=.returned (.bool (c.le x y))∧Below w'.heap.size w' w'':=
  fun x y w' hx hy hb=>rleq_any c v x y w' HL.out (HAT.out.below hb) hx hy
 have HQ:=hide hleq
 clear hleq
 unfold cfgCells at *
 go_enter Tryz.func104,Tryz.ntmps104
 go_wp2
 go_loopw [7] (fun i wr=>∃ j:Nat,j≤c.n∧i=.int .i64 j∧(∀ x,x<j→c.isMeet a b x=false)∧BoxAt wr w.heap.size c v∧Below w.heap.size w wr) (fun i _=>c.n-(intOf i).toNat)
 case atStart=>exact⟨0,Nat.zero_le _,rfl,fun x hx=>absurd hx (Nat.not_lt_zero _),box_new _ _ _,below_box _ _⟩
 case round=>
  obtain⟨wo,rfl⟩:∃ x,x=wr:=⟨_,rfl⟩
  obtain⟨j,hj,rfl,hno,hbox,hbel⟩:=hrel
  have HNO:=hide hno
  have HB:=hide hbox
  obtain⟨q0,q1,q2,q3⟩:=hbox.cells
  clear hno hbox
  by_cases hlt:j<c.n
  ·have hlt':(j:Int)<c.labels:=by omega
   have hd:decide ((j:Int)<c.labels)=true:=decide_eq_true hlt'
   have HD:=hide (isMeet_def c a b j)
   cases h1:c.le j a
   ·go_wp2_with fail
    refine (HQ.out j a _ (by omega) (by omega) hbel).mono ?_
    rintro e w1 ⟨rfl,hb1⟩
    rw [h1]
    have HB1:=hide (HB.out.below hb1 HB.out.lt)
    obtain⟨p0,p1,p2,p3⟩:=HB1.out.cells
    have hbel1:=hbel.trans (hb1.mono hbel.size)
    have HF:=hide h1
    clear q0 q1 q2 q3 hb1 h1
    go_wp2
    refine wp_loop_rounds 1 ?_
    rw [rounds_succ]
    go_wp2
    go_roundw
    case rel=>
     refine⟨j+1,by omega,by go_num,fun x hx=>?_,HB1.out,hbel1⟩
     by_cases e:x=j
     ·rw [e,HD.out,HF.out];rfl
     ·exact HNO.out x (by omega)
    case measure=>simp [intOf];omega
   cases h2:c.le j b
   ·go_wp2_with fail
    refine (HQ.out j a _ (by omega) (by omega) hbel).mono ?_
    rintro e w1 ⟨rfl,hb1⟩
    rw [h1]
    have HB1:=hide (HB.out.below hb1 HB.out.lt)
    obtain⟨p0,p1,p2,p3⟩:=HB1.out.cells
    have hbel1:=hbel.trans (hb1.mono hbel.size)
    clear q0 q1 q2 q3 hb1
    go_wp2_with fail
    refine (HQ.out j b _ (by omega) (by omega) hbel1).mono ?_
    rintro e w2 ⟨rfl,hb2⟩
    rw [h2]
    have HB2:=hide (HB1.out.below hb2 HB1.out.lt)
    obtain⟨q0,q1,q2,q3⟩:=HB2.out.cells
    have hbel2:=hbel1.trans (hb2.mono hbel1.size)
    have HF:=hide h2
    clear p0 p1 p2 p3 hb2 h1 h2
    go_wp2
    refine wp_loop_rounds 1 ?_
    rw [rounds_succ]
    go_wp2
    go_roundw
    case rel=>
     refine⟨j+1,by omega,by go_num,fun x hx=>?_,HB2.out,hbel2⟩
     by_cases e:x=j
     ·rw [e,HD.out,HF.out];simp
     ·exact HNO.out x (by omega)
    case measure=>simp [intOf];omega
   go_wp2_with fail
   refine (HQ.out j a _ (by omega) (by omega) hbel).mono ?_
   rintro e w1 ⟨rfl,hb1⟩
   rw [h1]
   have HB1:=hide (HB.out.below hb1 HB.out.lt)
   obtain⟨p0,p1,p2,p3⟩:=HB1.out.cells
   have hbel1:=hbel.trans (hb1.mono hbel.size)
   clear q0 q1 q2 q3 hb1
   go_wp2_with fail
   refine (HQ.out j b _ (by omega) (by omega) hbel1).mono ?_
   rintro e w2 ⟨rfl,hb2⟩
   rw [h2]
   have HB2:=hide (HB1.out.below hb2 HB1.out.lt)
   obtain⟨q0,q1,q2,q3⟩:=HB2.out.cells
   have hbel2:=hbel1.trans (hb2.mono hbel1.size)
   have HU:=hide (show (c.le j a && c.le j b)=true by rw [h1,h2];rfl)
   clear p0 p1 p2 p3 hb2 h1 h2 hbel1
   go_wp2
   go_loopw [8,9] (fun ok kk wr=>∃ k:Nat,k≤c.n∧kk=.int .i64 k∧ok=.bool ((List.range k).all fun k=>!((c.le k a && c.le k b) && !c.le k j))∧BoxAt wr w.heap.size c v∧Below w.heap.size w wr) (fun _ kk _=>c.n-(intOf kk).toNat)
   case atStart=>exact⟨0,Nat.zero_le _,rfl,rfl,HB2.out,hbel2⟩
   case round=>
    obtain⟨wi,rfl⟩:∃ x,x=wr:=⟨_,rfl⟩
    obtain⟨k,hk,rfl,rfl,hbox,hbel3⟩:=hrel
    have HB3:=hide hbox
    obtain⟨s0,s1,s2,s3⟩:=hbox.cells
    clear hbox q0 q1 q2 q3
    cases hall:(List.range k).all fun k=>!((c.le k a && c.le k b) && !c.le k j)
    ·have HF:=hide (all_false hk hall)
     clear hall
     by_cases hkn:k<c.n
     ·have hkd:(k:Int)<c.labels:=by omega
      go_wp2
      go_roundw
      case rel=>
       refine⟨j+1,by omega,by go_num,fun x hx=>?_,HB3.out,hbel3⟩
       by_cases e:x=j
       ·rw [e,HD.out,HF.out];simp
       ·exact HNO.out x (by omega)
      case measure=>simp [intOf];omega
     ·have hkd:c.labels≤(k:Int):=by omega
      go_wp2
      go_roundw
      case rel=>
       refine⟨j+1,by omega,by go_num,fun x hx=>?_,HB3.out,hbel3⟩
       by_cases e:x=j
       ·rw [e,HD.out,HF.out];simp
       ·exact HNO.out x (by omega)
      case measure=>simp [intOf];omega
    by_cases hkn:k<c.n
    ·have hkd:(k:Int)<c.labels:=by omega
     have HS:=hide (all_range_succ k fun k=>!((c.le k a && c.le k b) && !c.le k j))
     have HA:=hide hall
     clear hall
     cases g1:c.le k a
     ·go_wp2_with fail
      refine (HQ.out k a _ (by omega) (by omega) hbel3).mono ?_
      rintro e w3 ⟨rfl,hb3⟩
      rw [g1]
      have HB4:=hide (HB3.out.below hb3 HB3.out.lt)
      have hbel4:=hbel3.trans (hb3.mono hbel3.size)
      have G1:=hide g1
      clear s0 s1 s2 s3 hb3 g1
      go_wp2
      go_roundw
      case rel=>exact⟨k+1,by omega,by go_num,by rw [HS.out,HA.out,G1.out];rfl,HB4.out,hbel4⟩
      case measure=>simp [intOf];omega
     cases g2:c.le k b
     ·go_wp2_with fail
      refine (HQ.out k a _ (by omega) (by omega) hbel3).mono ?_
      rintro e w3 ⟨rfl,hb3⟩
      rw [g1]
      have HB4:=hide (HB3.out.below hb3 HB3.out.lt)
      obtain⟨p0,p1,p2,p3⟩:=HB4.out.cells
      have hbel4:=hbel3.trans (hb3.mono hbel3.size)
      clear s0 s1 s2 s3 hb3
      go_wp2_with fail
      refine (HQ.out k b _ (by omega) (by omega) hbel4).mono ?_
      rintro e w4 ⟨rfl,hb4⟩
      rw [g2]
      have HB5:=hide (HB4.out.below hb4 HB4.out.lt)
      have hbel5:=hbel4.trans (hb4.mono hbel4.size)
      have G2:=hide g2
      clear p0 p1 p2 p3 hb4 g1 g2
      go_wp2
      go_roundw
      case rel=>exact⟨k+1,by omega,by go_num,by rw [HS.out,HA.out,G2.out];simp,HB5.out,hbel5⟩
      case measure=>simp [intOf];omega
     go_wp2_with fail
     refine (HQ.out k a _ (by omega) (by omega) hbel3).mono ?_
     rintro e w3 ⟨rfl,hb3⟩
     rw [g1]
     have HB4:=hide (HB3.out.below hb3 HB3.out.lt)
     obtain⟨p0,p1,p2,p3⟩:=HB4.out.cells
     have hbel4:=hbel3.trans (hb3.mono hbel3.size)
     clear s0 s1 s2 s3 hb3
     go_wp2_with fail
     refine (HQ.out k b _ (by omega) (by omega) hbel4).mono ?_
     rintro e w4 ⟨rfl,hb4⟩
     rw [g2]
     have HB5:=hide (HB4.out.below hb4 HB4.out.lt)
     obtain⟨s0,s1,s2,s3⟩:=HB5.out.cells
     have hbel5:=hbel4.trans (hb4.mono hbel4.size)
     clear p0 p1 p2 p3 hb4
     go_wp2_with fail
     refine (HQ.out k j _ (by omega) (by omega) hbel5).mono ?_
     rintro e w5 ⟨rfl,hb5⟩
     have HB6:=hide (HB5.out.below hb5 HB5.out.lt)
     have hbel6:=hbel5.trans (hb5.mono hbel5.size)
     have G12:=hide (show (c.le k a && c.le k b)=true by rw [g1,g2];rfl)
     clear s0 s1 s2 s3 hb5 g1 g2
     cases g3:c.le k j
     ·have G3:=hide g3
      clear g3
      go_wp2
      go_roundw
      case rel=>exact⟨k+1,by omega,by go_num,by rw [HS.out,HA.out,G12.out,G3.out];rfl,HB6.out,hbel6⟩
      case measure=>simp [intOf];omega
     ·have G3:=hide g3
      clear g3
      go_wp2
      go_roundw
      case rel=>exact⟨k+1,by omega,by go_num,by rw [HS.out,HA.out,G12.out,G3.out];rfl,HB6.out,hbel6⟩
      case measure=>simp [intOf];omega
    ·have hkd:c.labels≤(k:Int):=by omega
     have hkn':k=c.n:=by omega
     have HA:=hide (show c.isMeet a b j=true by rw [HD.out,HU.out,← hkn',hall];rfl)
     clear hall hkn'
     go_wp2
     go_ret
     exact⟨ret_int' (firstN_yes hlt HA.out HNO.out).symm,hbel3⟩
  ·have hge:c.labels≤(j:Int):=by omega
   go_wp2
   go_ret
   exact⟨ret_int' (firstN_no fun i hi=>HNO.out i (by omega)).symm,hbel⟩
end Go.Proofs.YtgigkiocdiffjaaGreat
namespace Go.Proofs.YtgigkiocdiffjaaGreat
open Go.RowKit Veil
theorem SeqAt.at {α:Type} {x y:α→Value} {w w':World} {ao:Option Addr} {l:List α} (h:SeqAt x y w ao l) (hb:Below w.heap.size w w') {i:Nat} {p:α} (hi:l[i]?=some p) :
  ∃ b off,ao=some ⟨b,off,none⟩∧b<w.heap.size∧w'.cell? ⟨b,off+i*2,none⟩=some (x p)∧w'.cell? ⟨b,off+i*2+1,none⟩=some (y p):=by
 rcases h with rfl|⟨b,off,h1,h2,h3⟩
 ·simp at hi
 ·exact⟨b,off,h1,h2,(hb.cell (p:=⟨b,off+i*2,none⟩) h2).trans (h3 i p hi).1,(hb.cell (p:=⟨b,off+i*2+1,none⟩) h2).trans (h3 i p hi).2⟩
theorem all_take_succ {α:Type} (l:List α) (f:α→Bool) (k:Nat) (p:α) (h:l[k]?=some p):(l.take (k+1)).all f=((l.take k).all f && f p):=by
 rw [List.take_add_one,h];simp
theorem all_false_of {α:Type} (l:List α) (f:α→Bool) (k:Nat) (p:α) (h:l[k]?=some p) (hf:f p=false):l.all f=false:=by
 rw [List.all_eq_false];exact⟨p,List.mem_of_getElem? h,by simp [hf]⟩
theorem rlabels_any (c:Cfg) (v:CfgV) (w:World) (hok:CfgOk c) (hat:CfgAt w c v) :
  Calls Tryz.prog 101 #[.agg (cfgCells c v)] w fun e w'=>e=.returned (.bool (labelsB c))∧Below w.heap.size w w':=by
 have k1:=hok.edges
 have HE:=hide hat.edges
 have HD:=hide (show labelsB c=(decide (1≤c.labels) && decide (c.labels≤6) && decide (c.edges.length≤30) && c.edges.all (edgeOk c.labels)) from rfl)
 have hlab:∀ (a:Int) (w':World),Calls Tryz.prog 148 #[.agg (cfgCells c v),.int .i64 a] w' fun e w''=>e=.returned (.bool (okL c.labels a))∧Below w'.heap.size w' w'':=fun a w'=>rlabel_any c v a w'
 have HQ:=hide hlab
 clear hat hok hlab
 unfold cfgCells at *
 by_cases h1:c.labels<1
 ·go_enter Tryz.func101,Tryz.ntmps101
  go_wp2
  go_ret
  exact⟨ret_bool (by rw [HD.out];simp;omega),below_box _ _⟩
 by_cases h2:6<c.labels
 ·go_enter Tryz.func101,Tryz.ntmps101
  go_wp2
  go_ret
  exact⟨ret_bool (by rw [HD.out];simp;omega),below_box _ _⟩
 by_cases h3:30<c.edges.length
 ·have h3':(30:Int)<(c.edges.length:Int):=by omega
  go_enter Tryz.func101,Tryz.ntmps101
  go_wp2
  go_ret
  exact⟨ret_bool (by rw [HD.out];simp;omega),below_box _ _⟩
 have HR:=hide (show labelsB c=c.edges.all (edgeOk c.labels) by rw [HD.out];simp [show 1≤c.labels by omega,show c.labels≤6 by omega,show c.edges.length≤30 by omega])
 clear HD
 go_enter Tryz.func101,Tryz.ntmps101
 go_wp2
 go_loopw [3] (fun i wr=>∃ k:Nat,k≤c.edges.length∧i=.int .i64 k∧(c.edges.take k).all (edgeOk c.labels)=true∧BoxAt wr w.heap.size c v∧Below w.heap.size w wr) (fun i _=>c.edges.length-(intOf i).toNat)
 case atStart=>exact⟨0,Nat.zero_le _,rfl,by simp,box_new _ _ _,below_box _ _⟩
 case round=>
  obtain⟨k,hk,rfl,hall,hbox,hbel⟩:=hrel
  have HA:=hide hall
  have HB:=hide hbox
  obtain⟨q0,q1,q2,q3⟩:=hbox.cells
  have hwl:=hbox.lt
  clear hall hbox
  by_cases hlt:k<c.edges.length
  ·have hek:c.edges[k]?=some c.edges[k]:=List.getElem?_eq_getElem hlt
   obtain⟨b,off,hao,hbl,d1,d2⟩:=HE.out.at hbel hek
   rw [hao] at q1
   have HS:=hide (all_take_succ c.edges (edgeOk c.labels) k _ hek)
   have HF:=hide (all_false_of c.edges (edgeOk c.labels) k _ hek)
   have HO:=hide hao
   generalize c.edges[k]=e at *
   obtain⟨e1,e2⟩:=e
   simp only [xE,yE] at d1 d2
   have hbl2:b<wr.heap.size:=Nat.lt_of_lt_of_le hbl hbel.size
   have HOK:=hide (show edgeOk c.labels (e1,e2)=(okL c.labels e1 && okL c.labels e2 && !(e1 == e2)) from rfl)
   clear hek hao
   go_wp2_with fail
   rw [← HO.out]
   refine (HQ.out e1 _).mono ?_
   rintro e w1 ⟨rfl,hb1⟩
   have hsz1:wr.heap.size<w1.heap.size:=by have:=hb1.size;simp at this;omega
   have m1:w1.cell? ⟨wr.heap.size,0,none⟩=some (.int .i64 e1):=by rw [hb1.cell (p:=⟨wr.heap.size,0,none⟩) (by simp)];simp
   have m2:w1.cell? ⟨wr.heap.size,1,none⟩=some (.int .i64 e2):=by rw [hb1.cell (p:=⟨wr.heap.size,1,none⟩) (by simp)];simp
   have hbb1:Below wr.heap.size wr w1:=(below_box _ _).trans (hb1.mono (by simp))
   have HB1:=hide (HB.out.below hbb1 HB.out.lt)
   have hbel1:=hbel.trans (hbb1.mono hbel.size)
   obtain⟨p0,p1,p2,p3⟩:=HB1.out.cells
   clear q0 q1 q2 q3 d1 d2 hb1 hbb1
   cases g1:okL c.labels e1
   ·have G1:=hide g1
    clear g1
    go_wp2
    go_ret
    exact⟨ret_bool (by rw [HR.out,HF.out (by rw [HOK.out,G1.out];rfl)]),hbel1⟩
   go_wp2_with fail
   refine (HQ.out e2 _).mono ?_
   rintro e w2 ⟨rfl,hb2⟩
   have hsz2:wr.heap.size<w2.heap.size:=by have:=hb2.size;omega
   have m1':w2.cell? ⟨wr.heap.size,0,none⟩=some (.int .i64 e1):=by rw [hb2.cell (p:=⟨wr.heap.size,0,none⟩) hsz1];exact m1
   have m2':w2.cell? ⟨wr.heap.size,1,none⟩=some (.int .i64 e2):=by rw [hb2.cell (p:=⟨wr.heap.size,1,none⟩) hsz1];exact m2
   have HB2:=hide (HB1.out.below hb2 HB1.out.lt)
   have hbel2:=hbel1.trans (hb2.mono hbel1.size)
   clear p0 p1 p2 p3 m1 m2 hb2 hsz1
   have G1:=hide g1
   clear g1
   cases g2:okL c.labels e2
   ·have G2:=hide g2
    clear g2
    go_wp2
    go_ret
    exact⟨ret_bool (by rw [HR.out,HF.out (by rw [HOK.out,G2.out];simp)]),hbel2⟩
   have G2:=hide g2
   clear g2
   by_cases he:e1=e2
   ·have heb:(e1 == e2)=true:=by simpa using he
    have EB:=hide heb
    clear he
    go_wp2
    go_ret
    exact⟨ret_bool (by rw [HR.out,HF.out (by rw [HOK.out,EB.out];simp)]),hbel2⟩
   ·have heb:(e1 == e2)=false:=by simpa using he
    have EB:=hide heb
    clear he
    go_wp2
    go_roundw
    case rel=>exact⟨k+1,by omega,by go_num,by rw [HS.out,HA.out,HOK.out,G1.out,G2.out,EB.out];rfl,HB2.out,hbel2⟩
    case measure=>simp [intOf];omega
  ·have hke:k=c.edges.length:=by omega
   have HT:=hide (show c.edges.all (edgeOk c.labels)=true by have:=HA.out;rwa [hke,List.take_length] at this)
   go_wp2
   go_ret
   exact⟨ret_bool (by rw [HR.out,HT.out]),hbel⟩
end Go.Proofs.YtgigkiocdiffjaaGreat
namespace Go.Proofs.YtgigkiocdiffjaaGreat
open Go.RowKit Veil
theorem okL_nat {c:Cfg} {a:Int} (hl:(c.n:Int)=c.labels) (h:okL c.labels a=true):∃ x:Nat,a=x∧x<c.n:=by
 simp only [okL,Bool.and_eq_true,decide_eq_true_eq] at h
 obtain⟨x,rfl⟩:=Int.eq_ofNat_of_zero_le h.1
 exact⟨x,rfl,by omega⟩
theorem rgrants_any (c:Cfg) (v:CfgV) (w:World) (hl:labelsB c=true) (hok:CfgOk c) (hat:CfgAt w c v) :
  Calls Tryz.prog 106 #[.agg (cfgCells c v)] w fun e w'=>e=.returned (.bool (grantsB c))∧Below w.heap.size w w':=by
 obtain⟨_,_,_,_,hn,hn6,hn1⟩:=labels_of hl
 have k1:=hok.grants
 have HE:=hide hat.grants
 have HD:=hide (show grantsB c=(decide (c.grants.length≤30) && c.grants.all (grantOk c)) from rfl)
 have hlab:∀ (a:Int) (w':World),Calls Tryz.prog 148 #[.agg (cfgCells c v),.int .i64 a] w' fun e w''=>e=.returned (.bool (okL c.labels a))∧Below w'.heap.size w' w'':=fun a w'=>rlabel_any c v a w'
 have HQ:=hide hlab
 have hleq:∀ (x y:Nat) (w':World),x<c.n→y<c.n→Below w.heap.size w w'→Calls Tryz.prog 102 #[.agg (cfgCells c v),.int .i64 x,.int .i64 y] w' fun e w''=>e=.returned (.bool (c.le x y))∧Below w'.heap.size w' w'':=
  fun x y w' hx hy hb=>rleq_any c v x y w' hl (hat.below hb) hx hy
 have HLQ:=hide hleq
 have HNN:=hide hn
 clear hat hok hlab hleq hl hn
 unfold cfgCells at *
 go_enter Tryz.func106,Tryz.ntmps106
 go_wp2
 go_loopw [3] (fun i wr=>∃ k:Nat,k≤c.grants.length∧i=.int .i64 k∧(c.grants.take k).all (grantOk c)=true∧BoxAt wr w.heap.size c v∧Below w.heap.size w wr) (fun i _=>c.grants.length-(intOf i).toNat)
 case atStart=>exact⟨0,Nat.zero_le _,rfl,by simp,box_new _ _ _,below_box _ _⟩
 case round=>
  obtain⟨k,hk,rfl,hall,hbox,hbel⟩:=hrel
  have HA:=hide hall
  have HB:=hide hbox
  obtain⟨q0,q1,q2,q3⟩:=hbox.cells
  have hwl:=hbox.lt
  clear hall hbox
  by_cases hlt:k<c.grants.length
  ·have hek:c.grants[k]?=some c.grants[k]:=List.getElem?_eq_getElem hlt
   obtain⟨b,off,hao,hbl,d1,d2⟩:=HE.out.at hbel hek
   rw [hao] at q3
   have HS:=hide (all_take_succ c.grants (grantOk c) k _ hek)
   have HF:=hide (all_false_of c.grants (grantOk c) k _ hek)
   have HO:=hide hao
   generalize c.grants[k]=e at *
   obtain⟨e1,e2⟩:=e
   simp only [xE,yE] at d1 d2
   have hbl2:b<wr.heap.size:=Nat.lt_of_lt_of_le hbl hbel.size
   have HOK:=hide (show grantOk c (e1,e2)=(okL c.labels e1 && okL c.labels e2 && !(e1 == e2) && c.le e2 e1) from rfl)
   have HX:Hid (grantOk c (e1,e2)=false→grantsB c=false):=fun h=>by rw [HD.out,HF.out h];simp
   clear hek hao
   go_wp2_with fail
   rw [← HO.out]
   refine (HQ.out e1 _).mono ?_
   rintro e w1 ⟨rfl,hb1⟩
   have hsz1:wr.heap.size<w1.heap.size:=by have:=hb1.size;simp at this;omega
   have m1:w1.cell? ⟨wr.heap.size,0,none⟩=some (.int .i64 e1):=by rw [hb1.cell (p:=⟨wr.heap.size,0,none⟩) (by simp)];simp
   have m2:w1.cell? ⟨wr.heap.size,1,none⟩=some (.int .i64 e2):=by rw [hb1.cell (p:=⟨wr.heap.size,1,none⟩) (by simp)];simp
   have hbb1:Below wr.heap.size wr w1:=(below_box _ _).trans (hb1.mono (by simp))
   have HB1:=hide (HB.out.below hbb1 HB.out.lt)
   have hbel1:=hbel.trans (hbb1.mono hbel.size)
   obtain⟨p0,p1,p2,p3⟩:=HB1.out.cells
   clear q0 q1 q2 q3 d1 d2 hb1 hbb1
   cases g1:okL c.labels e1
   ·have G1:=hide g1
    clear g1
    go_wp2
    go_ret
    exact⟨ret_bool (HX.out (by rw [HOK.out,G1.out];rfl)).symm,hbel1⟩
   go_wp2_with fail
   refine (HQ.out e2 _).mono ?_
   rintro e w2 ⟨rfl,hb2⟩
   have hsz2:wr.heap.size<w2.heap.size:=by have:=hb2.size;omega
   have m1':w2.cell? ⟨wr.heap.size,0,none⟩=some (.int .i64 e1):=by rw [hb2.cell (p:=⟨wr.heap.size,0,none⟩) hsz1];exact m1
   have m2':w2.cell? ⟨wr.heap.size,1,none⟩=some (.int .i64 e2):=by rw [hb2.cell (p:=⟨wr.heap.size,1,none⟩) hsz1];exact m2
   have HB2:=hide (HB1.out.below hb2 HB1.out.lt)
   have hbel2:=hbel1.trans (hb2.mono hbel1.size)
   obtain⟨q0,q1,q2,q3⟩:=HB2.out.cells
   clear p0 p1 p2 p3 m1 m2 hb2 hsz1
   have G1:=hide g1
   clear g1
   cases g2:okL c.labels e2
   ·have G2:=hide g2
    clear g2
    go_wp2
    go_ret
    exact⟨ret_bool (HX.out (by rw [HOK.out,G2.out];simp)).symm,hbel2⟩
   have G2:=hide g2
   clear g2
   by_cases he:e1=e2
   ·have heb:(e1 == e2)=true:=by simpa using he
    have EB:=hide heb
    clear he
    go_wp2
    go_ret
    exact⟨ret_bool (HX.out (by rw [HOK.out,EB.out];simp)).symm,hbel2⟩
   ·have heb:(e1 == e2)=false:=by simpa using he
    have EB:=hide heb
    clear he
    obtain⟨x,hx,hxn⟩:=okL_nat HNN.out G1.out
    obtain⟨y,hy,hyn⟩:=okL_nat HNN.out G2.out
    have HX1:=hide hx
    have HY1:=hide hy
    clear hx hy
    go_wp2_with fail
    rw [HX1.out,HY1.out]
    refine (HLQ.out y x _ hyn hxn hbel2).mono ?_
    rintro e w3 ⟨rfl,hb3⟩
    have HB3:=hide (HB2.out.below hb3 HB2.out.lt)
    have hbel3:=hbel2.trans (hb3.mono hbel2.size)
    clear q0 q1 q2 q3 m1' m2' hb3
    cases g3:c.le y x
    ·have G3:=hide g3
     clear g3
     go_wp2
     go_ret
     exact⟨ret_bool (HX.out (by rw [HOK.out,HX1.out,HY1.out,G3.out];simp)).symm,hbel3⟩
    ·have G3:=hide g3
     clear g3
     go_wp2
     go_roundw
     case rel=>exact⟨k+1,by omega,by go_num,by rw [HS.out,HA.out,HOK.out,G1.out,G2.out,EB.out,HX1.out,HY1.out,G3.out];rfl,HB3.out,hbel3⟩
     case measure=>simp [intOf];omega
  ·have hke:k=c.grants.length:=by omega
   have HT:=hide (show c.grants.all (grantOk c)=true by have:=HA.out;rwa [hke,List.take_length] at this)
   by_cases h30:c.grants.length≤30
   ·go_wp2
    go_ret
    exact⟨ret_bool (by rw [HD.out,HT.out];simp;omega),hbel⟩
   ·go_wp2
    go_ret
    exact⟨ret_bool (by rw [HD.out,HT.out];simp;omega),hbel⟩
end Go.Proofs.YtgigkiocdiffjaaGreat
namespace Go.Proofs.YtgigkiocdiffjaaGreat
open Go.RowKit Veil
theorem rrules_any (c:Cfg) (v:CfgV) (w:World) (hok:CfgOk c) (hat:CfgAt w c v) :
  Calls Tryz.prog 105 #[.agg (cfgCells c v)] w fun e w'=>e=.returned (.bool (rulesB c))∧Below w.heap.size w w':=by
 have k1:=hok.rules
 have HTX:=hide hok.texts
 have HE:=hide hat.rules
 have HD:=hide (show rulesB c=(decide (c.rules.length≤8) && rulesToB c c.rules.length) from rfl)
 have hlab:∀ (a:Int) (w':World),Calls Tryz.prog 148 #[.agg (cfgCells c v),.int .i64 a] w' fun e w''=>e=.returned (.bool (okL c.labels a))∧Below w'.heap.size w' w'':=fun a w'=>rlabel_any c v a w'
 have HQ:=hide hlab
 clear hat hok hlab
 unfold cfgCells at *
 go_enter Tryz.func105,Tryz.ntmps105
 go_wp2
 go_loopw [3] (fun i wr=>∃ k:Nat,k≤c.rules.length∧i=.int .i64 k∧rulesToB c k=true∧BoxAt wr w.heap.size c v∧Below w.heap.size w wr) (fun i _=>c.rules.length-(intOf i).toNat)
 case atStart=>exact⟨0,Nat.zero_le _,rfl,rfl,box_new _ _ _,below_box _ _⟩
 case round=>
  obtain⟨wo,rfl⟩:∃ x,x=wr:=⟨_,rfl⟩
  obtain⟨k,hk,rfl,hall,hbox,hbel⟩:=hrel
  have HA:=hide hall
  have HB:=hide hbox
  obtain⟨q0,q1,q2,q3⟩:=hbox.cells
  have hwl:=hbox.lt
  clear hall hbox
  by_cases hlt:k<c.rules.length
  ·have hek:c.rules[k]?=some c.rules[k]:=List.getElem?_eq_getElem hlt
   obtain⟨b,off,hao,hbl,d1,d2⟩:=HE.out.at hbel hek
   rw [hao] at q2
   have HS:=hide (rulesToB_succ c k _ hek)
   have hsz:=HTX.out _ (List.getElem_mem hlt)
   have HO:=hide hao
   generalize c.rules[k]=e at *
   obtain⟨e1,e2⟩:=e
   simp only [xR,yR] at d1 d2 hsz
   have hsm:e1.size≤maxLen:=by unfold maxLen;omega
   have hbl2:b<wo.heap.size:=Nat.lt_of_lt_of_le hbl hbel.size
   have HOK:=hide (show ruleOk c k (e1,e2)=(validB e1 && okL c.labels e2 && (c.rules.take k).all fun q=>!sameS q.1 e1) from rfl)
   have HX:Hid (ruleOk c k (e1,e2)=false→rulesB c=false):=fun h=>by rw [HD.out,rulesToB_false c (k+1) _ (by rw [HS.out,h];simp) (by omega)];simp
   clear hek hao
   go_wp2_with fail
   refine (rpattern_any e1 _ hsm).mono ?_
   rintro e w1 ⟨rfl,rfl⟩
   cases g1:validB e1
   ·have G1:=hide g1
    clear g1
    go_wp2
    go_ret
    exact⟨ret_bool (HX.out (by rw [HOK.out,G1.out];rfl)).symm,hbel.alloc hbel.size _⟩
   go_wp2_with fail
   rw [← HO.out]
   refine (HQ.out e2 _).mono ?_
   rintro e w1 ⟨rfl,hb1⟩
   have hsz1:wo.heap.size<w1.heap.size:=by have:=hb1.size;simp at this;omega
   have m1:w1.cell? ⟨wo.heap.size,0,none⟩=some (.string e1):=by rw [hb1.cell (p:=⟨wo.heap.size,0,none⟩) (by simp)];simp
   have M1:=hide m1
   have hbb1:Below wo.heap.size wo w1:=(below_box _ _).trans (hb1.mono (by simp))
   have HB1:=hide (HB.out.below hbb1 HB.out.lt)
   have hbel1:=hbel.trans (hbb1.mono hbel.size)
   clear q0 q1 q2 q3 d1 d2 hb1 hbb1
   have G1:=hide g1
   clear g1
   cases g2:okL c.labels e2
   ·have G2:=hide g2
    clear g2
    go_wp2
    go_ret
    exact⟨ret_bool (HX.out (by rw [HOK.out,G2.out];simp)).symm,hbel1⟩
   have G2:=hide g2
   clear g2 m1
   go_wp2
   go_loopw [6] (fun i wr=>∃ m:Nat,m≤k∧i=.int .i64 m∧((c.rules.take m).all fun q=>!sameS q.1 e1)=true∧wr.cell? ⟨wo.heap.size,0,none⟩=some (.string e1)∧wo.heap.size<wr.heap.size∧BoxAt wr w.heap.size c v∧Below w.heap.size w wr) (fun i _=>k-(intOf i).toNat)
   case atStart=>exact⟨0,Nat.zero_le _,rfl,by simp,M1.out,hsz1,HB1.out,hbel1⟩
   case round=>
    obtain⟨m,hm,rfl,hal,mc,msz,hbox,hbel2⟩:=hrel
    have HAL:=hide hal
    have HB2:=hide hbox
    obtain⟨s0,s1,s2,s3⟩:=hbox.cells
    clear hal hbox
    by_cases hmk:m<k
    ·have hmk':(m:Int)<(k:Int):=by omega
     have hml:m<c.rules.length:=by omega
     have hem:c.rules[m]?=some c.rules[m]:=List.getElem?_eq_getElem hml
     obtain⟨b',off',hao',hbl',t1,t2⟩:=HE.out.at hbel2 hem
     rw [hao'] at s2
     have HSM:=hide (all_take_succ c.rules (fun q=>!sameS q.1 e1) m _ hem)
     have HFM:Hid ((fun q:ByteArray × Int=>!sameS q.1 e1) c.rules[m]=false→((c.rules.take k).all fun q=>!sameS q.1 e1)=false):=fun h=>all_false_of _ _ m _ (by rw [List.getElem?_take_of_lt hmk];exact hem) h
     generalize c.rules[m]=f at *
     obtain⟨f1,f2⟩:=f
     simp only [xR,yR] at t1 t2
     have HSS:=hide (show sameS f1 e1=(f1.toList == e1.toList) from rfl)
     have hmi:(m:Int)<(c.rules.length:Int):=by omega
     clear hem hao'
     cases g3:(f1.toList == e1.toList)
     ·have G3:=hide g3
      go_wp2_with fail
      go_quiet (fail)
      go_wp2
      go_roundw
      case rel=>exact⟨m+1,by omega,by go_num,by rw [HSM.out,HAL.out];simp [HSS.out,G3.out],mc,msz,HB2.out,Below.drawn hbel2 _⟩
      case measure=>simp [intOf];omega
     ·have G3:=hide g3
      go_wp2_with fail
      go_quiet (fail)
      go_wp2
      go_ret
      exact⟨ret_bool (HX.out (by rw [HOK.out,HFM.out (by simp [HSS.out,G3.out])];simp)).symm,Below.drawn hbel2 _⟩
    ·have hmk':m=k:=by omega
     have HAL2:=hide (show ((c.rules.take k).all fun q=>!sameS q.1 e1)=true by rw [← hmk'];exact HAL.out)
     have hmk2:(k:Int)≤(m:Int):=by omega
     clear hmk'
     go_wp2
     go_roundw
     case rel=>exact⟨k+1,by omega,by go_num,by rw [HS.out,HA.out,HOK.out,G1.out,G2.out,HAL2.out];rfl,HB2.out,hbel2⟩
     case measure=>simp [intOf];omega
  ·have hke:k=c.rules.length:=by omega
   have HT:=hide (show rulesToB c c.rules.length=true by rw [← hke];exact HA.out)
   by_cases h8:c.rules.length≤8
   ·go_wp2
    go_ret
    exact⟨ret_bool (by rw [HD.out,HT.out];simp;omega),hbel⟩
   ·go_wp2
    go_ret
    exact⟨ret_bool (by rw [HD.out,HT.out];simp;omega),hbel⟩
end Go.Proofs.YtgigkiocdiffjaaGreat
