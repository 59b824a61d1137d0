/- Small texts, one behind the other: RfChB, RfLen. -/
import Derived.Test.YtjmndjmhjleabaaGreatDoorRfChunks
import Derived.Test.YtjmndjmhjleabaaGreatDoorFlB
open Go.Value renaming int->I,string->V,slice->Z
open Go.IntKind renaming i64->J
open Go.Ending renaming returned->Y
open Option renaming none->U,some->M
open Bool renaming false->F
open Go renaming World->X
set_option maxHeartbeats 4000000
set_option maxRecDepth 100000
open Go.Proofs.Tryz
namespace Go.Proofs.YtjmndjmhjleabaaGreatDoor
open Go.RowKit
theorem Ak (ao:aj)(c:Nat)(h:ao=U->c=0)(W:X):
 Calls prog 42 #[Z ao 0 c] W fun e w'=>e=Y (.tuple #[V ⟨#[]⟩,I J 0,.bool F,I J 0])∧w'=W :=
 FH [] ao c 0 W ⟨ay _,h,fun j a=>by cases a⟩ rfl (by omega)
theorem Gm (b:aj)(cap:Nat)(w:X)(d:iG w b cap []):
 Calls prog 46 #[Z b 0 cap] w fun e w'=>lu w [] e w':=by
 have f:=d.2.1;clear d;by_cases g:cap=0
 . subst g;go_enter func46,ntmps46;go_wp2;refine wp_loop_rounds 1 ?_;rw[rounds_succ];go_wp2_with fail
   refine(Ak _ _ (fun _=>rfl) _).mono ?_;rintro e i ⟨rfl,c⟩;subst c;go_wp2;(try simp only[Exit.inBlock,Exit.then]);refine gq (gX rfl _ _ _) rfl ?_;exact lu.of [] 0 F 0 U 0 0 _ rfl rfl rfl rfl (iD.nil _ _ _) (fI _ _)
 . obtain⟨a,rfl⟩:∃a,b=M a:=by
    cases b with
    | none=>exact absurd (f rfl) g
    | some a=>exact⟨a,rfl⟩
   clear f;go_enter func46,ntmps46;go_wp2;refine wp_loop_rounds 1 ?_;rw[rounds_succ];go_wp2_with fail
   refine(Ak _ _ (fun e=>by cases e) _).mono ?_;rintro e i ⟨rfl,c⟩;subst c;go_wp2;(try simp only[Exit.inBlock,Exit.then]);refine gq (gX rfl _ _ _) rfl ?_;exact lu.of [] 0 F 0 U 0 0 _ rfl rfl rfl rfl (iD.nil _ _ _) (fI _ _)
theorem JZ (b:au)(a:aj)(cap:Nat)(w:X)(c:iG w a cap b)(d:b.length<=20000):
 Calls prog 46 #[Z a b.length cap] w fun e w'=>lu w b e w':=by
 by_cases f:0<b.length
 . obtain⟨g,i,rfl,_⟩:=c.lit f;exact Gl b g i cap w c d
 . obtain rfl:b=[]:=dn (by omega);exact Gm a cap w c
structure Yd (w:X)(row:Obj)(vs cs:List av)(zT jw:aj)(ou cap2:Nat)(wr:X):Prop where
 one:jm wr zT ou vs.length (oH vs)
 two:jm wr jw cap2 cs.length (oH cs)
 box:wr.heap[w.heap.size]? = M row
 below:Below w.heap.size w wr
theorem Bq {w wr w':X}{row:Obj}(h:wr.heap[w.heap.size]? = M row)(a:Below wr.heap.size wr w'):w'.heap[w.heap.size]? = M row:=(a.block w.heap.size (aK.1 h).1).trans h
theorem Yd.stay {w:X}{row:Obj}{c d:List av}{e f:aj}{g a:Nat}{wr w':X}(h:Yd w row c d e f g a wr)(b:Below wr.heap.size wr w'):Yd w row c d e f g a w':=⟨h.one.stay b,h.two.stay b,Bq h.box b,then_ h.below b⟩
theorem J3 (m t:av)(mi:Nat)(k0:Int)(l:ak)(fo:aj)(gL:Nat)(w:X)(hl:jm w fo gL l.length (gT l))(hN:l.length<=16)(hs:∀p∈l,p.1.size<=2000∧p.2.size<=2000):
 Calls prog 45 #[.agg #[V m,V t,I J (mi:Int),Z fo l.length gL,I J k0]] w fun e w'=>e=Y (Rq.lenVal (Rq.len ⟨m.data.toList,t.data.toList,mi,Rq.V4 l,k0⟩))∧Below w.heap.size w w':=by
 have hle:Rq.len ⟨m.data.toList,t.data.toList,mi,Rq.V4 l,k0⟩=Rq.lenOf mi (Rq.lists (Fd.vals rQ l)) (Rq.lists (Fd.vals qm l)) (Rq.lists (Fd.vals qp l)):=by
  rw[Rq.len_eq];show Rq.lenOf mi (Rq.vals (Rq.V4 l) rQ.data.toList) (Rq.vals (Rq.V4 l) qm.data.toList) (Rq.vals (Rq.V4 l) qp.data.toList)=_;rw[Rq.wz l rQ (by decide +kernel),Rq.wz l qm (by decide +kernel),Rq.wz l qp (by decide +kernel)];rfl
 rw[hle];have HB:=H9 hl;have F4:Hid (∀p∈l,p.1.size<=2000):=fun p hp=>(hs p hp).1;have HVz:Hid (∀g,∀v∈Fd.vals g l,v.size<=2000):=fun g v f=>by
  obtain⟨p,hp,e⟩:=Fd.wB f;rw[<-e];exact(hs p hp).2
 have hlH:=Fd.kN rQ l;have hlS:=Fd.kN qm l;have hlC:=Fd.kN qp l
 clear hle hl hs;have afv:Hid (∀W,Below w.heap.size w W->Calls prog 54 #[Z fo l.length gL,V ⟨#[104,111,115,116]⟩] W fun e w'=>e=Y (rP (Fd.one (Fd.vals rQ l)))∧Below W.heap.size W w'):=fun W hW=>R9 l rQ fo gL l.length W (HB.o.stay hW) rfl (by omega) F4.o (by decide);have HV:Hid (∀(g:av) (W:X),Below w.heap.size w W->g.size<=2000->Calls prog 69 #[Z fo l.length gL,V g] W fun e w'=>∃gV cap',e=Y (Z gV (Fd.vals g l).length cap')∧jm w' gV cap' (Fd.vals g l).length (oH (Fd.vals g l))∧Below W.heap.size W w'):=fun g W hW hn=>by
  refine(zS l g fo gL l.length W (HB.o.stay hW) rfl (by omega) F4.o hn).mono ?_;rintro e w' ⟨a,c,s,h2,h3⟩;exact⟨a,c,s,h2.nP,h3⟩
 have HZs:=H9 (HVz.o qm);have HZc:=H9 (HVz.o qp)
 clear HVz F4 HB;generalize Fd.vals rQ l=f at *;generalize hvs:Fd.vals qm l=b at *;generalize G:Fd.vals qp l=k at *;have HEs:=H9 hvs;have HEc:=H9 G
 clear hvs G;generalize H:(Obj.cells #[Value.string m,Value.string t,I J (mi:Int),Z fo l.length gL,I J k0] 68 (0,0))=row;have nW:=H9 H;have hb0:Below w.heap.size w (w.alloc row):=(fI _ _).alloc (aL _) _;have HX0:Hid ((w.alloc row).heap[w.heap.size]? = M row):=fH w _;have HB0:=H9 hb0;rw[<-H] at HX0 HB0;clear H hb0;go_enter func45,ntmps45;go_wp2_with fail
 refine(afv.o _ HB0.o).mono ?_;rintro e w1 ⟨he,hb1⟩;have Tk:=H9 (Bq HX0.o hb1);have HB1:=H9 (then_ HB0.o hb1)
 have c2:w1.cell? ⟨w.heap.size,2,U⟩=M (I J (mi:Int)):=fJ w1 w.heap.size 2 _ _ _ Tk.o;have c3:w1.cell? ⟨w.heap.size,3,U⟩=M (Z fo l.length gL):=fJ w1 w.heap.size 3 _ _ _ Tk.o;clear hb1 afv HX0 HB0;unfold rP at he;subst he;have hone:((Fd.one f).2=9∧1<f.length)∨((Fd.one f).2=10∧f.length=0)∨((Fd.one f).2=0∧f.length=1):=by
  match f with
  | []=>exact Or.inr (Or.inl ⟨rfl,rfl⟩)
  | [v]=>exact Or.inr (Or.inr ⟨rfl,rfl⟩)
  | v::u::r=>exact Or.inl ⟨rfl,by simp⟩
 generalize (⟨(Fd.one f).1.toArray⟩:av)=hb at *;generalize (Fd.one f).2=hc at *;go_upto_region 2 with fail
 go_cut [28] (fun tt wd=>tt=.bool (decide (1<f.length∨f.length=0∧mi=1))∧wd=w1)
 case first =>
  rcases hone with ⟨rfl,s⟩ | ⟨rfl,s⟩ | ⟨rfl,s⟩
  . have HD:Hid (decide (1<f.length∨f.length=0∧mi=1)=true):=aH (Or.inl s);clear s;go_wp2;go_meet;exact⟨by rw[HD.o],rfl⟩
  . by_cases hm:mi=1
    . have HD:Hid (decide (1<f.length∨f.length=0∧mi=1)=true):=aH (Or.inr ⟨s,hm⟩);have tm:((mi:Int)==1)=true:=by rw[hm];rfl
      clear s hm;go_wp2;go_meet;exact⟨by rw[HD.o],rfl⟩
    . have HD:Hid (decide (1<f.length∨f.length=0∧mi=1)=F):=aI (by rintro (e | e);omega;exact hm e.2);have tm:((mi:Int)==1)=F:=by rw[aR];omega
      clear s hm;go_wp2;go_meet;exact⟨by rw[HD.o],rfl⟩
  . have HD:Hid (decide (1<f.length∨f.length=0∧mi=1)=F):=aI (by rintro (e | e) <;> omega);clear s;go_wp2;go_meet;exact⟨by rw[HD.o],rfl⟩
 case rest =>
  obtain⟨rfl,hw⟩:=hcut;subst hw;clear hone;have sQ:Hid (Rq.lenOf mi (Rq.lists f) (Rq.lists b) (Rq.lists k)=if 1<f.length∨f.length=0∧mi=1 then .inl 13 else if k≠[] then (if b≠[]∨mi=0 then .inl 12 else if k.length≠1∨Ch.lower ((Rq.lists k).headD [])≠Rq.pI then .inl 11 else .inr (-1)) else match Rq.sizes ((Rq.lists b).headD []) 0 (Rq.lists b) with
   | .inl c=>.inl c
   | .inr n=>if 4000<n then .inl 4 else .inr n):=by
   unfold Hid Rq.lenOf Rq.lists;simp only[aD,ne_eq,List.map_eq_nil_iff];rfl
  by_cases mD:1<f.length∨f.length=0∧mi=1
  . have hd:decide (1<f.length∨f.length=0∧mi=1)=true:=aH mD;have L:Hid (Rq.lenOf mi (Rq.lists f) (Rq.lists b) (Rq.lists k)=.inl 13):=by have:=sQ.o;rw[if_pos mD] at this;exact this
    rw[hd];clear sQ hd mD;go_wp2;go_ret2;exact⟨by rw[L.o];rfl,HB1.o⟩
  . have hd:decide (1<f.length∨f.length=0∧mi=1)=F:=aI mD;have hl2:=sQ.o;rw[if_neg mD] at hl2;have HL2:=H9 hl2;rw[hd];clear sQ hd mD hl2;go_upto_region 4 with fail
    go_cut [6,7] (fun v6 v7 wd=>∃zT ou jw z,v6=Z zT b.length ou∧v7=Z jw k.length z∧Yd w row b k zT jw ou z wd)
    case first =>
     have hx0:=Tk.o;rw[nW.o] at hx0;have hxd:wc.drew.heap[w.heap.size]? = M row:=hx0;have hbd:Below w.heap.size w wc.drew:=HB1.o.trans (gP _ _);have N:∀W:X,W.heap[w.heap.size]? = M row->W.cell? ⟨w.heap.size,3,U⟩=M (Z fo l.length gL):=fun W hW=>by
      rw[<-nW.o] at hW;exact fJ W w.heap.size 3 _ _ _ hW
     have HC:=H9 N;clear N hx0;go_region_held3 (fun w'=>w'.cell? ⟨w.heap.size,3,U⟩=M (Z fo l.length gL)) (go_keep) (first
      | (go_at_call 69;refine(HV.o _ _ (by assumption) (by decide)).mono ?_;rintro e w2 ⟨zT,ou,rfl,hIs,hbs⟩;have hxs:=Bq (by assumption) hbs;have hBs:=then_ (w:=w) (by assumption) hbs;have e3:=HC.o w2 hxs))
     rename_i w2' ao0 cap0 hI0 hb0 hx0 hB0 e0 z0;go_wp2;go_meet;refine⟨ao0,cap0,zT,ou,by rw[<-HEs.o];rfl,by rw[<-HEc.o];rfl,⟨?_,?_,hxs,hBs⟩⟩
     . rw[<-HEs.o];exact hI0.stay hbs
     . rw[<-HEc.o];exact hIs
    case rest =>
     obtain⟨zT,ou,jw,z,rfl,rfl,hL⟩:=hcut;have T:=H9 hL;clear hL c2 c3 Tk HB1 HV HEs HEc;have c2:wc.cell? ⟨w.heap.size,2,U⟩=M (I J (mi:Int)):=by
      have:=T.o.box;rw[<-nW.o] at this;exact fJ _ w.heap.size 2 _ _ _ this
     by_cases B:k=[]
     . have d:=HL2.o;rw[if_neg (fun e=>e B)] at d;generalize hnc:k.length=nc;have hcz:¬0<nc:=by rw[<-hnc,B];simp
       have tc:decide ((nc:Int) > 0)=F:=aI (by omega);have HL3:=H9 d;clear d HL2 B hnc;go_wp2;go_loopw [8,9] (fun vn vi wr=>∃(i:Nat) (n:Int),i<=b.length∧vi=I J i∧vn=I J n∧0<=n∧n<68719476736∧Rq.sizes ((Rq.lists b).headD []) 0 (Rq.lists b)=Rq.sizes ((Rq.lists b).headD []) n ((Rq.lists b).drop i)∧Yd w row b k zT jw ou z wr) (fun _ vi _=>b.length-(intOf vi).toNat)
       case atStart=>exact⟨0,0,ay _,rfl,rfl,aA _,by decide,rfl,T.o⟩
       case round =>
        clear T c2;obtain⟨i,n,hi,rfl,rfl,hn0,hn1,hsz,hR⟩:=hrel;have L:=H9 hR;have HZ:=H9 hsz
        clear hR hsz;by_cases hlt:i<b.length
        . obtain⟨bb,oo,rfl,_⟩:=L.o.one.lit (by rw[sH];omega);have hlt':(i:Int)<b.length:=by omega
          have hcv:=L.o.one.1;have c0:∀W,Below wr.heap.size wr W->W.cell? ⟨bb,oo,U⟩=M (V b[0])∧W.cell? ⟨bb,oo+i,U⟩=M (V b[i]):=fun W hW=>by
           have h0:=(L.o.one.stay hW).cell (zm b 0 (by omega));have hi:=(L.o.one.stay hW).cell (zm b i hlt);rw[gH] at h0 hi;exact⟨by simpa using h0,hi⟩
          have HC:=H9 c0;have ci:=(c0 wr (fI _ _)).2;have sG:=H9 (fun W=>Jq b[i] W (by have:=HZs.o b[i] (aB hlt);unfold maxLen;omega));have hdr:(Rq.lists b).drop i=b[i].data.toList::(Rq.lists b).drop (i+1):=by
           unfold Rq.lists;rw[aC (by rw[aD];exact hlt),aF]
          have hhd:(Rq.lists b).headD []=b[0].data.toList:=by
           unfold Rq.lists;cases b with
           | nil=>simp at hlt
           | cons v r=>rfl
          have hz:=HZ.o;rw[hdr,Rq.sizes] at hz;rw[hhd] at hz;have hnb:0<=(Ch.number 10 9 b[i].data.toList).1∧(Ch.number 10 9 b[i].data.toList).1<68719476736:=by
           unfold Ch.number;split
           . exact⟨aA _,by decide⟩
           . split
             . rename_i s h2;have hl9:¬(9:Int)<b[i].data.toList.length:=fun e=>s (Or.inr e);exact Ch.mG 10 (by omega) (by omega) _ h2 (by omega)
             . exact⟨aA _,by decide⟩
          have Pb:=H9 hhd;have O:=H9 hz;clear c0 hdr hz hhd HZ;generalize b[i]=x at *;generalize b[0]=y at *;generalize (Ch.number 10 9 x.data.toList).1=n2 at *;generalize (Ch.number 10 9 x.data.toList).2=ok at *;have acS:=hnb.1;have acT:=hnb.2;clear hnb;cases ok
          . have q:Hid (Rq.lenOf mi (Rq.lists f) (Rq.lists b) (Rq.lists k)=.inl 7):=by
             have:=HL3.o;rw[Pb.o,O.o,if_pos rfl] at this;exact this
            go_wp2_with fail
            refine(sG.o _).mono ?_;rintro e w2 ⟨rfl,j⟩;have P:=H9 (then_ L.o.below j);clear j;go_wp2;(try simp only[Exit.inBlock,Exit.then]);go_ret2;exact⟨by rw[q.o];rfl,P.o⟩
          . by_cases C:x.data.toList=y.data.toList
            . have txy:(x.toList==y.toList)=true:=by rw[Lib.toList_data,Lib.toList_data,C];exact fB _
              have HZ3:Hid (Rq.sizes y.data.toList 0 (Rq.lists b)=Rq.sizes y.data.toList n2 ((Rq.lists b).drop (i+1))):=by
               have:=O.o;rw[if_neg (by simp),if_neg (fun e=>e C)] at this;exact this
              clear O C;go_wp2_with fail
              refine(sG.o _).mono ?_;rintro e w2 ⟨rfl,j⟩;have P:=H9 j;obtain⟨d0,d1⟩:=HC.o _ j;clear j ci;go_wp2;go_quiet (fail)
              go_wp2;go_roundw
              case rel=>exact⟨i+1,n2,by omega,by go_num,rfl,acS,acT,by rw[Pb.o];exact HZ3.o,(L.o.stay P.o).stay (iT ⟨_,rfl⟩)⟩
              case measure=>simp[intOf];omega
            . have txy:(x.toList==y.toList)=F:=by rw[aR,Lib.toList_data,Lib.toList_data];exact C
              have q:Hid (Rq.lenOf mi (Rq.lists f) (Rq.lists b) (Rq.lists k)=.inl 12):=by
               have:=HL3.o;rw[Pb.o,O.o,if_neg (by simp),if_pos C] at this;exact this
              clear O C;go_wp2_with fail
              refine(sG.o _).mono ?_;rintro e w2 ⟨rfl,j⟩;have P:=H9 (then_ L.o.below j);obtain⟨d0,d1⟩:=HC.o _ j;clear j ci;go_wp2;go_quiet (fail)
              go_wp2;(try simp only[Exit.inBlock,Exit.then]);go_ret2;exact⟨by rw[q.o];rfl,then_ P.o (iT ⟨_,rfl⟩)⟩
        . obtain rfl:i=b.length:=by omega
          have hz:=HZ.o;rw[aJ (by unfold Rq.lists;rw[aD];exact aL _),Rq.sizes] at hz;have hl4:=HL3.o;rw[hz] at hl4;simp only at hl4;have HL4:=H9 hl4;clear hz hl4 HL3 HZ;by_cases h4:4000<n
          . have t4:decide (n > 4000)=true:=aH h4;have q:Hid (Rq.lenOf mi (Rq.lists f) (Rq.lists b) (Rq.lists k)=.inl 4):=by have:=HL4.o;rw[if_pos h4] at this;exact this
            clear HL4 h4;go_wp2;(try simp only[Exit.inBlock,Exit.then]);go_ret2;exact⟨by rw[q.o];rfl,L.o.below⟩
          . have t4:decide (n > 4000)=F:=aI h4;have q:Hid (Rq.lenOf mi (Rq.lists f) (Rq.lists b) (Rq.lists k)=.inr n):=by have:=HL4.o;rw[if_neg h4] at this;exact this
            clear HL4 h4;go_wp2;(try simp only[Exit.inBlock,Exit.then]);go_ret2;exact⟨by rw[q.o];rfl,L.o.below⟩
     . have hcp:0<k.length:=fD.2 B;have tc:decide ((k.length:Int) > 0)=true:=aH (by omega);have d:=HL2.o;rw[if_pos B] at d;clear HL2 B;by_cases hv0:b=[]
       . subst hv0;by_cases S:mi=0
         . have tm:((mi:Int)==0)=true:=by rw[S];rfl
           rw[if_pos (Or.inr S)] at d;have q:=H9 d;clear d S;go_wp2;go_ret2;exact⟨by rw[q.o];rfl,T.o.below⟩
         . have tm:((mi:Int)==0)=F:=by rw[aR];omega
           rw[if_neg (by rintro (e | e);exact e rfl;exact S e)] at d;clear S;by_cases s:k.length=1
           . obtain⟨c,rfl⟩:∃c,k=[c]:=by
              match k,s with
              | [c],_=>exact⟨c,rfl⟩
             obtain⟨bb,oo,rfl,G⟩:=T.o.two.lit (by simp[oH]);have ci:wc.cell? ⟨bb,oo,U⟩=M (V c):=G 0 _ rfl;have hcp2:=T.o.two.1;have EW:=H9 (xJ c wc (HZc.o c (bB.2 rfl)));have hlo:(⟨(Ch.lower c.data.toList).toArray⟩:av).toList=Ch.lower c.data.toList:=by rw[Lib.toList_data]
             generalize hsm:(⟨(Ch.lower c.data.toList).toArray⟩:av)=sm at *;clear G hsm;by_cases D:Ch.lower c.data.toList=Rq.pI
             . have tch:(sm.toList==[99,104,117,110,107,101,100])=true:=by rw[hlo,D];rfl
               rw[if_neg (by rintro (e | e);exact e rfl;exact e D)] at d;have q:=H9 d;clear d hlo D;go_wp2_with fail
               refine EW.o.mono ?_;rintro e w2 ⟨rfl,n2,hw⟩;subst hw;go_wp2;go_ret2;exact⟨by rw[q.o];rfl,then_ T.o.below (iT ⟨_,rfl⟩)⟩
             . have tch:(sm.toList==[99,104,117,110,107,101,100])=F:=by rw[aR,hlo];exact D
               rw[if_pos (Or.inr (show Ch.lower ((Rq.lists [c]).headD [])≠Rq.pI from D))] at d;have q:=H9 d;clear d hlo D;go_wp2_with fail
               refine EW.o.mono ?_;rintro e w2 ⟨rfl,n2,hw⟩;subst hw;go_wp2;go_ret2;exact⟨by rw[q.o];rfl,then_ T.o.below (iT ⟨_,rfl⟩)⟩
           . have t1:((k.length:Int) != 1)=true:=by rw[cO];omega
             rw[if_pos (Or.inl s)] at d;have q:=H9 d;clear d s;go_wp2;go_ret2;exact⟨by rw[q.o];rfl,T.o.below⟩
       . have hvp:0<b.length:=fD.2 hv0;have tv:decide ((b.length:Int) > 0)=true:=aH (by omega);rw[if_pos (Or.inl hv0)] at d;have q:=H9 d;clear d hv0;go_wp2;go_ret2;exact⟨by rw[q.o];rfl,T.o.below⟩
end Go.Proofs.YtjmndjmhjleabaaGreatDoor