import Derived.Test.YtodmelffkfbalaaGreatDoorPk41
import Derived.Test.YtodmelffkfbalaaGreatDoorPk37
open Go.Value renaming int->I,string->V,slice->Z,pointer->Q
open Go.IntKind renaming i64->J
open Go.Ending renaming returned->Y
open Option renaming none->U,some->M
open Or renaming inl->A,inr->R
open Go renaming World->X
set_option maxHeartbeats 4000000
set_option maxRecDepth 100000
open Go.Proofs.Tryz
namespace Go.Proofs.YtodmelffkfbalaaGreatDoor
open Go.RowKit
structure Ta (w:X)(S:Nat->Prop)(g gl:Nat)(s:bL)(c:UInt8):Prop where
 a:w.cell? ⟨g,0,U⟩=M (Q (M ⟨gl,0,U⟩))
 b:Calls prog 165 #[Q (M ⟨gl,0,U⟩),I .u8 c.toNat] w fun e w'=>e=Y (kH s.b c)∧dN w' (ay (fun k=>S k∧k<w.heap.size) w) g { s with b:=bj s.b c }∧ak (fun k=>(S k∧k<w.heap.size)∧k≠g) w w'
theorem zt (w:X)(S:Nat->Prop)(g:Nat)(s:bL)(c:UInt8)(h:dN w S g s)(m:fJ s)(y:s.a=0∨s.a=1):∃a,Ta w S g a s c:=by
 obtain⟨n,z,p,bd,code,f,q⟩:=h;have o:=f.r;cases q with
 | dead c C G=>omega
 | at2 a r N L T B=>omega
 | at3 a r D W L B=>omega
 | Kj a t L =>
   refine⟨a,f.E,(xX w (fun k=>(S k∧k<w.heap.size)∧k≠g) a s.b c (L.a (fun k b e=>⟨⟨e.1,b⟩,e.2⟩)) m.a.c).mono ?_⟩;rintro e u ⟨j,l,d⟩;refine⟨j,⟨A ⟨n,o⟩,_,_,_,_,f.e d (fun e=>e.2 rfl),.Kj a t (l.a (fun k _ e=>?_))⟩,d⟩;rcases e with e | e
   . exact⟨A e.1,e.2⟩
   . exact⟨R e,by omega⟩
 | Nz a v D x L H =>
   refine⟨a,f.E,(xX w (fun k=>((S k∧k<w.heap.size)∧k≠g)∧¬D k) a s.b c (L.a (fun k b e=>⟨⟨⟨e.1.1,b⟩,e.1.2⟩,e.2⟩)) m.a.c).mono ?_⟩;rintro e u ⟨j,l,d⟩;refine⟨j,⟨A ⟨n,o⟩,_,_,_,_,f.e d (fun e=>e.1.2 rfl),.Nz a v (fun k=>D k∧k<w.heap.size) x (l.a (fun k _ e=>?_)) (((H.a (S':=fun k=>(ay (fun k=>S k∧k<w.heap.size) w k∧k≠g)∧D k∧k<w.heap.size) (fun k b e=>⟨⟨A ⟨e.1.1,b⟩,e.1.2⟩,e.2,b⟩)).f d (fun k e i=>i.2 e.2.1)))⟩,d.f (fun k e=>e.1)⟩;rcases e with e | e
   . exact⟨⟨A e.1.1,e.1.2⟩,fun i=>e.2 i.1⟩
   . exact⟨⟨R e,by omega⟩,fun i=>by have:=i.2;omega⟩
theorem KS (w:X)(S So:Nat->Prop)(g:Nat)(s:bL)(c:UInt8)(ao:ag)(cap n:Nat)(es:List aU)(h:dN w S g s)(hG:fJ s)(hp:s.a=0∨s.a=1)(u:(bj s.b c).a≠0)(hO:iE w So ao cap es)(hd:∀k,S k->¬So k)(q:es.length=n)(v:n<=90000)(r:eC es)(t:ey es)(x:bP es<=90000):
 Calls prog 106 #[Q (M ⟨g,0,U⟩),Z ao n cap,I .u8 c.toNat] w fun e w'=>ou w S So g s c es e w':=by
 obtain⟨gl,f⟩:=zt w S g s c h hG hp;have c0:=f.a;have y:=aa f.b;have z:=EX u;have B:Hid (cH s c=(kQ s,[.fail (bj s.b c).a])):=by
  unfold Hid cH;rw[if_neg (by omega),if_neg (by omega),if_neg (by omega),if_pos u]
 unfold kH at y;rw[z] at y;have L:Hid (S g∧g<w.heap.size∧∀k,S k->¬So k):=⟨h.1,h.f,hd⟩;have Wn:=hO.e (S':=fun k=>So k∧k<w.heap.size) (fun k hk e=>⟨e,hk⟩);have HE:=And.intro q (And.intro v (And.intro r (And.intro t x)));have tc:(((bj s.b c).a:Int) != 0)=true:=by rw[dh];omega
 generalize (⟨(cT s.b c).toArray⟩:ae)=tx at *;generalize (bj s.b c)=C at *;generalize C.a=N at *;go_enter func106,ntmps106;go_wp2_with fail;refine y.o.mono ?_;rintro e w1 ⟨rfl,uW,D⟩;have G:=uW;have a:=aa D
 go_wp2_with fail;obtain⟨q,v,r,t,x⟩:=HE;obtain⟨b,T,hd⟩:=L.o;obtain⟨_,lp1,hp1,bd1,acF,i,_⟩:=G;refine(zr w1 g _ _ _ _ _ (fun k=>So k∧k<w.heap.size) ao cap n N es i (Wn.a a.o (fun k e d=>hd k d.1.1 e.1)) (fun e=>hd g b e.1) q (by omega) r t (by omega)).mono ?_;rintro e w2 ⟨jR,j,n2,rfl,l,m,p,W⟩;have Ry:=aa l;have xG:=aa m;have uz:=aa p;have H:=aa W
 clear q v r t x hd b T l m p W i;go_wp2;go_ret;obtain⟨b,T,hd⟩:=L.o;have hs1:=a.o.b;refine .mk jR j n2 (fun k=>k=g) _ rfl (by rw[B.o];exact Ry.o) ?_ (by rw[B.o];exact xG.o) ?_ (fun k e=>by rw[e];exact A b) ?_ ?_
 . rw[B.o];exact⟨rfl,_,_,_,_,uz.o,.dead N u rfl⟩
 . intro k e d;subst e;rcases d with d | d
   . exact hd k b d.1
   . omega
 . intro k e;rcases e with e | e
   . exact R (A e.1)
   . exact R (R (by omega))
 . refine(a.o.f (fun k e=>A e.1.1)).a (H.o.f (fun k e=>?_)) (fun _ e _=>e);rcases e with e | e
   . exact R e.1
   . rw[e];exact A b
theorem KT (w:X)(S So:Nat->Prop)(g:Nat)(s:bL)(c:UInt8)(ao:ag)(cap n:Nat)(es:List aU)(h:dN w S g s)(x:fJ s)(y:s.a=0∨s.a=1)(r:(bj s.b c).a=0)(t:fI s.b c=false)(z:iE w So ao cap es)(hd:∀k,S k->¬So k)(f:es.length=n)(i:eC es):
 Calls prog 106 #[Q (M ⟨g,0,U⟩),Z ao n cap,I .u8 c.toNat] w fun e w'=>ou w S So g s c es e w':=by
 obtain⟨gl,b⟩:=zt w S g s c h x y;have c0:=b.a;have j:=aa b.b;have u:Hid (cH s c=({ s with b:=bj s.b c },[])):=by
  unfold Hid cH;rw[if_neg (by omega),if_neg (by omega),if_neg (by omega),if_neg (fun e=>e r),if_neg (by rw[t];simp)]
 unfold kH at j;rw[t,r] at j;have B:S g∧g<w.heap.size∧∀k,S k->¬So k:=⟨h.1,h.f,hd⟩;have C:=z.e (S':=fun k=>So k∧k<w.heap.size) (fun k D e=>⟨e,D⟩);have G:=And.intro f i;generalize (⟨(cT s.b c).toArray⟩:ae)=tx at *;go_enter func106,ntmps106;go_wp2_with fail;refine j.o.mono ?_;rintro e H ⟨rfl,v,l⟩;have m:=v;have a:=aa l
 have c2:H.cell? ⟨g,2,U⟩=M (.bool false):=by obtain⟨_,L,N,T,W,p,_⟩:=v;exact p.y
 go_wp2;go_ret;obtain⟨f,i⟩:=G;obtain⟨hg,Ap,hd⟩:=B;have hs1:=a.o.b;have d:aE (es++(cH s c).2)=es:=by rw[u.o,fx];exact nW es i
 refine .mk ao cap n _ (fun k=>So k∧k<w.heap.size) rfl (by rw[d];exact f.symm) (by rw[u.o];exact m) (by rw[d];exact C.a a.o (fun k e q=>hd k q.1.1 e.1)) ?_ ?_ (fun k e=>R (A e.1)) (a.o.f (fun k e=>A e.1.1))
 . intro k e q;rcases e with e | e
   . exact hd k e.1 q.1
   . omega
 . intro k e;rcases e with e | e
   . exact A e.1
   . exact R e
structure R4 (w:X)(S So:Nat->Prop)(g:Nat)(ao:ag)(cap n:Nat)(es:List aU):Prop where
 b:S g
 c:g<w.heap.size
 a:∀k,S k->¬So k
 e:iE w (fun k=>So k∧k<w.heap.size) ao cap es
 d:es.length=n
 i:n<=90000
 h:eC es
 f:ey es
 j:bP es<=90000
theorem Rv {a b:X}{T:Nat->Prop}{c d e f:Value}{k:Int}(g:ak T (a.alloc (.cells #[c,d,e,f,I J k] 82)) b)(i:¬T a.heap.size):b.cell? ⟨a.heap.size,4,U⟩=M (I J k):=by
 have j:=g.q (be a (.cells #[c,d,e,f,I J k] 82)) i;exact aq b a.heap.size 4 _ _ _ j
theorem LL (w:X)(S So:Nat->Prop)(g:Nat)(s:bL)(c:UInt8)(ao:ag)(cap n:Nat)(es:List aU)(h:dN w S g s)(hG:fJ s)(hp:s.a=0∨s.a=1)(he:fI s.b c=true)(hO:iE w So ao cap es)(hd:∀k,S k->¬So k)(hn:es.length=n)(hl:n<=90000)(hj:eC es)(hf:ey es)(hz:bP es<=90000):
 Calls prog 106 #[Q (M ⟨g,0,U⟩),Z ao n cap,I .u8 c.toNat] w fun e w'=>ou w S So g s c es e w':=by
 obtain⟨gl,hLF⟩:=zt w S g s c h hG hp;have c0:=hLF.a;have HF:=hLF.b;obtain⟨e1,b⟩:=EY he;have hc:(bj s.b c).a=0:=by rw[e1];rfl
 have l:cH s c=ip { s with b:=dv } (cT s.b c):=by
  unfold cH;rw[if_neg (by omega),if_neg (by omega),if_neg (by omega),if_neg (fun e=>e hc),if_pos he]
 unfold kH at HF;rw[he,hc,e1] at HF;have hsh:=xw (c:=c) hG.a;have v:R4 w S So g ao cap n es:=⟨h.1,h.f,hd,hO.e (fun k j e=>⟨e,j⟩),hn,hl,hj,hf,hz⟩;have hHG:s.a=1->jo s.c:=fun e=>(hG.f e).1;have sZ:∀L,dN L (ay (fun k=>S k∧k<w.heap.size) w) g { s with b:=dv }->Calls prog 166 #[Q (M ⟨g,0,U⟩),V ⟨(cT s.b c).toArray⟩] L fun e w'=>AU L (ay (fun k=>S k∧k<w.heap.size) w) g { s with b:=dv } (cT s.b c) e w':=fun L hR=>by
  have hsz:(⟨(cT s.b c).toArray⟩:ae).size<=200:=by show(cT s.b c).toArray.size<=200;rw[cx];exact hsh.1
  rcases hp with hp | hp
  . exact R1 L _ g _ ⟨(cT s.b c).toArray⟩ hR hp hsz hsh.2
  . exact R2 L _ g _ ⟨(cT s.b c).toArray⟩ hR hp (hHG hp) hsz
 generalize (⟨(cT s.b c).toArray⟩:ae)=tx at *;generalize cT s.b c=tt at *;go_enter func106,ntmps106;go_wp2_with fail;refine HF.mono ?_;rintro e L ⟨rfl,uW,hT1⟩;have HR1:=uW;have i:=aa hT1
 go_wp2_with fail;refine(sZ L HR1).mono ?_;rintro e C (⟨s',rfl,N,hR2,jG⟩ | ⟨cc,hcc,rfl,N,lp2,hp2,bd2,r,jG⟩ | ⟨k,gl2,gh,D,rfl,j,htt,hph,r,hL2,hH2,jG⟩)
 . have HL:=N;have HR2:=aa hR2;have f:=aa jG
   have c2:C.cell? ⟨g,2,U⟩=M (.bool false):=by obtain⟨_,lp1,hp1,bd1,acF,hP1,_⟩:=hR2;exact hP1.y
   go_wp2;go_ret;have d:=v;have x:=i.o.b;have T:=f.o.b;have y:(cH s c).1=s'∧(cH s c).2=[]:=by rw[l,HL];exact⟨rfl,rfl⟩
   have hej:aE (es++(cH s c).2)=es:=by rw[y.2,fx];exact nW es d.h
   have W:=(d.e.a i.o (fun k e b=>d.a k b.1.1 e.1)).a f.o (fun k e b=>by
    rcases b with b | b
    . exact d.a k b.1 e.1
    . have:=e.2;omega)
   refine .mk ao cap n _ (fun k=>So k∧k<w.heap.size) rfl (by rw[hej];exact d.d.symm) (by rw[y.1];exact HR2.o) (by rw[hej];exact W) ?_ ?_ (fun k e=>R (A e.1)) ?_
   . intro k e b;rcases e with (e | e) | e
     . exact d.a k e.1 b.1
     . omega
     . omega
   . intro k e;rcases e with (e | e) | e
     . exact A e.1
     . exact R e
     . exact R (by omega)
   . refine(i.o.f (fun k e=>A e.1.1)).a (f.o.f (S':=fun k=>(S k∨So k)∨w.heap.size<=k) (fun k e=>?_)) (fun k e j=>?_)
     . rcases e with e | e
       . exact A (A e.1)
       . exact R e
     . rcases e with e | e
       . exact e
       . omega
 . have HL:=N;have uz:=aa r;have f:=aa jG;have Pg:=aa hcc
   have tc:((cc:Int) != 0)=true:=by rw[dh];omega
   clear N r jG hcc;go_wp2_with fail;have d:=v;have x:=i.o.b;have W:=(d.e.a i.o (fun k e b=>d.a k b.1.1 e.1)).a f.o (fun k e b=>by
    rcases b with b | b
    . exact d.a k b.1 e.1
    . have:=e.2;omega)
   refine(zr C g _ _ _ _ _ (fun k=>So k∧k<w.heap.size) ao cap n cc es uz.o W (fun e=>d.a g d.b e.1) d.d (by have:=d.i;omega) d.h d.f (by have:=d.j;omega)).mono ?_;rintro e p ⟨lN,iw,n3,rfl,hn3,hO3,G,qj⟩;have HN3:=aa hn3;have sW:=aa hO3;have HP3:=aa G;have z:=aa qj
   clear d W hn3 hO3 G qj x;go_wp2;go_ret;have d:=v;have x:=i.o.b;have T:=f.o.b;have y:(cH s c).1.a=4∧(cH s c).2=[.fail cc]:=by rw[l,HL];exact⟨rfl,rfl⟩
   refine .mk lN iw n3 (fun k=>k=g) _ rfl (by rw[y.2];exact HN3.o) ⟨rfl,_,_,_,_,HP3.o,.dead cc Pg.o y.1⟩ (by rw[y.2];exact sW.o) ?_ (fun k e=>by rw[e];exact A d.b) ?_ ?_
   . intro k e b;subst e;have:=d.c;rcases b with b | b
     . exact d.a k d.b b.1
     . omega
   . intro k e;rcases e with e | e
     . exact R (A e.1)
     . exact R (R (by omega))
   . refine(i.o.f (fun k e=>A e.1.1)).a ((f.o.f (S':=fun k=>(S k∨So k)∨w.heap.size<=k) (fun k e=>?_)).a (z.o.f (fun k e=>?_)) (fun _ e _=>e)) (fun k e j=>?_)
     . rcases e with e | e
       . exact A (A e.1)
       . exact R e
     . rcases e with e | e
       . exact A (R e.1)
       . rw[e];exact A (A d.b)
     . rcases e with e | e
       . exact e
       . omega
 . have uz:=r;have HL2:=aa hL2;have f:=aa jG;have HK:=aa j;have HTt:=aa htt;have HPh:=aa hph
   have c2:=r.y;have NH:=RT C g gh _ _ _ _ r hH2 (fun e=>e.1.2 rfl);have hkr:=F7 j;clear r hL2 jG j htt hph hH2;go_wp2_with fail;refine NH.mono ?_;rintro e p ⟨fo,fZ,rfl,G,hV3,qj⟩;have HP3:=G;have HV3:=aa hV3;have z:=aa qj
   clear G hV3 qj;go_wp2_with fail;have d:=v;have x:=i.o.b;have T:=f.o.b;have hs3:=z.o.b;have hlt:=d.c;have B:Below p.heap.size p (p.alloc (.cells #[V ⟨s.c.e.toArray⟩,V ⟨s.c.b.toArray⟩,I J (s.c.d:Int),Z fo s.c.a.length fZ,I J k] 82)):=(ar _ _).alloc (am _) _;have hzA:(p.alloc (.cells #[V ⟨s.c.e.toArray⟩,V ⟨s.c.b.toArray⟩,I J (s.c.d:Int),Z fo s.c.a.length fZ,I J k] 82)).heap.size=p.heap.size+1:=by simp
   have hE3:=((((d.e.a i.o (fun k e b=>d.a k b.1.1 e.1)).a f.o (fun k e b=>by
    rcases b with b | b
    . exact d.a k b.1 e.1
    . have:=e.2;omega)).a z.o (fun k e b=>d.a g d.b (b▸e.1))).j B)
   have YK:=(HV3.o.f (S':=fun k=>((ay (fun k=>S k∧k<w.heap.size) w k∧k≠g)∧D k)∧k<p.heap.size) (fun k j e=>⟨e,j⟩)).e (ak.e (S:=fun _=>False) B) (fun _ _ e=>e);refine(RR _ (fun k=>So k∧k<w.heap.size) (fun k=>((ay (fun k=>S k∧k<w.heap.size) w k∧k≠g)∧D k)∧k<p.heap.size) ao fo cap n fZ s.c.a.length { s.c with c:=k } es hE3 YK rfl (fun k e b=>?_) d.d (by have:=d.i;omega) d.h d.f (by have:=d.j;omega)).mono ?_
   . rcases b.1.1.1 with q | q
     . exact d.a k q.1 e.1
     . have:=e.2;omega
   rintro e u ⟨sG,H,n4,rfl,Qo,hO4,zi⟩;have hs4:=zi.b;have c4:=Rv zi (fun e=>by have:=e.2;omega);have hadd:=Hh d.d Qo (fun a e=>by cases e) d.f;have hP4:=(HP3.a B).e zi (fun e=>d.a g d.b e.1);have hL4:=(((HL2.o.a (S':=fun k=>((ay (fun k=>S k∧k<w.heap.size) w k∧k≠g)∧¬D k)∧k<C.heap.size) (fun k j e=>⟨e,j⟩)).e z.o (fun k e=>e.1.1.2)).e (ak.e (S:=fun _=>False) B) (fun _ _ e=>e)).e zi (fun k e b=>by
    rcases e.1.1.1 with q | q
    . exact d.a k q.1 b.1
    . have:=b.2;omega)
   have agq:=hO4.e (S':=fun k=>((So k∧k<w.heap.size)∨(((ay (fun k=>S k∧k<w.heap.size) w k∧k≠g)∧D k)∧k<p.heap.size)∨p.heap.size+1<=k)∧k<u.heap.size) (fun k j e=>⟨by rw[hzA] at e;exact e,j⟩);have agr:ak (fun k=>(S k∨So k)∨w.heap.size<=k) w u:=by
    refine(i.o.f (fun k e=>A (A e.1.1))).a ((f.o.f (fun k e=>?_)).a ((z.o.f (fun k e=>by rw[e];exact A (A d.b))).a ((ak.e B).a (zi.f (fun k e=>A (R e.1))) (fun _ e _=>e)) (fun _ e _=>e)) (fun _ e _=>e)) (fun _ e _=>e);rcases e with e | e
    . exact A (A e.1)
    . exact R e
   have hNx:cH s c=if k=0 then ({ s with b:=dv,a:=0 },[.head { s.c with c:=k },.fin]) else if 0<k then ({ s with b:=dv,a:=2,e:=k.toNat },[.head { s.c with c:=k }]) else ({ s with b:=dv,a:=3,d:=rM },[.head { s.c with c:=k }]):=by
    have hk':mr s.c=.inr k:=HK.o;have hp1:s.a=1:=HPh.o;rw[l,HTt.o];unfold ip;rw[if_neg (by show ¬s.a=0;omega),if_pos rfl];simp only[hk']
   have ady:p.heap.size+1<=u.heap.size:=by rw[<-hzA];exact hs4
   have HP4:=hP4;have HL4:=aa hL4;have LA:=aa agq;have ad4:=aa agr;have HAd:=aa hadd;have HN4:=aa Qo;have AB:=aa hNx
   have CJ:w.heap.size<=L.heap.size∧L.heap.size<=C.heap.size∧C.heap.size<=p.heap.size∧p.heap.size+1<=u.heap.size:=⟨x,T,hs3,ady⟩;have p3:=hP4.q;have pf3:=hP4.f 3;clear d x T hs3 hs4 hlt B hzA hE3 YK Qo hO4 zi hadd hP4 hL4 agq agr hNx ady c0 c2;have ze:∀k,((((ay (fun k=>S k∧k<w.heap.size) w k∧k≠g)∧¬D k)∧k<C.heap.size)∨k=g)->¬(((So k∧k<w.heap.size)∨(((ay (fun k=>S k∧k<w.heap.size) w k∧k≠g)∧D k)∧k<p.heap.size)∨p.heap.size+1<=k)∧k<u.heap.size):=fun k e b=>by
    have d:=v;have hlt:=d.c;obtain⟨s1,s2,s3,s4⟩:=CJ;rcases e with e | e
    . rcases b.1 with b | b | b
      . rcases e.1.1.1 with q | q
        . exact d.a k q.1 b.1
        . have:=b.2;omega
      . exact e.1.2 b.1.2
      . have:=e.2;omega
    . subst e;rcases b.1 with b | b | b
      . exact d.a k d.b b.1
      . exact b.1.1.2 rfl
      . omega
   have ad5:∀k,((((ay (fun k=>S k∧k<w.heap.size) w k∧k≠g)∧¬D k)∧k<C.heap.size)∨k=g)->S k∨w.heap.size<=k:=fun k e=>by
    rcases e with e | e
    . rcases e.1.1.1 with q | q
      . exact A q.1
      . exact R q
    . rw[e];exact A v.b
   have abx:∀k,(((So k∧k<w.heap.size)∨(((ay (fun k=>S k∧k<w.heap.size) w k∧k≠g)∧D k)∧k<p.heap.size)∨p.heap.size+1<=k)∧k<u.heap.size)->S k∨So k∨w.heap.size<=k:=fun k e=>by
    obtain⟨s1,s2,s3,s4⟩:=CJ;rcases e.1 with e | e | e
    . exact R (A e.1)
    . rcases e.1.1.1 with q | q
      . exact A q.1
      . exact R (R q)
    . exact R (R (by omega))
   by_cases hk0:k=0
   . subst hk0;go_wp2_with fail;obtain⟨a1,a2,a3,a4⟩:=HAd.o;refine(Ag u _ sG H n4 _ LA.o HN4.o.symm (by have:=v.i;omega) a4 a3 (by have:=v.j;omega)).mono ?_;rintro e w5 ⟨Ad,cap5,n5,rfl,hn5,yg,wO⟩;have HN5:=aa hn5;have zT:=aa yg;have U1:=aa wO
     clear hn5 yg wO a1 a2 a3 a4;go_wp2;go_ret;have l:=AB.o;first | rw[if_pos rfl] at l | rw[if_pos trivial] at l | skip
     obtain⟨s1,s2,s3,s4⟩:=CJ;have hj2:aE (aE (es++[.head { s.c with c:=0 }])++[.fin])=aE (es++(cH s c).2):=by rw[l];exact Gc es [_] [.fin]
     refine .mk Ad cap5 n5 (fun k=>(((ay (fun k=>S k∧k<w.heap.size) w k∧k≠g)∧¬D k)∧k<C.heap.size)∨k=g) _ rfl (by rw[<-hj2];exact HN5.o) ?_ (by rw[<-hj2];exact zT.o) ?_ ad5 ?_ ?_
     . rw[l];refine⟨R rfl,_,_,_,_,HP4.e U1.o (fun e=>ze g (R rfl) e),.Kj gl2 rfl ((HL4.o.e U1.o (fun k e b=>ze k (A e) b)).a (fun k _ e=>⟨A e,e.1.1.2⟩))⟩
     . intro k e b;rcases b with b | b | b
       . exact ze k e b
       . exact b
       . rcases e with e | e
         . have:=e.2;omega
         . have:=v.c;omega
     . intro k e;rcases e with e | e | e
       . exact abx k e
       . exact e.elim
       . exact R (R (by omega))
     . have h:=ad4.o.a (U1.o.f (S':=fun k=>(S k∨So k)∨w.heap.size<=k) (fun k e=>by
        rcases abx k e with e | e | e
        . exact A (A e)
        . exact A (R e)
        . exact R e)) (fun _ e _=>e)
       exact⟨h.d,h.h,h.g,h.b,fun k j hn=>h.c k j (fun e=>by
        rcases e with e | e
        . exact hn e
        . omega)⟩
   . have tk:(k==0)=false:=aO.2 hk0;by_cases hk1:0<k
     . obtain⟨m,rfl⟩:∃m:Nat,k=(m:Int):=⟨k.toNat,by omega⟩;have HBo:=LJ u m (by omega);go_wp2_with fail;refine HBo.mono ?_;rintro e w5 ⟨rfl,CB,t⟩;have RU:=HP4.a t;have q3:=RU.q;have qf3:=RU.f 3;have HP5:=RU;have oG:=aa CB;have Qz:=aa t
       clear RU CB t;go_wp2;go_ret;have l:=AB.o;rw[if_neg hk0,if_pos hk1] at l;obtain⟨s1,s2,s3,s4⟩:=CJ;have hlt:=v.c;have Dq:=ak.j (fun k=>k=g) w5 ⟨g,3,U⟩ (.iface 287 (Q (M ⟨u.heap.size,0,U⟩))) rfl;refine .mk sG H n4 (fun k=>((((ay (fun k=>S k∧k<w.heap.size) w k∧k≠g)∧¬D k)∧k<C.heap.size)∨k=g)∨k=u.heap.size) _ rfl (by rw[l];exact HN4.o) ?_ (by rw[l];exact(LA.o.j Qz.o).a Dq (fun k e b=>ze k (R b) e)) ?_ ?_ abx ?_
       . rw[l];refine⟨A (R rfl),_,_,_,_,HP5.B _,.at2 gl2 u.heap.size rfl (((HL4.o.e (ak.e (S:=fun _=>False) Qz.o) (fun _ _ e=>e)).e Dq (fun k e=>e.1.1.2)).a (fun k _ e=>⟨⟨A (A e),e.1.1.2⟩,by have:=e.2;omega⟩)) ⟨R rfl,by omega⟩ ?_⟩;have:=Dq.q oG.o (by omega);rw[this];simp
       . intro k e b;rcases e with e | e
         . exact ze k e b
         . have:=b.2;omega
       . intro k e;rcases e with e | e
         . exact ad5 k e
         . exact R (by omega)
       . have h:=ad4.o.a ((ak.e (S:=fun k=>(S k∨So k)∨w.heap.size<=k) Qz.o).a (Dq.f (S':=fun k=>(S k∨So k)∨w.heap.size<=k) (fun k e=>by rw[e];exact A (A v.b))) (fun _ e _=>e)) (fun _ e _=>e);exact⟨h.d,h.h,h.g,h.b,fun k j hn=>h.c k j (fun e=>by
          rcases e with e | e
          . exact hn e
          . omega)⟩
     . obtain rfl:k=-1:=by omega
       have HBo:=LF u;go_wp2_with fail;refine HBo.mono ?_;rintro e w5 ⟨gb,rfl,CB,t⟩;have RU:=HP4.a t;have q3:=RU.q;have qf3:=RU.f 3;have HP5:=RU;have oG:=aa CB;have Qz:=aa t
       clear RU CB t;go_wp2;go_ret;have l:=AB.o;rw[if_neg (by omega),if_neg (by omega)] at l;obtain⟨s1,s2,s3,s4⟩:=CJ;have hlt:=v.c;have Dq:=ak.j (fun k=>k=g) w5 ⟨g,3,U⟩ (.iface 285 (Q (M ⟨gb,0,U⟩))) rfl;refine .mk sG H n4 (fun k=>((((ay (fun k=>S k∧k<w.heap.size) w k∧k≠g)∧¬D k)∧k<C.heap.size)∨k=g)∨u.heap.size<=k) _ rfl (by rw[l];exact HN4.o) ?_ (by rw[l];exact(LA.o.j Qz.o).a Dq (fun k e b=>ze k (R b) e)) ?_ ?_ abx ?_
       . rw[l];refine⟨A (R rfl),_,_,_,_,HP5.B _,.at3 gl2 gb (fun k=>u.heap.size<=k) rfl (((HL4.o.e (ak.e (S:=fun _=>False) Qz.o) (fun _ _ e=>e)).e Dq (fun k e=>e.1.1.2)).a (fun k _ e=>⟨⟨A (A e),e.1.1.2⟩,by have:=e.2;omega⟩)) ((oG.o.f Dq (fun k e b=>by omega)).a (fun k _ e=>⟨⟨R e,by omega⟩,e⟩))⟩
       . intro k e b;rcases e with e | e
         . exact ze k e b
         . have:=b.2;omega
       . intro k e;rcases e with e | e
         . exact ad5 k e
         . exact R (by omega)
       . have h:=ad4.o.a ((ak.e (S:=fun k=>(S k∨So k)∨w.heap.size<=k) Qz.o).a (Dq.f (S':=fun k=>(S k∨So k)∨w.heap.size<=k) (fun k e=>by rw[e];exact A (A v.b))) (fun _ e _=>e)) (fun _ e _=>e);exact⟨h.d,h.h,h.g,h.b,fun k j hn=>h.c k j (fun e=>by
          rcases e with e | e
          . exact hn e
          . omega)⟩
theorem LM (w:X)(S So:Nat->Prop)(g:Nat)(s:bL)(c:UInt8)(ao:ag)(cap n:Nat)(es:List aU)(h:dN w S g s)(a:fJ s)(b:s.a=0∨s.a=1)(d:iE w So ao cap es)(hd:∀k,S k->¬So k)(f:es.length=n)(j:n<=90000)(i:eC es)(l:ey es)(m:bP es<=90000):
 Calls prog 106 #[Q (M ⟨g,0,U⟩),Z ao n cap,I .u8 c.toNat] w fun e w'=>ou w S So g s c es e w':=by
 by_cases o:(bj s.b c).a=0
 . cases p:fI s.b c
   . exact KT w S So g s c ao cap n es h a b o p d hd f i
   . exact LL w S So g s c ao cap n es h a b p d hd f j i l m
 . exact KS w S So g s c ao cap n es h a b o d hd f j i l m
theorem Mk (w:X)(S So:Nat->Prop)(g:Nat)(s:bL)(c:UInt8)(ao:ag)(cap n:Nat)(es:List aU)(h:dN w S g s)(b:fJ s)(a:s.a=2∨s.a=3)(d:iE w So ao cap es)(hd:∀k,S k->¬So k)(f:es.length=n)(i:n<=90000)(j:eC es)(l:ey es)(m:bP es<=90000):
 Calls prog 107 #[Q (M ⟨g,0,U⟩),Z ao n cap,I .u8 c.toNat] w fun e w'=>ou w S So g s c es e w':=by
 rcases a with a | a
 . exact Jr w S So g s c ao cap n es h b a d hd f i j l m
 . by_cases o:s.d.b=1
   . exact LG w S So g s c ao cap n es h b a o d hd f i j l m
   . exact LH w S So g s c ao cap n es h b a o d hd f i j l m
structure wA (w:X)(S:Nat->Prop)(g:Nat)(s:bL)(l:ab)(k:Nat)(ao:ag)(cap n:Nat)(wr:X):Prop where
 b:n=(aE (cV s (l.take k))).length
 c:∃S' So',dN wr S' g (cL s (l.take k))∧iE wr So' ao cap (aE (cV s (l.take k)))∧(∀i,S' i->¬So' i)∧(∀i,S' i->S i∨w.heap.size<=i)∧(∀i,So' i->S i∨w.heap.size<=i)
 a:ak S w wr
inductive AR (w:X)(S:Nat->Prop)(g:Nat)(s:bL)(l:ab)(e:Ending)(w':X):Prop
 | mk (ao:ag) (cap n:Nat) (S' So':Nat->Prop) (he:e=Y (Z ao n cap)) (hn:n=(aE (cV s l)).length) (hR:dN w' S' g (cL s l)) (hO:iE w' So' ao cap (aE (cV s l))) (hd:∀i,S' i->¬So' i) (hS:∀i,S' i->S i∨w.heap.size<=i) (hSo:∀i,So' i->S i∨w.heap.size<=i) (hT:ak S w w')
theorem wA.e {w:X}{S:Nat->Prop}{g:Nat}{s:bL}{l:ab}{k:Nat}{ao:ag}{cap n:Nat}{wr:X}(h:wA w S g s l k ao cap n wr)(b:cV s l=cV s (l.take k))(c:cL s l=cL s (l.take k)):AR w S g s l (Y (Z ao n cap)) wr:=by
 obtain⟨d,a,e,f,i,j,m⟩:=h.c;exact .mk ao cap n d a rfl (by rw[b];exact h.b) (by rw[c];exact e) (by rw[b];exact f) i j m h.a
theorem wA.f {w:X}{S:Nat->Prop}{g:Nat}{s:bL}{l:ab}{k:Nat}{S' b:Nat->Prop}{wr w':X}{o:ag}{a p:Nat}(u:k<l.length)(d:∀i,S' i->S i∨w.heap.size<=i)(c:∀i,b i->S i∨w.heap.size<=i)(q:ak S w wr)
 (h:ou wr S' b g (cL s (l.take k)) l[k] (aE (cV s (l.take k))) (Y (Z o p a)) w'):wA w S g s l (k+1) o a p w':=by
 obtain⟨T,W,n3,v,f,j,x,y,z,B,C,m,D⟩:=h;injection j with j;injection j with G H L;subst G;subst H;subst L;have r:=fR u;have t:aE (cV s (l.take (k+1)))=aE (aE (cV s (l.take k))++(cH (cL s (l.take k)) l[k]).2):=by
  rw[r,OG,si]
 have n:cL s (l.take (k+1))=(cH (cL s (l.take k)) l[k]).1:=by rw[r,OE]
 have N:=q.b;refine⟨by rw[t];exact x,⟨v,f,by rw[n];exact y,by rw[t];exact z,B,fun i e=>?_,fun i e=>?_⟩,q.a D (fun i e hi=>?_)⟩
 . rcases C i e with e | e
   . exact d i e
   . exact R (by omega)
 . rcases m i e with e | e | e
   . exact d i e
   . exact c i e
   . exact R (by omega)
 . rcases e with e | e
   . rcases d i e with e | e
     . exact e
     . omega
   . rcases c i e with e | e
     . exact e
     . omega
theorem MA (w:X)(S:Nat->Prop)(g:Nat)(s:bL)(l:ab)(bo:ag)(fV n:Nat)(h:dN w S g s)(hG:fJ s)(hB:az w bo fV l)(tT:l≠[]->∀a,bo=M a->¬S a.block)(hn:l.length=n)(hl:n<=40000):
 Calls prog 57 #[Q (M ⟨g,0,U⟩),Z bo n fV] w fun e w'=>AR w S g s l e w':=by
 subst hn;have HB:=hB;have HR:=aa h;have HG:=aa hG;have HBo:=aa tT
 go_enter func57,ntmps57;go_wp2;go_loopw [5,10] (fun vo vi wr=>∃(k:Nat) (W:ag) (i n:Nat),k<=l.length∧vi=I J k∧vo=Z W n i∧wA w S g s l k W i n wr) (fun _ vi _=>l.length-(intOf vi).toNat)
 case atStart =>
  refine⟨0,U,0,0,ax _,rfl,rfl,⟨rfl,⟨S,fun _=>False,HR.o,.bare,fun _ _ e=>e,fun _ e=>A e,fun _ e=>e.elim⟩,ak.r _ _⟩⟩
 case round =>
  obtain⟨k,W,i,n,hk,rfl,rfl,N⟩:=hrel;by_cases q:k<l.length
  . obtain⟨bb,oo,rfl,_⟩:=HB.q (by omega);have hne:l≠[]:=by intro e;subst e;simp at q
    have hbc:=(HB.r N.a (fun a e=>HBo.o hne a e)).q (by omega);obtain⟨b2,o2,t,u⟩:=hbc;injection t with t;injection t with hb2 ho2;subst hb2;subst ho2;have ck:=u k q;have hlt':(k:Int)<l.length:=by omega
    have hcap:=HB.1;obtain⟨S',v,d,Gd,m,x,Qc⟩:=N.c;have j:fJ (cL s (l.take k)):=HG.o.j _;have T:=Gh s (l.take k);have htk:(l.take k).length<=40000:=by rw[bV];omega
    have p:=N.b.symm;have HD:=E1 wr S' g (cL s (l.take k)) d;have ML:∀(y:ag) (b z:Nat) (w':X),ou wr S' v g (cL s (l.take k)) l[k] (aE (cV s (l.take k))) (Y (Z y z b)) w'->wA w S g s l (k+1) y b z w':=fun y b z w' hfs=>wA.f q x Qc N.a hfs;by_cases h4:(cL s (l.take k)).a=4
    . rw[bq h4] at HD;have hdr:=A6 (l.drop k) (cL s (l.take k)) h4;have HDn:cV s l=cV s (l.take k)∧cL s l=cL s (l.take k):=by
       constructor
       . conv=>lhs;rw[<-iZ k l,Gl,hdr.1,fx]
       . conv=>lhs;rw[<-iZ k l,A3,hdr.2]
      generalize l[k]=c at *;go_wp2_with (go_at_call 56;refine HD.mono ?_;rintro e w1 ⟨rfl,hw⟩;subst hw)
      go_ret;exact N.e HDn.1 HDn.2
    . rw[aX h4] at HD;have hph:(cL s (l.take k)).a=0∨(cL s (l.take k)).a=1∨(cL s (l.take k)).a=2∨(cL s (l.take k)).a=3:=by have:=j.d;omega
      by_cases C:(cL s (l.take k)).a=0∨(cL s (l.take k)).a=1
      . have HC:=aa (LM wr S' v g _ l[k] W i n _ d j C Gd m p (by omega) T.2.2.2 T.2.2.1 (by omega));have c3:wr.cell? ⟨g,3,U⟩=M .nilIface:=by
         obtain⟨_,lp,hp,bd,code,hP,hI⟩:=d;cases hI with
         | dead c hc h=>omega
         | Kj G h L=>exact hP.q
         | Nz G gh D h L H=>exact hP.q
         | at2 G gb h L hb B=>omega
         | at3 G gb D h L B=>omega
        generalize l[k]=c at *;generalize cL s (l.take k)=sk at *;clear d Gd m j T htk p u h4 C hph x Qc;go_wp2_with (first
         | (go_at_call 56;refine HD.mono ?_;rintro e w1 ⟨rfl,hw⟩;subst hw)
         | (go_at_call 106;refine HC.o.mono ?_;rintro e w2 f;obtain⟨y,b,z,S2,So2,he,r⟩:=id f;subst he;have mG:=aa f;clear f r))
        go_roundw
        case rel=>exact⟨k+1,y,b,z,by omega,by go_num,rfl,ML _ _ _ _ mG.o⟩
        case measure=>simp[intOf];omega
      . have agt:(cL s (l.take k)).a=2∨(cL s (l.take k)).a=3:=by omega
        have HC:=Mk wr S' v g _ l[k] W i n _ d j agt Gd m p (by omega) T.2.2.2 T.2.2.1 (by omega);obtain⟨tt,vv,c3⟩:∃tt vv,wr.cell? ⟨g,3,U⟩=M (.iface tt vv):=by
         obtain⟨_,lp,hp,bd,code,hP,hI⟩:=d;cases hI with
         | dead c hc h=>omega
         | Kj G h L=>omega
         | Nz G gh D h L H=>omega
         | at2 G gb h L hb B=>exact⟨_,_,hP.q⟩
         | at3 G gb D h L B=>exact⟨_,_,hP.q⟩
        generalize l[k]=c at *;generalize cL s (l.take k)=sk at *;clear d Gd m j T htk p u h4 C agt hph x Qc;go_wp2_with (first
         | (go_at_call 56;refine HD.mono ?_;rintro e w1 ⟨rfl,hw⟩;subst hw)
         | (go_at_call 107;refine HC.mono ?_;rintro e w2 f;obtain⟨y,b,z,S2,So2,he,r⟩:=id f;subst he;have mG:=aa f;clear f r))
        go_roundw
        case rel=>exact⟨k+1,y,b,z,by omega,by go_num,rfl,ML _ _ _ _ mG.o⟩
        case measure=>simp[intOf];omega
  . obtain rfl:k=l.length:=by omega
    go_wp2;go_ret;exact N.e (by rw[fL]) (by rw[fL])
