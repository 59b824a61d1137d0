import Derived.Test.YtodmelffkfbalaaGreatDoorPk42
import Derived.Test.YtodmelffkfbalaaGreatDoorPk36
open Go.Value renaming int->I,string->V,slice->Z,pointer->Q
open Go.IntKind renaming i64->J
open Go.Ending renaming returned->Y
open Option renaming none->U,some->M
open Or renaming inl->A,inr->R
open Go renaming World->X
set_option maxHeartbeats 4000000
set_option maxRecDepth 100000
open Go.Proofs.Tryz
namespace Go.Proofs.YtodmelffkfbalaaGreatDoor
open Go.RowKit
structure S5 (w:X)(S:Nat->Prop)(g gl:Nat)(s:bN)(c:UInt8):Prop where
 a:w.cell? ⟨g,0,U⟩=M (Q (M ⟨gl,0,U⟩))
 b:Calls prog 165 #[Q (M ⟨gl,0,U⟩),I .u8 c.toNat] w fun e w'=>e=Y (kG s.b c)∧dM w' (ay (fun k=>S k∧k<w.heap.size) w) g { s with b:=bi s.b c }∧am (fun k=>(S k∧k<w.heap.size)∧k≠g) w w'
theorem zv (w:X)(S:Nat->Prop)(g:Nat)(s:bN)(c:UInt8)(h:dM w S g s)(m:fI s)(y:s.a=0∨s.a=1):∃a,S5 w S g a s c:=by
 obtain⟨n,z,p,bd,code,f,q⟩:=h;have o:=f.B;cases q with
 | dead c C G=>omega
 | at2 a r N L T B=>omega
 | at3 a r D W L B=>omega
 | Kn a t L =>
   refine⟨a,f.jK,(ya w (fun k=>(S k∧k<w.heap.size)∧k≠g) a s.b c (L.a (fun k b e=>⟨⟨e.1,b⟩,e.2⟩)) m.a.c).mono ?_⟩;rintro e u ⟨j,l,d⟩;refine⟨j,⟨A ⟨n,o⟩,_,_,_,_,f.f d (fun e=>e.2 rfl),.Kn a t (l.a (fun k _ e=>?_))⟩,d⟩;rcases e with e | e
   . exact⟨A e.1,e.2⟩
   . exact⟨R e,by omega⟩
 | NJ a v D x L H =>
   refine⟨a,f.jK,(ya w (fun k=>((S k∧k<w.heap.size)∧k≠g)∧¬D k) a s.b c (L.a (fun k b e=>⟨⟨⟨e.1.1,b⟩,e.1.2⟩,e.2⟩)) m.a.c).mono ?_⟩;rintro e u ⟨j,l,d⟩;refine⟨j,⟨A ⟨n,o⟩,_,_,_,_,f.f d (fun e=>e.1.2 rfl),.NJ a v (fun k=>D k∧k<w.heap.size) x (l.a (fun k _ e=>?_)) (((H.a (S':=fun k=>(ay (fun k=>S k∧k<w.heap.size) w k∧k≠g)∧D k∧k<w.heap.size) (fun k b e=>⟨⟨A ⟨e.1.1,b⟩,e.1.2⟩,e.2,b⟩)).j d (fun k e i=>i.2 e.2.1)))⟩,d.j (fun k e=>e.1)⟩;rcases e with e | e
   . exact⟨⟨A e.1.1,e.1.2⟩,fun i=>e.2 i.1⟩
   . exact⟨⟨R e,by omega⟩,fun i=>by have:=i.2;omega⟩
theorem KD (w:X)(S So:Nat->Prop)(g:Nat)(s:bN)(c:UInt8)(ao:ag)(cap n:Nat)(es:List aU)(h:dM w S g s)(hG:fI s)(hp:s.a=0∨s.a=1)(u:(bi s.b c).a≠0)(hO:iD w So ao cap es)(hd:∀k,S k->¬So k)(q:es.length=n)(v:n<=90000)(r:ey es)(t:et es)(x:bQ es<=90000):
 Calls prog 106 #[Q (M ⟨g,0,U⟩),Z ao n cap,I .u8 c.toNat] w fun e w'=>oj w S So g s c es e w':=by
 obtain⟨gl,f⟩:=zv w S g s c h hG hp;have c0:=f.a;have y:=aa f.b;have z:=ES u;have B:Hid (cI s c=(kO s,[.fail (bi s.b c).a])):=by
  unfold Hid cI;rw[if_neg (by omega),if_neg (by omega),if_neg (by omega),if_pos u]
 unfold kG at y;rw[z] at y;have L:Hid (S g∧g<w.heap.size∧∀k,S k->¬So k):=⟨h.1,h.j,hd⟩;have V9:=hO.f (S':=fun k=>So k∧k<w.heap.size) (fun k hk e=>⟨e,hk⟩);have HE:=And.intro q (And.intro v (And.intro r (And.intro t x)));have tc:(((bi s.b c).a:Int) != 0)=true:=by rw[di];omega
 generalize (⟨(cV s.b c).toArray⟩:ae)=tx at *;generalize (bi s.b c)=C at *;generalize C.a=N at *;go_enter func106,ntmps106;go_wp2_with fail;refine y.o.mono ?_;rintro e w1 ⟨rfl,uV,D⟩;have G:=uV;have a:=aa D
 go_wp2_with fail;obtain⟨q,v,r,t,x⟩:=HE;obtain⟨b,T,hd⟩:=L.o;obtain⟨_,lp1,hp1,bd1,acs,i,_⟩:=G;refine(zu w1 g _ _ _ _ _ (fun k=>So k∧k<w.heap.size) ao cap n N es i (V9.a a.o (fun k e d=>hd k d.1.1 e.1)) (fun e=>hd g b e.1) q (by omega) r t (by omega)).mono ?_;rintro e w2 ⟨jZ,j,n2,rfl,l,m,p,W⟩;have JB:=aa l;have EP:=aa m;have uw:=aa p;have H:=aa W
 clear q v r t x hd b T l m p W i;go_wp2;go_ret;obtain⟨b,T,hd⟩:=L.o;have hs1:=a.o.b;refine .mk jZ j n2 (fun k=>k=g) _ rfl (by rw[B.o];exact JB.o) ?_ (by rw[B.o];exact EP.o) ?_ (fun k e=>by rw[e];exact A b) ?_ ?_
 . rw[B.o];exact⟨rfl,_,_,_,_,uw.o,.dead N u rfl⟩
 . intro k e d;subst e;rcases d with d | d
   . exact hd k b d.1
   . omega
 . intro k e;rcases e with e | e
   . exact R (A e.1)
   . exact R (R (by omega))
 . refine(a.o.j (fun k e=>A e.1.1)).a (H.o.j (fun k e=>?_)) (fun _ e _=>e);rcases e with e | e
   . exact R e.1
   . rw[e];exact A b
theorem KE (w:X)(S So:Nat->Prop)(g:Nat)(s:bN)(c:UInt8)(ao:ag)(cap n:Nat)(es:List aU)(h:dM w S g s)(x:fI s)(y:s.a=0∨s.a=1)(r:(bi s.b c).a=0)(t:fH s.b c=false)(z:iD w So ao cap es)(hd:∀k,S k->¬So k)(f:es.length=n)(i:ey es):
 Calls prog 106 #[Q (M ⟨g,0,U⟩),Z ao n cap,I .u8 c.toNat] w fun e w'=>oj w S So g s c es e w':=by
 obtain⟨gl,b⟩:=zv w S g s c h x y;have c0:=b.a;have j:=aa b.b;have u:Hid (cI s c=({ s with b:=bi s.b c },[])):=by
  unfold Hid cI;rw[if_neg (by omega),if_neg (by omega),if_neg (by omega),if_neg (fun e=>e r),if_neg (by rw[t];simp)]
 unfold kG at j;rw[t,r] at j;have B:S g∧g<w.heap.size∧∀k,S k->¬So k:=⟨h.1,h.j,hd⟩;have C:=z.f (S':=fun k=>So k∧k<w.heap.size) (fun k D e=>⟨e,D⟩);have G:=And.intro f i;generalize (⟨(cV s.b c).toArray⟩:ae)=tx at *;go_enter func106,ntmps106;go_wp2_with fail;refine j.o.mono ?_;rintro e H ⟨rfl,v,l⟩;have m:=v;have a:=aa l
 have c2:H.cell? ⟨g,2,U⟩=M (.bool false):=by obtain⟨_,L,N,T,W,p,_⟩:=v;exact p.G
 go_wp2;go_ret;obtain⟨f,i⟩:=G;obtain⟨hg,Af,hd⟩:=B;have hs1:=a.o.b;have d:aE (es++(cI s c).2)=es:=by rw[u.o,fK];exact nQ es i
 refine .mk ao cap n _ (fun k=>So k∧k<w.heap.size) rfl (by rw[d];exact f.symm) (by rw[u.o];exact m) (by rw[d];exact C.a a.o (fun k e q=>hd k q.1.1 e.1)) ?_ ?_ (fun k e=>R (A e.1)) (a.o.j (fun k e=>A e.1.1))
 . intro k e q;rcases e with e | e
   . exact hd k e.1 q.1
   . omega
 . intro k e;rcases e with e | e
   . exact A e.1
   . exact R e
structure Sc (w:X)(S So:Nat->Prop)(g:Nat)(ao:ag)(cap n:Nat)(es:List aU):Prop where
 b:S g
 c:g<w.heap.size
 a:∀k,S k->¬So k
 e:iD w (fun k=>So k∧k<w.heap.size) ao cap es
 d:es.length=n
 i:n<=90000
 h:ey es
 f:et es
 j:bQ es<=90000
theorem Rm {a b:X}{T:Nat->Prop}{c d e f:Value}{k:Int}(g:am T (a.alloc (.cells #[c,d,e,f,I J k] 82)) b)(i:¬T a.heap.size):b.cell? ⟨a.heap.size,4,U⟩=M (I J k):=by
 have j:=g.y (aX a (.cells #[c,d,e,f,I J k] 82)) i;exact aq b a.heap.size 4 _ _ _ j
theorem Lw (w:X)(S So:Nat->Prop)(g:Nat)(s:bN)(c:UInt8)(ao:ag)(cap n:Nat)(es:List aU)(h:dM w S g s)(hG:fI s)(hp:s.a=0∨s.a=1)(he:fH s.b c=true)(hO:iD w So ao cap es)(hd:∀k,S k->¬So k)(hn:es.length=n)(hl:n<=90000)(hj:ey es)(hf:et es)(hz:bQ es<=90000):
 Calls prog 106 #[Q (M ⟨g,0,U⟩),Z ao n cap,I .u8 c.toNat] w fun e w'=>oj w S So g s c es e w':=by
 obtain⟨gl,hLF⟩:=zv w S g s c h hG hp;have c0:=hLF.a;have HF:=hLF.b;obtain⟨e1,b⟩:=ET he;have hc:(bi s.b c).a=0:=by rw[e1];rfl
 have l:cI s c=ip { s with b:=dw } (cV s.b c):=by
  unfold cI;rw[if_neg (by omega),if_neg (by omega),if_neg (by omega),if_neg (fun e=>e hc),if_pos he]
 unfold kG at HF;rw[he,hc,e1] at HF;have hsh:=xz (c:=c) hG.a;have v:Sc w S So g ao cap n es:=⟨h.1,h.j,hd,hO.f (fun k j e=>⟨e,j⟩),hn,hl,hj,hf,hz⟩;have hHG:s.a=1->jo s.c:=fun e=>(hG.e e).1;have sQ:∀L,dM L (ay (fun k=>S k∧k<w.heap.size) w) g { s with b:=dw }->Calls prog 166 #[Q (M ⟨g,0,U⟩),V ⟨(cV s.b c).toArray⟩] L fun e w'=>AV L (ay (fun k=>S k∧k<w.heap.size) w) g { s with b:=dw } (cV s.b c) e w':=fun L hR=>by
  have hsz:(⟨(cV s.b c).toArray⟩:ae).size<=200:=by show(cV s.b c).toArray.size<=200;rw[cz];exact hsh.1
  rcases hp with hp | hp
  . exact Sa L _ g _ ⟨(cV s.b c).toArray⟩ hR hp hsz hsh.2
  . exact Sb L _ g _ ⟨(cV s.b c).toArray⟩ hR hp (hHG hp) hsz
 generalize (⟨(cV s.b c).toArray⟩:ae)=tx at *;generalize cV s.b c=tt at *;go_enter func106,ntmps106;go_wp2_with fail;refine HF.mono ?_;rintro e L ⟨rfl,uV,hT1⟩;have HR1:=uV;have i:=aa hT1
 go_wp2_with fail;refine(sQ L HR1).mono ?_;rintro e C (⟨s',rfl,N,hR2,jG⟩ | ⟨cc,hcc,rfl,N,lp2,hp2,bd2,r,jG⟩ | ⟨k,gl2,gh,D,rfl,j,htt,hph,r,hL2,hH2,jG⟩)
 . have HL:=N;have HR2:=aa hR2;have f:=aa jG
   have c2:C.cell? ⟨g,2,U⟩=M (.bool false):=by obtain⟨_,lp1,hp1,bd1,acs,hP1,_⟩:=hR2;exact hP1.G
   go_wp2;go_ret;have d:=v;have x:=i.o.b;have T:=f.o.b;have y:(cI s c).1=s'∧(cI s c).2=[]:=by rw[l,HL];exact⟨rfl,rfl⟩
   have hej:aE (es++(cI s c).2)=es:=by rw[y.2,fK];exact nQ es d.h
   have W:=(d.e.a i.o (fun k e b=>d.a k b.1.1 e.1)).a f.o (fun k e b=>by
    rcases b with b | b
    . exact d.a k b.1 e.1
    . have:=e.2;omega)
   refine .mk ao cap n _ (fun k=>So k∧k<w.heap.size) rfl (by rw[hej];exact d.d.symm) (by rw[y.1];exact HR2.o) (by rw[hej];exact W) ?_ ?_ (fun k e=>R (A e.1)) ?_
   . intro k e b;rcases e with (e | e) | e
     . exact d.a k e.1 b.1
     . omega
     . omega
   . intro k e;rcases e with (e | e) | e
     . exact A e.1
     . exact R e
     . exact R (by omega)
   . refine(i.o.j (fun k e=>A e.1.1)).a (f.o.j (S':=fun k=>(S k∨So k)∨w.heap.size<=k) (fun k e=>?_)) (fun k e j=>?_)
     . rcases e with e | e
       . exact A (A e.1)
       . exact R e
     . rcases e with e | e
       . exact e
       . omega
 . have HL:=N;have uw:=aa r;have f:=aa jG;have Ph:=aa hcc
   have tc:((cc:Int) != 0)=true:=by rw[di];omega
   clear N r jG hcc;go_wp2_with fail;have d:=v;have x:=i.o.b;have W:=(d.e.a i.o (fun k e b=>d.a k b.1.1 e.1)).a f.o (fun k e b=>by
    rcases b with b | b
    . exact d.a k b.1 e.1
    . have:=e.2;omega)
   refine(zu C g _ _ _ _ _ (fun k=>So k∧k<w.heap.size) ao cap n cc es uw.o W (fun e=>d.a g d.b e.1) d.d (by have:=d.i;omega) d.h d.f (by have:=d.j;omega)).mono ?_;rintro e p ⟨lS,iy,n3,rfl,ZU,hO3,G,qj⟩;have HN3:=aa ZU;have sP:=aa hO3;have HP3:=aa G;have z:=aa qj
   clear d W ZU hO3 G qj x;go_wp2;go_ret;have d:=v;have x:=i.o.b;have T:=f.o.b;have y:(cI s c).1.a=4∧(cI s c).2=[.fail cc]:=by rw[l,HL];exact⟨rfl,rfl⟩
   refine .mk lS iy n3 (fun k=>k=g) _ rfl (by rw[y.2];exact HN3.o) ⟨rfl,_,_,_,_,HP3.o,.dead cc Ph.o y.1⟩ (by rw[y.2];exact sP.o) ?_ (fun k e=>by rw[e];exact A d.b) ?_ ?_
   . intro k e b;subst e;have:=d.c;rcases b with b | b
     . exact d.a k d.b b.1
     . omega
   . intro k e;rcases e with e | e
     . exact R (A e.1)
     . exact R (R (by omega))
   . refine(i.o.j (fun k e=>A e.1.1)).a ((f.o.j (S':=fun k=>(S k∨So k)∨w.heap.size<=k) (fun k e=>?_)).a (z.o.j (fun k e=>?_)) (fun _ e _=>e)) (fun k e j=>?_)
     . rcases e with e | e
       . exact A (A e.1)
       . exact R e
     . rcases e with e | e
       . exact A (R e.1)
       . rw[e];exact A (A d.b)
     . rcases e with e | e
       . exact e
       . omega
 . have uw:=r;have HL2:=aa hL2;have f:=aa jG;have HK:=aa j;have HTt:=aa htt;have HPh:=aa hph
   have c2:=r.G;have NP:=R6 C g gh _ _ _ _ r hH2 (fun e=>e.1.2 rfl);have hkr:=F1 j;clear r hL2 jG j htt hph hH2;go_wp2_with fail;refine NP.mono ?_;rintro e p ⟨fo,gy,rfl,G,hV3,qj⟩;have HP3:=G;have HV3:=aa hV3;have z:=aa qj
   clear G hV3 qj;go_wp2_with fail;have d:=v;have x:=i.o.b;have T:=f.o.b;have hs3:=z.o.b;have hlt:=d.c;have B:Below p.heap.size p (p.alloc (.cells #[V ⟨s.c.e.toArray⟩,V ⟨s.c.b.toArray⟩,I J (s.c.d:Int),Z fo s.c.a.length gy,I J k] 82)):=(ar _ _).alloc (ak _) _;have hzA:(p.alloc (.cells #[V ⟨s.c.e.toArray⟩,V ⟨s.c.b.toArray⟩,I J (s.c.d:Int),Z fo s.c.a.length gy,I J k] 82)).heap.size=p.heap.size+1:=by simp
   have hE3:=((((d.e.a i.o (fun k e b=>d.a k b.1.1 e.1)).a f.o (fun k e b=>by
    rcases b with b | b
    . exact d.a k b.1 e.1
    . have:=e.2;omega)).a z.o (fun k e b=>d.a g d.b (b▸e.1))).r B)
   have RU:=(HV3.o.j (S':=fun k=>((ay (fun k=>S k∧k<w.heap.size) w k∧k≠g)∧D k)∧k<p.heap.size) (fun k j e=>⟨e,j⟩)).f (am.f (S:=fun _=>False) B) (fun _ _ e=>e);refine(R2 _ (fun k=>So k∧k<w.heap.size) (fun k=>((ay (fun k=>S k∧k<w.heap.size) w k∧k≠g)∧D k)∧k<p.heap.size) ao fo cap n gy s.c.a.length { s.c with c:=k } es hE3 RU rfl (fun k e b=>?_) d.d (by have:=d.i;omega) d.h d.f (by have:=d.j;omega)).mono ?_
   . rcases b.1.1.1 with q | q
     . exact d.a k q.1 e.1
     . have:=e.2;omega
   rintro e u ⟨sD,H,n4,rfl,M6,hO4,yX⟩;have hs4:=yX.b;have c4:=Rm yX (fun e=>by have:=e.2;omega);have hadd:=Hb d.d M6 (fun a e=>by cases e) d.f;have hP4:=(HP3.a B).f yX (fun e=>d.a g d.b e.1);have hL4:=(((HL2.o.a (S':=fun k=>((ay (fun k=>S k∧k<w.heap.size) w k∧k≠g)∧¬D k)∧k<C.heap.size) (fun k j e=>⟨e,j⟩)).f z.o (fun k e=>e.1.1.2)).f (am.f (S:=fun _=>False) B) (fun _ _ e=>e)).f yX (fun k e b=>by
    rcases e.1.1.1 with q | q
    . exact d.a k q.1 b.1
    . have:=b.2;omega)
   have agi:=hO4.f (S':=fun k=>((So k∧k<w.heap.size)∨(((ay (fun k=>S k∧k<w.heap.size) w k∧k≠g)∧D k)∧k<p.heap.size)∨p.heap.size+1<=k)∧k<u.heap.size) (fun k j e=>⟨by rw[hzA] at e;exact e,j⟩);have agj:am (fun k=>(S k∨So k)∨w.heap.size<=k) w u:=by
    refine(i.o.j (fun k e=>A (A e.1.1))).a ((f.o.j (fun k e=>?_)).a ((z.o.j (fun k e=>by rw[e];exact A (A d.b))).a ((am.f B).a (yX.j (fun k e=>A (R e.1))) (fun _ e _=>e)) (fun _ e _=>e)) (fun _ e _=>e)) (fun _ e _=>e);rcases e with e | e
    . exact A (A e.1)
    . exact R e
   have hNx:cI s c=if k=0 then ({ s with b:=dw,a:=0 },[.head { s.c with c:=k },.fin]) else if 0<k then ({ s with b:=dw,a:=2,e:=k.toNat },[.head { s.c with c:=k }]) else ({ s with b:=dw,a:=3,d:=rH },[.head { s.c with c:=k }]):=by
    have hk':mr s.c=.inr k:=HK.o;have hp1:s.a=1:=HPh.o;rw[l,HTt.o];unfold ip;rw[if_neg (by show ¬s.a=0;omega),if_pos rfl];simp only[hk']
   have ado:p.heap.size+1<=u.heap.size:=by rw[<-hzA];exact hs4
   have HP4:=hP4;have HL4:=aa hL4;have OL:=aa agi;have adS:=aa agj;have HAd:=aa hadd;have HN4:=aa M6;have Gq:=aa hNx
   have Cx:w.heap.size<=L.heap.size∧L.heap.size<=C.heap.size∧C.heap.size<=p.heap.size∧p.heap.size+1<=u.heap.size:=⟨x,T,hs3,ado⟩;have p3:=hP4.y;have pf3:=hP4.j 3;clear d x T hs3 hs4 hlt B hzA hE3 RU M6 hO4 yX hadd hP4 hL4 agi agj hNx ado c0 c2;have yT:∀k,((((ay (fun k=>S k∧k<w.heap.size) w k∧k≠g)∧¬D k)∧k<C.heap.size)∨k=g)->¬(((So k∧k<w.heap.size)∨(((ay (fun k=>S k∧k<w.heap.size) w k∧k≠g)∧D k)∧k<p.heap.size)∨p.heap.size+1<=k)∧k<u.heap.size):=fun k e b=>by
    have d:=v;have hlt:=d.c;obtain⟨s1,s2,s3,s4⟩:=Cx;rcases e with e | e
    . rcases b.1 with b | b | b
      . rcases e.1.1.1 with q | q
        . exact d.a k q.1 b.1
        . have:=b.2;omega
      . exact e.1.2 b.1.2
      . have:=e.2;omega
    . subst e;rcases b.1 with b | b | b
      . exact d.a k d.b b.1
      . exact b.1.1.2 rfl
      . omega
   have adT:∀k,((((ay (fun k=>S k∧k<w.heap.size) w k∧k≠g)∧¬D k)∧k<C.heap.size)∨k=g)->S k∨w.heap.size<=k:=fun k e=>by
    rcases e with e | e
    . rcases e.1.1.1 with q | q
      . exact A q.1
      . exact R q
    . rw[e];exact A v.b
   have abk:∀k,(((So k∧k<w.heap.size)∨(((ay (fun k=>S k∧k<w.heap.size) w k∧k≠g)∧D k)∧k<p.heap.size)∨p.heap.size+1<=k)∧k<u.heap.size)->S k∨So k∨w.heap.size<=k:=fun k e=>by
    obtain⟨s1,s2,s3,s4⟩:=Cx;rcases e.1 with e | e | e
    . exact R (A e.1)
    . rcases e.1.1.1 with q | q
      . exact A q.1
      . exact R (R q)
    . exact R (R (by omega))
   by_cases hk0:k=0
   . subst hk0;go_wp2_with fail;obtain⟨a1,a2,a3,a4⟩:=HAd.o;refine(Ai u _ sD H n4 _ OL.o HN4.o.symm (by have:=v.i;omega) a4 a3 (by have:=v.j;omega)).mono ?_;rintro e w5 ⟨zU,cap5,n5,rfl,hn5,xW,wN⟩;have HN5:=aa hn5;have zL:=aa xW;have UZ:=aa wN
     clear hn5 xW wN a1 a2 a3 a4;go_wp2;go_ret;have l:=Gq.o;first | rw[if_pos rfl] at l | rw[if_pos trivial] at l | skip
     obtain⟨s1,s2,s3,s4⟩:=Cx;have hj2:aE (aE (es++[.head { s.c with c:=0 }])++[.fin])=aE (es++(cI s c).2):=by rw[l];exact F8 es [_] [.fin]
     refine .mk zU cap5 n5 (fun k=>(((ay (fun k=>S k∧k<w.heap.size) w k∧k≠g)∧¬D k)∧k<C.heap.size)∨k=g) _ rfl (by rw[<-hj2];exact HN5.o) ?_ (by rw[<-hj2];exact zL.o) ?_ adT ?_ ?_
     . rw[l];refine⟨R rfl,_,_,_,_,HP4.f UZ.o (fun e=>yT g (R rfl) e),.Kn gl2 rfl ((HL4.o.f UZ.o (fun k e b=>yT k (A e) b)).a (fun k _ e=>⟨A e,e.1.1.2⟩))⟩
     . intro k e b;rcases b with b | b | b
       . exact yT k e b
       . exact b
       . rcases e with e | e
         . have:=e.2;omega
         . have:=v.c;omega
     . intro k e;rcases e with e | e | e
       . exact abk k e
       . exact e.elim
       . exact R (R (by omega))
     . have h:=adS.o.a (UZ.o.j (S':=fun k=>(S k∨So k)∨w.heap.size<=k) (fun k e=>by
        rcases abk k e with e | e | e
        . exact A (A e)
        . exact A (R e)
        . exact R e)) (fun _ e _=>e)
       exact⟨h.d,h.g,h.e,h.b,fun k j hn=>h.c k j (fun e=>by
        rcases e with e | e
        . exact hn e
        . omega)⟩
   . have tk:(k==0)=false:=aQ.2 hk0;by_cases hk1:0<k
     . obtain⟨m,rfl⟩:∃m:Nat,k=(m:Int):=⟨k.toNat,by omega⟩;have HBo:=Lu u m (by omega);go_wp2_with fail;refine HBo.mono ?_;rintro e w5 ⟨rfl,Cu,t⟩;have RV:=HP4.a t;have q3:=RV.y;have qf3:=RV.j 3;have HP5:=RV;have oC:=aa Cu;have QC:=aa t
       clear RV Cu t;go_wp2;go_ret;have l:=Gq.o;rw[if_neg hk0,if_pos hk1] at l;obtain⟨s1,s2,s3,s4⟩:=Cx;have hlt:=v.c;have Dj:=am.r (fun k=>k=g) w5 ⟨g,3,U⟩ (.iface 287 (Q (M ⟨u.heap.size,0,U⟩))) rfl;refine .mk sD H n4 (fun k=>((((ay (fun k=>S k∧k<w.heap.size) w k∧k≠g)∧¬D k)∧k<C.heap.size)∨k=g)∨k=u.heap.size) _ rfl (by rw[l];exact HN4.o) ?_ (by rw[l];exact(OL.o.r QC.o).a Dj (fun k e b=>yT k (R b) e)) ?_ ?_ abk ?_
       . rw[l];refine⟨A (R rfl),_,_,_,_,HP5.H _,.at2 gl2 u.heap.size rfl (((HL4.o.f (am.f (S:=fun _=>False) QC.o) (fun _ _ e=>e)).f Dj (fun k e=>e.1.1.2)).a (fun k _ e=>⟨⟨A (A e),e.1.1.2⟩,by have:=e.2;omega⟩)) ⟨R rfl,by omega⟩ ?_⟩;have:=Dj.y oC.o (by omega);rw[this];simp
       . intro k e b;rcases e with e | e
         . exact yT k e b
         . have:=b.2;omega
       . intro k e;rcases e with e | e
         . exact adT k e
         . exact R (by omega)
       . have h:=adS.o.a ((am.f (S:=fun k=>(S k∨So k)∨w.heap.size<=k) QC.o).a (Dj.j (S':=fun k=>(S k∨So k)∨w.heap.size<=k) (fun k e=>by rw[e];exact A (A v.b))) (fun _ e _=>e)) (fun _ e _=>e);exact⟨h.d,h.g,h.e,h.b,fun k j hn=>h.c k j (fun e=>by
          rcases e with e | e
          . exact hn e
          . omega)⟩
     . obtain rfl:k=-1:=by omega
       have HBo:=Lp u;go_wp2_with fail;refine HBo.mono ?_;rintro e w5 ⟨gb,rfl,Cu,t⟩;have RV:=HP4.a t;have q3:=RV.y;have qf3:=RV.j 3;have HP5:=RV;have oC:=aa Cu;have QC:=aa t
       clear RV Cu t;go_wp2;go_ret;have l:=Gq.o;rw[if_neg (by omega),if_neg (by omega)] at l;obtain⟨s1,s2,s3,s4⟩:=Cx;have hlt:=v.c;have Dj:=am.r (fun k=>k=g) w5 ⟨g,3,U⟩ (.iface 285 (Q (M ⟨gb,0,U⟩))) rfl;refine .mk sD H n4 (fun k=>((((ay (fun k=>S k∧k<w.heap.size) w k∧k≠g)∧¬D k)∧k<C.heap.size)∨k=g)∨u.heap.size<=k) _ rfl (by rw[l];exact HN4.o) ?_ (by rw[l];exact(OL.o.r QC.o).a Dj (fun k e b=>yT k (R b) e)) ?_ ?_ abk ?_
       . rw[l];refine⟨A (R rfl),_,_,_,_,HP5.H _,.at3 gl2 gb (fun k=>u.heap.size<=k) rfl (((HL4.o.f (am.f (S:=fun _=>False) QC.o) (fun _ _ e=>e)).f Dj (fun k e=>e.1.1.2)).a (fun k _ e=>⟨⟨A (A e),e.1.1.2⟩,by have:=e.2;omega⟩)) ((oC.o.j Dj (fun k e b=>by omega)).a (fun k _ e=>⟨⟨R e,by omega⟩,e⟩))⟩
       . intro k e b;rcases e with e | e
         . exact yT k e b
         . have:=b.2;omega
       . intro k e;rcases e with e | e
         . exact adT k e
         . exact R (by omega)
       . have h:=adS.o.a ((am.f (S:=fun k=>(S k∨So k)∨w.heap.size<=k) QC.o).a (Dj.j (S':=fun k=>(S k∨So k)∨w.heap.size<=k) (fun k e=>by rw[e];exact A (A v.b))) (fun _ e _=>e)) (fun _ e _=>e);exact⟨h.d,h.g,h.e,h.b,fun k j hn=>h.c k j (fun e=>by
          rcases e with e | e
          . exact hn e
          . omega)⟩
theorem Lx (w:X)(S So:Nat->Prop)(g:Nat)(s:bN)(c:UInt8)(ao:ag)(cap n:Nat)(es:List aU)(h:dM w S g s)(a:fI s)(b:s.a=0∨s.a=1)(d:iD w So ao cap es)(hd:∀k,S k->¬So k)(f:es.length=n)(j:n<=90000)(i:ey es)(l:et es)(m:bQ es<=90000):
 Calls prog 106 #[Q (M ⟨g,0,U⟩),Z ao n cap,I .u8 c.toNat] w fun e w'=>oj w S So g s c es e w':=by
 by_cases o:(bi s.b c).a=0
 . cases p:fH s.b c
   . exact KE w S So g s c ao cap n es h a b o p d hd f i
   . exact Lw w S So g s c ao cap n es h a b p d hd f j i l m
 . exact KD w S So g s c ao cap n es h a b o d hd f j i l m
theorem L6 (w:X)(S So:Nat->Prop)(g:Nat)(s:bN)(c:UInt8)(ao:ag)(cap n:Nat)(es:List aU)(h:dM w S g s)(b:fI s)(a:s.a=2∨s.a=3)(d:iD w So ao cap es)(hd:∀k,S k->¬So k)(f:es.length=n)(i:n<=90000)(j:ey es)(l:et es)(m:bQ es<=90000):
 Calls prog 107 #[Q (M ⟨g,0,U⟩),Z ao n cap,I .u8 c.toNat] w fun e w'=>oj w S So g s c es e w':=by
 rcases a with a | a
 . exact Jb w S So g s c ao cap n es h b a d hd f i j l m
 . by_cases o:s.d.b=1
   . exact Lq w S So g s c ao cap n es h b a o d hd f i j l m
   . exact Lr w S So g s c ao cap n es h b a o d hd f i j l m
structure wI (w:X)(S:Nat->Prop)(g:Nat)(s:bN)(l:ab)(k:Nat)(ao:ag)(cap n:Nat)(wr:X):Prop where
 b:n=(aE (cX s (l.take k))).length
 c:∃S' So',dM wr S' g (cM s (l.take k))∧iD wr So' ao cap (aE (cX s (l.take k)))∧(∀i,S' i->¬So' i)∧(∀i,S' i->S i∨w.heap.size<=i)∧(∀i,So' i->S i∨w.heap.size<=i)
 a:am S w wr
inductive AW (w:X)(S:Nat->Prop)(g:Nat)(s:bN)(l:ab)(e:Ending)(w':X):Prop
 | mk (ao:ag) (cap n:Nat) (S' So':Nat->Prop) (he:e=Y (Z ao n cap)) (hn:n=(aE (cX s l)).length) (hR:dM w' S' g (cM s l)) (hO:iD w' So' ao cap (aE (cX s l))) (hd:∀i,S' i->¬So' i) (hS:∀i,S' i->S i∨w.heap.size<=i) (hSo:∀i,So' i->S i∨w.heap.size<=i) (hT:am S w w')
theorem wI.f {w:X}{S:Nat->Prop}{g:Nat}{s:bN}{l:ab}{k:Nat}{ao:ag}{cap n:Nat}{wr:X}(h:wI w S g s l k ao cap n wr)(b:cX s l=cX s (l.take k))(c:cM s l=cM s (l.take k)):AW w S g s l (Y (Z ao n cap)) wr:=by
 obtain⟨d,a,e,f,i,j,m⟩:=h.c;exact .mk ao cap n d a rfl (by rw[b];exact h.b) (by rw[c];exact e) (by rw[b];exact f) i j m h.a
theorem wI.j {w:X}{S:Nat->Prop}{g:Nat}{s:bN}{l:ab}{k:Nat}{S' b:Nat->Prop}{wr w':X}{o:ag}{a p:Nat}(u:k<l.length)(d:∀i,S' i->S i∨w.heap.size<=i)(c:∀i,b i->S i∨w.heap.size<=i)(q:am S w wr)
 (h:oj wr S' b g (cM s (l.take k)) l[k] (aE (cX s (l.take k))) (Y (Z o p a)) w'):wI w S g s l (k+1) o a p w':=by
 obtain⟨T,W,n3,v,f,j,x,y,z,B,C,m,D⟩:=h;injection j with j;injection j with G H L;subst G;subst H;subst L;have r:=fR u;have t:aE (cX s (l.take (k+1)))=aE (aE (cX s (l.take k))++(cI (cM s (l.take k)) l[k]).2):=by
  rw[r,Ov,sc]
 have n:cM s (l.take (k+1))=(cI (cM s (l.take k)) l[k]).1:=by rw[r,Ow]
 have N:=q.b;refine⟨by rw[t];exact x,⟨v,f,by rw[n];exact y,by rw[t];exact z,B,fun i e=>?_,fun i e=>?_⟩,q.a D (fun i e hi=>?_)⟩
 . rcases C i e with e | e
   . exact d i e
   . exact R (by omega)
 . rcases m i e with e | e | e
   . exact d i e
   . exact c i e
   . exact R (by omega)
 . rcases e with e | e
   . rcases d i e with e | e
     . exact e
     . omega
   . rcases c i e with e | e
     . exact e
     . omega
theorem MA (w:X)(S:Nat->Prop)(g:Nat)(s:bN)(l:ab)(bo:ag)(fZ n:Nat)(h:dM w S g s)(hG:fI s)(hB:aB w bo fZ l)(tL:l≠[]->∀a,bo=M a->¬S a.block)(hn:l.length=n)(hl:n<=40000):
 Calls prog 57 #[Q (M ⟨g,0,U⟩),Z bo n fZ] w fun e w'=>AW w S g s l e w':=by
 subst hn;have HB:=hB;have HR:=aa h;have HG:=aa hG;have HBo:=aa tL
 go_enter func57,ntmps57;go_wp2;go_loopw [5,10] (fun vo vi wr=>∃(k:Nat) (W:ag) (i n:Nat),k<=l.length∧vi=I J k∧vo=Z W n i∧wI w S g s l k W i n wr) (fun _ vi _=>l.length-(intOf vi).toNat)
 case atStart =>
  refine⟨0,U,0,0,ax _,rfl,rfl,⟨rfl,⟨S,fun _=>False,HR.o,.bare,fun _ _ e=>e,fun _ e=>A e,fun _ e=>e.elim⟩,am.B _ _⟩⟩
 case round =>
  obtain⟨k,W,i,n,hk,rfl,rfl,N⟩:=hrel;by_cases q:k<l.length
  . obtain⟨bb,oo,rfl,_⟩:=HB.r (by omega);have hne:l≠[]:=by intro e;subst e;simp at q
    have hbc:=(HB.y N.a (fun a e=>HBo.o hne a e)).r (by omega);obtain⟨b2,o2,t,u⟩:=hbc;injection t with t;injection t with hb2 ho2;subst hb2;subst ho2;have ck:=u k q;have hlt':(k:Int)<l.length:=by omega
    have hcap:=HB.1;obtain⟨S',v,d,Ga,m,x,Qf⟩:=N.c;have j:fI (cM s (l.take k)):=HG.o.j _;have T:=Gc s (l.take k);have htk:(l.take k).length<=40000:=by rw[bU];omega
    have p:=N.b.symm;have HD:=EW wr S' g (cM s (l.take k)) d;have MO:∀(y:ag) (b z:Nat) (w':X),oj wr S' v g (cM s (l.take k)) l[k] (aE (cX s (l.take k))) (Y (Z y z b)) w'->wI w S g s l (k+1) y b z w':=fun y b z w' hfs=>wI.j q x Qf N.a hfs;by_cases h4:(cM s (l.take k)).a=4
    . rw[br h4] at HD;have hdr:=A9 (l.drop k) (cM s (l.take k)) h4;have HDn:cX s l=cX s (l.take k)∧cM s l=cM s (l.take k):=by
       constructor
       . conv=>lhs;rw[<-iN k l,Gg,hdr.1,fK]
       . conv=>lhs;rw[<-iN k l,A7,hdr.2]
      generalize l[k]=c at *;go_wp2_with (go_at_call 56;refine HD.mono ?_;rintro e w1 ⟨rfl,hw⟩;subst hw)
      go_ret;exact N.f HDn.1 HDn.2
    . rw[ba h4] at HD;have hph:(cM s (l.take k)).a=0∨(cM s (l.take k)).a=1∨(cM s (l.take k)).a=2∨(cM s (l.take k)).a=3:=by have:=j.d;omega
      by_cases C:(cM s (l.take k)).a=0∨(cM s (l.take k)).a=1
      . have HC:=aa (Lx wr S' v g _ l[k] W i n _ d j C Ga m p (by omega) T.2.2.2 T.2.2.1 (by omega));have c3:wr.cell? ⟨g,3,U⟩=M .nilIface:=by
         obtain⟨_,lp,hp,bd,code,hP,hI⟩:=d;cases hI with
         | dead c hc h=>omega
         | Kn G h L=>exact hP.y
         | NJ G gh D h L H=>exact hP.y
         | at2 G gb h L hb B=>omega
         | at3 G gb D h L B=>omega
        generalize l[k]=c at *;generalize cM s (l.take k)=sk at *;clear d Ga m j T htk p u h4 C hph x Qf;go_wp2_with (first
         | (go_at_call 56;refine HD.mono ?_;rintro e w1 ⟨rfl,hw⟩;subst hw)
         | (go_at_call 106;refine HC.o.mono ?_;rintro e w2 f;obtain⟨y,b,z,S2,So2,he,r⟩:=id f;subst he;have oW:=aa f;clear f r))
        go_roundw
        case rel=>exact⟨k+1,y,b,z,by omega,by go_num,rfl,MO _ _ _ _ oW.o⟩
        case measure=>simp[intOf];omega
      . have agl:(cM s (l.take k)).a=2∨(cM s (l.take k)).a=3:=by omega
        have HC:=L6 wr S' v g _ l[k] W i n _ d j agl Ga m p (by omega) T.2.2.2 T.2.2.1 (by omega);obtain⟨tt,vv,c3⟩:∃tt vv,wr.cell? ⟨g,3,U⟩=M (.iface tt vv):=by
         obtain⟨_,lp,hp,bd,code,hP,hI⟩:=d;cases hI with
         | dead c hc h=>omega
         | Kn G h L=>omega
         | NJ G gh D h L H=>omega
         | at2 G gb h L hb B=>exact⟨_,_,hP.y⟩
         | at3 G gb D h L B=>exact⟨_,_,hP.y⟩
        generalize l[k]=c at *;generalize cM s (l.take k)=sk at *;clear d Ga m j T htk p u h4 C agl hph x Qf;go_wp2_with (first
         | (go_at_call 56;refine HD.mono ?_;rintro e w1 ⟨rfl,hw⟩;subst hw)
         | (go_at_call 107;refine HC.mono ?_;rintro e w2 f;obtain⟨y,b,z,S2,So2,he,r⟩:=id f;subst he;have oW:=aa f;clear f r))
        go_roundw
        case rel=>exact⟨k+1,y,b,z,by omega,by go_num,rfl,MO _ _ _ _ oW.o⟩
        case measure=>simp[intOf];omega
  . obtain rfl:k=l.length:=by omega
    go_wp2;go_ret;exact N.f (by rw[eQ]) (by rw[eQ])
