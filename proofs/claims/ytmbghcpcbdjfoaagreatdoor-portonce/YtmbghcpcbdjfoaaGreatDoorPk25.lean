import Derived.Test.YtmbghcpcbdjfoaaGreatDoorPk22
import Derived.Test.YtmbghcpcbdjfoaaGreatDoorPk19
open Go.Value renaming int->I,string->V,pointer->Q
open Go.IntKind renaming i64->J
open Go.Ending renaming returned->Y
open Option renaming none->U,some->M
open Bool renaming false->F
open Go renaming World->X
set_option maxHeartbeats 1600000
open Go.Proofs.Tryz
namespace Go.Proofs.YtmbghcpcbdjfoaaGreatDoor
open Go.RowKit
theorem Rp (c:UInt8)(s:ag):∃a r b,kO c s=.tuple #[V a,V r,.bool b]∧a.data.toList=s.data.toList.take (bg c s.data.toList)∧a.size<=s.size:=by
 have d:s.data.toList.length=s.size:=by rw[cy];rfl
 unfold kO;by_cases h:bg c s.data.toList=s.size
 . rw[if_pos h];exact⟨s,_,_,rfl,by rw[h,<-d,fD],ak _⟩
 . rw[if_neg h];exact⟨_,_,_,rfl,by rw[Lib.extract_data];simp,by simp;omega⟩
inductive TZ (S:Nat->Prop)(g gl:Nat)(nx lf rm fd code:Int)(ln:cw)(n:Int)(ok:Bool)(w:X)(e:Ending)(w':X):Prop
 | none (t:al S w w') (h:ok=F) (he:e=Y (I J 7)) (r:cS w' S g gl nx lf rm fd code ln)
 | long (t:al S w w') (h:ok=true) (h1:rm<n) (he:e=Y (I J 4)) (r:cS w' S g gl nx lf rm fd code ln)
 | last (t:al S w w') (h:ok=true) (h1:n<=rm) (h2:n=0) (he:e=Y (I J 0)) (r:cS w' S g gl 2 lf rm fd code ln)
 | more (t:al S w w') (h:ok=true) (h1:n<=rm) (h2:0<n) (he:e=Y (I J 0)) (r:cS w' S g gl 1 n (rm-n) fd code ln)
inductive Ur (S:Nat->Prop)(g gl:Nat)(nx lf rm fd code:Int)(ln:cw)(s:ae)(w:X)(e:Ending)(w':X):Prop
 | bad (t:al S w w') (h:s≠[]) (he:e=Y (I J 5)) (r:cS w' S g gl nx lf rm fd code ln)
 | good (t:al S w w') (h:s=[]) (he:e=Y (I J 0)) (r:cS w' S g gl 0 lf rm fd code ln)
inductive SF (S:Nat->Prop)(g gl:Nat)(nx lf rm fd code:Int)(ln:cw)(s:ae)(w:X)(e:Ending)(w':X):Prop
 | many (t:al S w w') (h:fd=16) (he:e=Y (I J 8)) (r:cS w' S g gl nx lf rm fd code ln)
 | one (t:al S w w') (h:fd≠16) (he:e=Y (I J ((aP s).a:Int))) (r:cS w' S g gl nx lf rm (fd+1) code ln)
section
variable {w:X} {S:Nat->Prop} {g gl:Nat} {nx lf rm fd code:Int} {ln:cw}
theorem Oq (h:cS w S g gl nx lf rm fd code ln)(s:ag)(hs:s.size<=200)(q:0<=rm)(G:rm<=4000):
 Calls prog 385 #[Q (M ⟨g,0,U⟩),V s] w fun e w'=>TZ S g gl nx lf rm fd code ln (dK s.data.toList).1 (dK s.data.toList).2 w e w':=by
 have n0:=Fr s.data.toList;obtain⟨a,r,b,t,ha,H⟩:=Rp 59 s;have m:=uv s 59 w (by unfold maxLen;omega);rw[t] at m;have o:=fun W=>um a W (by omega);have u:dK s.data.toList=bB 16 6 (Lib.trimS a.data.toList aX):=by unfold dK;rw[ha]
 have v:=xb a.data.toList;rw[ep] at v;have l:=fun W=>CM ⟨(Lib.trimS a.data.toList aX).toArray⟩ W (by show(Lib.trimS _ _).toArray.size<=maxLen;rw[cN];unfold maxLen;omega);have p:(⟨(Lib.trimS a.data.toList aX).toArray⟩:ag).data.toList=Lib.trimS a.data.toList aX:=rfl;rw[p,<-u] at l;generalize (⟨(Lib.trimS a.data.toList aX).toArray⟩:ag)=tv at o l;generalize (dK s.data.toList).1=n at *;generalize (dK s.data.toList).2=ok at *;cases ok
 . go_enter func385,ntmps385;go_wp2_with fail;refine m.mono ?_;rintro e x ⟨rfl,i⟩;have j:=jp i;go_wp2_with fail;refine(o _).mono ?_;rintro e y ⟨rfl,d⟩;have f:=ar j d;go_wp2_with fail;refine(l _).mono ?_;rintro e z ⟨rfl,k⟩;subst k;go_wp2;go_ret;exact .none (al.d f) rfl rfl (h.f f)
 . by_cases B:rm<n
   . have L:decide (n > rm)=true:=aV B;go_enter func385,ntmps385;go_wp2_with fail;refine m.mono ?_;rintro e x ⟨rfl,i⟩;have j:=jp i;go_wp2_with fail;refine(o _).mono ?_;rintro e y ⟨rfl,d⟩;have f:=ar j d;have c:=h.f f;have C:=c.a 3 (by decide);go_wp2_with fail;refine(l _).mono ?_;rintro e z ⟨rfl,k⟩;subst k;go_wp2;go_ret;exact .long (al.d f) rfl B rfl c
   . have L:decide (n > rm)=F:=aW B;by_cases D:n=0
     . subst D;go_enter func385,ntmps385;go_wp2_with fail;refine m.mono ?_;rintro e x ⟨rfl,i⟩;have j:=jp i;go_wp2_with fail;refine(o _).mono ?_;rintro e y ⟨rfl,d⟩;have f:=ar j d;have c:=h.f f;have C:=c.a 3 (by decide);have N:=c.a 1 (by decide);have T:=c.e 1;go_wp2_with fail;refine(l _).mono ?_;rintro e z ⟨rfl,k⟩;subst k;go_wp2;go_ret;exact .last ((al.d f).a (c.d 1 _) (fun _ e _=>e)) rfl q rfl rfl (c.q 2)
     . have tz:(n==0)=F:=aO.2 D;go_enter func385,ntmps385;go_wp2_with fail;refine m.mono ?_;rintro e x ⟨rfl,i⟩;have j:=jp i;go_wp2_with fail;refine(o _).mono ?_;rintro e y ⟨rfl,d⟩;have f:=ar j d;have c:=h.f f;have C:=c.a 3 (by decide);have N:=c.a 1 (by decide);have c2:=c.a 2 (by decide);have T:=c.e 1;have f2:=c.e 2;have f3:=c.e 3;go_wp2_with fail;refine(l _).mono ?_;rintro e z ⟨rfl,k⟩;subst k;go_wp2;go_ret;exact .more ((al.d f).a ((c.d 1 _).a (((c.q 1).d 2 _).a (((c.q 1).y n).d 3 _) (fun _ e _=>e)) (fun _ e _=>e)) (fun _ e _=>e)) rfl (by omega) (by omega) rfl (((c.q 1).y n).jN (rm-n))
theorem Rr (h:cS w S g gl nx lf rm fd code ln)(s:ag):
 Calls prog 386 #[Q (M ⟨g,0,U⟩),V s] w fun e w'=>Ur S g gl nx lf rm fd code ln s.data.toList w e w':=by
 have c:=h.a 1 (by decide);have d:=h.e 1;have b:=aa (Lib.toList_data s);by_cases a:s.data.toList=[]
 . obtain rfl:s=⟨#[]⟩:=nh s (by rw[<-ep,a];rfl);go_enter func386,ntmps386;go_wp2;go_ret;exact .good (h.d 1 _) rfl rfl (h.q 0)
 . have f:(s.toList==[])=F:=by rw[aO,b.o];exact a
   go_enter func386,ntmps386;go_wp2;go_ret;exact .bad (al.r _ _) a rfl h
theorem MS (h:cS w S g gl nx lf rm fd code ln)(s:ag)(q:s.size<=200)(i:0<=fd)(j:fd<=16):
 Calls prog 387 #[Q (M ⟨g,0,U⟩),V s] w fun e w'=>SF S g gl nx lf rm fd code ln s.data.toList w e w':=by
 have r:=h.a 4 (by decide);have t:=h.e 4;have b:=fun W=>zs s W (by omega);unfold qT at b;have f:=h.jK (fd+1);have l:=h.d 4 (I J (fd+1));by_cases a:fd=16
 . subst a;go_enter func387,ntmps387;go_wp2;go_ret;exact .many (al.r _ _) rfl rfl h
 . have m:(fd==16)=F:=aO.2 a;generalize (⟨(aP s.data.toList).b.toArray⟩:ag)=n at b;generalize (⟨(aP s.data.toList).c.toArray⟩:ag)=o at b;generalize p:(aP s.data.toList).a=k at b;go_enter func387,ntmps387;go_wp2_with fail;refine(b _).mono ?_;rintro e u ⟨rfl,c⟩;go_wp2;go_ret;have d:=c.alloc c.size (.cells #[V n,V o] 128);exact .one (l.a (al.d d) (fun _ e _=>e)) a (by rw[p];rfl) (f.f d)
end
inductive wE (S:Nat->Prop)(g gl:Nat)(ln:cw)(s:dz)(t:ae)(w:X)(e:Ending)(w':X):Prop
 | mk (nx lf rm fd:Int) (hT:al S w w') (he:e=Y (.tuple #[.bool (decide ((fS s t).a=0∧(fS s t).b=4)),I J ((fS s t).a:Int)]))
  (r:cS w' S g gl nx lf rm fd 0 ln) (h:fJ (fS s t)=0->nx=(ip (fS s t):Int)∧lf=(ke (fS s t):Int)∧rm=4000-((fS s t).f:Int)∧fd=((fS s t).e:Int))
theorem wE.a {S:Nat->Prop}{g f:Nat}{ln:cw}{s a:dz}{t:ae}{w:X}{e:Ending}{w':X}(i:fS s t=a)(b:Bool)(k:Nat)(nx lf c d:Int)(j:al S w w')(l:e=Y (.tuple #[.bool b,I J (k:Int)]))
 (m:b=decide (a.a=0∧a.b=4)) (n:a.a=k) (r:cS w' S g f nx lf c d 0 ln) (h:fJ a=0->nx=(ip a:Int)∧lf=(ke a:Int)∧c=4000-(a.f:Int)∧d=(a.e:Int)):wE S g f ln s t w e w':=by
 subst i;subst m;subst n;exact .mk nx lf c d j l r h
section
variable {w:X} {S:Nat->Prop} {g gl:Nat} {ln:cw} {s:dz}
theorem Vf (C:kb s)(z:s.b=0)(D:s.a=0)(h:cS w S g gl 0 0 (4000-(s.f:Int)) (s.e:Int) 0 ln)(t:ag)(G:t.size<=200):
 Calls prog 384 #[Q (M ⟨g,0,U⟩),V t] w fun e w'=>wE S g gl ln s t.data.toList w e w':=by
 have l:=C.f;have H:=aa (Oq h t G (by omega) (by omega));have L:=h.a 1 (by decide);have q:=(Fr t.data.toList).1;have u:Hid (fS s t.data.toList=(if (dK t.data.toList).2=F then { s with a:=7 } else if 4000<s.f+(dK t.data.toList).1.toNat then { s with a:=4 } else if (dK t.data.toList).1.toNat=0 then { s with b:=3 } else { s with b:=1,c:=(dK t.data.toList).1.toNat,f:=s.f+(dK t.data.toList).1.toNat })):=by
  unfold Hid fS;rw[if_pos z]
 generalize (dK t.data.toList).1=n at *;generalize (dK t.data.toList).2=ok at *;have N:=z;have B:=aa D;have v:=aa l;have x:=aa q
 go_enter func384,ntmps384;go_wp2_with fail;refine H.o.mono ?_;rintro e T (⟨c,d,f,r⟩ | ⟨c,d,b,f,r⟩ | ⟨c,d,b,m,f,r⟩ | ⟨c,d,b,m,f,r⟩)
 . subst f;have i:=c;have j:=aa r;have k:=aa d
   go_wp2;go_ret2;have a:=u.o;rw[if_pos k.o] at a;exact wE.a a F 7 _ _ _ _ i rfl (by simp) rfl j.o (fun e=>absurd (kN.1 e).1 (by show(7:Nat)≠0;omega))
 . subst f;have i:=c;have j:=aa r;have k:=aa d;have p:=aa b
   go_wp2;go_ret2;have a:=u.o;have b:=p.o;have q:=x.o
   rw[if_neg (by rw[k.o];simp),if_pos (by omega)] at a;exact wE.a a F 4 _ _ _ _ i rfl (by simp) rfl j.o (fun e=>absurd (kN.1 e).1 (by show(4:Nat)≠0;omega))
 . subst f;have i:=c;have j:=aa r;have k:=aa d;have p:=aa b;have y:=aa m
   go_wp2;go_ret2;have a:=u.o;have b:=p.o;have m:=y.o;have q:=x.o
   rw[if_neg (by rw[k.o];simp),if_neg (by omega),if_pos (by omega)] at a;exact wE.a a F 0 _ _ _ _ i rfl (by simp) B.o j.o (fun e=>⟨rfl,rfl,rfl,rfl⟩)
 . subst f;have i:=c;have j:=aa r;have k:=aa d;have p:=aa b;have y:=aa m
   go_wp2;go_ret2;have a:=u.o;have b:=p.o;have m:=y.o;have q:=x.o;have l:=v.o
   rw[if_neg (by rw[k.o];simp),if_neg (by omega),if_neg (by omega)] at a;exact wE.a a F 0 _ _ _ _ i rfl (by simp) B.o j.o (fun e=>⟨rfl,(by show n=((if (1:Nat)=1 then n.toNat else 0:Nat):Int);rw[if_pos rfl];omega),(by show 4000-(s.f:Int)-n=4000-((s.f+n.toNat:Nat):Int);omega),rfl⟩)
theorem SG (l:s.b=2)(m:s.a=0)(h:cS w S g gl 1 0 (4000-(s.f:Int)) (s.e:Int) 0 ln)(t:ag):
 Calls prog 384 #[Q (M ⟨g,0,U⟩),V t] w fun e w'=>wE S g gl ln s t.data.toList w e w':=by
 have n:=h.a 1 (by decide);have k:Hid (fS s t.data.toList=if t.data.toList≠[] then { s with a:=5 } else { s with b:=0 }):=by
  unfold Hid fS;rw[if_neg (by omega),if_pos l]
 go_enter func384,ntmps384;go_wp2_with fail;refine(Rr h t).mono ?_;rintro e p (⟨b,c,d,r⟩ | ⟨b,c,d,r⟩)
 . subst d;have f:=b;have i:=aa r;have j:=aa c
   go_wp2;go_ret2;have a:=k.o;rw[if_pos j.o] at a;exact wE.a a F 5 _ _ _ _ f rfl (by simp) rfl i.o (fun e=>absurd (kN.1 e).1 (by show(5:Nat)≠0;omega))
 . subst d;have f:=b;have i:=aa r;have j:=aa c
   go_wp2;go_ret2;have a:=k.o;rw[if_neg (fun e=>e j.o)] at a;exact wE.a a F 0 _ _ _ _ f rfl (by simp) m i.o (fun e=>⟨rfl,rfl,rfl,rfl⟩)
theorem Ot (x:kb s)(c:s.b=3)(y:s.a=0)(h:cS w S g gl 2 0 (4000-(s.f:Int)) (s.e:Int) 0 ln)(t:ag)(z:t.size<=200):
 Calls prog 384 #[Q (M ⟨g,0,U⟩),V t] w fun e w'=>wE S g gl ln s t.data.toList w e w':=by
 have B:=x.c;have G:=h.a 1 (by decide);have j:Hid (fS s t.data.toList=if t.data.toList=[] then { s with b:=4 } else if s.e=16 then { s with a:=8 } else if (aP t.data.toList).a≠0 then { s with a:=(aP t.data.toList).a } else { s with e:=s.e+1 }):=by
  unfold Hid fS;rw[if_neg (by omega),if_neg (by omega)]
 have l:=aa (Lib.toList_data t);have C:=aa h;have m:=aa y;have D:=aa c
 by_cases n:t.data.toList=[]
 . obtain rfl:t=⟨#[]⟩:=nh t (by rw[<-ep,n];rfl);go_enter func384,ntmps384;go_wp2;go_ret2;have a:=j.o;rw[if_pos trivial] at a;exact wE.a a true 0 _ _ _ _ (al.r _ _) rfl (by simp[m.o]) m.o C.o (fun e=>absurd rfl (kN.1 e).2)
 . have H:(t.toList==[])=F:=by rw[aO,l.o];exact n
   have v:=aa n;go_enter func384,ntmps384;go_wp2_with fail;refine(MS h t z (by omega) (by omega)).mono ?_;rintro e L (⟨p,d,q,r⟩ | ⟨p,d,q,r⟩)
   . subst q;have f:=p;have i:=aa r;have u:=aa d
     go_wp2;go_ret2;have a:=j.o;have d:=u.o;rw[if_neg v.o,if_pos (by omega)] at a;exact wE.a a F 8 _ _ _ _ f rfl (by simp) rfl i.o (fun e=>absurd (kN.1 e).1 (by show(8:Nat)≠0;omega))
   . subst q;have f:=p;have i:=aa r;have u:=aa d
     generalize N:(aP t.data.toList).a=k at *;go_wp2;go_ret2;have a:=j.o;have d:=u.o;have c:=D.o
     rw[if_neg v.o,if_neg (by omega)] at a;by_cases b:k=0
     . rw[if_neg (fun e=>e b)] at a;subst b;exact wE.a a F 0 _ _ _ _ f rfl (by simp[c]) m.o i.o (fun e=>⟨by show(2:Int)=((ip { s with e:=s.e+1 }:Nat):Int);unfold ip;simp[c],by show(0:Int)=((ke { s with e:=s.e+1 }:Nat):Int);unfold ke;simp[c],rfl,by show(s.e:Int)+1=((s.e+1:Nat):Int);omega⟩)
     . rw[if_pos b] at a;exact wE.a a F k _ _ _ _ f rfl (by simp[b]) rfl i.o (fun e=>absurd (kN.1 e).1 b)
end
inductive uA (S:Nat->Prop)(g:Nat)(s:dz)(c:UInt8)(w:X)(e:Ending)(w':X):Prop
 | mk (bo:ai) (bc:Nat) (he:e=Y (.tuple #[.slice bo (iQ s c).length bc,.bool (jr s c),I J ((df s c).a:Int)])) (hI:ay w' bo bc (iQ s c)) (hC:jC w' (aB S w) g (df s c)) (hT:al S w w')
theorem uA.none {S:Nat->Prop}{g:Nat}{s:dz}{c:UInt8}{w:X}{e:Ending}{w':X}(b:Bool)(k:Nat)(d:e=Y (.tuple #[.slice U 0 0,.bool b,I J (k:Int)]))(a:iQ s c=[])(f:jr s c=b)(i:(df s c).a=k)(j:jC w' (aB S w) g (df s c))(l:al S w w'):uA S g s c w e w' :=
 .mk U 0 (by rw[a,f,i];exact d) (by rw[a];exact ay.d w') j l
theorem cS.jD {w W:X}{S:Nat->Prop}{g a:Nat}{nx lf b c code:Int}{ln:cw}(h:cS w S g a nx lf b c code ln):cS w (aB S W) g a nx lf b c code ln:=h.G (fun _ _ e=>Or.inl e)
theorem jC.d {w:X}{S:Nat->Prop}{g d:Nat}{nx lf b c code:Int}{ln:cw}{s a:dz}(e:s=a)(h:cS w S g d nx lf b c code ln)(f:code=(fJ a:Int))(i:fJ a=0->ln=a.d∧nx=(ip a:Int)∧lf=(ke a:Int)∧b=4000-(a.f:Int)∧c=(a.e:Int)):jC w S g s:=by
 subst e;subst f;exact⟨d,nx,lf,b,c,ln,h,i⟩
theorem A0 {s:dz}(h:s.a≠0):fJ s=s.a:=by unfold fJ;rw[if_pos h]
theorem A1 {s:dz}(h:s.a=0)(a:s.b=4):fJ s=18:=by unfold fJ;rw[if_neg (fun e=>e h),if_pos a]
theorem Mt (w:X)(S:Nat->Prop)(g:Nat)(s:dz)(c:UInt8)(h:jC w S g s)(d:fJ s≠0):
 Calls prog 383 #[Q (M ⟨g,0,U⟩),I .u8 c.toNat] w fun e w'=>uA S g s c w e w':=by
 obtain⟨j,nx,lf,l,m,n,r,_⟩:=h;have z:=r.a 5 (by decide);have B:((fJ s:Int) != 0)=true:=by rw[cW];omega
 have p:(df s c).a=fJ s∧fJ (df s c)=fJ s∧iQ s c=[]∧jr s c=F:=by
  unfold fJ at d;by_cases a:s.a=0
  . rw[if_neg (fun e=>e a)] at d;by_cases b:s.b=4
    . have f:df s c={ s with a:=18 }:=by unfold df;rw[if_neg (fun e=>e a),if_pos b]
      have q:fJ { s with a:=18 }=18:=A0 (by show(18:Nat)≠0;omega);refine⟨by rw[f,A1 a b],by rw[f,q,A1 a b],by unfold iQ;rw[if_neg (fun e=>by omega)],by unfold jr;rw[cz];exact fun e=>e.2.1 b⟩
    . rw[if_neg b] at d;exact absurd rfl d
  . have f:=Jp a c;refine⟨by rw[f];unfold fJ;rw[if_pos a],by rw[f],by unfold iQ;rw[if_neg (fun e=>a e.1)],by unfold jr;rw[cz];exact fun e=>a e.1⟩
 have t:=p;have u:=aa d
 generalize fJ s=k at *;go_enter func383,ntmps383;go_wp2;go_quiet (fail)
 go_wp2;go_ret3
 obtain⟨v,i,x,b⟩:=t;have y:al S w (w.drewN nq):=al.y _ _ _;refine .none F k rfl x b v ⟨j,nx,lf,l,m,n,?_,fun e=>absurd (i.symm.trans e) u.o⟩ y;rw[i];exact(r.E (al.y (fun _=>False) w nq) (fun _ _ e=>e)).jD
theorem MT (w:X)(S:Nat->Prop)(g:Nat)(s:dz)(c:UInt8)(h:jC w S g s)(j:kb s)(a:s.a=0)(b:s.b=1):
 Calls prog 383 #[Q (M ⟨g,0,U⟩),I .u8 c.toNat] w fun e w'=>uA S g s c w e w':=by
 have k:=kN.2 ⟨a,by omega⟩;obtain⟨z,nx,lf,B,C,D,r,p⟩:=h;obtain⟨rfl,rfl,rfl,rfl,rfl⟩:=p k;rw[k] at r;have l:=j.a b;have q:=j.b;have d:ke s=s.c:=by unfold ke;rw[if_pos b]
 rw[d] at r;have f:ip s=1:=by unfold ip;rw[if_neg (by omega),if_neg (by omega)]
 rw[f] at r;have G:=r.a 5 (by decide);have H:=r.a 2 (by decide);have L:=r.e 2;have N:decide ((s.c:Int) > 0)=true:=aV (by omega);have t:=r.y ((s.c:Int)-1);have u:=r.d 2 (I J ((s.c:Int)-1));have i:df s c={ s with c:=s.c-1,b:=if s.c<=1 then 2 else 1 }:=by unfold df;rw[if_neg (fun e=>e a),if_neg (by omega),if_pos b]
 have m:Hid (iQ s c=[c]):=by unfold Hid iQ;rw[if_pos ⟨a,b⟩]
 have v:Hid (jr s c=F):=by
  unfold Hid jr;rw[cz,i];intro e;have:(if s.c<=1 then 2 else 1)=4:=e.2.2.2;split at this <;> omega
 have x:=a;have y:=aa l
 go_enter func383,ntmps383;go_wp2;go_ret3
 have n:Below (w.setCell ⟨g,2,U⟩ (I J ((s.c:Int)-1))).heap.size (w.setCell ⟨g,2,U⟩ (I J ((s.c:Int)-1))) ((w.setCell ⟨g,2,U⟩ (I J ((s.c:Int)-1))).alloc (.cells #[I .u8 (c.toNat:Int)] 5)):=(aq _ _).alloc (ak _) _;have a:=x;have l:=y.o;refine .mk (M ⟨(w.setCell ⟨g,2,U⟩ (I J ((s.c:Int)-1))).heap.size,0,U⟩) 1 ?_ ?_ (jC.d i ((t.f n).jD (W:=w)) ?_ (fun _=>⟨rfl,?_,?_,rfl,rfl⟩)) (u.a (al.d n) (fun _ e _=>e))
 . rw[m.o,v.o,i];show _=Ending.returned (.tuple #[.slice (M ⟨_,0,U⟩) 1 1,.bool F,I J ((s.a:Nat):Int)]);rw[a];simp
 . rw[m.o];exact ay.y _ c _ _
 . rw[kN (s:={ s with c:=s.c-1,b:=if s.c<=1 then 2 else 1 }) |>.2 ⟨a,by show(if s.c<=1 then 2 else 1)≠4;split <;> omega⟩]
 . unfold ip;simp only;split <;> rfl
 . unfold ke;simp only;split
   . rw[if_neg (by omega)];omega
   . rw[if_pos rfl];omega
theorem Ou {w:X}{S:Nat->Prop}{g c:Nat}{ln:cw}{s:dz}(d:kb s)(a:s.b=0∨s.b=2∨s.b=3)(b:s.a=0)(h:cS w S g c (ip s:Int) 0 (4000-(s.f:Int)) (s.e:Int) 0 ln)(t:ag)(f:t.size<=200):
 Calls prog 384 #[Q (M ⟨g,0,U⟩),V t] w fun e w'=>wE S g c ln s t.data.toList w e w':=by
 rcases a with a | a | a
 . have e:ip s=0:=by unfold ip;rw[if_pos a]
   rw[e] at h;exact Vf d a b h t f
 . have e:ip s=1:=by unfold ip;rw[if_neg (by omega),if_neg (by omega)]
   rw[e] at h;exact SG a b h t
 . have e:ip s=2:=by unfold ip;rw[if_neg (by omega),if_pos a]
   rw[e] at h;exact Ot d a b h t f
theorem T6 (s:dz)(t:ae):(fS s t).d=s.d:=by
 unfold fS;repeat (first | rfl | split)
theorem cS.B {w b:X}{S:Nat->Prop}{g c:Nat}{nx lf d f code:Int}{ln a:cw}(h:cS w S g c nx lf d f code ln)(j:cQ b (aB (fun k=>S k∧k≠g) w) c a)(i:al (fun k=>S k∧k≠g) w b):cS b (aB S w) g c nx lf d f code a∧al S w b:=by
 have l:=(bH.1 h.b).1;refine⟨⟨i.j h.b (fun e=>e.2 rfl),Or.inl h.c,j.a (fun k _ e=>?_)⟩,i.e (fun k e=>e.1)⟩;rcases e with e | e
 . exact⟨Or.inl e.1,e.2⟩
 . exact⟨Or.inr e,by omega⟩
theorem Fl {s:cw}{c:UInt8}(h:fW s c=true):bu s c=dv∧cY s c=s.b:=by grind [fW,bu,dv,cY]
theorem Rv {s:dz}{c:UInt8}(a:s.a=0)(b:s.b=0∨s.b=2∨s.b=3):iQ s c=[]∧df s c=if (bu s.d c).a≠0 then { s with a:=(bu s.d c).a } else if fW s.d c=true then fS { s with d:=dv } (cY s.d c) else { s with d:=bu s.d c }:=by
 refine⟨by unfold iQ;rw[if_neg (fun e=>by omega)],?_⟩;unfold df;rw[if_neg (fun e=>e a),if_neg (by omega),if_neg (by omega)]
theorem MV (w:X)(S:Nat->Prop)(g:Nat)(s:dz)(c:UInt8)(h:jC w S g s)(v:kb s)(q:s.a=0)(h1:s.b=0∨s.b=2∨s.b=3):
 Calls prog 383 #[Q (M ⟨g,0,U⟩),I .u8 c.toNat] w fun e w'=>uA S g s c w e w':=by
 have x:=kN.2 ⟨q,by omega⟩;obtain⟨gl,nx,lf,rm,fd,ln,r,C⟩:=h;obtain⟨rfl,rfl,rfl,rfl,rfl⟩:=C x;rw[x] at r;have elf:ke s=0:=by unfold ke;rw[if_neg (by omega)]
 rw[elf] at r;have c5:=r.a 5 (by decide);have c2:=r.a 2 (by decide);have c0:=r.a 0 (by decide);have l:=yR w _ gl s.d c r.h v.d.c;unfold kX at l;obtain⟨ho,m⟩:=Rv (c:=c) q h1;have HO:=aa ho;have HR:=aa r;by_cases i:(bu s.d c).a=0
 . rw[if_neg (fun e=>e i)] at m;cases y:fW s.d c
   . rw[if_neg (by rw[y];simp)] at m;have D:jr s c=F:=by
      unfold jr;rw[cz,m];intro e;have:s.b=4:=e.2.2.2;omega
     have p:=m;have t:=aa D;have H0:=aa q;have H1:=aa h1
     rw[y,i] at l;generalize (⟨(cY s.d c).toArray⟩:ag)=bs at l;go_enter func383,ntmps383;go_wp2_with fail;refine l.mono ?_;rintro e w1 ⟨rfl,G,z⟩;have j:=HR.o.B G z;have c5:=j.1.a 5 (by decide);have f5:=j.1.e 5;go_wp2;go_ret3
     have q:=H0.o;have h1:=H1.o
     have x:fJ { s with d:=bu s.d c }=0:=kN.2 ⟨q,by show s.b≠4;omega⟩;refine .none F 0 rfl HO.o t.o (by rw[p];exact q) (jC.d p (j.1.j 0) (by rw[x];rfl) (fun _=>⟨rfl,rfl,?_,rfl,rfl⟩)) (j.2.B (j.1.d 5 _));unfold ke;rw[if_neg (by show s.b≠1;omega)]
   . rw[if_pos y] at m;obtain⟨e1,e2⟩:=Fl y;have hsh:=v.d.c;have hg':kb { s with d:=dv }:=⟨v.e,qX.a,rfl,v.a,v.b,v.f,v.c⟩;have qw:=fun(W:X) (S':Nat->Prop) (hr:cS W S' g gl (ip s:Int) 0 (4000-(s.f:Int)) (s.e:Int) 0 dv)=>Ou (s:={ s with d:=dv }) hg' h1 q hr ⟨s.d.b.toArray⟩ (by show s.d.b.toArray.size<=200;rw[cN];exact hsh);have H:(⟨s.d.b.toArray⟩:ag).data.toList=s.d.b:=rfl;rw[H] at qw;rw[y,i,e2] at l;rw[e1] at l;rw[e2] at m;have akB:(fS { s with d:=dv } s.d.b).d=dv:=T6 _ _;have D:jr s c=decide ((fS { s with d:=dv } s.d.b).a=0∧(fS { s with d:=dv } s.d.b).b=4):=by
      unfold jr;rw[m];have u:s.b≠4:=by omega
      simp[q,u]
     have p:=m;have t:=aa D;have HLN:=aa akB
     generalize (⟨s.d.b.toArray⟩:ag)=bs at l qw;go_enter func383,ntmps383;go_wp2_with fail;refine l.mono ?_;rintro e w1 ⟨rfl,G,z⟩;have j:=HR.o.B G z;go_wp2_with fail;refine(qw _ _ j.1).mono ?_;rintro e w2 ⟨nx,lf,rm,fd,z,he,r,C⟩;subst he;have T2:=(j.2.B z);have B:=aa r;have K2:=aa C
     generalize fS { s with d:=dv } s.d.b=n at *;have c5:=B.out.a 5 (by decide);have f5:=B.out.e 5;by_cases u:n.a=0∧n.b=4
     . have L:decide (n.a=0∧n.b=4)=true:=aV u;have N:=u.1;have HP:fJ n=18:=A1 u.1 u.2;rw[L] at t;rw[L,N];go_wp2;go_ret3
       refine .none true 0 rfl HO.o t.o (by rw[p];exact N) (jC.d p ((B.out.j 0).j 18) (by rw[HP];rfl) (fun e=>by rw[HP] at e;cases e)) ?_;exact(T2.B (B.out.d 5 _)).B ((B.out.j 0).d 5 _)
     . have L:decide (n.a=0∧n.b=4)=F:=aW u;have HP:Hid (fJ n=n.a):=by
        by_cases hc:n.a=0
        . unfold Hid;rw[kN.2 ⟨hc,fun e=>u ⟨hc,e⟩⟩,hc]
        . exact A0 hc
       rw[L] at t;rw[L];generalize C:n.a=k at *;go_wp2;go_ret3
       refine .none F k rfl HO.o t.o (by rw[p];exact C) (jC.d p (B.out.j k) (by rw[HP.o]) (fun e=>?_)) (T2.B (B.out.d 5 _));obtain⟨a,b,d,f⟩:=K2.out e;exact⟨HLN.o.symm,a,b,d,f⟩
 . rw[if_pos i] at m;have y:=Fk i;have D:jr s c=F:=by
    unfold jr;rw[cz,m];intro e;exact i e.2.2.1
   have p:=m;have t:=aa D;have T:=aa i
   rw[y] at l;generalize hkk:(bu s.d c).a=k at *;generalize (⟨(cY s.d c).toArray⟩:ag)=bs at l;go_enter func383,ntmps383;go_wp2_with fail;refine l.mono ?_;rintro e w1 ⟨rfl,G,z⟩;have j:=HR.o.B G z;have c5:=j.1.a 5 (by decide);have f5:=j.1.e 5;go_wp2;go_ret3
   have x:fJ { s with a:=k }=k:=A0 (s:={ s with a:=k }) T.o;exact .none F k rfl HO.o t.o (by rw[p]) (jC.d p (j.1.j k) (by rw[x]) (fun e=>absurd (x.symm.trans e) T.o)) (j.2.B (j.1.d 5 _))
theorem KH (w:X)(S:Nat->Prop)(g:Nat)(s:dz)(c:UInt8)(h:jC w S g s)(a:kb s):
 Calls prog 383 #[Q (M ⟨g,0,U⟩),I .u8 c.toNat] w fun e w'=>uA S g s c w e w':=by
 by_cases b:fJ s=0
 . obtain⟨d,i⟩:=kN.1 b;have:=a.e;by_cases f:s.b=1
   . exact MT w S g s c h a d f
   . exact MV w S g s c h a d (by omega)
 . exact Mt w S g s c h b
