import Derived.Test.YtodmelffkfbalaaGreatDoorPk24
import Derived.Test.YtodmelffkfbalaaGreatDoorPk20
open Go.Value renaming int->I,string->V,pointer->Q
open Go.IntKind renaming i64->J
open Go.Ending renaming returned->Y
open Option renaming none->U,some->M
open Bool renaming false->F
open Go renaming World->X
set_option maxHeartbeats 1600000
open Go.Proofs.Tryz
namespace Go.Proofs.YtodmelffkfbalaaGreatDoor
open Go.RowKit
theorem Py (c:UInt8)(s:ae):∃a r b,jV c s=.tuple #[V a,V r,.bool b]∧a.data.toList=s.data.toList.take (aV c s.data.toList)∧a.size<=s.size:=by
 have d:s.data.toList.length=s.size:=by rw[cJ];rfl
 unfold jV;by_cases h:aV c s.data.toList=s.size
 . rw[if_pos h];exact⟨s,_,_,rfl,by rw[h,<-d,eQ],ak _⟩
 . rw[if_neg h];exact⟨_,_,_,rfl,by rw[Lib.extract_data];simp,by simp;omega⟩
inductive SL (S:Nat->Prop)(g gl:Nat)(nx lf rm fd code:Int)(ln:cx)(n:Int)(ok:Bool)(w:X)(e:Ending)(w':X):Prop
 | none (t:am S w w') (h:ok=F) (he:e=Y (I J 7)) (r:cS w' S g gl nx lf rm fd code ln)
 | long (t:am S w w') (h:ok=true) (h1:rm<n) (he:e=Y (I J 4)) (r:cS w' S g gl nx lf rm fd code ln)
 | last (t:am S w w') (h:ok=true) (h1:n<=rm) (h2:n=0) (he:e=Y (I J 0)) (r:cS w' S g gl 2 lf rm fd code ln)
 | more (t:am S w w') (h:ok=true) (h1:n<=rm) (h2:0<n) (he:e=Y (I J 0)) (r:cS w' S g gl 1 n (rm-n) fd code ln)
inductive S9 (S:Nat->Prop)(g gl:Nat)(nx lf rm fd code:Int)(ln:cx)(s:ab)(w:X)(e:Ending)(w':X):Prop
 | bad (t:am S w w') (h:s≠[]) (he:e=Y (I J 5)) (r:cS w' S g gl nx lf rm fd code ln)
 | good (t:am S w w') (h:s=[]) (he:e=Y (I J 0)) (r:cS w' S g gl 0 lf rm fd code ln)
inductive RC (S:Nat->Prop)(g gl:Nat)(nx lf rm fd code:Int)(ln:cx)(s:ab)(w:X)(e:Ending)(w':X):Prop
 | many (t:am S w w') (h:fd=16) (he:e=Y (I J 8)) (r:cS w' S g gl nx lf rm fd code ln)
 | one (t:am S w w') (h:fd≠16) (he:e=Y (I J ((aY s).a:Int))) (r:cS w' S g gl nx lf rm (fd+1) code ln)
section
variable {w:X} {S:Nat->Prop} {g gl:Nat} {nx lf rm fd code:Int} {ln:cx}
theorem MX (h:cS w S g gl nx lf rm fd code ln)(s:ae)(hs:s.size<=200)(q:0<=rm)(G:rm<=4000):
 Calls prog 415 #[Q (M ⟨g,0,U⟩),V s] w fun e w'=>SL S g gl nx lf rm fd code ln (fB s.data.toList).1 (fB s.data.toList).2 w e w':=by
 have n0:=EQ s.data.toList;obtain⟨a,r,b,t,ha,H⟩:=Py 59 s;have m:=rv s 59 w (by unfold maxLen;omega);rw[t] at m;have o:=fun W=>ty a W (by omega);have u:fB s.data.toList=bB 16 6 (Lib.trimS a.data.toList cf):=by unfold fB;rw[ha]
 have v:=yB a.data.toList;rw[cH] at v;have l:=fun W=>Ie ⟨(Lib.trimS a.data.toList cf).toArray⟩ W (by show(Lib.trimS _ _).toArray.size<=maxLen;rw[cz];unfold maxLen;omega);have p:(⟨(Lib.trimS a.data.toList cf).toArray⟩:ae).data.toList=Lib.trimS a.data.toList cf:=rfl;rw[p,<-u] at l;generalize (⟨(Lib.trimS a.data.toList cf).toArray⟩:ae)=tv at o l;generalize (fB s.data.toList).1=n at *;generalize (fB s.data.toList).2=ok at *;cases ok
 . go_enter func415,ntmps415;go_wp2_with fail;refine m.mono ?_;rintro e x ⟨rfl,i⟩;have j:=iZ i;go_wp2_with fail;refine(o _).mono ?_;rintro e y ⟨rfl,d⟩;have f:=au j d;go_wp2_with fail;refine(l _).mono ?_;rintro e z ⟨rfl,k⟩;subst k;go_wp2;go_ret;exact .none (am.f f) rfl rfl (h.r f)
 . by_cases B:rm<n
   . have L:decide (n > rm)=true:=br B;go_enter func415,ntmps415;go_wp2_with fail;refine m.mono ?_;rintro e x ⟨rfl,i⟩;have j:=iZ i;go_wp2_with fail;refine(o _).mono ?_;rintro e y ⟨rfl,d⟩;have f:=au j d;have c:=h.r f;have C:=c.a 3 (by decide);go_wp2_with fail;refine(l _).mono ?_;rintro e z ⟨rfl,k⟩;subst k;go_wp2;go_ret;exact .long (am.f f) rfl B rfl c
   . have L:decide (n > rm)=F:=ba B;by_cases D:n=0
     . subst D;go_enter func415,ntmps415;go_wp2_with fail;refine m.mono ?_;rintro e x ⟨rfl,i⟩;have j:=iZ i;go_wp2_with fail;refine(o _).mono ?_;rintro e y ⟨rfl,d⟩;have f:=au j d;have c:=h.r f;have C:=c.a 3 (by decide);have N:=c.a 1 (by decide);have T:=c.j 1;go_wp2_with fail;refine(l _).mono ?_;rintro e z ⟨rfl,k⟩;subst k;go_wp2;go_ret;exact .last ((am.f f).a (c.f 1 _) (fun _ e _=>e)) rfl q rfl rfl (c.B 2)
     . have tz:(n==0)=F:=aQ.2 D;go_enter func415,ntmps415;go_wp2_with fail;refine m.mono ?_;rintro e x ⟨rfl,i⟩;have j:=iZ i;go_wp2_with fail;refine(o _).mono ?_;rintro e y ⟨rfl,d⟩;have f:=au j d;have c:=h.r f;have C:=c.a 3 (by decide);have N:=c.a 1 (by decide);have c2:=c.a 2 (by decide);have T:=c.j 1;have f2:=c.j 2;have f3:=c.j 3;go_wp2_with fail;refine(l _).mono ?_;rintro e z ⟨rfl,k⟩;subst k;go_wp2;go_ret;exact .more ((am.f f).a ((c.f 1 _).a (((c.B 1).f 2 _).a (((c.B 1).H n).f 3 _) (fun _ e _=>e)) (fun _ e _=>e)) (fun _ e _=>e)) rfl (by omega) (by omega) rfl (((c.B 1).H n).mI (rm-n))
theorem Pz (h:cS w S g gl nx lf rm fd code ln)(s:ae):
 Calls prog 416 #[Q (M ⟨g,0,U⟩),V s] w fun e w'=>S9 S g gl nx lf rm fd code ln s.data.toList w e w':=by
 have c:=h.a 1 (by decide);have d:=h.j 1;have b:=aa (Lib.toList_data s);by_cases a:s.data.toList=[]
 . obtain rfl:s=⟨#[]⟩:=qe s (by rw[<-cH,a];rfl);go_enter func416,ntmps416;go_wp2;go_ret;exact .good (h.f 1 _) rfl rfl (h.B 0)
 . have f:(s.toList==[])=F:=by rw[aQ,b.o];exact a
   go_enter func416,ntmps416;go_wp2;go_ret;exact .bad (am.B _ _) a rfl h
theorem Mg (h:cS w S g gl nx lf rm fd code ln)(s:ae)(q:s.size<=200)(i:0<=fd)(j:fd<=16):
 Calls prog 417 #[Q (M ⟨g,0,U⟩),V s] w fun e w'=>RC S g gl nx lf rm fd code ln s.data.toList w e w':=by
 have r:=h.a 4 (by decide);have t:=h.j 4;have b:=fun W=>yq s W (by omega);unfold tV at b;have f:=h.lI (fd+1);have l:=h.f 4 (I J (fd+1));by_cases a:fd=16
 . subst a;go_enter func417,ntmps417;go_wp2;go_ret;exact .many (am.B _ _) rfl rfl h
 . have m:(fd==16)=F:=aQ.2 a;generalize (⟨(aY s.data.toList).b.toArray⟩:ae)=n at b;generalize (⟨(aY s.data.toList).c.toArray⟩:ae)=o at b;generalize p:(aY s.data.toList).a=k at b;go_enter func417,ntmps417;go_wp2_with fail;refine(b _).mono ?_;rintro e u ⟨rfl,c⟩;go_wp2;go_ret;have d:=c.alloc c.size (.cells #[V n,V o] 148);exact .one (l.a (am.f d) (fun _ e _=>e)) a (by rw[p];rfl) (f.r d)
end
inductive vy (S:Nat->Prop)(g gl:Nat)(ln:cx)(s:dz)(t:ab)(w:X)(e:Ending)(w':X):Prop
 | mk (nx lf rm fd:Int) (hT:am S w w') (he:e=Y (.tuple #[.bool (decide ((fA s t).a=0∧(fA s t).b=4)),I J ((fA s t).a:Int)]))
  (r:cS w' S g gl nx lf rm fd 0 ln) (h:fm (fA s t)=0->nx=(hQ (fA s t):Int)∧lf=(jU (fA s t):Int)∧rm=4000-((fA s t).f:Int)∧fd=((fA s t).e:Int))
theorem vy.a {S:Nat->Prop}{g f:Nat}{ln:cx}{s a:dz}{t:ab}{w:X}{e:Ending}{w':X}(i:fA s t=a)(b:Bool)(k:Nat)(nx lf c d:Int)(j:am S w w')(l:e=Y (.tuple #[.bool b,I J (k:Int)]))
 (m:b=decide (a.a=0∧a.b=4)) (n:a.a=k) (r:cS w' S g f nx lf c d 0 ln) (h:fm a=0->nx=(hQ a:Int)∧lf=(jU a:Int)∧c=4000-(a.f:Int)∧d=(a.e:Int)):vy S g f ln s t w e w':=by
 subst i;subst m;subst n;exact .mk nx lf c d j l r h
section
variable {w:X} {S:Nat->Prop} {g gl:Nat} {ln:cx} {s:dz}
theorem TX (C:jT s)(z:s.b=0)(D:s.a=0)(h:cS w S g gl 0 0 (4000-(s.f:Int)) (s.e:Int) 0 ln)(t:ae)(G:t.size<=200):
 Calls prog 414 #[Q (M ⟨g,0,U⟩),V t] w fun e w'=>vy S g gl ln s t.data.toList w e w':=by
 have l:=C.f;have H:=aa (MX h t G (by omega) (by omega));have L:=h.a 1 (by decide);have q:=(EQ t.data.toList).1;have u:Hid (fA s t.data.toList=(if (fB t.data.toList).2=F then { s with a:=7 } else if 4000<s.f+(fB t.data.toList).1.toNat then { s with a:=4 } else if (fB t.data.toList).1.toNat=0 then { s with b:=3 } else { s with b:=1,c:=(fB t.data.toList).1.toNat,f:=s.f+(fB t.data.toList).1.toNat })):=by
  unfold Hid fA;rw[if_pos z]
 generalize (fB t.data.toList).1=n at *;generalize (fB t.data.toList).2=ok at *;have N:=z;have B:=aa D;have v:=aa l;have x:=aa q
 go_enter func414,ntmps414;go_wp2_with fail;refine H.o.mono ?_;rintro e T (⟨c,d,f,r⟩ | ⟨c,d,b,f,r⟩ | ⟨c,d,b,m,f,r⟩ | ⟨c,d,b,m,f,r⟩)
 . subst f;have i:=c;have j:=aa r;have k:=aa d
   go_wp2;go_ret2;have a:=u.o;rw[if_pos k.o] at a;exact vy.a a F 7 _ _ _ _ i rfl (by simp) rfl j.o (fun e=>absurd (kz.1 e).1 (by show(7:Nat)≠0;omega))
 . subst f;have i:=c;have j:=aa r;have k:=aa d;have p:=aa b
   go_wp2;go_ret2;have a:=u.o;have b:=p.o;have q:=x.o
   rw[if_neg (by rw[k.o];simp),if_pos (by omega)] at a;exact vy.a a F 4 _ _ _ _ i rfl (by simp) rfl j.o (fun e=>absurd (kz.1 e).1 (by show(4:Nat)≠0;omega))
 . subst f;have i:=c;have j:=aa r;have k:=aa d;have p:=aa b;have y:=aa m
   go_wp2;go_ret2;have a:=u.o;have b:=p.o;have m:=y.o;have q:=x.o
   rw[if_neg (by rw[k.o];simp),if_neg (by omega),if_pos (by omega)] at a;exact vy.a a F 0 _ _ _ _ i rfl (by simp) B.o j.o (fun e=>⟨rfl,rfl,rfl,rfl⟩)
 . subst f;have i:=c;have j:=aa r;have k:=aa d;have p:=aa b;have y:=aa m
   go_wp2;go_ret2;have a:=u.o;have b:=p.o;have m:=y.o;have q:=x.o;have l:=v.o
   rw[if_neg (by rw[k.o];simp),if_neg (by omega),if_neg (by omega)] at a;exact vy.a a F 0 _ _ _ _ i rfl (by simp) B.o j.o (fun e=>⟨rfl,(by show n=((if (1:Nat)=1 then n.toNat else 0:Nat):Int);rw[if_pos rfl];omega),(by show 4000-(s.f:Int)-n=4000-((s.f+n.toNat:Nat):Int);omega),rfl⟩)
theorem RD (l:s.b=2)(m:s.a=0)(h:cS w S g gl 1 0 (4000-(s.f:Int)) (s.e:Int) 0 ln)(t:ae):
 Calls prog 414 #[Q (M ⟨g,0,U⟩),V t] w fun e w'=>vy S g gl ln s t.data.toList w e w':=by
 have n:=h.a 1 (by decide);have k:Hid (fA s t.data.toList=if t.data.toList≠[] then { s with a:=5 } else { s with b:=0 }):=by
  unfold Hid fA;rw[if_neg (by omega),if_pos l]
 go_enter func414,ntmps414;go_wp2_with fail;refine(Pz h t).mono ?_;rintro e p (⟨b,c,d,r⟩ | ⟨b,c,d,r⟩)
 . subst d;have f:=b;have i:=aa r;have j:=aa c
   go_wp2;go_ret2;have a:=k.o;rw[if_pos j.o] at a;exact vy.a a F 5 _ _ _ _ f rfl (by simp) rfl i.o (fun e=>absurd (kz.1 e).1 (by show(5:Nat)≠0;omega))
 . subst d;have f:=b;have i:=aa r;have j:=aa c
   go_wp2;go_ret2;have a:=k.o;rw[if_neg (fun e=>e j.o)] at a;exact vy.a a F 0 _ _ _ _ f rfl (by simp) m i.o (fun e=>⟨rfl,rfl,rfl,rfl⟩)
theorem MY (x:jT s)(c:s.b=3)(y:s.a=0)(h:cS w S g gl 2 0 (4000-(s.f:Int)) (s.e:Int) 0 ln)(t:ae)(z:t.size<=200):
 Calls prog 414 #[Q (M ⟨g,0,U⟩),V t] w fun e w'=>vy S g gl ln s t.data.toList w e w':=by
 have B:=x.c;have G:=h.a 1 (by decide);have j:Hid (fA s t.data.toList=if t.data.toList=[] then { s with b:=4 } else if s.e=16 then { s with a:=8 } else if (aY t.data.toList).a≠0 then { s with a:=(aY t.data.toList).a } else { s with e:=s.e+1 }):=by
  unfold Hid fA;rw[if_neg (by omega),if_neg (by omega)]
 have l:=aa (Lib.toList_data t);have C:=aa h;have m:=aa y;have D:=aa c
 by_cases n:t.data.toList=[]
 . obtain rfl:t=⟨#[]⟩:=qe t (by rw[<-cH,n];rfl);go_enter func414,ntmps414;go_wp2;go_ret2;have a:=j.o;rw[if_pos trivial] at a;exact vy.a a true 0 _ _ _ _ (am.B _ _) rfl (by simp[m.o]) m.o C.o (fun e=>absurd rfl (kz.1 e).2)
 . have H:(t.toList==[])=F:=by rw[aQ,l.o];exact n
   have v:=aa n;go_enter func414,ntmps414;go_wp2_with fail;refine(Mg h t z (by omega) (by omega)).mono ?_;rintro e L (⟨p,d,q,r⟩ | ⟨p,d,q,r⟩)
   . subst q;have f:=p;have i:=aa r;have u:=aa d
     go_wp2;go_ret2;have a:=j.o;have d:=u.o;rw[if_neg v.o,if_pos (by omega)] at a;exact vy.a a F 8 _ _ _ _ f rfl (by simp) rfl i.o (fun e=>absurd (kz.1 e).1 (by show(8:Nat)≠0;omega))
   . subst q;have f:=p;have i:=aa r;have u:=aa d
     generalize N:(aY t.data.toList).a=k at *;go_wp2;go_ret2;have a:=j.o;have d:=u.o;have c:=D.o
     rw[if_neg v.o,if_neg (by omega)] at a;by_cases b:k=0
     . rw[if_neg (fun e=>e b)] at a;subst b;exact vy.a a F 0 _ _ _ _ f rfl (by simp[c]) m.o i.o (fun e=>⟨by show(2:Int)=((hQ { s with e:=s.e+1 }:Nat):Int);unfold hQ;simp[c],by show(0:Int)=((jU { s with e:=s.e+1 }:Nat):Int);unfold jU;simp[c],rfl,by show(s.e:Int)+1=((s.e+1:Nat):Int);omega⟩)
     . rw[if_pos b] at a;exact vy.a a F k _ _ _ _ f rfl (by simp[b]) rfl i.o (fun e=>absurd (kz.1 e).1 b)
end
inductive tI (S:Nat->Prop)(g:Nat)(s:dz)(c:UInt8)(w:X)(e:Ending)(w':X):Prop
 | mk (bo:ag) (bc:Nat) (he:e=Y (.tuple #[.slice bo (iG s c).length bc,.bool (jb s c),I J ((de s c).a:Int)])) (hI:aB w' bo bc (iG s c)) (hC:ju w' (ay S w) g (de s c)) (hT:am S w w')
theorem tI.none {S:Nat->Prop}{g:Nat}{s:dz}{c:UInt8}{w:X}{e:Ending}{w':X}(b:Bool)(k:Nat)(d:e=Y (.tuple #[.slice U 0 0,.bool b,I J (k:Int)]))(a:iG s c=[])(f:jb s c=b)(i:(de s c).a=k)(j:ju w' (ay S w) g (de s c))(l:am S w w'):tI S g s c w e w' :=
 .mk U 0 (by rw[a,f,i];exact d) (by rw[a];exact aB.f w') j l
theorem cS.lH {w W:X}{S:Nat->Prop}{g a:Nat}{nx lf b c code:Int}{ln:cx}(h:cS w S g a nx lf b c code ln):cS w (ay S W) g a nx lf b c code ln:=h.kU (fun _ _ e=>Or.inl e)
theorem ju.f {w:X}{S:Nat->Prop}{g d:Nat}{nx lf b c code:Int}{ln:cx}{s a:dz}(e:s=a)(h:cS w S g d nx lf b c code ln)(f:code=(fm a:Int))(i:fm a=0->ln=a.d∧nx=(hQ a:Int)∧lf=(jU a:Int)∧b=4000-(a.f:Int)∧c=(a.e:Int)):ju w S g s:=by
 subst e;subst f;exact⟨d,nx,lf,b,c,ln,h,i⟩
theorem AA {s:dz}(h:s.a≠0):fm s=s.a:=by unfold fm;rw[if_pos h]
theorem AB {s:dz}(h:s.a=0)(a:s.b=4):fm s=18:=by unfold fm;rw[if_neg (fun e=>e h),if_pos a]
theorem LY (w:X)(S:Nat->Prop)(g:Nat)(s:dz)(c:UInt8)(h:ju w S g s)(d:fm s≠0):
 Calls prog 413 #[Q (M ⟨g,0,U⟩),I .u8 c.toNat] w fun e w'=>tI S g s c w e w':=by
 obtain⟨j,nx,lf,l,m,n,r,_⟩:=h;have z:=r.a 5 (by decide);have B:((fm s:Int) != 0)=true:=by rw[di];omega
 have p:(de s c).a=fm s∧fm (de s c)=fm s∧iG s c=[]∧jb s c=F:=by
  unfold fm at d;by_cases a:s.a=0
  . rw[if_neg (fun e=>e a)] at d;by_cases b:s.b=4
    . have f:de s c={ s with a:=18 }:=by unfold de;rw[if_neg (fun e=>e a),if_pos b]
      have q:fm { s with a:=18 }=18:=AA (by show(18:Nat)≠0;omega);refine⟨by rw[f,AB a b],by rw[f,q,AB a b],by unfold iG;rw[if_neg (fun e=>by omega)],by unfold jb;rw[cC];exact fun e=>e.2.1 b⟩
    . rw[if_neg b] at d;exact absurd rfl d
  . have f:=It a c;refine⟨by rw[f];unfold fm;rw[if_pos a],by rw[f],by unfold iG;rw[if_neg (fun e=>a e.1)],by unfold jb;rw[cC];exact fun e=>a e.1⟩
 have t:=p;have u:=aa d
 generalize fm s=k at *;go_enter func413,ntmps413;go_wp2;go_quiet (fail)
 go_wp2;go_ret3
 obtain⟨v,i,x,b⟩:=t;have y:am S w (w.drewN nq):=am.H _ _ _;refine .none F k rfl x b v ⟨j,nx,lf,l,m,n,?_,fun e=>absurd (i.symm.trans e) u.o⟩ y;rw[i];exact(r.jY (am.H (fun _=>False) w nq) (fun _ _ e=>e)).lH
theorem Mh (w:X)(S:Nat->Prop)(g:Nat)(s:dz)(c:UInt8)(h:ju w S g s)(j:jT s)(a:s.a=0)(b:s.b=1):
 Calls prog 413 #[Q (M ⟨g,0,U⟩),I .u8 c.toNat] w fun e w'=>tI S g s c w e w':=by
 have k:=kz.2 ⟨a,by omega⟩;obtain⟨z,nx,lf,B,C,D,r,p⟩:=h;obtain⟨rfl,rfl,rfl,rfl,rfl⟩:=p k;rw[k] at r;have l:=j.a b;have q:=j.b;have d:jU s=s.c:=by unfold jU;rw[if_pos b]
 rw[d] at r;have f:hQ s=1:=by unfold hQ;rw[if_neg (by omega),if_neg (by omega)]
 rw[f] at r;have G:=r.a 5 (by decide);have H:=r.a 2 (by decide);have L:=r.j 2;have N:decide ((s.c:Int) > 0)=true:=br (by omega);have t:=r.H ((s.c:Int)-1);have u:=r.f 2 (I J ((s.c:Int)-1));have i:de s c={ s with c:=s.c-1,b:=if s.c<=1 then 2 else 1 }:=by unfold de;rw[if_neg (fun e=>e a),if_neg (by omega),if_pos b]
 have m:Hid (iG s c=[c]):=by unfold Hid iG;rw[if_pos ⟨a,b⟩]
 have v:Hid (jb s c=F):=by
  unfold Hid jb;rw[cC,i];intro e;have:(if s.c<=1 then 2 else 1)=4:=e.2.2.2;split at this <;> omega
 have x:=a;have y:=aa l
 go_enter func413,ntmps413;go_wp2;go_ret3
 have n:Below (w.setCell ⟨g,2,U⟩ (I J ((s.c:Int)-1))).heap.size (w.setCell ⟨g,2,U⟩ (I J ((s.c:Int)-1))) ((w.setCell ⟨g,2,U⟩ (I J ((s.c:Int)-1))).alloc (.cells #[I .u8 (c.toNat:Int)] 5)):=(ar _ _).alloc (ak _) _;have a:=x;have l:=y.o;refine .mk (M ⟨(w.setCell ⟨g,2,U⟩ (I J ((s.c:Int)-1))).heap.size,0,U⟩) 1 ?_ ?_ (ju.f i ((t.r n).lH (W:=w)) ?_ (fun _=>⟨rfl,?_,?_,rfl,rfl⟩)) (u.a (am.f n) (fun _ e _=>e))
 . rw[m.o,v.o,i];show _=Ending.returned (.tuple #[.slice (M ⟨_,0,U⟩) 1 1,.bool F,I J ((s.a:Nat):Int)]);rw[a];simp
 . rw[m.o];exact aB.B _ c _ _
 . rw[kz (s:={ s with c:=s.c-1,b:=if s.c<=1 then 2 else 1 }) |>.2 ⟨a,by show(if s.c<=1 then 2 else 1)≠4;split <;> omega⟩]
 . unfold hQ;simp only;split <;> rfl
 . unfold jU;simp only;split
   . rw[if_neg (by omega)];omega
   . rw[if_pos rfl];omega
theorem MZ {w:X}{S:Nat->Prop}{g c:Nat}{ln:cx}{s:dz}(d:jT s)(a:s.b=0∨s.b=2∨s.b=3)(b:s.a=0)(h:cS w S g c (hQ s:Int) 0 (4000-(s.f:Int)) (s.e:Int) 0 ln)(t:ae)(f:t.size<=200):
 Calls prog 414 #[Q (M ⟨g,0,U⟩),V t] w fun e w'=>vy S g c ln s t.data.toList w e w':=by
 rcases a with a | a | a
 . have e:hQ s=0:=by unfold hQ;rw[if_pos a]
   rw[e] at h;exact TX d a b h t f
 . have e:hQ s=1:=by unfold hQ;rw[if_neg (by omega),if_neg (by omega)]
   rw[e] at h;exact RD a b h t
 . have e:hQ s=2:=by unfold hQ;rw[if_neg (by omega),if_pos a]
   rw[e] at h;exact MY d a b h t f
theorem SM (s:dz)(t:ab):(fA s t).d=s.d:=by
 unfold fA;repeat (first | rfl | split)
theorem cS.jK {w b:X}{S:Nat->Prop}{g c:Nat}{nx lf d f code:Int}{ln a:cx}(h:cS w S g c nx lf d f code ln)(j:cP b (ay (fun k=>S k∧k≠g) w) c a)(i:am (fun k=>S k∧k≠g) w b):cS b (ay S w) g c nx lf d f code a∧am S w b:=by
 have l:=(bO.1 h.b).1;refine⟨⟨i.y h.b (fun e=>e.2 rfl),Or.inl h.c,j.a (fun k _ e=>?_)⟩,i.j (fun k e=>e.1)⟩;rcases e with e | e
 . exact⟨Or.inl e.1,e.2⟩
 . exact⟨Or.inr e,by omega⟩
theorem ET {s:cx}{c:UInt8}(h:fH s c=true):bi s c=dw∧cV s c=s.b:=by grind [fH,bi,dw,cV]
theorem PA {s:dz}{c:UInt8}(a:s.a=0)(b:s.b=0∨s.b=2∨s.b=3):iG s c=[]∧de s c=if (bi s.d c).a≠0 then { s with a:=(bi s.d c).a } else if fH s.d c=true then fA { s with d:=dw } (cV s.d c) else { s with d:=bi s.d c }:=by
 refine⟨by unfold iG;rw[if_neg (fun e=>by omega)],?_⟩;unfold de;rw[if_neg (fun e=>e a),if_neg (by omega),if_neg (by omega)]
theorem Mi (w:X)(S:Nat->Prop)(g:Nat)(s:dz)(c:UInt8)(h:ju w S g s)(v:jT s)(q:s.a=0)(h1:s.b=0∨s.b=2∨s.b=3):
 Calls prog 413 #[Q (M ⟨g,0,U⟩),I .u8 c.toNat] w fun e w'=>tI S g s c w e w':=by
 have x:=kz.2 ⟨q,by omega⟩;obtain⟨gl,nx,lf,rm,fd,ln,r,C⟩:=h;obtain⟨rfl,rfl,rfl,rfl,rfl⟩:=C x;rw[x] at r;have elf:jU s=0:=by unfold jU;rw[if_neg (by omega)]
 rw[elf] at r;have c5:=r.a 5 (by decide);have c2:=r.a 2 (by decide);have c0:=r.a 0 (by decide);have l:=ya w _ gl s.d c r.d v.d.c;unfold kG at l;obtain⟨ho,m⟩:=PA (c:=c) q h1;have HO:=aa ho;have HR:=aa r;by_cases i:(bi s.d c).a=0
 . rw[if_neg (fun e=>e i)] at m;cases y:fH s.d c
   . rw[if_neg (by rw[y];simp)] at m;have D:jb s c=F:=by
      unfold jb;rw[cC,m];intro e;have:s.b=4:=e.2.2.2;omega
     have p:=m;have t:=aa D;have H0:=aa q;have H1:=aa h1
     rw[y,i] at l;generalize (⟨(cV s.d c).toArray⟩:ae)=bs at l;go_enter func413,ntmps413;go_wp2_with fail;refine l.mono ?_;rintro e w1 ⟨rfl,G,z⟩;have j:=HR.o.jK G z;have c5:=j.1.a 5 (by decide);have f5:=j.1.j 5;go_wp2;go_ret3
     have q:=H0.o;have h1:=H1.o
     have x:fm { s with d:=bi s.d c }=0:=kz.2 ⟨q,by show s.b≠4;omega⟩;refine .none F 0 rfl HO.o t.o (by rw[p];exact q) (ju.f p (j.1.y 0) (by rw[x];rfl) (fun _=>⟨rfl,rfl,?_,rfl,rfl⟩)) (j.2.jK (j.1.f 5 _));unfold jU;rw[if_neg (by show s.b≠1;omega)]
   . rw[if_pos y] at m;obtain⟨e1,e2⟩:=ET y;have hsh:=v.d.c;have hg':jT { s with d:=dw }:=⟨v.e,qu.a,rfl,v.a,v.b,v.f,v.c⟩;have sQ:=fun(W:X) (S':Nat->Prop) (hr:cS W S' g gl (hQ s:Int) 0 (4000-(s.f:Int)) (s.e:Int) 0 dw)=>MZ (s:={ s with d:=dw }) hg' h1 q hr ⟨s.d.b.toArray⟩ (by show s.d.b.toArray.size<=200;rw[cz];exact hsh);have H:(⟨s.d.b.toArray⟩:ae).data.toList=s.d.b:=rfl;rw[H] at sQ;rw[y,i,e2] at l;rw[e1] at l;rw[e2] at m;have ahH:(fA { s with d:=dw } s.d.b).d=dw:=SM _ _;have D:jb s c=decide ((fA { s with d:=dw } s.d.b).a=0∧(fA { s with d:=dw } s.d.b).b=4):=by
      unfold jb;rw[m];have u:s.b≠4:=by omega
      simp[q,u]
     have p:=m;have t:=aa D;have HLN:=aa ahH
     generalize (⟨s.d.b.toArray⟩:ae)=bs at l sQ;go_enter func413,ntmps413;go_wp2_with fail;refine l.mono ?_;rintro e w1 ⟨rfl,G,z⟩;have j:=HR.o.jK G z;go_wp2_with fail;refine(sQ _ _ j.1).mono ?_;rintro e w2 ⟨nx,lf,rm,fd,z,he,r,C⟩;subst he;have T2:=(j.2.jK z);have B:=aa r;have K2:=aa C
     generalize fA { s with d:=dw } s.d.b=n at *;have c5:=B.out.a 5 (by decide);have f5:=B.out.j 5;by_cases u:n.a=0∧n.b=4
     . have L:decide (n.a=0∧n.b=4)=true:=br u;have N:=u.1;have HP:fm n=18:=AB u.1 u.2;rw[L] at t;rw[L,N];go_wp2;go_ret3
       refine .none true 0 rfl HO.o t.o (by rw[p];exact N) (ju.f p ((B.out.y 0).y 18) (by rw[HP];rfl) (fun e=>by rw[HP] at e;cases e)) ?_;exact(T2.jK (B.out.f 5 _)).jK ((B.out.y 0).f 5 _)
     . have L:decide (n.a=0∧n.b=4)=F:=ba u;have HP:Hid (fm n=n.a):=by
        by_cases hc:n.a=0
        . unfold Hid;rw[kz.2 ⟨hc,fun e=>u ⟨hc,e⟩⟩,hc]
        . exact AA hc
       rw[L] at t;rw[L];generalize C:n.a=k at *;go_wp2;go_ret3
       refine .none F k rfl HO.o t.o (by rw[p];exact C) (ju.f p (B.out.y k) (by rw[HP.o]) (fun e=>?_)) (T2.jK (B.out.f 5 _));obtain⟨a,b,d,f⟩:=K2.out e;exact⟨HLN.o.symm,a,b,d,f⟩
 . rw[if_pos i] at m;have y:=ES i;have D:jb s c=F:=by
    unfold jb;rw[cC,m];intro e;exact i e.2.2.1
   have p:=m;have t:=aa D;have T:=aa i
   rw[y] at l;generalize hkk:(bi s.d c).a=k at *;generalize (⟨(cV s.d c).toArray⟩:ae)=bs at l;go_enter func413,ntmps413;go_wp2_with fail;refine l.mono ?_;rintro e w1 ⟨rfl,G,z⟩;have j:=HR.o.jK G z;have c5:=j.1.a 5 (by decide);have f5:=j.1.j 5;go_wp2;go_ret3
   have x:fm { s with a:=k }=k:=AA (s:={ s with a:=k }) T.o;exact .none F k rfl HO.o t.o (by rw[p]) (ju.f p (j.1.y k) (by rw[x]) (fun e=>absurd (x.symm.trans e) T.o)) (j.2.jK (j.1.f 5 _))
theorem I7 (w:X)(S:Nat->Prop)(g:Nat)(s:dz)(c:UInt8)(h:ju w S g s)(a:jT s):
 Calls prog 413 #[Q (M ⟨g,0,U⟩),I .u8 c.toNat] w fun e w'=>tI S g s c w e w':=by
 by_cases b:fm s=0
 . obtain⟨d,i⟩:=kz.1 b;have:=a.e;by_cases f:s.b=1
   . exact Mh w S g s c h a d f
   . exact Mi w S g s c h a d (by omega)
 . exact LY w S g s c h b
