import Derived.Test.YtodmelffkfbalaaGreatDoorPk25
import Derived.Test.YtodmelffkfbalaaGreatDoorPk20
open Go.Value renaming int->I,string->V,pointer->Q
open Go.IntKind renaming i64->J
open Go.Ending renaming returned->Y
open Option renaming none->U,some->M
open Bool renaming false->F
open Go renaming World->X
set_option maxHeartbeats 1600000
open Go.Proofs.Tryz
namespace Go.Proofs.YtodmelffkfbalaaGreatDoor
open Go.RowKit
theorem PI (c:UInt8)(s:ae):∃a r b,jY c s=.tuple #[V a,V r,.bool b]∧a.data.toList=s.data.toList.take (aV c s.data.toList)∧a.size<=s.size:=by
 have d:s.data.toList.length=s.size:=by rw[cI];rfl
 unfold jY;by_cases h:aV c s.data.toList=s.size
 . rw[if_pos h];exact⟨s,_,_,rfl,by rw[h,<-d,fL],am _⟩
 . rw[if_neg h];exact⟨_,_,_,rfl,by rw[Lib.extract_data];simp,by simp;omega⟩
inductive SO (S:Nat->Prop)(g gl:Nat)(nx lf rm fd code:Int)(ln:ct)(n:Int)(ok:Bool)(w:X)(e:Ending)(w':X):Prop
 | none (t:ak S w w') (h:ok=F) (he:e=Y (I J 7)) (r:cP w' S g gl nx lf rm fd code ln)
 | long (t:ak S w w') (h:ok=true) (h1:rm<n) (he:e=Y (I J 4)) (r:cP w' S g gl nx lf rm fd code ln)
 | last (t:ak S w w') (h:ok=true) (h1:n<=rm) (h2:n=0) (he:e=Y (I J 0)) (r:cP w' S g gl 2 lf rm fd code ln)
 | more (t:ak S w w') (h:ok=true) (h1:n<=rm) (h2:0<n) (he:e=Y (I J 0)) (r:cP w' S g gl 1 n (rm-n) fd code ln)
inductive Tl (S:Nat->Prop)(g gl:Nat)(nx lf rm fd code:Int)(ln:ct)(s:ab)(w:X)(e:Ending)(w':X):Prop
 | bad (t:ak S w w') (h:s≠[]) (he:e=Y (I J 5)) (r:cP w' S g gl nx lf rm fd code ln)
 | good (t:ak S w w') (h:s=[]) (he:e=Y (I J 0)) (r:cP w' S g gl 0 lf rm fd code ln)
inductive RG (S:Nat->Prop)(g gl:Nat)(nx lf rm fd code:Int)(ln:ct)(s:ab)(w:X)(e:Ending)(w':X):Prop
 | many (t:ak S w w') (h:fd=16) (he:e=Y (I J 8)) (r:cP w' S g gl nx lf rm fd code ln)
 | one (t:ak S w w') (h:fd≠16) (he:e=Y (I J ((aZ s).a:Int))) (r:cP w' S g gl nx lf rm (fd+1) code ln)
section
variable {w:X} {S:Nat->Prop} {g gl:Nat} {nx lf rm fd code:Int} {ln:ct}
theorem Nr (h:cP w S g gl nx lf rm fd code ln)(s:ae)(hs:s.size<=200)(q:0<=rm)(G:rm<=4000):
 Calls prog 415 #[Q (M ⟨g,0,U⟩),V s] w fun e w'=>SO S g gl nx lf rm fd code ln (fC s.data.toList).1 (fC s.data.toList).2 w e w':=by
 have n0:=ET s.data.toList;obtain⟨a,r,b,t,ha,H⟩:=PI 59 s;have m:=rB s 59 w (by unfold maxLen;omega);rw[t] at m;have o:=fun W=>tD a W (by omega);have u:fC s.data.toList=bB 16 6 (Lib.trimS a.data.toList bX):=by unfold fC;rw[ha]
 have v:=yA a.data.toList;rw[cA] at v;have l:=fun W=>Il ⟨(Lib.trimS a.data.toList bX).toArray⟩ W (by show(Lib.trimS _ _).toArray.size<=maxLen;rw[cx];unfold maxLen;omega);have p:(⟨(Lib.trimS a.data.toList bX).toArray⟩:ae).data.toList=Lib.trimS a.data.toList bX:=rfl;rw[p,<-u] at l;generalize (⟨(Lib.trimS a.data.toList bX).toArray⟩:ae)=tv at o l;generalize (fC s.data.toList).1=n at *;generalize (fC s.data.toList).2=ok at *;cases ok
 . go_enter func415,ntmps415;go_wp2_with fail;refine m.mono ?_;rintro e x ⟨rfl,i⟩;have j:=iP i;go_wp2_with fail;refine(o _).mono ?_;rintro e y ⟨rfl,d⟩;have f:=au j d;go_wp2_with fail;refine(l _).mono ?_;rintro e z ⟨rfl,k⟩;subst k;go_wp2;go_ret;exact .none (ak.e f) rfl rfl (h.j f)
 . by_cases B:rm<n
   . have L:decide (n > rm)=true:=bq B;go_enter func415,ntmps415;go_wp2_with fail;refine m.mono ?_;rintro e x ⟨rfl,i⟩;have j:=iP i;go_wp2_with fail;refine(o _).mono ?_;rintro e y ⟨rfl,d⟩;have f:=au j d;have c:=h.j f;have C:=c.a 3 (by decide);go_wp2_with fail;refine(l _).mono ?_;rintro e z ⟨rfl,k⟩;subst k;go_wp2;go_ret;exact .long (ak.e f) rfl B rfl c
   . have L:decide (n > rm)=F:=aX B;by_cases D:n=0
     . subst D;go_enter func415,ntmps415;go_wp2_with fail;refine m.mono ?_;rintro e x ⟨rfl,i⟩;have j:=iP i;go_wp2_with fail;refine(o _).mono ?_;rintro e y ⟨rfl,d⟩;have f:=au j d;have c:=h.j f;have C:=c.a 3 (by decide);have N:=c.a 1 (by decide);have T:=c.f 1;go_wp2_with fail;refine(l _).mono ?_;rintro e z ⟨rfl,k⟩;subst k;go_wp2;go_ret;exact .last ((ak.e f).a (c.e 1 _) (fun _ e _=>e)) rfl q rfl rfl (c.r 2)
     . have tz:(n==0)=F:=aO.2 D;go_enter func415,ntmps415;go_wp2_with fail;refine m.mono ?_;rintro e x ⟨rfl,i⟩;have j:=iP i;go_wp2_with fail;refine(o _).mono ?_;rintro e y ⟨rfl,d⟩;have f:=au j d;have c:=h.j f;have C:=c.a 3 (by decide);have N:=c.a 1 (by decide);have c2:=c.a 2 (by decide);have T:=c.f 1;have f2:=c.f 2;have f3:=c.f 3;go_wp2_with fail;refine(l _).mono ?_;rintro e z ⟨rfl,k⟩;subst k;go_wp2;go_ret;exact .more ((ak.e f).a ((c.e 1 _).a (((c.r 1).e 2 _).a (((c.r 1).B n).e 3 _) (fun _ e _=>e)) (fun _ e _=>e)) (fun _ e _=>e)) rfl (by omega) (by omega) rfl (((c.r 1).B n).lG (rm-n))
theorem PJ (h:cP w S g gl nx lf rm fd code ln)(s:ae):
 Calls prog 416 #[Q (M ⟨g,0,U⟩),V s] w fun e w'=>Tl S g gl nx lf rm fd code ln s.data.toList w e w':=by
 have c:=h.a 1 (by decide);have d:=h.f 1;have b:=aa (Lib.toList_data s);by_cases a:s.data.toList=[]
 . obtain rfl:s=⟨#[]⟩:=ql s (by rw[<-cA,a];rfl);go_enter func416,ntmps416;go_wp2;go_ret;exact .good (h.e 1 _) rfl rfl (h.r 0)
 . have f:(s.toList==[])=F:=by rw[aO,b.o];exact a
   go_enter func416,ntmps416;go_wp2;go_ret;exact .bad (ak.r _ _) a rfl h
theorem Mu (h:cP w S g gl nx lf rm fd code ln)(s:ae)(q:s.size<=200)(i:0<=fd)(j:fd<=16):
 Calls prog 417 #[Q (M ⟨g,0,U⟩),V s] w fun e w'=>RG S g gl nx lf rm fd code ln s.data.toList w e w':=by
 have r:=h.a 4 (by decide);have t:=h.f 4;have b:=fun W=>yt s W (by omega);unfold tZ at b;have f:=h.kW (fd+1);have l:=h.e 4 (I J (fd+1));by_cases a:fd=16
 . subst a;go_enter func417,ntmps417;go_wp2;go_ret;exact .many (ak.r _ _) rfl rfl h
 . have m:(fd==16)=F:=aO.2 a;generalize (⟨(aZ s.data.toList).b.toArray⟩:ae)=n at b;generalize (⟨(aZ s.data.toList).c.toArray⟩:ae)=o at b;generalize p:(aZ s.data.toList).a=k at b;go_enter func417,ntmps417;go_wp2_with fail;refine(b _).mono ?_;rintro e u ⟨rfl,c⟩;go_wp2;go_ret;have d:=c.alloc c.size (.cells #[V n,V o] 148);exact .one (l.a (ak.e d) (fun _ e _=>e)) a (by rw[p];rfl) (f.j d)
end
inductive vA (S:Nat->Prop)(g gl:Nat)(ln:ct)(s:dy)(t:ab)(w:X)(e:Ending)(w':X):Prop
 | mk (nx lf rm fd:Int) (hT:ak S w w') (he:e=Y (.tuple #[.bool (decide ((fB s t).a=0∧(fB s t).b=4)),I J ((fB s t).a:Int)]))
  (r:cP w' S g gl nx lf rm fd 0 ln) (h:fj (fB s t)=0->nx=(ib (fB s t):Int)∧lf=(jX (fB s t):Int)∧rm=4000-((fB s t).f:Int)∧fd=((fB s t).e:Int))
theorem vA.a {S:Nat->Prop}{g f:Nat}{ln:ct}{s a:dy}{t:ab}{w:X}{e:Ending}{w':X}(i:fB s t=a)(b:Bool)(k:Nat)(nx lf c d:Int)(j:ak S w w')(l:e=Y (.tuple #[.bool b,I J (k:Int)]))
 (m:b=decide (a.a=0∧a.b=4)) (n:a.a=k) (r:cP w' S g f nx lf c d 0 ln) (h:fj a=0->nx=(ib a:Int)∧lf=(jX a:Int)∧c=4000-(a.f:Int)∧d=(a.e:Int)):vA S g f ln s t w e w':=by
 subst i;subst m;subst n;exact .mk nx lf c d j l r h
section
variable {w:X} {S:Nat->Prop} {g gl:Nat} {ln:ct} {s:dy}
theorem T8 (C:jW s)(z:s.b=0)(D:s.a=0)(h:cP w S g gl 0 0 (4000-(s.f:Int)) (s.e:Int) 0 ln)(t:ae)(G:t.size<=200):
 Calls prog 414 #[Q (M ⟨g,0,U⟩),V t] w fun e w'=>vA S g gl ln s t.data.toList w e w':=by
 have l:=C.f;have H:=aa (Nr h t G (by omega) (by omega));have L:=h.a 1 (by decide);have q:=(ET t.data.toList).1;have u:Hid (fB s t.data.toList=(if (fC t.data.toList).2=F then { s with a:=7 } else if 4000<s.f+(fC t.data.toList).1.toNat then { s with a:=4 } else if (fC t.data.toList).1.toNat=0 then { s with b:=3 } else { s with b:=1,c:=(fC t.data.toList).1.toNat,f:=s.f+(fC t.data.toList).1.toNat })):=by
  unfold Hid fB;rw[if_pos z]
 generalize (fC t.data.toList).1=n at *;generalize (fC t.data.toList).2=ok at *;have N:=z;have B:=aa D;have v:=aa l;have x:=aa q
 go_enter func414,ntmps414;go_wp2_with fail;refine H.o.mono ?_;rintro e T (⟨c,d,f,r⟩ | ⟨c,d,b,f,r⟩ | ⟨c,d,b,m,f,r⟩ | ⟨c,d,b,m,f,r⟩)
 . subst f;have i:=c;have j:=aa r;have k:=aa d
   go_wp2;go_ret2;have a:=u.o;rw[if_pos k.o] at a;exact vA.a a F 7 _ _ _ _ i rfl (by simp) rfl j.o (fun e=>absurd (kz.1 e).1 (by show(7:Nat)≠0;omega))
 . subst f;have i:=c;have j:=aa r;have k:=aa d;have p:=aa b
   go_wp2;go_ret2;have a:=u.o;have b:=p.o;have q:=x.o
   rw[if_neg (by rw[k.o];simp),if_pos (by omega)] at a;exact vA.a a F 4 _ _ _ _ i rfl (by simp) rfl j.o (fun e=>absurd (kz.1 e).1 (by show(4:Nat)≠0;omega))
 . subst f;have i:=c;have j:=aa r;have k:=aa d;have p:=aa b;have y:=aa m
   go_wp2;go_ret2;have a:=u.o;have b:=p.o;have m:=y.o;have q:=x.o
   rw[if_neg (by rw[k.o];simp),if_neg (by omega),if_pos (by omega)] at a;exact vA.a a F 0 _ _ _ _ i rfl (by simp) B.o j.o (fun e=>⟨rfl,rfl,rfl,rfl⟩)
 . subst f;have i:=c;have j:=aa r;have k:=aa d;have p:=aa b;have y:=aa m
   go_wp2;go_ret2;have a:=u.o;have b:=p.o;have m:=y.o;have q:=x.o;have l:=v.o
   rw[if_neg (by rw[k.o];simp),if_neg (by omega),if_neg (by omega)] at a;exact vA.a a F 0 _ _ _ _ i rfl (by simp) B.o j.o (fun e=>⟨rfl,(by show n=((if (1:Nat)=1 then n.toNat else 0:Nat):Int);rw[if_pos rfl];omega),(by show 4000-(s.f:Int)-n=4000-((s.f+n.toNat:Nat):Int);omega),rfl⟩)
theorem RI (l:s.b=2)(m:s.a=0)(h:cP w S g gl 1 0 (4000-(s.f:Int)) (s.e:Int) 0 ln)(t:ae):
 Calls prog 414 #[Q (M ⟨g,0,U⟩),V t] w fun e w'=>vA S g gl ln s t.data.toList w e w':=by
 have n:=h.a 1 (by decide);have k:Hid (fB s t.data.toList=if t.data.toList≠[] then { s with a:=5 } else { s with b:=0 }):=by
  unfold Hid fB;rw[if_neg (by omega),if_pos l]
 go_enter func414,ntmps414;go_wp2_with fail;refine(PJ h t).mono ?_;rintro e p (⟨b,c,d,r⟩ | ⟨b,c,d,r⟩)
 . subst d;have f:=b;have i:=aa r;have j:=aa c
   go_wp2;go_ret2;have a:=k.o;rw[if_pos j.o] at a;exact vA.a a F 5 _ _ _ _ f rfl (by simp) rfl i.o (fun e=>absurd (kz.1 e).1 (by show(5:Nat)≠0;omega))
 . subst d;have f:=b;have i:=aa r;have j:=aa c
   go_wp2;go_ret2;have a:=k.o;rw[if_neg (fun e=>e j.o)] at a;exact vA.a a F 0 _ _ _ _ f rfl (by simp) m i.o (fun e=>⟨rfl,rfl,rfl,rfl⟩)
theorem M9 (x:jW s)(c:s.b=3)(y:s.a=0)(h:cP w S g gl 2 0 (4000-(s.f:Int)) (s.e:Int) 0 ln)(t:ae)(z:t.size<=200):
 Calls prog 414 #[Q (M ⟨g,0,U⟩),V t] w fun e w'=>vA S g gl ln s t.data.toList w e w':=by
 have B:=x.c;have G:=h.a 1 (by decide);have j:Hid (fB s t.data.toList=if t.data.toList=[] then { s with b:=4 } else if s.e=16 then { s with a:=8 } else if (aZ t.data.toList).a≠0 then { s with a:=(aZ t.data.toList).a } else { s with e:=s.e+1 }):=by
  unfold Hid fB;rw[if_neg (by omega),if_neg (by omega)]
 have l:=aa (Lib.toList_data t);have C:=aa h;have m:=aa y;have D:=aa c
 by_cases n:t.data.toList=[]
 . obtain rfl:t=⟨#[]⟩:=ql t (by rw[<-cA,n];rfl);go_enter func414,ntmps414;go_wp2;go_ret2;have a:=j.o;rw[if_pos trivial] at a;exact vA.a a true 0 _ _ _ _ (ak.r _ _) rfl (by simp[m.o]) m.o C.o (fun e=>absurd rfl (kz.1 e).2)
 . have H:(t.toList==[])=F:=by rw[aO,l.o];exact n
   have v:=aa n;go_enter func414,ntmps414;go_wp2_with fail;refine(Mu h t z (by omega) (by omega)).mono ?_;rintro e L (⟨p,d,q,r⟩ | ⟨p,d,q,r⟩)
   . subst q;have f:=p;have i:=aa r;have u:=aa d
     go_wp2;go_ret2;have a:=j.o;have d:=u.o;rw[if_neg v.o,if_pos (by omega)] at a;exact vA.a a F 8 _ _ _ _ f rfl (by simp) rfl i.o (fun e=>absurd (kz.1 e).1 (by show(8:Nat)≠0;omega))
   . subst q;have f:=p;have i:=aa r;have u:=aa d
     generalize N:(aZ t.data.toList).a=k at *;go_wp2;go_ret2;have a:=j.o;have d:=u.o;have c:=D.o
     rw[if_neg v.o,if_neg (by omega)] at a;by_cases b:k=0
     . rw[if_neg (fun e=>e b)] at a;subst b;exact vA.a a F 0 _ _ _ _ f rfl (by simp[c]) m.o i.o (fun e=>⟨by show(2:Int)=((ib { s with e:=s.e+1 }:Nat):Int);unfold ib;simp[c],by show(0:Int)=((jX { s with e:=s.e+1 }:Nat):Int);unfold jX;simp[c],rfl,by show(s.e:Int)+1=((s.e+1:Nat):Int);omega⟩)
     . rw[if_pos b] at a;exact vA.a a F k _ _ _ _ f rfl (by simp[b]) rfl i.o (fun e=>absurd (kz.1 e).1 b)
end
inductive tL (S:Nat->Prop)(g:Nat)(s:dy)(c:UInt8)(w:X)(e:Ending)(w':X):Prop
 | mk (bo:ag) (bc:Nat) (he:e=Y (.tuple #[.slice bo (iH s c).length bc,.bool (jd s c),I J ((dc s c).a:Int)])) (hI:az w' bo bc (iH s c)) (hC:jv w' (ay S w) g (dc s c)) (hT:ak S w w')
theorem tL.none {S:Nat->Prop}{g:Nat}{s:dy}{c:UInt8}{w:X}{e:Ending}{w':X}(b:Bool)(k:Nat)(d:e=Y (.tuple #[.slice U 0 0,.bool b,I J (k:Int)]))(a:iH s c=[])(f:jd s c=b)(i:(dc s c).a=k)(j:jv w' (ay S w) g (dc s c))(l:ak S w w'):tL S g s c w e w' :=
 .mk U 0 (by rw[a,f,i];exact d) (by rw[a];exact az.e w') j l
theorem cP.jZ {w W:X}{S:Nat->Prop}{g a:Nat}{nx lf b c code:Int}{ln:ct}(h:cP w S g a nx lf b c code ln):cP w (ay S W) g a nx lf b c code ln:=h.jL (fun _ _ e=>Or.inl e)
theorem jv.e {w:X}{S:Nat->Prop}{g d:Nat}{nx lf b c code:Int}{ln:ct}{s a:dy}(e:s=a)(h:cP w S g d nx lf b c code ln)(f:code=(fj a:Int))(i:fj a=0->ln=a.d∧nx=(ib a:Int)∧lf=(jX a:Int)∧b=4000-(a.f:Int)∧c=(a.e:Int)):jv w S g s:=by
 subst e;subst f;exact⟨d,nx,lf,b,c,ln,h,i⟩
theorem Ax {s:dy}(h:s.a≠0):fj s=s.a:=by unfold fj;rw[if_pos h]
theorem Ay {s:dy}(h:s.a=0)(a:s.b=4):fj s=18:=by unfold fj;rw[if_neg (fun e=>e h),if_pos a]
theorem Me (w:X)(S:Nat->Prop)(g:Nat)(s:dy)(c:UInt8)(h:jv w S g s)(d:fj s≠0):
 Calls prog 413 #[Q (M ⟨g,0,U⟩),I .u8 c.toNat] w fun e w'=>tL S g s c w e w':=by
 obtain⟨j,nx,lf,l,m,n,r,_⟩:=h;have z:=r.a 5 (by decide);have B:((fj s:Int) != 0)=true:=by rw[dh];omega
 have p:(dc s c).a=fj s∧fj (dc s c)=fj s∧iH s c=[]∧jd s c=F:=by
  unfold fj at d;by_cases a:s.a=0
  . rw[if_neg (fun e=>e a)] at d;by_cases b:s.b=4
    . have f:dc s c={ s with a:=18 }:=by unfold dc;rw[if_neg (fun e=>e a),if_pos b]
      have q:fj { s with a:=18 }=18:=Ax (by show(18:Nat)≠0;omega);refine⟨by rw[f,Ay a b],by rw[f,q,Ay a b],by unfold iH;rw[if_neg (fun e=>by omega)],by unfold jd;rw[cz];exact fun e=>e.2.1 b⟩
    . rw[if_neg b] at d;exact absurd rfl d
  . have f:=IJ a c;refine⟨by rw[f];unfold fj;rw[if_pos a],by rw[f],by unfold iH;rw[if_neg (fun e=>a e.1)],by unfold jd;rw[cz];exact fun e=>a e.1⟩
 have t:=p;have u:=aa d
 generalize fj s=k at *;go_enter func413,ntmps413;go_wp2;go_quiet (fail)
 go_wp2;go_ret3
 obtain⟨v,i,x,b⟩:=t;have y:ak S w (w.drewN nq):=ak.B _ _ _;refine .none F k rfl x b v ⟨j,nx,lf,l,m,n,?_,fun e=>absurd (i.symm.trans e) u.o⟩ y;rw[i];exact(r.G (ak.B (fun _=>False) w nq) (fun _ _ e=>e)).jZ
theorem Mv (w:X)(S:Nat->Prop)(g:Nat)(s:dy)(c:UInt8)(h:jv w S g s)(j:jW s)(a:s.a=0)(b:s.b=1):
 Calls prog 413 #[Q (M ⟨g,0,U⟩),I .u8 c.toNat] w fun e w'=>tL S g s c w e w':=by
 have k:=kz.2 ⟨a,by omega⟩;obtain⟨z,nx,lf,B,C,D,r,p⟩:=h;obtain⟨rfl,rfl,rfl,rfl,rfl⟩:=p k;rw[k] at r;have l:=j.a b;have q:=j.b;have d:jX s=s.c:=by unfold jX;rw[if_pos b]
 rw[d] at r;have f:ib s=1:=by unfold ib;rw[if_neg (by omega),if_neg (by omega)]
 rw[f] at r;have G:=r.a 5 (by decide);have H:=r.a 2 (by decide);have L:=r.f 2;have N:decide ((s.c:Int) > 0)=true:=bq (by omega);have t:=r.B ((s.c:Int)-1);have u:=r.e 2 (I J ((s.c:Int)-1));have i:dc s c={ s with c:=s.c-1,b:=if s.c<=1 then 2 else 1 }:=by unfold dc;rw[if_neg (fun e=>e a),if_neg (by omega),if_pos b]
 have m:Hid (iH s c=[c]):=by unfold Hid iH;rw[if_pos ⟨a,b⟩]
 have v:Hid (jd s c=F):=by
  unfold Hid jd;rw[cz,i];intro e;have:(if s.c<=1 then 2 else 1)=4:=e.2.2.2;split at this <;> omega
 have x:=a;have y:=aa l
 go_enter func413,ntmps413;go_wp2;go_ret3
 have n:Below (w.setCell ⟨g,2,U⟩ (I J ((s.c:Int)-1))).heap.size (w.setCell ⟨g,2,U⟩ (I J ((s.c:Int)-1))) ((w.setCell ⟨g,2,U⟩ (I J ((s.c:Int)-1))).alloc (.cells #[I .u8 (c.toNat:Int)] 5)):=(ar _ _).alloc (am _) _;have a:=x;have l:=y.o;refine .mk (M ⟨(w.setCell ⟨g,2,U⟩ (I J ((s.c:Int)-1))).heap.size,0,U⟩) 1 ?_ ?_ (jv.e i ((t.j n).jZ (W:=w)) ?_ (fun _=>⟨rfl,?_,?_,rfl,rfl⟩)) (u.a (ak.e n) (fun _ e _=>e))
 . rw[m.o,v.o,i];show _=Ending.returned (.tuple #[.slice (M ⟨_,0,U⟩) 1 1,.bool F,I J ((s.a:Nat):Int)]);rw[a];simp
 . rw[m.o];exact az.f _ c _ _
 . rw[kz (s:={ s with c:=s.c-1,b:=if s.c<=1 then 2 else 1 }) |>.2 ⟨a,by show(if s.c<=1 then 2 else 1)≠4;split <;> omega⟩]
 . unfold ib;simp only;split <;> rfl
 . unfold jX;simp only;split
   . rw[if_neg (by omega)];omega
   . rw[if_pos rfl];omega
theorem Na {w:X}{S:Nat->Prop}{g c:Nat}{ln:ct}{s:dy}(d:jW s)(a:s.b=0∨s.b=2∨s.b=3)(b:s.a=0)(h:cP w S g c (ib s:Int) 0 (4000-(s.f:Int)) (s.e:Int) 0 ln)(t:ae)(f:t.size<=200):
 Calls prog 414 #[Q (M ⟨g,0,U⟩),V t] w fun e w'=>vA S g c ln s t.data.toList w e w':=by
 rcases a with a | a | a
 . have e:ib s=0:=by unfold ib;rw[if_pos a]
   rw[e] at h;exact T8 d a b h t f
 . have e:ib s=1:=by unfold ib;rw[if_neg (by omega),if_neg (by omega)]
   rw[e] at h;exact RI a b h t
 . have e:ib s=2:=by unfold ib;rw[if_neg (by omega),if_pos a]
   rw[e] at h;exact M9 d a b h t f
theorem SP (s:dy)(t:ab):(fB s t).d=s.d:=by
 unfold fB;repeat (first | rfl | split)
theorem cP.E {w b:X}{S:Nat->Prop}{g c:Nat}{nx lf d f code:Int}{ln a:ct}(h:cP w S g c nx lf d f code ln)(j:cN b (ay (fun k=>S k∧k≠g) w) c a)(i:ak (fun k=>S k∧k≠g) w b):cP b (ay S w) g c nx lf d f code a∧ak S w b:=by
 have l:=(bM.1 h.b).1;refine⟨⟨i.q h.b (fun e=>e.2 rfl),Or.inl h.c,j.a (fun k _ e=>?_)⟩,i.f (fun k e=>e.1)⟩;rcases e with e | e
 . exact⟨Or.inl e.1,e.2⟩
 . exact⟨Or.inr e,by omega⟩
theorem EY {s:ct}{c:UInt8}(h:fI s c=true):bj s c=dv∧cT s c=s.b:=by grind [fI,bj,dv,cT]
theorem PL {s:dy}{c:UInt8}(a:s.a=0)(b:s.b=0∨s.b=2∨s.b=3):iH s c=[]∧dc s c=if (bj s.d c).a≠0 then { s with a:=(bj s.d c).a } else if fI s.d c=true then fB { s with d:=dv } (cT s.d c) else { s with d:=bj s.d c }:=by
 refine⟨by unfold iH;rw[if_neg (fun e=>by omega)],?_⟩;unfold dc;rw[if_neg (fun e=>e a),if_neg (by omega),if_neg (by omega)]
theorem Mx (w:X)(S:Nat->Prop)(g:Nat)(s:dy)(c:UInt8)(h:jv w S g s)(v:jW s)(q:s.a=0)(h1:s.b=0∨s.b=2∨s.b=3):
 Calls prog 413 #[Q (M ⟨g,0,U⟩),I .u8 c.toNat] w fun e w'=>tL S g s c w e w':=by
 have x:=kz.2 ⟨q,by omega⟩;obtain⟨gl,nx,lf,rm,fd,ln,r,C⟩:=h;obtain⟨rfl,rfl,rfl,rfl,rfl⟩:=C x;rw[x] at r;have elf:jX s=0:=by unfold jX;rw[if_neg (by omega)]
 rw[elf] at r;have c5:=r.a 5 (by decide);have c2:=r.a 2 (by decide);have c0:=r.a 0 (by decide);have l:=xX w _ gl s.d c r.d v.d.c;unfold kH at l;obtain⟨ho,m⟩:=PL (c:=c) q h1;have HO:=aa ho;have HR:=aa r;by_cases i:(bj s.d c).a=0
 . rw[if_neg (fun e=>e i)] at m;cases y:fI s.d c
   . rw[if_neg (by rw[y];simp)] at m;have D:jd s c=F:=by
      unfold jd;rw[cz,m];intro e;have:s.b=4:=e.2.2.2;omega
     have p:=m;have t:=aa D;have H0:=aa q;have H1:=aa h1
     rw[y,i] at l;generalize (⟨(cT s.d c).toArray⟩:ae)=bs at l;go_enter func413,ntmps413;go_wp2_with fail;refine l.mono ?_;rintro e w1 ⟨rfl,G,z⟩;have j:=HR.o.E G z;have c5:=j.1.a 5 (by decide);have f5:=j.1.f 5;go_wp2;go_ret3
     have q:=H0.o;have h1:=H1.o
     have x:fj { s with d:=bj s.d c }=0:=kz.2 ⟨q,by show s.b≠4;omega⟩;refine .none F 0 rfl HO.o t.o (by rw[p];exact q) (jv.e p (j.1.q 0) (by rw[x];rfl) (fun _=>⟨rfl,rfl,?_,rfl,rfl⟩)) (j.2.E (j.1.e 5 _));unfold jX;rw[if_neg (by show s.b≠1;omega)]
   . rw[if_pos y] at m;obtain⟨e1,e2⟩:=EY y;have hsh:=v.d.c;have hg':jW { s with d:=dv }:=⟨v.e,qx.a,rfl,v.a,v.b,v.f,v.c⟩;have sZ:=fun(W:X) (S':Nat->Prop) (hr:cP W S' g gl (ib s:Int) 0 (4000-(s.f:Int)) (s.e:Int) 0 dv)=>Na (s:={ s with d:=dv }) hg' h1 q hr ⟨s.d.b.toArray⟩ (by show s.d.b.toArray.size<=200;rw[cx];exact hsh);have H:(⟨s.d.b.toArray⟩:ae).data.toList=s.d.b:=rfl;rw[H] at sZ;rw[y,i,e2] at l;rw[e1] at l;rw[e2] at m;have ahE:(fB { s with d:=dv } s.d.b).d=dv:=SP _ _;have D:jd s c=decide ((fB { s with d:=dv } s.d.b).a=0∧(fB { s with d:=dv } s.d.b).b=4):=by
      unfold jd;rw[m];have u:s.b≠4:=by omega
      simp[q,u]
     have p:=m;have t:=aa D;have HLN:=aa ahE
     generalize (⟨s.d.b.toArray⟩:ae)=bs at l sZ;go_enter func413,ntmps413;go_wp2_with fail;refine l.mono ?_;rintro e w1 ⟨rfl,G,z⟩;have j:=HR.o.E G z;go_wp2_with fail;refine(sZ _ _ j.1).mono ?_;rintro e w2 ⟨nx,lf,rm,fd,z,he,r,C⟩;subst he;have T2:=(j.2.E z);have B:=aa r;have K2:=aa C
     generalize fB { s with d:=dv } s.d.b=n at *;have c5:=B.out.a 5 (by decide);have f5:=B.out.f 5;by_cases u:n.a=0∧n.b=4
     . have L:decide (n.a=0∧n.b=4)=true:=bq u;have N:=u.1;have HP:fj n=18:=Ay u.1 u.2;rw[L] at t;rw[L,N];go_wp2;go_ret3
       refine .none true 0 rfl HO.o t.o (by rw[p];exact N) (jv.e p ((B.out.q 0).q 18) (by rw[HP];rfl) (fun e=>by rw[HP] at e;cases e)) ?_;exact(T2.E (B.out.e 5 _)).E ((B.out.q 0).e 5 _)
     . have L:decide (n.a=0∧n.b=4)=F:=aX u;have HP:Hid (fj n=n.a):=by
        by_cases hc:n.a=0
        . unfold Hid;rw[kz.2 ⟨hc,fun e=>u ⟨hc,e⟩⟩,hc]
        . exact Ax hc
       rw[L] at t;rw[L];generalize C:n.a=k at *;go_wp2;go_ret3
       refine .none F k rfl HO.o t.o (by rw[p];exact C) (jv.e p (B.out.q k) (by rw[HP.o]) (fun e=>?_)) (T2.E (B.out.e 5 _));obtain⟨a,b,d,f⟩:=K2.out e;exact⟨HLN.o.symm,a,b,d,f⟩
 . rw[if_pos i] at m;have y:=EX i;have D:jd s c=F:=by
    unfold jd;rw[cz,m];intro e;exact i e.2.2.1
   have p:=m;have t:=aa D;have T:=aa i
   rw[y] at l;generalize hkk:(bj s.d c).a=k at *;generalize (⟨(cT s.d c).toArray⟩:ae)=bs at l;go_enter func413,ntmps413;go_wp2_with fail;refine l.mono ?_;rintro e w1 ⟨rfl,G,z⟩;have j:=HR.o.E G z;have c5:=j.1.a 5 (by decide);have f5:=j.1.f 5;go_wp2;go_ret3
   have x:fj { s with a:=k }=k:=Ax (s:={ s with a:=k }) T.o;exact .none F k rfl HO.o t.o (by rw[p]) (jv.e p (j.1.q k) (by rw[x]) (fun e=>absurd (x.symm.trans e) T.o)) (j.2.E (j.1.e 5 _))
theorem Jm (w:X)(S:Nat->Prop)(g:Nat)(s:dy)(c:UInt8)(h:jv w S g s)(a:jW s):
 Calls prog 413 #[Q (M ⟨g,0,U⟩),I .u8 c.toNat] w fun e w'=>tL S g s c w e w':=by
 by_cases b:fj s=0
 . obtain⟨d,i⟩:=kz.1 b;have:=a.e;by_cases f:s.b=1
   . exact Mv w S g s c h a d f
   . exact Mx w S g s c h a d (by omega)
 . exact Me w S g s c h b
