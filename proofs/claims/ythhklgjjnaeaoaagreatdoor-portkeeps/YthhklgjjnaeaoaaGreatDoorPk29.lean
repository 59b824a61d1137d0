/- Small texts, one behind the other: CkB, CkC, CkFeed. -/
import Derived.Test.YthhklgjjnaeaoaaGreatDoorPk23
import Derived.Test.YthhklgjjnaeaoaaGreatDoorPk27
open Go.Value renaming int->I,string->V,pointer->Q
open Go.IntKind renaming i64->J
open Go.Ending renaming returned->Y
open Option renaming none->U,some->M
open Bool renaming false->F
open Go renaming World->X
set_option maxHeartbeats 1600000
open Go.Proofs.Tryz
namespace Go.Proofs.YthhklgjjnaeaoaaGreatDoor
open Go.RowKit
theorem RO (c:UInt8)(s:ay):∃a r b,Fd.cutV c s=.tuple #[V a,V r,.bool b]∧a.data.toList=s.data.toList.take (Fd.at_ c s.data.toList)∧a.size<=s.size:=by
 have d:s.data.toList.length=s.size:=by rw[aO];rfl
 unfold Fd.cutV;by_cases h:Fd.at_ c s.data.toList=s.size
 . rw[if_pos h];exact⟨s,_,_,rfl,by rw[h,<-d,bN],aM _⟩
 . rw[if_neg h];exact⟨_,_,_,rfl,by rw[Lib.extract_data];simp,by simp;omega⟩
inductive Za (S:Nat->Prop)(g gl:Nat)(nx lf rm fd code:Int)(ln:Ln.St)(n:Int)(ok:Bool)(w:X)(e:Ending)(w':X):Prop
 | none (t:Turns S w w') (h:ok=F) (he:e=Y (I J 7)) (r:iD w' S g gl nx lf rm fd code ln)
 | long (t:Turns S w w') (h:ok=true) (h1:rm<n) (he:e=Y (I J 4)) (r:iD w' S g gl nx lf rm fd code ln)
 | last (t:Turns S w w') (h:ok=true) (h1:n<=rm) (h2:n=0) (he:e=Y (I J 0)) (r:iD w' S g gl 2 lf rm fd code ln)
 | more (t:Turns S w w') (h:ok=true) (h1:n<=rm) (h2:0<n) (he:e=Y (I J 0)) (r:iD w' S g gl 1 n (rm-n) fd code ln)
inductive abq (S:Nat->Prop)(g gl:Nat)(nx lf rm fd code:Int)(ln:Ln.St)(s:av)(w:X)(e:Ending)(w':X):Prop
 | bad (t:Turns S w w') (h:s≠[]) (he:e=Y (I J 5)) (r:iD w' S g gl nx lf rm fd code ln)
 | good (t:Turns S w w') (h:s=[]) (he:e=Y (I J 0)) (r:iD w' S g gl 0 lf rm fd code ln)
inductive V5 (S:Nat->Prop)(g gl:Nat)(nx lf rm fd code:Int)(ln:Ln.St)(s:av)(w:X)(e:Ending)(w':X):Prop
 | many (t:Turns S w w') (h:fd=16) (he:e=Y (I J 8)) (r:iD w' S g gl nx lf rm fd code ln)
 | one (t:Turns S w w') (h:fd≠16) (he:e=Y (I J ((Fd.of s).code:Int))) (r:iD w' S g gl nx lf rm (fd+1) code ln)
section
variable {w:X} {S:Nat->Prop} {g gl:Nat} {nx lf rm fd code:Int} {ln:Ln.St}
theorem Nj (h:iD w S g gl nx lf rm fd code ln)(s:ay)(hs:s.size<=200)(q:0<=rm)(G:rm<=4000):
 Calls prog 387 #[Q (M ⟨g,0,U⟩),V s] w fun e w'=>Za S g gl nx lf rm fd code ln (Ck.size s.data.toList).1 (Ck.size s.data.toList).2 w e w':=by
 have n0:=Ku s.data.toList;obtain⟨a,r,b,t,ha,H⟩:=RO 59 s;have m:=wQ s 59 w (by unfold maxLen;omega);rw[t] at m;have o:=fun W=>sN a W (by omega);have u:Ck.size s.data.toList=Ch.number 16 6 (Lib.trimS a.data.toList Ch.ws):=by unfold Ck.size;rw[ha]
 have v:=yO a.data.toList;rw[Ch.iK] at v;have l:=fun W=>yZ ⟨(Lib.trimS a.data.toList Ch.ws).toArray⟩ W (by show(Lib.trimS _ _).toArray.size<=maxLen;rw[bK];unfold maxLen;omega);have p:(⟨(Lib.trimS a.data.toList Ch.ws).toArray⟩:ay).data.toList=Lib.trimS a.data.toList Ch.ws:=rfl;rw[p,<-u] at l;generalize (⟨(Lib.trimS a.data.toList Ch.ws).toArray⟩:ay)=tv at o l;generalize (Ck.size s.data.toList).1=n at *;generalize (Ck.size s.data.toList).2=ok at *;cases ok
 . go_enter func387,ntmps387;go_wp2_with fail
   refine m.mono ?_;rintro e x ⟨rfl,i⟩;have j:=iZ i;go_wp2_with fail
   refine(o _).mono ?_;rintro e y ⟨rfl,d⟩;have f:=then_ j d;go_wp2_with fail
   refine(l _).mono ?_;rintro e z ⟨rfl,k⟩;subst k;go_wp2;go_ret;exact .none (Turns.of_below f) rfl rfl (h.stay f)
 . by_cases B:rm<n
   . have L:decide (n > rm)=true:=aI B;go_enter func387,ntmps387;go_wp2_with fail
     refine m.mono ?_;rintro e x ⟨rfl,i⟩;have j:=iZ i;go_wp2_with fail
     refine(o _).mono ?_;rintro e y ⟨rfl,d⟩;have f:=then_ j d;have c:=h.stay f;have C:=c.cell 3 (by decide);go_wp2_with fail
     refine(l _).mono ?_;rintro e z ⟨rfl,k⟩;subst k;go_wp2;go_ret;exact .long (Turns.of_below f) rfl B rfl c
   . have L:decide (n > rm)=F:=aJ B;by_cases D:n=0
     . subst D;go_enter func387,ntmps387;go_wp2_with fail
       refine m.mono ?_;rintro e x ⟨rfl,i⟩;have j:=iZ i;go_wp2_with fail
       refine(o _).mono ?_;rintro e y ⟨rfl,d⟩;have f:=then_ j d;have c:=h.stay f;have C:=c.cell 3 (by decide);have N:=c.cell 1 (by decide);have T:=c.frozen 1;go_wp2_with fail
       refine(l _).mono ?_;rintro e z ⟨rfl,k⟩;subst k;go_wp2;go_ret;exact .last ((Turns.of_below f).trans (c.turn 1 _) (fun _ e _=>e)) rfl q rfl rfl (c.next 2)
     . have tz:(n==0)=F:=aR.2 D;go_enter func387,ntmps387;go_wp2_with fail
       refine m.mono ?_;rintro e x ⟨rfl,i⟩;have j:=iZ i;go_wp2_with fail
       refine(o _).mono ?_;rintro e y ⟨rfl,d⟩;have f:=then_ j d;have c:=h.stay f;have C:=c.cell 3 (by decide);have N:=c.cell 1 (by decide);have c2:=c.cell 2 (by decide);have T:=c.frozen 1;have f2:=c.frozen 2;have f3:=c.frozen 3;go_wp2_with fail
       refine(l _).mono ?_;rintro e z ⟨rfl,k⟩;subst k;go_wp2;go_ret;exact .more ((Turns.of_below f).trans ((c.turn 1 _).trans (((c.next 1).turn 2 _).trans (((c.next 1).left n).turn 3 _) (fun _ e _=>e)) (fun _ e _=>e)) (fun _ e _=>e)) rfl (by omega) (by omega) rfl (((c.next 1).left n).room (rm-n))
theorem RP (h:iD w S g gl nx lf rm fd code ln)(s:ay):
 Calls prog 388 #[Q (M ⟨g,0,U⟩),V s] w fun e w'=>abq S g gl nx lf rm fd code ln s.data.toList w e w':=by
 have c:=h.cell 1 (by decide);have d:=h.frozen 1;have b:=H9 (Lib.toList_data s);by_cases a:s.data.toList=[]
 . obtain rfl:s=⟨#[]⟩:=Ch.empty_eq s (by rw[<-Ch.iK,a];rfl);go_enter func388,ntmps388;go_wp2;go_ret;exact .good (h.turn 1 _) rfl rfl (h.next 0)
 . have f:(s.toList==[])=F:=by rw[aR,b.o];exact a
   go_enter func388,ntmps388;go_wp2;go_ret;exact .bad (Turns.refl _ _) a rfl h
theorem Kw (h:iD w S g gl nx lf rm fd code ln)(s:ay)(q:s.size<=200)(i:0<=fd)(j:fd<=16):
 Calls prog 389 #[Q (M ⟨g,0,U⟩),V s] w fun e w'=>V5 S g gl nx lf rm fd code ln s.data.toList w e w':=by
 have r:=h.cell 4 (by decide);have t:=h.frozen 4;have b:=fun W=>wT s W (by omega);unfold Fd.val at b;have f:=h.fields (fd+1);have l:=h.turn 4 (I J (fd+1));by_cases a:fd=16
 . subst a;go_enter func389,ntmps389;go_wp2;go_ret;exact .many (Turns.refl _ _) rfl rfl h
 . have m:(fd==16)=F:=aR.2 a;generalize (⟨(Fd.of s.data.toList).name.toArray⟩:ay)=n at b;generalize (⟨(Fd.of s.data.toList).value.toArray⟩:ay)=o at b;generalize p:(Fd.of s.data.toList).code=k at b;go_enter func389,ntmps389;go_wp2_with fail
   refine(b _).mono ?_;rintro e u ⟨rfl,c⟩;go_wp2;go_ret;have d:=c.alloc c.size (.cells #[V n,V o] 131);exact .one (l.trans (Turns.of_below d) (fun _ e _=>e)) a (by rw[p];rfl) (f.stay d)
end
inductive kM (S:Nat->Prop)(g gl:Nat)(ln:Ln.St)(s:Ck.St)(t:av)(w:X)(e:Ending)(w':X):Prop
 | mk (nx lf rm fd:Int) (hT:Turns S w w') (he:e=Y (.tuple #[.bool (decide ((Ck.line s t).code=0∧(Ck.line s t).ph=4)),I J ((Ck.line s t).code:Int)]))
  (r:iD w' S g gl nx lf rm fd 0 ln) (h:Ck.pc (Ck.line s t)=0->nx=(Ck.nx (Ck.line s t):Int)∧lf=(Ck.lf (Ck.line s t):Int)∧rm=4000-((Ck.line s t).total:Int)∧fd=((Ck.line s t).count:Int))
theorem kM.of {S:Nat->Prop}{g f:Nat}{ln:Ln.St}{s a:Ck.St}{t:av}{w:X}{e:Ending}{w':X}(i:Ck.line s t=a)(b:Bool)(k:Nat)(nx lf c d:Int)(j:Turns S w w')(l:e=Y (.tuple #[.bool b,I J (k:Int)]))
 (m:b=decide (a.code=0∧a.ph=4)) (n:a.code=k) (r:iD w' S g f nx lf c d 0 ln) (h:Ck.pc a=0->nx=(Ck.nx a:Int)∧lf=(Ck.lf a:Int)∧c=4000-(a.total:Int)∧d=(a.count:Int)):kM S g f ln s t w e w':=by
 subst i;subst m;subst n;exact .mk nx lf c d j l r h
section
variable {w:X} {S:Nat->Prop} {g gl:Nat} {ln:Ln.St} {s:Ck.St}
theorem take_size (C:Ck.Good s)(z:s.ph=0)(D:s.code=0)(h:iD w S g gl 0 0 (4000-(s.total:Int)) (s.count:Int) 0 ln)(t:ay)(G:t.size<=200):
 Calls prog 386 #[Q (M ⟨g,0,U⟩),V t] w fun e w'=>kM S g gl ln s t.data.toList w e w':=by
 have l:=C.total;have H:=H9 (Nj h t G (by omega) (by omega));have L:=h.cell 1 (by decide);have q:=(Ku t.data.toList).1;have u:Hid (Ck.line s t.data.toList=(if (Ck.size t.data.toList).2=F then { s with code:=7 } else if 4000<s.total+(Ck.size t.data.toList).1.toNat then { s with code:=4 } else if (Ck.size t.data.toList).1.toNat=0 then { s with ph:=3 } else { s with ph:=1,left:=(Ck.size t.data.toList).1.toNat,total:=s.total+(Ck.size t.data.toList).1.toNat })):=by
  unfold Hid Ck.line;rw[if_pos z]
 generalize (Ck.size t.data.toList).1=n at *;generalize (Ck.size t.data.toList).2=ok at *;have N:=z;have B:=H9 D;have v:=H9 l;have x:=H9 q
 go_enter func386,ntmps386;go_wp2_with fail
 refine H.o.mono ?_;rintro e T (⟨c,d,f,r⟩ | ⟨c,d,b,f,r⟩ | ⟨c,d,b,m,f,r⟩ | ⟨c,d,b,m,f,r⟩)
 . subst f;have i:=c;have j:=H9 r;have k:=H9 d
   go_wp2;go_ret2;have a:=u.o;rw[if_pos k.o] at a;exact kM.of a F 7 _ _ _ _ i rfl (by simp) rfl j.o (fun e=>absurd (Ck.lG.1 e).1 (by show(7:Nat)≠0;omega))
 . subst f;have i:=c;have j:=H9 r;have k:=H9 d;have p:=H9 b
   go_wp2;go_ret2;have a:=u.o;have b:=p.o;have q:=x.o
   rw[if_neg (by rw[k.o];simp),if_pos (by omega)] at a;exact kM.of a F 4 _ _ _ _ i rfl (by simp) rfl j.o (fun e=>absurd (Ck.lG.1 e).1 (by show(4:Nat)≠0;omega))
 . subst f;have i:=c;have j:=H9 r;have k:=H9 d;have p:=H9 b;have y:=H9 m
   go_wp2;go_ret2;have a:=u.o;have b:=p.o;have m:=y.o;have q:=x.o
   rw[if_neg (by rw[k.o];simp),if_neg (by omega),if_pos (by omega)] at a;exact kM.of a F 0 _ _ _ _ i rfl (by simp) B.o j.o (fun e=>⟨rfl,rfl,rfl,rfl⟩)
 . subst f;have i:=c;have j:=H9 r;have k:=H9 d;have p:=H9 b;have y:=H9 m
   go_wp2;go_ret2;have a:=u.o;have b:=p.o;have m:=y.o;have q:=x.o;have l:=v.o
   rw[if_neg (by rw[k.o];simp),if_neg (by omega),if_neg (by omega)] at a;exact kM.of a F 0 _ _ _ _ i rfl (by simp) B.o j.o (fun e=>⟨rfl,(by show n=((if (1:Nat)=1 then n.toNat else 0:Nat):Int);rw[if_pos rfl];omega),(by show 4000-(s.total:Int)-n=4000-((s.total+n.toNat:Nat):Int);omega),rfl⟩)
theorem V7 (l:s.ph=2)(m:s.code=0)(h:iD w S g gl 1 0 (4000-(s.total:Int)) (s.count:Int) 0 ln)(t:ay):
 Calls prog 386 #[Q (M ⟨g,0,U⟩),V t] w fun e w'=>kM S g gl ln s t.data.toList w e w':=by
 have n:=h.cell 1 (by decide);have k:Hid (Ck.line s t.data.toList=if t.data.toList≠[] then { s with code:=5 } else { s with ph:=0 }):=by
  unfold Hid Ck.line;rw[if_neg (by omega),if_pos l]
 go_enter func386,ntmps386;go_wp2_with fail
 refine(RP h t).mono ?_;rintro e p (⟨b,c,d,r⟩ | ⟨b,c,d,r⟩)
 . subst d;have f:=b;have i:=H9 r;have j:=H9 c
   go_wp2;go_ret2;have a:=k.o;rw[if_pos j.o] at a;exact kM.of a F 5 _ _ _ _ f rfl (by simp) rfl i.o (fun e=>absurd (Ck.lG.1 e).1 (by show(5:Nat)≠0;omega))
 . subst d;have f:=b;have i:=H9 r;have j:=H9 c
   go_wp2;go_ret2;have a:=k.o;rw[if_neg (fun e=>e j.o)] at a;exact kM.of a F 0 _ _ _ _ f rfl (by simp) m i.o (fun e=>⟨rfl,rfl,rfl,rfl⟩)
theorem Nk (x:Ck.Good s)(c:s.ph=3)(y:s.code=0)(h:iD w S g gl 2 0 (4000-(s.total:Int)) (s.count:Int) 0 ln)(t:ay)(z:t.size<=200):
 Calls prog 386 #[Q (M ⟨g,0,U⟩),V t] w fun e w'=>kM S g gl ln s t.data.toList w e w':=by
 have B:=x.count;have G:=h.cell 1 (by decide);have j:Hid (Ck.line s t.data.toList=if t.data.toList=[] then { s with ph:=4 } else if s.count=16 then { s with code:=8 } else if (Fd.of t.data.toList).code≠0 then { s with code:=(Fd.of t.data.toList).code } else { s with count:=s.count+1 }):=by
  unfold Hid Ck.line;rw[if_neg (by omega),if_neg (by omega)]
 have l:=H9 (Lib.toList_data t);have C:=H9 h;have m:=H9 y;have D:=H9 c
 by_cases n:t.data.toList=[]
 . obtain rfl:t=⟨#[]⟩:=Ch.empty_eq t (by rw[<-Ch.iK,n];rfl);go_enter func386,ntmps386;go_wp2;go_ret2;have a:=j.o;rw[if_pos trivial] at a;exact kM.of a true 0 _ _ _ _ (Turns.refl _ _) rfl (by simp[m.o]) m.o C.o (fun e=>absurd rfl (Ck.lG.1 e).2)
 . have H:(t.toList==[])=F:=by rw[aR,l.o];exact n
   have v:=H9 n;go_enter func386,ntmps386;go_wp2_with fail
   refine(Kw h t z (by omega) (by omega)).mono ?_;rintro e L (⟨p,d,q,r⟩ | ⟨p,d,q,r⟩)
   . subst q;have f:=p;have i:=H9 r;have u:=H9 d
     go_wp2;go_ret2;have a:=j.o;have d:=u.o;rw[if_neg v.o,if_pos (by omega)] at a;exact kM.of a F 8 _ _ _ _ f rfl (by simp) rfl i.o (fun e=>absurd (Ck.lG.1 e).1 (by show(8:Nat)≠0;omega))
   . subst q;have f:=p;have i:=H9 r;have u:=H9 d
     generalize N:(Fd.of t.data.toList).code=k at *;go_wp2;go_ret2;have a:=j.o;have d:=u.o;have c:=D.o
     rw[if_neg v.o,if_neg (by omega)] at a;by_cases b:k=0
     . rw[if_neg (fun e=>e b)] at a;subst b;exact kM.of a F 0 _ _ _ _ f rfl (by simp[c]) m.o i.o (fun e=>⟨by show(2:Int)=((Ck.nx { s with count:=s.count+1 }:Nat):Int);unfold Ck.nx;simp[c],by show(0:Int)=((Ck.lf { s with count:=s.count+1 }:Nat):Int);unfold Ck.lf;simp[c],rfl,by show(s.count:Int)+1=((s.count+1:Nat):Int);omega⟩)
     . rw[if_pos b] at a;exact kM.of a F k _ _ _ _ f rfl (by simp[b]) rfl i.o (fun e=>absurd (Ck.lG.1 e).1 b)
end
inductive zZ (S:Nat->Prop)(g:Nat)(s:Ck.St)(c:UInt8)(w:X)(e:Ending)(w':X):Prop
 | mk (bo:ak) (bc:Nat) (he:e=Y (.tuple #[.slice bo (Ck.out s c).length bc,.bool (Ck.over s c),I J ((Ck.next s c).code:Int)])) (hI:gN w' bo bc (Ck.out s c)) (hC:oW w' (gB S w) g (Ck.next s c)) (hT:Turns S w w')
theorem zZ.none {S:Nat->Prop}{g:Nat}{s:Ck.St}{c:UInt8}{w:X}{e:Ending}{w':X}(b:Bool)(k:Nat)(d:e=Y (.tuple #[.slice U 0 0,.bool b,I J (k:Int)]))(a:Ck.out s c=[])(f:Ck.over s c=b)(i:(Ck.next s c).code=k)(j:oW w' (gB S w) g (Ck.next s c))(l:Turns S w w'):zZ S g s c w e w' :=
 .mk U 0 (by rw[a,f,i];exact d) (by rw[a];exact gN.nil w') j l
theorem iD.new {w W:X}{S:Nat->Prop}{g a:Nat}{nx lf b c code:Int}{ln:Ln.St}(h:iD w S g a nx lf b c code ln):iD w (gB S W) g a nx lf b c code ln:=h.mono (fun _ _ e=>Or.inl e)
theorem oW.of {w:X}{S:Nat->Prop}{g d:Nat}{nx lf b c code:Int}{ln:Ln.St}{s a:Ck.St}(e:s=a)(h:iD w S g d nx lf b c code ln)(f:code=(Ck.pc a:Int))(i:Ck.pc a=0->ln=a.ln∧nx=(Ck.nx a:Int)∧lf=(Ck.lf a:Int)∧b=4000-(a.total:Int)∧c=(a.count:Int)):oW w S g s:=by
 subst e;subst f;exact⟨d,nx,lf,b,c,ln,h,i⟩
theorem Ip {s:Ck.St}(h:s.code≠0):Ck.pc s=s.code:=by unfold Ck.pc;rw[if_pos h]
theorem Iq {s:Ck.St}(h:s.code=0)(a:s.ph=4):Ck.pc s=18:=by unfold Ck.pc;rw[if_neg (fun e=>e h),if_pos a]
theorem Ir (w:X)(S:Nat->Prop)(g:Nat)(s:Ck.St)(c:UInt8)(h:oW w S g s)(d:Ck.pc s≠0):
 Calls prog 385 #[Q (M ⟨g,0,U⟩),I .u8 c.toNat] w fun e w'=>zZ S g s c w e w':=by
 obtain⟨j,nx,lf,l,m,n,r,_⟩:=h;have z:=r.cell 5 (by decide);have B:((Ck.pc s:Int) != 0)=true:=by rw[cK];omega
 have p:(Ck.next s c).code=Ck.pc s∧Ck.pc (Ck.next s c)=Ck.pc s∧Ck.out s c=[]∧Ck.over s c=F:=by
  unfold Ck.pc at d;by_cases a:s.code=0
  . rw[if_neg (fun e=>e a)] at d;by_cases b:s.ph=4
    . have f:Ck.next s c={ s with code:=18 }:=by unfold Ck.next;rw[if_neg (fun e=>e a),if_pos b]
      have q:Ck.pc { s with code:=18 }=18:=Ip (by show(18:Nat)≠0;omega);refine⟨by rw[f,Iq a b],by rw[f,q,Iq a b],by unfold Ck.out;rw[if_neg (fun e=>by omega)],by unfold Ck.over;rw[bO];exact fun e=>e.2.1 b⟩
    . rw[if_neg b] at d;exact absurd rfl d
  . have f:=Ck.Q8 a c;refine⟨by rw[f];unfold Ck.pc;rw[if_pos a],by rw[f],by unfold Ck.out;rw[if_neg (fun e=>a e.1)],by unfold Ck.over;rw[bO];exact fun e=>a e.1⟩
 have t:=p;have u:=H9 d
 generalize Ck.pc s=k at *;go_enter func385,ntmps385;go_wp2;go_quiet (fail)
 go_wp2;go_ret3
 obtain⟨v,i,x,b⟩:=t;have y:Turns S w (w.drewN nq):=Turns.drewN _ _ _;refine .none F k rfl x b v ⟨j,nx,lf,l,m,n,?_,fun e=>absurd (i.symm.trans e) u.o⟩ y;rw[i];exact(r.turns (Turns.drewN (fun _=>False) w nq) (fun _ _ e=>e)).new
theorem Kz (w:X)(S:Nat->Prop)(g:Nat)(s:Ck.St)(c:UInt8)(h:oW w S g s)(j:Ck.Good s)(a:s.code=0)(b:s.ph=1):
 Calls prog 385 #[Q (M ⟨g,0,U⟩),I .u8 c.toNat] w fun e w'=>zZ S g s c w e w':=by
 have k:=Ck.lG.2 ⟨a,by omega⟩;obtain⟨z,nx,lf,B,C,D,r,p⟩:=h;obtain⟨rfl,rfl,rfl,rfl,rfl⟩:=p k;rw[k] at r;have l:=j.left b;have q:=j.yG;have d:Ck.lf s=s.left:=by unfold Ck.lf;rw[if_pos b]
 rw[d] at r;have f:Ck.nx s=1:=by unfold Ck.nx;rw[if_neg (by omega),if_neg (by omega)]
 rw[f] at r;have G:=r.cell 5 (by decide);have H:=r.cell 2 (by decide);have L:=r.frozen 2;have N:decide ((s.left:Int) > 0)=true:=aI (by omega);have t:=r.left ((s.left:Int)-1);have u:=r.turn 2 (I J ((s.left:Int)-1));have i:Ck.next s c={ s with left:=s.left-1,ph:=if s.left<=1 then 2 else 1 }:=by unfold Ck.next;rw[if_neg (fun e=>e a),if_neg (by omega),if_pos b]
 have m:Hid (Ck.out s c=[c]):=by unfold Hid Ck.out;rw[if_pos ⟨a,b⟩]
 have v:Hid (Ck.over s c=F):=by
  unfold Hid Ck.over;rw[bO,i];intro e;have:(if s.left<=1 then 2 else 1)=4:=e.2.2.2;split at this <;> omega
 have x:=a;have y:=H9 l
 go_enter func385,ntmps385;go_wp2;go_ret3
 have n:Below (w.setCell ⟨g,2,U⟩ (I J ((s.left:Int)-1))).heap.size (w.setCell ⟨g,2,U⟩ (I J ((s.left:Int)-1))) ((w.setCell ⟨g,2,U⟩ (I J ((s.left:Int)-1))).alloc (.cells #[I .u8 (c.toNat:Int)] 5)):=(eY _ _).alloc (aM _) _;have a:=x;have l:=y.o;refine .mk (M ⟨(w.setCell ⟨g,2,U⟩ (I J ((s.left:Int)-1))).heap.size,0,U⟩) 1 ?_ ?_ (oW.of i ((t.stay n).new (W:=w)) ?_ (fun _=>⟨rfl,?_,?_,rfl,rfl⟩)) (u.trans (Turns.of_below n) (fun _ e _=>e))
 . rw[m.o,v.o,i];show _=Ending.returned (.tuple #[.slice (M ⟨_,0,U⟩) 1 1,.bool F,I J ((s.code:Nat):Int)]);rw[a];simp
 . rw[m.o];exact gN.one _ c _ _
 . rw[Ck.lG (s:={ s with left:=s.left-1,ph:=if s.left<=1 then 2 else 1 }) |>.2 ⟨a,by show(if s.left<=1 then 2 else 1)≠4;split <;> omega⟩]
 . unfold Ck.nx;simp only;split <;> rfl
 . unfold Ck.lf;simp only;split
   . rw[if_neg (by omega)];omega
   . rw[if_pos rfl];omega
theorem Nl {w:X}{S:Nat->Prop}{g c:Nat}{ln:Ln.St}{s:Ck.St}(d:Ck.Good s)(a:s.ph=0∨s.ph=2∨s.ph=3)(b:s.code=0)(h:iD w S g c (Ck.nx s:Int) 0 (4000-(s.total:Int)) (s.count:Int) 0 ln)(t:ay)(f:t.size<=200):
 Calls prog 386 #[Q (M ⟨g,0,U⟩),V t] w fun e w'=>kM S g c ln s t.data.toList w e w':=by
 rcases a with a | a | a
 . have e:Ck.nx s=0:=by unfold Ck.nx;rw[if_pos a]
   rw[e] at h;exact take_size d a b h t f
 . have e:Ck.nx s=1:=by unfold Ck.nx;rw[if_neg (by omega),if_neg (by omega)]
   rw[e] at h;exact V7 a b h t
 . have e:Ck.nx s=2:=by unfold Ck.nx;rw[if_neg (by omega),if_pos a]
   rw[e] at h;exact Nk d a b h t f
theorem Zb (s:Ck.St)(t:av):(Ck.line s t).ln=s.ln:=by
 unfold Ck.line;repeat (first | rfl | split)
theorem iD.fed {w b:X}{S:Nat->Prop}{g c:Nat}{nx lf d f code:Int}{ln a:Ln.St}(h:iD w S g c nx lf d f code ln)(j:gW b (gB (fun k=>S k∧k≠g) w) c a)(i:Turns (fun k=>S k∧k≠g) w b):iD b (gB S w) g c nx lf d f code a∧Turns S w b:=by
 have l:=(aL.1 h.row).1;refine⟨⟨i.row h.row (fun e=>e.2 rfl),Or.inl h.mem,j.mono (fun k _ e=>?_)⟩,i.mono (fun k e=>e.1)⟩;rcases e with e | e
 . exact⟨Or.inl e.1,e.2⟩
 . exact⟨Or.inr e,by omega⟩
theorem Ln.KA {s:Ln.St}{c:UInt8}(h:Ln.ends s c=true):Ln.next s c=Ln.start∧Ln.text s c=s.line:=by grind [Ln.ends,Ln.next,Ln.start,Ln.text]
theorem RQ {s:Ck.St}{c:UInt8}(a:s.code=0)(b:s.ph=0∨s.ph=2∨s.ph=3):Ck.out s c=[]∧Ck.next s c=if (Ln.next s.ln c).code≠0 then { s with code:=(Ln.next s.ln c).code } else if Ln.ends s.ln c=true then Ck.line { s with ln:=Ln.start } (Ln.text s.ln c) else { s with ln:=Ln.next s.ln c }:=by
 refine⟨by unfold Ck.out;rw[if_neg (fun e=>by omega)],?_⟩;unfold Ck.next;rw[if_neg (fun e=>e a),if_neg (by omega),if_neg (by omega)]
theorem KC (w:X)(S:Nat->Prop)(g:Nat)(s:Ck.St)(c:UInt8)(h:oW w S g s)(v:Ck.Good s)(q:s.code=0)(h1:s.ph=0∨s.ph=2∨s.ph=3):
 Calls prog 385 #[Q (M ⟨g,0,U⟩),I .u8 c.toNat] w fun e w'=>zZ S g s c w e w':=by
 have x:=Ck.lG.2 ⟨q,by omega⟩;obtain⟨gl,nx,lf,rm,fd,ln,r,C⟩:=h;obtain⟨rfl,rfl,rfl,rfl,rfl⟩:=C x;rw[x] at r;have elf:Ck.lf s=0:=by unfold Ck.lf;rw[if_neg (by omega)]
 rw[elf] at r;have c5:=r.cell 5 (by decide);have c2:=r.cell 2 (by decide);have c0:=r.cell 0 (by decide);have l:=oM w _ gl s.ln c r.line v.ln.short;unfold Ln.fed at l;obtain⟨ho,m⟩:=RQ (c:=c) q h1;have HO:=H9 ho;have HR:=H9 r;by_cases i:(Ln.next s.ln c).code=0
 . rw[if_neg (fun e=>e i)] at m;cases y:Ln.ends s.ln c
   . rw[if_neg (by rw[y];simp)] at m;have D:Ck.over s c=F:=by
      unfold Ck.over;rw[bO,m];intro e;have:s.ph=4:=e.2.2.2;omega
     have p:=m;have t:=H9 D;have H0:=H9 q;have H1:=H9 h1
     rw[y,i] at l;generalize (⟨(Ln.text s.ln c).toArray⟩:ay)=bs at l;go_enter func385,ntmps385;go_wp2_with fail
     refine l.mono ?_;rintro e w1 ⟨rfl,G,z⟩;have j:=HR.o.fed G z;have c5:=j.1.cell 5 (by decide);have f5:=j.1.frozen 5;go_wp2;go_ret3
     have q:=H0.o;have h1:=H1.o
     have x:Ck.pc { s with ln:=Ln.next s.ln c }=0:=Ck.lG.2 ⟨q,by show s.ph≠4;omega⟩;refine .none F 0 rfl HO.o t.o (by rw[p];exact q) (oW.of p (j.1.Gl 0) (by rw[x];rfl) (fun _=>⟨rfl,rfl,?_,rfl,rfl⟩)) (j.2.then_ (j.1.turn 5 _));unfold Ck.lf;rw[if_neg (by show s.ph≠1;omega)]
   . rw[if_pos y] at m;obtain⟨e1,e2⟩:=Ln.KA y;have hsh:=v.ln.short;have hg':Ck.Good { s with ln:=Ln.start }:=⟨v.ph,Ln.Good.start,rfl,v.left,v.yG,v.total,v.count⟩;have qU:=fun(W:X) (S':Nat->Prop) (hr:iD W S' g gl (Ck.nx s:Int) 0 (4000-(s.total:Int)) (s.count:Int) 0 Ln.start)=>Nl (s:={ s with ln:=Ln.start }) hg' h1 q hr ⟨s.ln.line.toArray⟩ (by show s.ln.line.toArray.size<=200;rw[bK];exact hsh);have H:(⟨s.ln.line.toArray⟩:ay).data.toList=s.ln.line:=rfl;rw[H] at qU;rw[y,i,e2] at l;rw[e1] at l;rw[e2] at m;have af0:(Ck.line { s with ln:=Ln.start } s.ln.line).ln=Ln.start:=Zb _ _;have D:Ck.over s c=decide ((Ck.line { s with ln:=Ln.start } s.ln.line).code=0∧(Ck.line { s with ln:=Ln.start } s.ln.line).ph=4):=by
      unfold Ck.over;rw[m];have u:s.ph≠4:=by omega
      simp[q,u]
     have p:=m;have t:=H9 D;have HLN:=H9 af0
     generalize (⟨s.ln.line.toArray⟩:ay)=bs at l qU;go_enter func385,ntmps385;go_wp2_with fail
     refine l.mono ?_;rintro e w1 ⟨rfl,G,z⟩;have j:=HR.o.fed G z;go_wp2_with fail
     refine(qU _ _ j.1).mono ?_;rintro e w2 ⟨nx,lf,rm,fd,z,he,r,C⟩;subst he;have T2:=(j.2.then_ z);have B:=H9 r;have K2:=H9 C
     generalize Ck.line { s with ln:=Ln.start } s.ln.line=n at *;have c5:=B.out.cell 5 (by decide);have f5:=B.out.frozen 5;by_cases u:n.code=0∧n.ph=4
     . have L:decide (n.code=0∧n.ph=4)=true:=aI u;have N:=u.1;have HP:Ck.pc n=18:=Iq u.1 u.2;rw[L] at t;rw[L,N];go_wp2;go_ret3
       refine .none true 0 rfl HO.o t.o (by rw[p];exact N) (oW.of p ((B.out.Gl 0).Gl 18) (by rw[HP];rfl) (fun e=>by rw[HP] at e;cases e)) ?_;exact(T2.then_ (B.out.turn 5 _)).then_ ((B.out.Gl 0).turn 5 _)
     . have L:decide (n.code=0∧n.ph=4)=F:=aJ u;have HP:Hid (Ck.pc n=n.code):=by
        by_cases hc:n.code=0
        . unfold Hid;rw[Ck.lG.2 ⟨hc,fun e=>u ⟨hc,e⟩⟩,hc]
        . exact Ip hc
       rw[L] at t;rw[L];generalize C:n.code=k at *;go_wp2;go_ret3
       refine .none F k rfl HO.o t.o (by rw[p];exact C) (oW.of p (B.out.Gl k) (by rw[HP.o]) (fun e=>?_)) (T2.then_ (B.out.turn 5 _));obtain⟨a,b,d,f⟩:=K2.out e;exact⟨HLN.o.symm,a,b,d,f⟩
 . rw[if_pos i] at m;have y:=Ln.FM i;have D:Ck.over s c=F:=by
    unfold Ck.over;rw[bO,m];intro e;exact i e.2.2.1
   have p:=m;have t:=H9 D;have T:=H9 i
   rw[y] at l;generalize hkk:(Ln.next s.ln c).code=k at *;generalize (⟨(Ln.text s.ln c).toArray⟩:ay)=bs at l;go_enter func385,ntmps385;go_wp2_with fail
   refine l.mono ?_;rintro e w1 ⟨rfl,G,z⟩;have j:=HR.o.fed G z;have c5:=j.1.cell 5 (by decide);have f5:=j.1.frozen 5;go_wp2;go_ret3
   have x:Ck.pc { s with code:=k }=k:=Ip (s:={ s with code:=k }) T.o;exact .none F k rfl HO.o t.o (by rw[p]) (oW.of p (j.1.Gl k) (by rw[x]) (fun e=>absurd (x.symm.trans e) T.o)) (j.2.then_ (j.1.turn 5 _))
theorem Dy (w:X)(S:Nat->Prop)(g:Nat)(s:Ck.St)(c:UInt8)(h:oW w S g s)(a:Ck.Good s):
 Calls prog 385 #[Q (M ⟨g,0,U⟩),I .u8 c.toNat] w fun e w'=>zZ S g s c w e w':=by
 by_cases b:Ck.pc s=0
 . obtain⟨d,i⟩:=Ck.lG.1 b;have:=a.ph;by_cases f:s.ph=1
   . exact Kz w S g s c h a d f
   . exact KC w S g s c h a d (by omega)
 . exact Ir w S g s c h b
end Go.Proofs.YthhklgjjnaeaoaaGreatDoor