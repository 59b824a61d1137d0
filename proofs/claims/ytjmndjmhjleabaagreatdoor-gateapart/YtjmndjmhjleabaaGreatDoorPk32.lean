/- Small texts, one behind the other: CkB, CkC, CkFeed. -/
import Derived.Test.YtjmndjmhjleabaaGreatDoorPk25
import Derived.Test.YtjmndjmhjleabaaGreatDoorPk31
open Go.Value renaming int->I,string->V,pointer->Q
open Go.IntKind renaming i64->J
open Go.Ending renaming returned->Y
open Option renaming none->U,some->M
open Bool renaming false->F
open Go renaming World->X
set_option maxHeartbeats 1600000
open Go.Proofs.Tryz
namespace Go.Proofs.YtjmndjmhjleabaaGreatDoor
open Go.RowKit
theorem RV (c:UInt8)(s:av):∃a r b,Fd.cutV c s=.tuple #[V a,V r,.bool b]∧a.data.toList=s.data.toList.take (Fd.at_ c s.data.toList)∧a.size<=s.size:=by
 have d:s.data.toList.length=s.size:=by rw[aN];rfl
 unfold Fd.cutV;by_cases h:Fd.at_ c s.data.toList=s.size
 . rw[if_pos h];exact⟨s,_,_,rfl,by rw[h,<-d,bO],aL _⟩
 . rw[if_neg h];exact⟨_,_,_,rfl,by rw[Lib.extract_data];simp,by simp;omega⟩
inductive Zc (S:Nat->Prop)(g gl:Nat)(nx lf rm fd code:Int)(ln:Ln.St)(n:Int)(ok:Bool)(w:X)(e:Ending)(w':X):Prop
 | none (t:Turns S w w') (h:ok=F) (he:e=Y (I J 7)) (r:iN w' S g gl nx lf rm fd code ln)
 | long (t:Turns S w w') (h:ok=true) (h1:rm<n) (he:e=Y (I J 4)) (r:iN w' S g gl nx lf rm fd code ln)
 | last (t:Turns S w w') (h:ok=true) (h1:n<=rm) (h2:n=0) (he:e=Y (I J 0)) (r:iN w' S g gl 2 lf rm fd code ln)
 | more (t:Turns S w w') (h:ok=true) (h1:n<=rm) (h2:0<n) (he:e=Y (I J 0)) (r:iN w' S g gl 1 n (rm-n) fd code ln)
inductive abG (S:Nat->Prop)(g gl:Nat)(nx lf rm fd code:Int)(ln:Ln.St)(s:au)(w:X)(e:Ending)(w':X):Prop
 | bad (t:Turns S w w') (h:s≠[]) (he:e=Y (I J 5)) (r:iN w' S g gl nx lf rm fd code ln)
 | good (t:Turns S w w') (h:s=[]) (he:e=Y (I J 0)) (r:iN w' S g gl 0 lf rm fd code ln)
inductive VZ (S:Nat->Prop)(g gl:Nat)(nx lf rm fd code:Int)(ln:Ln.St)(s:au)(w:X)(e:Ending)(w':X):Prop
 | many (t:Turns S w w') (h:fd=16) (he:e=Y (I J 8)) (r:iN w' S g gl nx lf rm fd code ln)
 | one (t:Turns S w w') (h:fd≠16) (he:e=Y (I J ((Fd.of s).code:Int))) (r:iN w' S g gl nx lf rm (fd+1) code ln)
section
variable {w:X} {S:Nat->Prop} {g gl:Nat} {nx lf rm fd code:Int} {ln:Ln.St}
theorem NM (h:iN w S g gl nx lf rm fd code ln)(s:av)(hs:s.size<=200)(z:0<=rm)(L:rm<=4000):
 Calls prog 340 #[Q (M ⟨g,0,U⟩),V s] w fun e w'=>Zc S g gl nx lf rm fd code ln (Ck.size s.data.toList).1 (Ck.size s.data.toList).2 w e w':=by
 obtain⟨n0,n1⟩:=D6 s.data.toList;obtain⟨a,r,b,v,ha,N⟩:=RV 59 s;have l:=H9 (xE s 59 w (by unfold maxLen;omega));rw[v] at l;have m:=H9 (fun W=>tX a W (by omega));have x:Ck.size s.data.toList=Ch.number 16 6 (Lib.trimS a.data.toList Ch.ws):=by unfold Ck.size;rw[ha]
 have y:=vW a.data.toList;rw[Ch.iC] at y;have u:=H9 (fun W=>zI ⟨(Lib.trimS a.data.toList Ch.ws).toArray⟩ W (by show(Lib.trimS _ _).toArray.size<=maxLen;rw[bL];unfold maxLen;omega));have p:(⟨(Lib.trimS a.data.toList Ch.ws).toArray⟩:av).data.toList=Lib.trimS a.data.toList Ch.ws:=rfl;rw[p,<-x] at u;have q:=H9 h;clear h v ha x p y;generalize (⟨(Lib.trimS a.data.toList Ch.ws).toArray⟩:av)=tv at m u;generalize (Ck.size s.data.toList).1=n at *;generalize (Ck.size s.data.toList).2=ok at *;cases ok
 . go_enter func340,ntmps340;go_wp2_with fail
   refine l.o.mono ?_;rintro e B ⟨rfl,i⟩;have j:=H9 (iT i);clear i l;go_wp2_with fail
   refine(m.o _).mono ?_;rintro e f ⟨rfl,c⟩;have k:=H9 (then_ j.out c);clear c j m;go_wp2_with fail
   refine(u.o _).mono ?_;rintro e C ⟨rfl,t⟩;subst t;go_wp2;go_ret;exact .none (Turns.of_below k.out) rfl rfl (q.o.stay k.out)
 . by_cases D:rm<n
   . have O:decide (n > rm)=true:=aH D;go_enter func340,ntmps340;go_wp2_with fail
     refine l.o.mono ?_;rintro e B ⟨rfl,i⟩;have j:=H9 (iT i);clear i l;go_wp2_with fail
     refine(m.o _).mono ?_;rintro e f ⟨rfl,c⟩;have k:=H9 (then_ j.out c);have d:=H9 (q.o.stay k.out);clear c j m q;have G:f.cell? ⟨g,3,U⟩=M (I J rm):=d.out.cell 3 (by decide);go_wp2_with fail
     refine(u.o _).mono ?_;rintro e C ⟨rfl,t⟩;subst t;go_wp2;go_ret;exact .long (Turns.of_below k.out) rfl D rfl d.out
   . have O:decide (n > rm)=F:=aI D;by_cases H:n=0
     . subst H;go_enter func340,ntmps340;go_wp2_with fail
       refine l.o.mono ?_;rintro e B ⟨rfl,i⟩;have j:=H9 (iT i);clear i l;go_wp2_with fail
       refine(m.o _).mono ?_;rintro e f ⟨rfl,c⟩;have k:=H9 (then_ j.out c);have d:=H9 (q.o.stay k.out);clear c j m q;have G:f.cell? ⟨g,3,U⟩=M (I J rm):=d.out.cell 3 (by decide);have P:f.cell? ⟨g,1,U⟩=M (I J nx):=d.out.cell 1 (by decide);have T:f.frozen? ⟨g,1,U⟩=F:=d.out.frozen 1;go_wp2_with fail
       refine(u.o _).mono ?_;rintro e C ⟨rfl,t⟩;subst t;go_wp2;go_ret;exact .last ((Turns.of_below k.out).trans (d.out.turn 1 _) (fun _ e _=>e)) rfl z rfl rfl (d.out.next 2)
     . have tz:(n==0)=F:=aR.2 H;go_enter func340,ntmps340;go_wp2_with fail
       refine l.o.mono ?_;rintro e B ⟨rfl,i⟩;have j:=H9 (iT i);clear i l;go_wp2_with fail
       refine(m.o _).mono ?_;rintro e f ⟨rfl,c⟩;have k:=H9 (then_ j.out c);have d:=H9 (q.o.stay k.out);clear c j m q;have G:f.cell? ⟨g,3,U⟩=M (I J rm):=d.out.cell 3 (by decide);have P:f.cell? ⟨g,1,U⟩=M (I J nx):=d.out.cell 1 (by decide);have c2:f.cell? ⟨g,2,U⟩=M (I J lf):=d.out.cell 2 (by decide);have T:f.frozen? ⟨g,1,U⟩=F:=d.out.frozen 1;have f2:f.frozen? ⟨g,2,U⟩=F:=d.out.frozen 2;have f3:f.frozen? ⟨g,3,U⟩=F:=d.out.frozen 3;go_wp2_with fail
       refine(u.o _).mono ?_;rintro e C ⟨rfl,t⟩;subst t;go_wp2;go_ret;exact .more ((Turns.of_below k.out).trans ((d.out.turn 1 _).trans (((d.out.next 1).turn 2 _).trans (((d.out.next 1).left n).turn 3 _) (fun _ e _=>e)) (fun _ e _=>e)) (fun _ e _=>e)) rfl (by omega) (by omega) rfl (((d.out.next 1).left n).room (rm-n))
theorem RX (h:iN w S g gl nx lf rm fd code ln)(s:av):
 Calls prog 341 #[Q (M ⟨g,0,U⟩),V s] w fun e w'=>abG S g gl nx lf rm fd code ln s.data.toList w e w':=by
 have b:=H9 h;have f:w.cell? ⟨g,1,U⟩=M (I J nx):=h.cell 1 (by decide);have i:w.frozen? ⟨g,1,U⟩=F:=h.frozen 1;clear h;have c:=H9 (Lib.toList_data s);by_cases a:s.data.toList=[]
 . obtain rfl:s=⟨#[]⟩:=Ch.empty_eq s (by rw[<-Ch.iC,a];rfl);clear a c;go_enter func341,ntmps341;go_wp2;go_ret;exact .good (b.o.turn 1 _) rfl rfl (b.o.next 0)
 . have j:(s.toList==[])=F:=by rw[aR,c.o];exact a
   have d:=H9 a;clear a;go_enter func341,ntmps341;go_wp2;go_ret;exact .bad (Turns.refl _ _) d.o rfl b.o
theorem KY (h:iN w S g gl nx lf rm fd code ln)(s:av)(v:s.size<=200)(l:0<=fd)(m:fd<=16):
 Calls prog 342 #[Q (M ⟨g,0,U⟩),V s] w fun e w'=>VZ S g gl nx lf rm fd code ln s.data.toList w e w':=by
 have n:=H9 h;have x:w.cell? ⟨g,4,U⟩=M (I J fd):=h.cell 4 (by decide);have y:w.frozen? ⟨g,4,U⟩=F:=h.frozen 4;have b:=H9 (fun W=>xI s W (by omega));unfold Fd.val at b;have f:=H9 (h.fields (fd+1));have p:=H9 (h.turn 4 (I J (fd+1)));clear h;by_cases a:fd=16
 . subst a;go_enter func342,ntmps342;go_wp2;go_ret;exact .many (Turns.refl _ _) rfl rfl n.o
 . have q:(fd==16)=F:=aR.2 a;generalize (⟨(Fd.of s.data.toList).name.toArray⟩:av)=r at b;generalize (⟨(Fd.of s.data.toList).value.toArray⟩:av)=t at b;generalize i:(Fd.of s.data.toList).code=k at b;have u:=H9 i;clear i;go_enter func342,ntmps342;go_wp2_with fail
   refine(b.o _).mono ?_;rintro e z ⟨rfl,c⟩;have j:=H9 c;clear c b;go_wp2;go_ret;have d:=j.out.alloc j.out.size (.cells #[V r,V t] 111);exact .one (p.o.trans (Turns.of_below d) (fun _ e _=>e)) a (by rw[u.o];rfl) (f.o.stay d)
end
inductive kW (S:Nat->Prop)(g gl:Nat)(ln:Ln.St)(s:Ck.St)(t:au)(w:X)(e:Ending)(w':X):Prop
 | mk (nx lf rm fd:Int) (hT:Turns S w w') (he:e=Y (.tuple #[.bool (decide ((Ck.line s t).code=0∧(Ck.line s t).ph=4)),I J ((Ck.line s t).code:Int)]))
  (r:iN w' S g gl nx lf rm fd 0 ln) (h:Ck.pc (Ck.line s t)=0->nx=(Ck.nx (Ck.line s t):Int)∧lf=(Ck.lf (Ck.line s t):Int)∧rm=4000-((Ck.line s t).total:Int)∧fd=((Ck.line s t).count:Int))
theorem kW.of {S:Nat->Prop}{g f:Nat}{ln:Ln.St}{s a:Ck.St}{t:au}{w:X}{e:Ending}{w':X}(i:Ck.line s t=a)(b:Bool)(k:Nat)(nx lf c d:Int)(j:Turns S w w')(l:e=Y (.tuple #[.bool b,I J (k:Int)]))
 (m:b=decide (a.code=0∧a.ph=4)) (n:a.code=k) (r:iN w' S g f nx lf c d 0 ln) (h:Ck.pc a=0->nx=(Ck.nx a:Int)∧lf=(Ck.lf a:Int)∧c=4000-(a.total:Int)∧d=(a.count:Int)):kW S g f ln s t w e w':=by
 subst i;subst m;subst n;exact .mk nx lf c d j l r h
section
variable {w:X} {S:Nat->Prop} {g gl:Nat} {ln:Ln.St} {s:Ck.St}
theorem take_size (B:Ck.Good s)(v:s.ph=0)(C:s.code=0)(h:iN w S g gl 0 0 (4000-(s.total:Int)) (s.count:Int) 0 ln)(t:av)(D:t.size<=200):
 Calls prog 339 #[Q (M ⟨g,0,U⟩),V t] w fun e w'=>kW S g gl ln s t.data.toList w e w':=by
 have f:=B.total;have G:=H9 (NM h t D (by omega) (by omega));have L:w.cell? ⟨g,1,U⟩=M (I J 0):=h.cell 1 (by decide);have p:=(D6 t.data.toList).1;have u:Hid (Ck.line s t.data.toList=(if (Ck.size t.data.toList).2=F then { s with code:=7 } else if 4000<s.total+(Ck.size t.data.toList).1.toNat then { s with code:=4 } else if (Ck.size t.data.toList).1.toNat=0 then { s with ph:=3 } else { s with ph:=1,left:=(Ck.size t.data.toList).1.toNat,total:=s.total+(Ck.size t.data.toList).1.toNat })):=by
  unfold Hid Ck.line;rw[if_pos v]
 clear h;generalize (Ck.size t.data.toList).1=n at *;generalize (Ck.size t.data.toList).2=ok at *;have N:=H9 v;have H:=H9 C;have x:=H9 f;have y:=H9 p
 clear v C f p B D;go_enter func339,ntmps339;go_wp2_with fail
 refine G.o.mono ?_;clear G L;rintro e O (⟨a,b,i,r⟩ | ⟨a,b,c,i,r⟩ | ⟨a,b,c,j,i,r⟩ | ⟨a,b,c,j,i,r⟩)
 . subst i;have k:=H9 a;have l:=H9 r;have m:=H9 b
   clear a r b;go_wp2;go_ret2;have d:=u.o;rw[if_pos m.o] at d;exact kW.of d F 7 _ _ _ _ k.o rfl (by simp) rfl l.o (fun e=>absurd (Ck.lW.1 e).1 (by show(7:Nat)≠0;omega))
 . subst i;have k:=H9 a;have l:=H9 r;have m:=H9 b;have q:=H9 c
   clear a r b c;go_wp2;go_ret2;have d:=u.o;have c:=q.o;have p:=y.o
   rw[if_neg (by rw[m.o];simp),if_pos (by omega)] at d;exact kW.of d F 4 _ _ _ _ k.o rfl (by simp) rfl l.o (fun e=>absurd (Ck.lW.1 e).1 (by show(4:Nat)≠0;omega))
 . subst i;have k:=H9 a;have l:=H9 r;have m:=H9 b;have q:=H9 c;have z:=H9 j
   clear a r b c j;go_wp2;go_ret2;have d:=u.o;have c:=q.o;have j:=z.o;have p:=y.o
   rw[if_neg (by rw[m.o];simp),if_neg (by omega),if_pos (by omega)] at d;exact kW.of d F 0 _ _ _ _ k.o rfl (by simp) H.o l.o (fun e=>⟨rfl,rfl,rfl,rfl⟩)
 . subst i;have k:=H9 a;have l:=H9 r;have m:=H9 b;have q:=H9 c;have z:=H9 j
   clear a r b c j;go_wp2;go_ret2;have d:=u.o;have c:=q.o;have j:=z.o;have p:=y.o;have f:=x.o
   rw[if_neg (by rw[m.o];simp),if_neg (by omega),if_neg (by omega)] at d;exact kW.of d F 0 _ _ _ _ k.o rfl (by simp) H.o l.o (fun e=>⟨rfl,(by show n=((if (1:Nat)=1 then n.toNat else 0:Nat):Int);rw[if_pos rfl];omega),(by show 4000-(s.total:Int)-n=4000-((s.total+n.toNat:Nat):Int);omega),rfl⟩)
theorem V3 (k:s.ph=2)(l:s.code=0)(h:iN w S g gl 1 0 (4000-(s.total:Int)) (s.count:Int) 0 ln)(t:av):
 Calls prog 339 #[Q (M ⟨g,0,U⟩),V t] w fun e w'=>kW S g gl ln s t.data.toList w e w':=by
 have m:=H9 (RX h t);have p:w.cell? ⟨g,1,U⟩=M (I J 1):=h.cell 1 (by decide);have n:Hid (Ck.line s t.data.toList=if t.data.toList≠[] then { s with code:=5 } else { s with ph:=0 }):=by
  unfold Hid Ck.line;rw[if_neg (by omega),if_pos k]
 clear h;have q:=H9 l;clear k l;go_enter func339,ntmps339;go_wp2_with fail
 refine m.o.mono ?_;clear m p;rintro e u (⟨a,b,d,r⟩ | ⟨a,b,d,r⟩)
 . subst d;have f:=H9 a;have i:=H9 r;have j:=H9 b
   clear a r b;go_wp2;go_ret2;have c:=n.o;rw[if_pos j.o] at c;exact kW.of c F 5 _ _ _ _ f.o rfl (by simp) rfl i.o (fun e=>absurd (Ck.lW.1 e).1 (by show(5:Nat)≠0;omega))
 . subst d;have f:=H9 a;have i:=H9 r;have j:=H9 b
   clear a r b;go_wp2;go_ret2;have c:=n.o;rw[if_neg (fun e=>e j.o)] at c;exact kW.of c F 0 _ _ _ _ f.o rfl (by simp) q.o i.o (fun e=>⟨rfl,rfl,rfl,rfl⟩)
theorem NN (v:Ck.Good s)(d:s.ph=3)(x:s.code=0)(h:iN w S g gl 2 0 (4000-(s.total:Int)) (s.count:Int) 0 ln)(t:av)(y:t.size<=200):
 Calls prog 339 #[Q (M ⟨g,0,U⟩),V t] w fun e w'=>kW S g gl ln s t.data.toList w e w':=by
 have D:=v.count;have z:=H9 (KY h t y (by omega) (by omega));have G:w.cell? ⟨g,1,U⟩=M (I J 2):=h.cell 1 (by decide);have n:Hid (Ck.line s t.data.toList=if t.data.toList=[] then { s with ph:=4 } else if s.count=16 then { s with code:=8 } else if (Fd.of t.data.toList).code≠0 then { s with code:=(Fd.of t.data.toList).code } else { s with count:=s.count+1 }):=by
  unfold Hid Ck.line;rw[if_neg (by omega),if_neg (by omega)]
 have f:=H9 (Lib.toList_data t);have B:=H9 h;clear h;have p:=H9 x;have H:=H9 d
 clear d x v y;by_cases i:t.data.toList=[]
 . obtain rfl:t=⟨#[]⟩:=Ch.empty_eq t (by rw[<-Ch.iC,i];rfl);clear i f;go_enter func339,ntmps339;go_wp2;go_ret2;have a:=n.o;rw[if_pos trivial] at a;exact kW.of a true 0 _ _ _ _ (Turns.refl _ _) rfl (by simp[p.o]) p.o B.o (fun e=>absurd rfl (Ck.lW.1 e).2)
 . have N:(t.toList==[])=F:=by rw[aR,f.o];exact i
   have C:=H9 i;clear i B;go_enter func339,ntmps339;go_wp2_with fail
   refine z.o.mono ?_;clear z G;rintro e O (⟨j,c,q,r⟩ | ⟨j,c,q,r⟩)
   . subst q;have l:=H9 j;have m:=H9 r;have u:=H9 c
     clear j r c;go_wp2;go_ret2;have a:=n.o;have c:=u.o;rw[if_neg C.o,if_pos (by omega)] at a;exact kW.of a F 8 _ _ _ _ l.o rfl (by simp) rfl m.o (fun e=>absurd (Ck.lW.1 e).1 (by show(8:Nat)≠0;omega))
   . subst q;have l:=H9 j;have m:=H9 r;have u:=H9 c
     clear j r c;generalize L:(Fd.of t.data.toList).code=k at *;clear L;go_wp2;go_ret2;have a:=n.o;have c:=u.o;have d:=H.o
     rw[if_neg C.o,if_neg (by omega)] at a;by_cases b:k=0
     . rw[if_neg (fun e=>e b)] at a;subst b;exact kW.of a F 0 _ _ _ _ l.o rfl (by simp[d]) p.o m.o (fun e=>⟨by show(2:Int)=((Ck.nx { s with count:=s.count+1 }:Nat):Int);unfold Ck.nx;simp[d],by show(0:Int)=((Ck.lf { s with count:=s.count+1 }:Nat):Int);unfold Ck.lf;simp[d],rfl,by show(s.count:Int)+1=((s.count+1:Nat):Int);omega⟩)
     . rw[if_pos b] at a;exact kW.of a F k _ _ _ _ l.o rfl (by simp[b]) rfl m.o (fun e=>absurd (Ck.lW.1 e).1 b)
end
inductive AR (S:Nat->Prop)(g:Nat)(s:Ck.St)(c:UInt8)(w:X)(e:Ending)(w':X):Prop
 | mk (bo:aj) (bc:Nat) (he:e=Y (.tuple #[.slice bo (Ck.out s c).length bc,.bool (Ck.over s c),I J ((Ck.next s c).code:Int)])) (hI:iG w' bo bc (Ck.out s c)) (hC:pU w' (gM S w) g (Ck.next s c)) (hT:Turns S w w')
theorem AR.none {S:Nat->Prop}{g:Nat}{s:Ck.St}{c:UInt8}{w:X}{e:Ending}{w':X}(b:Bool)(k:Nat)(d:e=Y (.tuple #[.slice U 0 0,.bool b,I J (k:Int)]))(a:Ck.out s c=[])(f:Ck.over s c=b)(i:(Ck.next s c).code=k)(j:pU w' (gM S w) g (Ck.next s c))(l:Turns S w w'):AR S g s c w e w' :=
 .mk U 0 (by rw[a,f,i];exact d) (by rw[a];exact iG.nil w') j l
theorem iN.new {w W:X}{S:Nat->Prop}{g a:Nat}{nx lf b c code:Int}{ln:Ln.St}(h:iN w S g a nx lf b c code ln):iN w (gM S W) g a nx lf b c code ln:=h.mono (fun _ _ e=>Or.inl e)
theorem pU.of {w:X}{S:Nat->Prop}{g d:Nat}{nx lf b c code:Int}{ln:Ln.St}{s a:Ck.St}(e:s=a)(h:iN w S g d nx lf b c code ln)(f:code=(Ck.pc a:Int))(i:Ck.pc a=0->ln=a.ln∧nx=(Ck.nx a:Int)∧lf=(Ck.lf a:Int)∧b=4000-(a.total:Int)∧c=(a.count:Int)):pU w S g s:=by
 subst e;subst f;exact⟨d,nx,lf,b,c,ln,h,i⟩
theorem Ji {s:Ck.St}(h:s.code≠0):Ck.pc s=s.code:=by unfold Ck.pc;rw[if_pos h]
theorem Jj {s:Ck.St}(h:s.code=0)(a:s.ph=4):Ck.pc s=18:=by unfold Ck.pc;rw[if_neg (fun e=>e h),if_pos a]
theorem Jk (w:X)(S:Nat->Prop)(g:Nat)(s:Ck.St)(c:UInt8)(h:pU w S g s)(d:Ck.pc s≠0):
 Calls prog 338 #[Q (M ⟨g,0,U⟩),I .u8 c.toNat] w fun e w'=>AR S g s c w e w':=by
 obtain⟨l,nx,lf,m,n,p,r,_⟩:=h;have q:=H9 r;have B:w.cell? ⟨g,5,U⟩=M (I J (Ck.pc s:Int)):=r.cell 5 (by decide);have C:((Ck.pc s:Int) != 0)=true:=by rw[cO];omega
 clear r;have i:(Ck.next s c).code=Ck.pc s∧Ck.pc (Ck.next s c)=Ck.pc s∧Ck.out s c=[]∧Ck.over s c=F:=by
  unfold Ck.pc at d;by_cases a:s.code=0
  . rw[if_neg (fun e=>e a)] at d;by_cases b:s.ph=4
    . have f:Ck.next s c={ s with code:=18 }:=by unfold Ck.next;rw[if_neg (fun e=>e a),if_pos b]
      have t:Ck.pc { s with code:=18 }=18:=Ji (by show(18:Nat)≠0;omega);refine⟨by rw[f,Jj a b],by rw[f,t,Jj a b],by unfold Ck.out;rw[if_neg (fun e=>by omega)],by unfold Ck.over;rw[bP];exact fun e=>e.2.1 b⟩
    . rw[if_neg b] at d;exact absurd rfl d
  . have f:=Ck.Rk a c;refine⟨by rw[f];unfold Ck.pc;rw[if_pos a],by rw[f],by unfold Ck.out;rw[if_neg (fun e=>a e.1)],by unfold Ck.over;rw[bP];exact fun e=>a e.1⟩
 have u:=H9 i;have v:=H9 d
 clear i d;generalize Ck.pc s=k at *;go_enter func338,ntmps338;go_wp2;go_quiet (fail)
 go_wp2;go_ret3
 obtain⟨x,j,y,b⟩:=u.o;have z:Turns S w (w.drewN nq):=Turns.drewN _ _ _;refine .none F k rfl y b x ⟨l,nx,lf,m,n,p,?_,fun e=>absurd (j.symm.trans e) v.o⟩ z;rw[j];exact(q.o.turns (Turns.drewN (fun _=>False) w nq) (fun _ _ e=>e)).new
theorem KZ (w:X)(S:Nat->Prop)(g:Nat)(s:Ck.St)(c:UInt8)(h:pU w S g s)(i:Ck.Good s)(a:s.code=0)(b:s.ph=1):
 Calls prog 338 #[Q (M ⟨g,0,U⟩),I .u8 c.toNat] w fun e w'=>AR S g s c w e w':=by
 have j:Ck.pc s=0:=Ck.lW.2 ⟨a,by omega⟩;obtain⟨B,nx,lf,C,D,G,r,m⟩:=h;obtain⟨rfl,rfl,rfl,rfl,rfl⟩:=m j;rw[j] at r;have k:=i.left b;have t:=i.I8;have d:Ck.lf s=s.left:=by unfold Ck.lf;rw[if_pos b]
 rw[d] at r;have f:Ck.nx s=1:=by unfold Ck.nx;rw[if_neg (by omega),if_neg (by omega)]
 rw[f] at r;have H:w.cell? ⟨g,5,U⟩=M (I J 0):=r.cell 5 (by decide);have L:w.cell? ⟨g,2,U⟩=M (I J (s.left:Int)):=r.cell 2 (by decide);have N:w.frozen? ⟨g,2,U⟩=F:=r.frozen 2;have O:decide ((s.left:Int) > 0)=true:=aH (by omega);have u:=H9 (r.left ((s.left:Int)-1));have v:=H9 (r.turn 2 (I J ((s.left:Int)-1)));have l:Ck.next s c={ s with left:=s.left-1,ph:=if s.left<=1 then 2 else 1 }:=by unfold Ck.next;rw[if_neg (fun e=>e a),if_neg (by omega),if_pos b]
 have n:=H9 l;have p:Hid (Ck.out s c=[c]):=by unfold Hid Ck.out;rw[if_pos ⟨a,b⟩]
 have x:Hid (Ck.over s c=F):=by
  unfold Hid Ck.over;rw[bP,l];intro e;have:(if s.left<=1 then 2 else 1)=4:=e.2.2.2;split at this <;> omega
 have y:=H9 a;have z:=H9 k
 clear r m l i j d f a b k;go_enter func338,ntmps338;go_wp2;go_ret3
 have q:Below (w.setCell ⟨g,2,U⟩ (I J ((s.left:Int)-1))).heap.size (w.setCell ⟨g,2,U⟩ (I J ((s.left:Int)-1))) ((w.setCell ⟨g,2,U⟩ (I J ((s.left:Int)-1))).alloc (.cells #[I .u8 (c.toNat:Int)] 5)):=(fI _ _).alloc (aL _) _;have a:=y.o;have k:=z.o;refine .mk (M ⟨(w.setCell ⟨g,2,U⟩ (I J ((s.left:Int)-1))).heap.size,0,U⟩) 1 ?_ ?_ (pU.of n.o ((u.o.stay q).new (W:=w)) ?_ (fun _=>⟨rfl,?_,?_,rfl,rfl⟩)) (v.o.trans (Turns.of_below q) (fun _ e _=>e))
 . rw[p.o,x.o,n.o];show _=Ending.returned (.tuple #[.slice (M ⟨_,0,U⟩) 1 1,.bool F,I J ((s.code:Nat):Int)]);rw[a];simp
 . rw[p.o];exact iG.one _ c _ _
 . rw[Ck.lW (s:={ s with left:=s.left-1,ph:=if s.left<=1 then 2 else 1 }) |>.2 ⟨a,by show(if s.left<=1 then 2 else 1)≠4;split <;> omega⟩]
 . unfold Ck.nx;simp only;split <;> rfl
 . unfold Ck.lf;simp only;split
   . rw[if_neg (by omega)];omega
   . rw[if_pos rfl];omega
theorem NP {w:X}{S:Nat->Prop}{g c:Nat}{ln:Ln.St}{s:Ck.St}(d:Ck.Good s)(a:s.ph=0∨s.ph=2∨s.ph=3)(b:s.code=0)(h:iN w S g c (Ck.nx s:Int) 0 (4000-(s.total:Int)) (s.count:Int) 0 ln)(t:av)(f:t.size<=200):
 Calls prog 339 #[Q (M ⟨g,0,U⟩),V t] w fun e w'=>kW S g c ln s t.data.toList w e w':=by
 rcases a with a | a | a
 . have e:Ck.nx s=0:=by unfold Ck.nx;rw[if_pos a]
   rw[e] at h;exact take_size d a b h t f
 . have e:Ck.nx s=1:=by unfold Ck.nx;rw[if_neg (by omega),if_neg (by omega)]
   rw[e] at h;exact V3 a b h t
 . have e:Ck.nx s=2:=by unfold Ck.nx;rw[if_neg (by omega),if_pos a]
   rw[e] at h;exact NN d a b h t f
theorem Ze (s:Ck.St)(t:au):(Ck.line s t).ln=s.ln:=by
 unfold Ck.line;repeat (first | rfl | split)
theorem iN.fed {w b:X}{S:Nat->Prop}{g c:Nat}{nx lf d f code:Int}{ln a:Ln.St}(h:iN w S g c nx lf d f code ln)(j:iy b (gM (fun k=>S k∧k≠g) w) c a)(i:Turns (fun k=>S k∧k≠g) w b):iN b (gM S w) g c nx lf d f code a∧Turns S w b:=by
 have l:g<w.heap.size:=(aK.1 h.row).1;refine⟨⟨i.row h.row (fun e=>e.2 rfl),Or.inl h.mem,j.mono (fun k _ e=>?_)⟩,i.mono (fun k e=>e.1)⟩;rcases e with e | e
 . exact⟨Or.inl e.1,e.2⟩
 . exact⟨Or.inr e,by omega⟩
theorem Ln.K3 {s:Ln.St}{c:UInt8}(h:Ln.ends s c=true):Ln.next s c=Ln.start∧Ln.text s c=s.line:=by
 unfold Ln.ends at h;rw[bQ] at h;obtain⟨a,b,d⟩:=h;refine⟨by unfold Ln.next;rw[if_neg (fun e=>e a),if_neg (fun e=>e b),if_pos d];rfl,by unfold Ln.text;rw[if_pos ⟨a,b,d⟩]⟩
theorem RY {s:Ck.St}{c:UInt8}(a:s.code=0)(b:s.ph=0∨s.ph=2∨s.ph=3):Ck.out s c=[]∧Ck.next s c=if (Ln.next s.ln c).code≠0 then { s with code:=(Ln.next s.ln c).code } else if Ln.ends s.ln c=true then Ck.line { s with ln:=Ln.start } (Ln.text s.ln c) else { s with ln:=Ln.next s.ln c }:=by
 refine⟨by unfold Ck.out;rw[if_neg (fun e=>by omega)],?_⟩;unfold Ck.next;rw[if_neg (fun e=>e a),if_neg (by omega),if_neg (by omega)]
theorem K4 (w:X)(S:Nat->Prop)(g:Nat)(s:Ck.St)(c:UInt8)(h:pU w S g s)(t:Ck.Good s)(n:s.code=0)(H:s.ph=0∨s.ph=2∨s.ph=3):
 Calls prog 338 #[Q (M ⟨g,0,U⟩),I .u8 c.toNat] w fun e w'=>AR S g s c w e w':=by
 have y:Ck.pc s=0:=Ck.lW.2 ⟨n,by omega⟩;obtain⟨gl,nx,lf,rm,fd,ln,r,z⟩:=h;obtain⟨rfl,rfl,rfl,rfl,rfl⟩:=z y;rw[y] at r;have elf:Ck.lf s=0:=by unfold Ck.lf;rw[if_neg (by omega)]
 rw[elf] at r;have P:w.cell? ⟨g,5,U⟩=M (I J 0):=r.cell 5 (by decide);have c2:w.cell? ⟨g,2,U⟩=M (I J 0):=r.cell 2 (by decide);have c0:w.cell? ⟨g,0,U⟩=M (Q (M ⟨gl,0,U⟩)):=r.cell 0 (by decide);have l:=H9 (pq w _ gl s.ln c r.line t.ln.short);unfold Ln.fed at l;obtain⟨ho,m⟩:=RY (c:=c) n H;have HO:=H9 ho;have HR:=H9 r;clear z ho y r elf;by_cases i:(Ln.next s.ln c).code=0
 . rw[if_neg (fun e=>e i)] at m;cases u:Ln.ends s.ln c
   . rw[if_neg (by rw[u];simp)] at m;have B:Ck.over s c=F:=by
      unfold Ck.over;rw[bP,m];intro e;have:s.ph=4:=e.2.2.2;omega
     have v:=H9 m;have C:=H9 B;have H0:=H9 n;have H1:=H9 H
     rw[u,i] at l;clear m B n H u i t;generalize (⟨(Ln.text s.ln c).toArray⟩:av)=bs at l;go_enter func338,ntmps338;go_wp2_with fail
     refine l.o.mono ?_;rintro e T ⟨rfl,D,p⟩;have j:=H9 (HR.o.fed D p);clear D p l P c2 c0;have P:T.cell? ⟨g,5,U⟩=M (I J 0):=j.o.1.cell 5 (by decide);have f5:T.frozen? ⟨g,5,U⟩=F:=j.o.1.frozen 5;go_wp2;go_ret3
     have n:=H0.o;have H:=H1.o
     have y:Ck.pc { s with ln:=Ln.next s.ln c }=0:=Ck.lW.2 ⟨n,by show s.ph≠4;omega⟩;refine .none F 0 rfl HO.o C.o (by rw[v.o];exact n) (pU.of v.o (j.o.1.Ia 0) (by rw[y];rfl) (fun _=>⟨rfl,rfl,?_,rfl,rfl⟩)) (j.o.2.then_ (j.o.1.turn 5 _));unfold Ck.lf;rw[if_neg (by show s.ph≠1;omega)]
   . rw[if_pos u] at m;obtain⟨e1,e2⟩:=Ln.K3 u;have hsh:=t.ln.short;have hg':Ck.Good { s with ln:=Ln.start }:=⟨t.ph,Ln.Good.start,rfl,t.left,t.I8,t.total,t.count⟩;have tC:=H9 (fun(W:X) (S':Nat->Prop) (hr:iN W S' g gl (Ck.nx s:Int) 0 (4000-(s.total:Int)) (s.count:Int) 0 Ln.start)=>NP (s:={ s with ln:=Ln.start }) hg' H n hr ⟨s.ln.line.toArray⟩ (by show s.ln.line.toArray.size<=200;rw[bL];exact hsh));have G:(⟨s.ln.line.toArray⟩:av).data.toList=s.ln.line:=rfl;rw[G] at tC;rw[u,i,e2] at l;rw[e1] at l;rw[e2] at m;have ad6:(Ck.line { s with ln:=Ln.start } s.ln.line).ln=Ln.start:=Ze _ _;have B:Ck.over s c=decide ((Ck.line { s with ln:=Ln.start } s.ln.line).code=0∧(Ck.line { s with ln:=Ln.start } s.ln.line).ph=4):=by
      unfold Ck.over;rw[m];have x:s.ph≠4:=by omega
      simp[n,x]
     have v:=H9 m;have C:=H9 B;have HLN:=H9 ad6
     clear m B n H u i t e1 e2 hsh hg' G ad6;generalize (⟨s.ln.line.toArray⟩:av)=bs at l tC;go_enter func338,ntmps338;go_wp2_with fail
     refine l.o.mono ?_;rintro e T ⟨rfl,D,p⟩;have j:=H9 (HR.o.fed D p);clear D p l P c2 c0;go_wp2_with fail
     refine(tC.o _ _ j.o.1).mono ?_;rintro e w2 ⟨nx,lf,rm,fd,p,he,r,z⟩;subst he;have T2:=H9 (j.o.2.then_ p);have L:=H9 r;have K2:=H9 z
     clear p r z tC j HR;generalize Ck.line { s with ln:=Ln.start } s.ln.line=q at *;have P:w2.cell? ⟨g,5,U⟩=M (I J 0):=L.out.cell 5 (by decide);have f5:w2.frozen? ⟨g,5,U⟩=F:=L.out.frozen 5;by_cases x:q.code=0∧q.ph=4
     . have N:decide (q.code=0∧q.ph=4)=true:=aH x;have O:=x.1;have HP:Hid (Ck.pc q=18):=Jj x.1 x.2;have HC0:=H9 O;rw[N] at C;rw[N,O];clear x N O;go_wp2;go_ret3
       refine .none true 0 rfl HO.o C.o (by rw[v.o];exact HC0.o) (pU.of v.o ((L.out.Ia 0).Ia 18) (by rw[HP.o];rfl) (fun e=>by rw[HP.o] at e;cases e)) ?_;exact(T2.out.then_ (L.out.turn 5 _)).then_ ((L.out.Ia 0).turn 5 _)
     . have N:decide (q.code=0∧q.ph=4)=F:=aI x;have HP:Hid (Ck.pc q=q.code):=by
        by_cases hc:q.code=0
        . unfold Hid;rw[Ck.lW.2 ⟨hc,fun e=>x ⟨hc,e⟩⟩,hc]
        . exact Ji hc
       rw[N] at C;rw[N];clear x N;generalize z:q.code=k at *;have HK:=H9 z;clear z;go_wp2;go_ret3
       refine .none F k rfl HO.o C.o (by rw[v.o];exact HK.o) (pU.of v.o (L.out.Ia k) (by rw[HP.o]) (fun e=>?_)) (T2.out.then_ (L.out.turn 5 _));obtain⟨a,b,d,f⟩:=K2.out e;exact⟨HLN.o.symm,a,b,d,f⟩
 . rw[if_pos i] at m;have u:=Ln.Gy i;have B:Ck.over s c=F:=by
    unfold Ck.over;rw[bP,m];intro e;exact i e.2.2.1
   have v:=H9 m;have C:=H9 B;have HKC:=H9 i
   rw[u] at l;clear m B n H u i t;generalize hkk:(Ln.next s.ln c).code=k at *;clear hkk;generalize (⟨(Ln.text s.ln c).toArray⟩:av)=bs at l;go_enter func338,ntmps338;go_wp2_with fail
   refine l.o.mono ?_;rintro e T ⟨rfl,D,p⟩;have j:=H9 (HR.o.fed D p);clear D p l P c2 c0;have P:T.cell? ⟨g,5,U⟩=M (I J 0):=j.o.1.cell 5 (by decide);have f5:T.frozen? ⟨g,5,U⟩=F:=j.o.1.frozen 5;go_wp2;go_ret3
   have y:Ck.pc { s with code:=k }=k:=Ji (s:={ s with code:=k }) HKC.o;exact .none F k rfl HO.o C.o (by rw[v.o]) (pU.of v.o (j.o.1.Ia k) (by rw[y]) (fun e=>absurd (y.symm.trans e) HKC.o)) (j.o.2.then_ (j.o.1.turn 5 _))
theorem Ea (w:X)(S:Nat->Prop)(g:Nat)(s:Ck.St)(c:UInt8)(h:pU w S g s)(a:Ck.Good s):
 Calls prog 338 #[Q (M ⟨g,0,U⟩),I .u8 c.toNat] w fun e w'=>AR S g s c w e w':=by
 by_cases b:Ck.pc s=0
 . obtain⟨d,i⟩:=Ck.lW.1 b;have:=a.ph;by_cases f:s.ph=1
   . exact KZ w S g s c h a d f
   . exact K4 w S g s c h a d (by omega)
 . exact Jk w S g s c h b
end Go.Proofs.YtjmndjmhjleabaaGreatDoor