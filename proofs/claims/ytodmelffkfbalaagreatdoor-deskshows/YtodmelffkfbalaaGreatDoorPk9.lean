import Derived.Test.YtodmelffkfbalaaGreatDoorPk3
import Derived.Test.YtodmelffkfbalaaGreatDoorPk6
open Bool renaming false->F
namespace Go.Proofs.YtodmelffkfbalaaGreatDoor
def gB (l:ab):ae:=⟨l.toArray⟩
theorem PB (m:ae):gB m.data.toList=m:=by cases m;simp[gB]
theorem PC (l:ab):(gB l).data.toList=l:=by simp[gB]
theorem GM (l:ab):(gB l).size=l.length:=by simp[gB,ByteArray.size]
structure av where
 h:aB
 a:ab
 b:Nat
def iX:av:=⟨fe,[],0⟩
def nr (s:aB)(size:Int)(m:ae):aB×Nat:=((fb s size m).1,(fb s size m).2.2)
def nZ (s:aB)(id:Int):Nat:=match cE s.l id with
 | none=>0
 | some i => match s.l[i]? with
   | none=>0
   | some u=>u.b.length
theorem Py {s:aB}{a:Int}(h:cE s.l a=none):nZ s a=0:=by unfold nZ;rw[h]
theorem GK {s:aB}{a:Int}{i:Nat}(h:cE s.l a=some i):nZ s a=(s.l[i]'(mu h)).b.length:=by grind [cE,nZ]
def dE (s:aB)(e:aI):aB×Nat :=
 if e.b=1 then nr s e.n (gB e.c) else if e.b=2 then iM s e.a (nZ s e.a) e.c else if e.b=3 then lC s e.a e.n else if e.b=4 then mt s e.a else if e.b=5 then kj s e.a else lD s e.a
def gY (s:aB)(l:List aI):aB:=l.foldl (fun h e=>(dE h e).1) s
def bH (s:av)(r:aB×Nat)(e:aI):av×Nat :=
 if r.2≠0 then (s,r.2) else if de e=F then (s,1) else if 100000<s.a.length+(aW e).length then (s,16) else (⟨r.1,s.a++aW e,s.b⟩,0)
def cw (s:av)(size:Int)(m:ae):av×Nat:=bH s (nr s.h size m) ⟨1,s.h.a+1,size,m.data.toList⟩
def nj (s:av)(c:Nat):Int:=if c=0 then s.h.a+1 else 0
def cK (s:av)(id off:Int)(b:ab):av×Nat:=bH s (iM s.h id off b) ⟨2,id,0,b⟩
def qL (s:av)(id size:Int):av×Nat:=bH s (lC s.h id size) ⟨3,id,size,[]⟩
def gc (s:av)(id:Int):av×Nat:=bH s (mt s.h id) ⟨4,id,0,[]⟩
def fr (s:av)(id:Int):av×Nat:=bH s (kj s.h id) ⟨5,id,0,[]⟩
def kY (s:av)(id:Int):av×Nat:=bH s (lD s.h id) ⟨6,id,0,[]⟩
def eG (s:av):av:=⟨s.h,s.a,s.a.length⟩
def Bf (keep:Int)(d:Nat):Nat:=min (max keep 0).toNat d
def dJ (s:av)(keep:Int):Nat:=s.b+Bf keep (s.a.length-s.b)
def gX (s:av)(keep:Int):av:=⟨gY fe (bY (s.a.take (dJ s keep))).1,s.a.take (bY (s.a.take (dJ s keep))).2,(bY (s.a.take (dJ s keep))).2⟩
structure aK (s:av):Prop where
 h:cM s.h
 c:s.h.a<=s.a.length
 d:s.b<=s.a.length
 b:s.a.length<=100000
theorem aK.jL:aK iX:=⟨cM.j,by simp[iX,fe],by simp[iX],by simp[iX]⟩
theorem aK.q {s:av}(h:aK s):s.h.a<=100000:=by have:=h.c;have:=h.b;omega
theorem PF {s:av}(h:s.b<=s.a.length)(a:Int):dJ s a<=s.a.length:=by unfold dJ Bf;omega
theorem GO {s:aB}(h:cM s)(size:Int)(m:ae):cM (nr s size m).1:=h.jL size m
theorem GL (s:aB)(size:Int)(m:ae):(nr s size m).1.a<=s.a+1:=Pl s size m
theorem PA {s:aB}(h:cM s)(e:aI):cM (dE s e).1:=by
 unfold dE;split
 . exact GO h _ _
 . split
   . exact h.q ..
   . split
     . exact h.y ..
     . split
       . exact h.B ..
       . split
         . exact h.r ..
         . exact h.E ..
theorem Pw (s:aB)(e:aI):(dE s e).1.a<=s.a+1:=by
 unfold dE;split
 . exact GL s _ _
 . split
   . rw[Gz];omega
   . split
     . rw[GJ];omega
     . split
       . rw[GD];omega
       . split
         . rw[GA];omega
         . rw[GE];omega
theorem GR (s:aB)(l:List aI)(e:aI):gY s (l++[e])=(dE (gY s l) e).1:=by simp[gY]
theorem Pu (s:aB)(l:List aI)(k:Nat)(h:k<l.length):gY s (l.take (k+1))=(dE (gY s (l.take k)) l[k]).1:=by
 rw[fR h,GR]
theorem Bh:∀(l:List aI) {s:aB},cM s->cM (gY s l)
 | [],_,h=>h
 | e::t,_,h=>Bh t (PA h e)
theorem Bg:∀(l:List aI) (s:aB),(gY s l).a<=s.a+l.length
 | [],s=>by simp[gY]
 | e :: t, s => by
   have a:=Bg t (dE s e).1;have b:=Pw s e;show(gY (dE s e).1 t).a<=_;simp only[bF];omega
theorem qM {s:av}{r:aB×Nat}{e:aI}(h:r.2≠0):bH s r e=(s,r.2):=by unfold bH;rw[if_pos h]
theorem qP {s:av}{r:aB×Nat}{e:aI}(h:r.2=0)(a:de e=F):bH s r e=(s,1):=by unfold bH;rw[if_neg (by simpa using h),if_pos a]
theorem qN {s:av}{r:aB×Nat}{e:aI}(h:r.2=0)(a:de e=true)(b:100000<s.a.length+(aW e).length):bH s r e=(s,16):=by grind [de,aW,bH]
theorem qQ {s:av}{r:aB×Nat}{e:aI}(h:r.2=0)(a:de e=true)(b:¬100000<s.a.length+(aW e).length):bH s r e=(⟨r.1,s.a++aW e,s.b⟩,0):=by grind [de,aW,bH]
theorem aK.j {s:av}(h:aK s){r:aB×Nat}(a:cM r.1)(b:r.1.a<=s.h.a+1)(e:aI):aK (bH s r e).1:=by
 unfold bH;split
 . exact h
 . split
   . exact h
   . split
     . exact h
     . rename_i c;have d:=h.c;have f:=h.d
       have g:=EM e;refine⟨a,?_,?_,?_⟩
       . simp only[aD];omega
       . simp only[aD];omega
       . simp only[aD];omega
theorem aK.f {s:av}(h:aK s)(size:Int)(m:ae):aK (cw s size m).1:=h.j (GO h.h _ _) (GL _ _ _) _
theorem aK.a {s:av}(h:aK s)(c a:Int)(b:ab):aK (cK s c a b).1:=h.j (h.h.q ..) (by rw[Gz];omega) _
theorem aK.E {s:av}(h:aK s)(a size:Int):aK (qL s a size).1:=h.j (h.h.y ..) (by rw[GJ];omega) _
theorem aK.r {s:av}(h:aK s)(a:Int):aK (gc s a).1:=h.j (h.h.B ..) (by rw[GD];omega) _
theorem aK.y {s:av}(h:aK s)(a:Int):aK (fr s a).1:=h.j (h.h.r ..) (by rw[GA];omega) _
theorem aK.G {s:av}(h:aK s)(a:Int):aK (kY s a).1:=h.j (h.h.E ..) (by rw[GE];omega) _
theorem aK.e {s:av}(h:aK s):aK (eG s):=⟨h.h,h.c,am _,h.b⟩
theorem GP (s:av)(a:Int):(bY (s.a.take (dJ s a))).2<=s.a.length∧(bY (s.a.take (dJ s a))).2<=dJ s a∧(bY (s.a.take (dJ s a))).1.length<=(bY (s.a.take (dJ s a))).2:=by
 obtain⟨_,b,_,c⟩:=An _ (s.a.take (dJ s a)) (am _);rw[bV] at b;omega
theorem aK.B {s:av}(h:aK s)(a:Int):aK (gX s a):=by
 obtain⟨b,_,c⟩:=GP s a;have d:=Bg (bY (s.a.take (dJ s a))).1 fe;have e:=h.b;have f:fe.a=0:=rfl;refine⟨Bh _ cM.j,?_,?_,?_⟩
 . show(gY fe _).a<=_;simp only[gX,bV];omega
 . simp only[gX,bV];omega
 . simp only[gX,bV];omega
abbrev nk:=PG
def lE (s:aB)(x:nk):aB×Nat:=if x.a=0 then nr s x.n x.c else if x.a=1 then iM s x.b x.n x.c.data.toList else if x.a=2 then lC s x.b x.n else if x.a=3 then mt s x.b else if x.a=4 then kj s x.b else lD s x.b
def lF (s:aB)(x:nk):aI:=if x.a=0 then ⟨1,s.a+1,x.n,x.c.data.toList⟩ else if x.a=1 then ⟨2,x.b,0,x.c.data.toList⟩ else if x.a=2 then ⟨3,x.b,x.n,[]⟩ else if x.a=3 then ⟨4,x.b,0,[]⟩ else if x.a=4 then ⟨5,x.b,0,[]⟩ else ⟨6,x.b,0,[]⟩
def kn (s:av)(x:nk):av×Nat:=if x.a=0 then cw s x.n x.c else if x.a=1 then cK s x.b x.n x.c.data.toList else if x.a=2 then qL s x.b x.n else if x.a=3 then gc s x.b else if x.a=4 then fr s x.b else if x.a=5 then kY s x.b else if x.a=6 then (eG s,0) else if x.a=7 then (gX s x.n,0) else (s,0)
def od:ae:=⟨#[47,102,105,108,101,115]⟩
def ku:ae:=⟨#[47,102,105,108,101,115,47]⟩
def Bl:ae:=⟨#[79,80,84,73,79,78,83]⟩
def uU:ae:=⟨#[80,79,83,84]⟩
def uV:ae:=⟨#[72,69,65,68]⟩
def uX:ae:=⟨#[68,69,76,69,84,69]⟩
def uZ:ae:=⟨#[80,65,84,67,72]⟩
def oU:ae:=⟨#[116,117,115,45,114,101,115,117,109,97,98,108,101]⟩
def gd:ae:=⟨#[117,112,108,111,97,100,45,108,101,110,103,116,104]⟩
def ns:ae:=⟨#[117,112,108,111,97,100,45,100,101,102,101,114,45,108,101,110,103,116,104]⟩
def qU:ae:=⟨#[117,112,108,111,97,100,45,109,101,116,97,100,97,116,97]⟩
def jM:ae:=⟨#[99,111,110,116,101,110,116,45,116,121,112,101]⟩
def xH:ae:=⟨#[117,112,108,111,97,100,45,111,102,102,115,101,116]⟩
def fu:ae:=⟨#[84,117,115,45,82,101,115,117,109,97,98,108,101]⟩
def cG:ae:=⟨#[49,46,48,46,48]⟩
def eg:ae:=⟨#[84,117,115,45,86,101,114,115,105,111,110]⟩
def nt:ae:=⟨#[84,117,115,45,77,97,120,45,83,105,122,101]⟩
def nw:ae:=⟨#[50,48,48,48]⟩
def oa:ae:=⟨#[84,117,115,45,69,120,116,101,110,115,105,111,110]⟩
def ob:ae:=⟨#[99,114,101,97,116,105,111,110,44,99,114,101,97,116,105,111,110,45,100,101,102,101,114,45,108,101,110,103,116,104,44,116,101,114,109,105,110,97,116,105,111,110]⟩
def qT:ae:=⟨#[76,111,99,97,116,105,111,110]⟩
def dm:ae:=⟨#[85,112,108,111,97,100,45,79,102,102,115,101,116]⟩
def gC:ae:=⟨#[85,112,108,111,97,100,45,76,101,110,103,116,104]⟩
def gD:ae:=⟨#[85,112,108,111,97,100,45,68,101,102,101,114,45,76,101,110,103,116,104]⟩
def kZ:ae:=⟨#[49]⟩
def kq:ae:=⟨#[67,97,99,104,101,45,67,111,110,116,114,111,108]⟩
def kr:ae:=⟨#[110,111,45,115,116,111,114,101]⟩
def ir:ae:=⟨#[85,112,108,111,97,100,45,77,101,116,97,100,97,116,97]⟩
def Qe:ae:=⟨#[97,112,112,108,105,99,97,116,105,111,110,47,111,102,102,115,101,116,43,111,99,116,101,116,45,115,116,114,101,97,109]⟩
def ba (vs:List ae):ab×Nat :=
 match vs with
 | []=>([],10)
 | [v]=>(v.data.toList,0)
 | _=>([],9)
def aQ (name:ae)(l:aC):List ae:=(l.filter fun p=>decide (aY p.1.data.toList=aY name.data.toList)).map (·.2)
def dg (r:ab×Nat):Int×Bool:=if r.2=10 then (-1,true) else ((bB 10 9 r.1).1,(bB 10 9 r.1).2&&decide (r.2=0))
abbrev iY:=Nat×aC
def bR (st:Nat)(l:aC):iY:=(st,(fu,cG)::l)
def pM (c:Nat):Nat:=if c=10 then 404 else if c=17∨c=19 then 409 else if c=4 then 413 else if c=8∨c=16 then 507 else 400
def eW (n:Nat):ae:=⟨(bw 8 n).toArray⟩
def vd (t:ae):Option Int :=
 if 7<t.size∧t.data.toList.take 7=ku.data.toList∧(bB 10 9 (t.data.toList.drop 7)).2=true∧bw 8 (bB 10 9 (t.data.toList.drop 7)).1.toNat=t.data.toList.drop 7 then some (bB 10 9 (t.data.toList.drop 7)).1 else none
def lJ (s:aB)(t:ae):Option aN:=match vd t with
 | none=>none
 | some n => match cE s.l n with
   | none=>none
   | some i=>s.l[i]?
def nu (s:av)(m:ae)(l:aC):av×iY :=
 if m≠uU then (s,bR 405 [])
 else if (dg (ba (aQ gd l))).2=F then (s,bR 400 [])
 else if (ba (aQ ns l)).2=9∨((ba (aQ ns l)).2=0∧(ba (aQ ns l)).1≠kZ.data.toList)∨(0<=(dg (ba (aQ gd l))).1<->(ba (aQ ns l)).2=0) then (s,bR 400 [])
 else if (ba (aQ qU l)).2=9 then (s,bR 400 [])
 else if (cw s (dg (ba (aQ gd l))).1 (gB (ba (aQ qU l)).1)).2≠0 then (s,bR (pM (cw s (dg (ba (aQ gd l))).1 (gB (ba (aQ qU l)).1)).2) [])
 else (eG (cw s (dg (ba (aQ gd l))).1 (gB (ba (aQ qU l)).1)).1,bR 201 [(qT,ku++eW (s.h.a+1).toNat)])
def jN (u:aN):iY:=bR 200 ((dm,eW u.b.length)::(if u.a<0 then (gD,kZ) else (gC,eW u.a.toNat))::(kq,kr)::(if u.d.size=0 then [] else [(ir,u.d)]))
def qR (v:ab):Bool:=match ee v with
 | .inl _=>F
 | .inr x=>decide (x.1=Qe.data.toList)
def pN (u:aN)(l:aC):Prop:=0<=(dg (ba (aQ gd l))).1∧u.a<0
instance (u:aN) (l:aC):Decidable (pN u l):=by unfold pN;exact inferInstance
def mw (s:av)(u:aN)(l:aC)(body:ab):av×iY :=
 if (ba (aQ jM l)).2=9 then (s,bR 400 [])
 else if qR (ba (aQ jM l)).1=F then (s,bR 415 [])
 else if (dg (ba (aQ xH l))).2=F∨(dg (ba (aQ xH l))).1<0 then (s,bR 400 [])
 else if (dg (ba (aQ xH l))).1≠u.b.length then (s,bR 409 [])
 else if (dg (ba (aQ gd l))).2=F∨(0<=(dg (ba (aQ gd l))).1∧0<=u.a∧(dg (ba (aQ gd l))).1≠u.a) then (s,bR 400 [])
 else if pN u l∧(2000<(dg (ba (aQ gd l))).1∨(dg (ba (aQ gd l))).1<u.b.length+body.length) then (s,bR 413 [])
 else if 100000<s.a.length+(body.length+60) then (s,bR 507 [])
 else if (cK s u.c u.b.length body).2≠0 then (s,bR (pM (cK s u.c u.b.length body).2) [])
 else (eG (if pN u l then (qL (cK s u.c u.b.length body).1 u.c (dg (ba (aQ gd l))).1).1 else (cK s u.c u.b.length body).1),bR 204 [(dm,eW (u.b.length+body.length))])
theorem pL {s:av}{r:aB×Nat}{e:aI}(h:(bH s r e).2≠0):(bH s r e).1=s:=by grind [bH]
theorem Bj {s:aB}{t:ae}{u:aN}(h:lJ s t=some u):u∈s.l∧∃n i,vd t=some n∧cE s.l n=some i∧s.l[i]? = some u∧u.c=n:=by grind [lJ,vd,cE,xD]
theorem Qd {s:av}(h:aK s)(m:ae)(l:aC):aK (nu s m l).1:=by
 unfold nu;repeat' split
 all_goals first
  | exact h
  | exact(h.f _ _).e
theorem P3 {s:av}(h:aK s)(u:aN)(l:aC)(body:ab):aK (mw s u l body).1:=by
 unfold mw;repeat' split
 all_goals first
  | exact h
  | exact((h.a _ _ _).E _ _).e
  | exact(h.a _ _ _).e
def qS (s:av)(u:aN)(m:ae)(l:aC)(body:ab):av×iY :=
 if m=uV then (s,jN u)
 else if m=uX then (eG (gc s u.c).1,bR 204 [])
 else if m=uZ then mw s u l body else (s,bR 405 [])
def br (s:av)(m t:ae)(l:aC)(body:ab):av×iY :=
 if t=od∧m=Bl then (s,bR 204 [(eg,cG),(nt,nw),(oa,ob)])
 else if (ba (aQ oU l)).2=9 then (s,bR 400 [])
 else if (ba (aQ oU l)).1≠cG.data.toList then (s,bR 412 [(eg,cG)])
 else if t=od then nu s m l
 else match lJ s.h t with
  | none=>(s,bR 404 [])
  | some u=>qS s u m l body
theorem Qb {s:av}(h:aK s)(u:aN)(m:ae)(l:aC)(body:ab):aK (qS s u m l body).1:=by
 unfold qS;repeat' split
 all_goals first
  | exact h
  | exact(h.r _).e
  | exact P3 h u l body
theorem Bk {s:av}(h:aK s)(m t:ae)(l:aC)(body:ab):aK (br s m t l body).1:=by grind [br,Qd,Qb]
theorem Pz {s:aB}{c a:Int}{b:ab}(h:(iM s c a b).2=0):a=nZ s c:=by
 cases d:cE s.l c with
 | none=>rw[Bd,qG d] at h;simp at h
 | some i =>
   rw[Bd,qH d] at h;rw[GK d];unfold km at h;split at h
   . simp at h
   . split at h
     . simp at h
     . rename_i e;simpa using e
theorem Pv {s:aB}{x:nk}(h:(lE s x).2=0):dE s (lF s x)=lE s x:=by
 by_cases a:x.a=0
 . simp only[lE,lF,if_pos a,dE,if_true];rw[PB]
 by_cases b:x.a=1
 . simp only[lE,if_neg a,if_pos b] at h;have:=Pz h;simp only[lE,lF,if_neg a,if_pos b,dE];rw[if_neg (by decide),if_pos trivial,<-this]
 by_cases c:x.a=2
 . simp only[lE,lF,if_neg a,if_neg b,if_pos c,dE];rw[if_neg (by decide),if_neg (by decide),if_pos trivial]
 by_cases d:x.a=3
 . simp only[lE,lF,if_neg a,if_neg b,if_neg c,if_pos d,dE];rw[if_neg (by decide),if_neg (by decide),if_neg (by decide),if_pos trivial]
 by_cases e:x.a=4
 . simp only[lE,lF,if_neg a,if_neg b,if_neg c,if_neg d,if_pos e,dE];rw[if_neg (by decide),if_neg (by decide),if_neg (by decide),if_neg (by decide),if_pos trivial]
 . simp only[lE,lF,if_neg a,if_neg b,if_neg c,if_neg d,if_neg e,dE];rw[if_neg (by decide),if_neg (by decide),if_neg (by decide),if_neg (by decide),if_neg (by decide)]
def GQ (h:aB)(e:aI):Prop:=∃x:nk,0<=x.a∧x.a<=5∧e=lF h x∧(lE h x).2=0∧de e=true
def qK (es:List aI):Prop:=∀i (hi:i<es.length),GQ (gY fe (es.take i)) es[i]
theorem qK.e:qK []:=fun i a=>by simp at a
theorem qK.f {es:List aI}{e:aI}(h:qK es)(b:GQ (gY fe es) e):qK (es++[e]):=by
 intro i c;by_cases a:i<es.length
 . rw[List.take_append_of_le_length (by omega),List.getElem_append_left a];exact h i a
 . have:i=es.length:=by simp at c;omega
   subst this;simp only[List.take_left',List.getElem_append_right (am _),Nat.sub_self,List.getElem_cons_zero];exact b
theorem qK.j {es:List aI}(h:qK es)(k:Nat):qK (es.take k):=by
 intro i a;rw[bV] at a;rw[List.take_take,pS (by omega),List.getElem_take];exact h i (by omega)
theorem qK.a {es:List aI}(h:qK es):∀e∈es,de e=true:=fun e a=>by
 obtain⟨i,b,rfl⟩:=List.getElem_of_mem a;obtain⟨x,_,_,_,_,c⟩:=h i b;exact c
structure ft (s:av)(es:List aI)(m:Nat):Prop where
 a:s.a=fH es
 c:qK es
 b:s.h=gY fe es
 d:m<=es.length
 e:s.b=(fH (es.take m)).length
theorem ft.y:ft iX [] 0:=⟨rfl,qK.e,rfl,am _,rfl⟩
theorem PD (es:List aI)(j:Nat):(fH es).take (fH (es.take j)).length=fH (es.take j):=by
 conv=>lhs;rw[<-iZ j es,EN]
 rw[iZ,List.take_left'];rfl
theorem GN {es:List aI}{m k:Nat}(a:m<=es.length)(h:(fH (es.take m)).length<=k):m<=iU es k:=by
 cases m with
 | zero=>exact ax _
 | succ m=>exact(EH es k m (by omega)).1 h
theorem ft.r {s:av}{es:List aI}{m:Nat}(h:ft s es m)(a:Int):ft (gX s a) (es.take (iU es (dJ s a))) (iU es (dJ s a))∧m<=iU es (dJ s a)∧iU es (dJ s a)<=es.length:=by
 have b:=Aq es (dJ s a) h.c.a;have c:=EK es (dJ s a);refine⟨⟨?_,h.c.j _,?_,?_,?_⟩,?_,c⟩
 . simp only[gX];rw[h.a,b];exact PD es _
 . simp only[gX];rw[h.a,b]
 . rw[bV];omega
 . simp only[gX];rw[h.a,b,List.take_take,Nat.min_self]
 . refine GN h.d ?_;unfold dJ;rw[h.e];omega
theorem ft.j {s:av}{es:List aI}{m:Nat}(h:ft s es m):ft (eG s) es es.length:=⟨h.a,h.c,h.b,am _,by simp only[eG];rw[fL,h.a]⟩
theorem PE {s:av}{x:nk}(g:0<=x.a)(i:x.a<=5):kn s x=bH s (lE s.h x) (lF s.h x):=by
 unfold kn lE lF;by_cases a:x.a=0
 . simp only[if_pos a];rfl
 by_cases b:x.a=1
 . simp only[if_neg a,if_pos b];rfl
 by_cases c:x.a=2
 . simp only[if_neg a,if_neg b,if_pos c];rfl
 by_cases d:x.a=3
 . simp only[if_neg a,if_neg b,if_neg c,if_pos d];rfl
 by_cases e:x.a=4
 . simp only[if_neg a,if_neg b,if_neg c,if_neg d,if_pos e];rfl
 . have f:x.a=5:=by omega
   simp only[if_neg a,if_neg b,if_neg c,if_neg d,if_neg e,if_pos f];rfl
theorem ft.f {s:av}{es:List aI}{m:Nat}(h:ft s es m){x:nk}(c:0<=x.a)(d:x.a<=5):((kn s x).1=s)∨∃e,ft (kn s x).1 (es++[e]) m:=by
 rw[PE c d];by_cases a:(lE s.h x).2=0
 . cases b:de (lF s.h x) with
   | false=>rw[qP a b];exact Or.inl rfl
   | true =>
     by_cases f:100000<s.a.length+(aW (lF s.h x)).length
     . rw[qN a b f];exact Or.inl rfl
     . rw[qQ a b f];refine Or.inr ⟨lF s.h x,⟨?_,?_,?_,?_,?_⟩⟩
       . simp only;rw[h.a,EN];simp[fH]
       . refine h.c.f ⟨x,c,d,by rw[<-h.b],by rw[<-h.b];exact a,b⟩
       . simp only;rw[GR,<-h.b,Pv a]
       . have:=h.d;simp;omega
       . simp only;rw[List.take_append_of_le_length h.d];exact h.e
 . rw[qM a];exact Or.inl rfl
theorem ft.B {s:av}{es:List aI}{m:Nat}(h:ft s es m)(x:nk):(x.a≠6∧x.a≠7∧((kn s x).1=s∨∃e,ft (kn s x).1 (es++[e]) m))∨((x.a=6∨x.a=7)∧∃b,ft (kn s x).1 b b.length):=by
 by_cases g:0<=x.a∧x.a<=5
 . exact Or.inl ⟨by omega,by omega,h.f g.1 g.2⟩
 . have i:¬x.a=0:=by omega
   have j:¬x.a=1:=by omega
   have k:¬x.a=2:=by omega
   have l:¬x.a=3:=by omega
   have o:¬x.a=4:=by omega
   have p:¬x.a=5:=by omega
   unfold kn;simp only[if_neg i,if_neg j,if_neg k,if_neg l,if_neg o,if_neg p];by_cases d:x.a=6
   . rw[if_pos d];exact Or.inr ⟨Or.inl d,es,h.j⟩
   . by_cases f:x.a=7
     . rw[if_neg d,if_pos f];obtain⟨a,_,c⟩:=h.r x.n;refine Or.inr ⟨Or.inr f,es.take (iU es (dJ s x.n)),?_⟩;have:(es.take (iU es (dJ s x.n))).length=iU es (dJ s x.n):=by rw[bV];omega
       rw[this];exact a
     . rw[if_neg d,if_neg f];exact Or.inl ⟨d,f,Or.inl rfl⟩
theorem xI {s:av}{es:List aI}{m:Nat}(h:ft s es m){x:nk}(b:0<=x.a)(c:x.a<=5):∃a,ft (kn s x).1 a m:=by
 rcases h.f b c with e | ⟨e,d⟩
 . rw[e];exact⟨es,h⟩
 . exact⟨_,d⟩
theorem GS {s:av}{es:List aI}{m:Nat}(h:ft s es m)(size:Int)(t:ae):∃a,ft (cw s size t).1 a m:=by
 have:=xI h (x:=⟨0,0,size,t⟩) (by simp) (by simp);unfold kn at this;rw[if_pos rfl] at this;exact this
theorem Bm {s:av}{es:List aI}{m:Nat}(h:ft s es m)(d a:Int)(b:ab):∃c,ft (cK s d a b).1 c m:=by
 have:=xI h (x:=⟨1,d,a,gB b⟩) (by simp) (by simp);unfold kn at this;rw[if_neg (by simp),if_pos rfl,PC] at this;exact this
theorem PY {s:av}{es:List aI}{m:Nat}(h:ft s es m)(b c:Int):∃a,ft (qL s b c).1 a m:=by
 have:=xI h (x:=⟨2,b,c,⟨#[]⟩⟩) (by simp) (by simp);unfold kn at this;rw[if_neg (by simp),if_neg (by simp),if_pos rfl] at this;exact this
theorem P1 {s:av}{es:List aI}{m:Nat}(h:ft s es m)(b:Int):∃a,ft (gc s b).1 a m:=by
 have:=xI h (x:=⟨3,b,0,⟨#[]⟩⟩) (by simp) (by simp);unfold kn at this;rw[if_neg (by simp),if_neg (by simp),if_neg (by simp),if_pos rfl] at this;exact this
def iu (s:av):Prop:=∃es,ft s es es.length
theorem iu.a:iu iX:=⟨[],ft.y⟩
theorem xJ {s:av}{es:List aI}{m:Nat}(h:ft s es m):iu (eG s):=⟨es,h.j⟩
theorem P2 {s:av}(h:iu s)(m:ae)(l:aC):iu (nu s m l).1:=by
 obtain⟨b,a⟩:=h;unfold nu;repeat' split
 all_goals first
  | exact⟨b,a⟩
  | exact xJ (GS a _ _).choose_spec
theorem PZ {s:av}(h:iu s)(u:aN)(l:aC)(body:ab):iu (mw s u l body).1:=by
 obtain⟨b,a⟩:=h;unfold mw;repeat' split
 all_goals first
  | exact⟨b,a⟩
  | exact xJ (PY (Bm a _ _ _).choose_spec _ _).choose_spec
  | exact xJ (Bm a _ _ _).choose_spec
theorem P0 {s:av}{r:aB×Nat}{e:aI}(h:(bH s r e).2=0):r.2=0∧(bH s r e).1.h=r.1:=by
 unfold bH at h ⊢;split
 . rename_i a;rw[if_pos a] at h;exact absurd h a
 . rename_i a;rw[if_neg a] at h;split
   . rename_i b;rw[if_pos b] at h;cases h
   . rename_i b;rw[if_neg b] at h;split
     . rename_i c;rw[if_pos c] at h;cases h
     . exact⟨by simpa using a,rfl⟩
theorem Px {s:av}{es:List aI}(h:ft s es es.length)(k:Int):gX s k=s:=by
 have f:s.b=s.a.length:=by rw[h.e,fL,h.a]
 have a:dJ s k=s.a.length:=by unfold dJ Bf;omega
 have b:=Aq es (fH es).length h.c.a;have g:iU es (fH es).length=es.length:=by
  have l:=EK es (fH es).length;have n:=GN (m:=es.length) (k:=(fH es).length) (am _) (by rw[fL];exact am _);omega
 rw[g,fL,fL] at b;unfold gX;rw[a,fL,h.a,b];obtain⟨sh,i,j⟩:=s;have c:=h.b;have d:=h.a;have e:=f
 simp only at c d e;subst d;subst e;rw[<-c];simp only[fL]
theorem ft.q {s:av}{es:List aI}{m:Nat}(h:ft s es m)(x:nk):∃a c,ft (kn s x).1 a c:=by
 rcases h.B x with ⟨_,_,b⟩ | ⟨_,a,d⟩
 . rcases b with b | ⟨e,f⟩
   . rw[b];exact⟨es,m,h⟩
   . exact⟨_,_,f⟩
 . exact⟨_,_,d⟩
