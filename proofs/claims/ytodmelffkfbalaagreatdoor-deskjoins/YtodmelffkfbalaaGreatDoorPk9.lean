import Derived.Test.YtodmelffkfbalaaGreatDoorPk3
import Derived.Test.YtodmelffkfbalaaGreatDoorPk6
open Bool renaming false->F
namespace Go.Proofs.YtodmelffkfbalaaGreatDoor
def gA (l:ab):ae:=⟨l.toArray⟩
theorem Pq (m:ae):gA m.data.toList=m:=by cases m;simp[gA]
theorem Pr (l:ab):(gA l).data.toList=l:=by simp[gA]
theorem GJ (l:ab):(gA l).size=l.length:=by simp[gA,ByteArray.size]
structure av where
 h:aA
 a:ab
 b:Nat
def iW:av:=⟨fa,[],0⟩
def ng (s:aA)(size:Int)(m:ae):aA×Nat:=((eZ s size m).1,(eZ s size m).2.2)
def nU (s:aA)(id:Int):Nat:=match cE s.l id with
 | none=>0
 | some i => match s.l[i]? with
   | none=>0
   | some u=>u.b.length
theorem Pm {s:aA}{a:Int}(h:cE s.l a=none):nU s a=0:=by unfold nU;rw[h]
theorem GH {s:aA}{a:Int}{i:Nat}(h:cE s.l a=some i):nU s a=(s.l[i]'(mu h)).b.length:=by grind [cE,nU]
def dF (s:aA)(e:aH):aA×Nat :=
 if e.b=1 then ng s e.n (gA e.c) else if e.b=2 then iL s e.a (nU s e.a) e.c else if e.b=3 then lC s e.a e.n else if e.b=4 then mt s e.a else if e.b=5 then kh s e.a else lD s e.a
def gY (s:aA)(l:List aH):aA:=l.foldl (fun h e=>(dF h e).1) s
def bI (s:av)(r:aA×Nat)(e:aH):av×Nat :=
 if r.2≠0 then (s,r.2) else if df e=F then (s,1) else if 100000<s.a.length+(aW e).length then (s,16) else (⟨r.1,s.a++aW e,s.b⟩,0)
def cy (s:av)(size:Int)(m:ae):av×Nat:=bI s (ng s.h size m) ⟨1,s.h.a+1,size,m.data.toList⟩
def mZ (s:av)(c:Nat):Int:=if c=0 then s.h.a+1 else 0
def cK (s:av)(id off:Int)(b:ab):av×Nat:=bI s (iL s.h id off b) ⟨2,id,0,b⟩
def qI (s:av)(id size:Int):av×Nat:=bI s (lC s.h id size) ⟨3,id,size,[]⟩
def ga (s:av)(id:Int):av×Nat:=bI s (mt s.h id) ⟨4,id,0,[]⟩
def fu (s:av)(id:Int):av×Nat:=bI s (kh s.h id) ⟨5,id,0,[]⟩
def kT (s:av)(id:Int):av×Nat:=bI s (lD s.h id) ⟨6,id,0,[]⟩
def eA (s:av):av:=⟨s.h,s.a,s.a.length⟩
def Bg (keep:Int)(d:Nat):Nat:=min (max keep 0).toNat d
def dJ (s:av)(keep:Int):Nat:=s.b+Bg keep (s.a.length-s.b)
def gV (s:av)(keep:Int):av:=⟨gY fa (ch (s.a.take (dJ s keep))).1,s.a.take (ch (s.a.take (dJ s keep))).2,(ch (s.a.take (dJ s keep))).2⟩
structure aJ (s:av):Prop where
 h:cN s.h
 c:s.h.a<=s.a.length
 d:s.b<=s.a.length
 b:s.a.length<=100000
theorem aJ.kU:aJ iW:=⟨cN.r,by simp[iW,fa],by simp[iW],by simp[iW]⟩
theorem aJ.y {s:av}(h:aJ s):s.h.a<=100000:=by have:=h.c;have:=h.b;omega
theorem Pv {s:av}(h:s.b<=s.a.length)(a:Int):dJ s a<=s.a.length:=by unfold dJ Bg;omega
theorem GL {s:aA}(h:cN s)(size:Int)(m:ae):cN (ng s size m).1:=h.kU size m
theorem GI (s:aA)(size:Int)(m:ae):(ng s size m).1.a<=s.a+1:=O4 s size m
theorem Po {s:aA}(h:cN s)(e:aH):cN (dF s e).1:=by
 unfold dF;split
 . exact GL h _ _
 . split
   . exact h.y ..
   . split
     . exact h.G ..
     . split
       . exact h.H ..
       . split
         . exact h.B ..
         . exact h.jK ..
theorem Pk (s:aA)(e:aH):(dF s e).1.a<=s.a+1:=by
 unfold dF;split
 . exact GI s _ _
 . split
   . rw[Gw];omega
   . split
     . rw[GG];omega
     . split
       . rw[GA];omega
       . split
         . rw[Gx];omega
         . rw[GB];omega
theorem GO (s:aA)(l:List aH)(e:aH):gY s (l++[e])=(dF (gY s l) e).1:=by simp[gY]
theorem Pi (s:aA)(l:List aH)(k:Nat)(h:k<l.length):gY s (l.take (k+1))=(dF (gY s (l.take k)) l[k]).1:=by
 rw[fR h,GO]
theorem Bi:∀(l:List aH) {s:aA},cN s->cN (gY s l)
 | [],_,h=>h
 | e::t,_,h=>Bi t (Po h e)
theorem Bh:∀(l:List aH) (s:aA),(gY s l).a<=s.a+l.length
 | [],s=>by simp[gY]
 | e :: t, s => by
   have a:=Bh t (dF s e).1;have b:=Pk s e;show(gY (dF s e).1 t).a<=_;simp only[bG];omega
theorem qJ {s:av}{r:aA×Nat}{e:aH}(h:r.2≠0):bI s r e=(s,r.2):=by unfold bI;rw[if_pos h]
theorem qL {s:av}{r:aA×Nat}{e:aH}(h:r.2=0)(a:df e=F):bI s r e=(s,1):=by unfold bI;rw[if_neg (by simpa using h),if_pos a]
theorem qK {s:av}{r:aA×Nat}{e:aH}(h:r.2=0)(a:df e=true)(b:100000<s.a.length+(aW e).length):bI s r e=(s,16):=by grind [df,aW,bI]
theorem qM {s:av}{r:aA×Nat}{e:aH}(h:r.2=0)(a:df e=true)(b:¬100000<s.a.length+(aW e).length):bI s r e=(⟨r.1,s.a++aW e,s.b⟩,0):=by grind [df,aW,bI]
theorem aJ.r {s:av}(h:aJ s){r:aA×Nat}(a:cN r.1)(b:r.1.a<=s.h.a+1)(e:aH):aJ (bI s r e).1:=by
 unfold bI;split
 . exact h
 . split
   . exact h
   . split
     . exact h
     . rename_i c;have d:=h.c;have f:=h.d
       have g:=EE e;refine⟨a,?_,?_,?_⟩
       . simp only[aD];omega
       . simp only[aD];omega
       . simp only[aD];omega
theorem aJ.j {s:av}(h:aJ s)(size:Int)(m:ae):aJ (cy s size m).1:=h.r (GL h.h _ _) (GI _ _ _) _
theorem aJ.a {s:av}(h:aJ s)(c a:Int)(b:ab):aJ (cK s c a b).1:=h.r (h.h.y ..) (by rw[Gw];omega) _
theorem aJ.jK {s:av}(h:aJ s)(a size:Int):aJ (qI s a size).1:=h.r (h.h.G ..) (by rw[GG];omega) _
theorem aJ.B {s:av}(h:aJ s)(a:Int):aJ (ga s a).1:=h.r (h.h.H ..) (by rw[GA];omega) _
theorem aJ.G {s:av}(h:aJ s)(a:Int):aJ (fu s a).1:=h.r (h.h.B ..) (by rw[Gx];omega) _
theorem aJ.jY {s:av}(h:aJ s)(a:Int):aJ (kT s a).1:=h.r (h.h.jK ..) (by rw[GB];omega) _
theorem aJ.f {s:av}(h:aJ s):aJ (eA s):=⟨h.h,h.c,ak _,h.b⟩
theorem GM (s:av)(a:Int):(ch (s.a.take (dJ s a))).2<=s.a.length∧(ch (s.a.take (dJ s a))).2<=dJ s a∧(ch (s.a.take (dJ s a))).1.length<=(ch (s.a.take (dJ s a))).2:=by
 obtain⟨_,b,_,c⟩:=Ar _ (s.a.take (dJ s a)) (ak _);rw[bU] at b;omega
theorem aJ.H {s:av}(h:aJ s)(a:Int):aJ (gV s a):=by
 obtain⟨b,_,c⟩:=GM s a;have d:=Bh (ch (s.a.take (dJ s a))).1 fa;have e:=h.b;have f:fa.a=0:=rfl;refine⟨Bi _ cN.r,?_,?_,?_⟩
 . show(gY fa _).a<=_;simp only[gV,bU];omega
 . simp only[gV,bU];omega
 . simp only[gV,bU];omega
abbrev na:=Pw
def lE (s:aA)(x:na):aA×Nat:=if x.a=0 then ng s x.n x.c else if x.a=1 then iL s x.b x.n x.c.data.toList else if x.a=2 then lC s x.b x.n else if x.a=3 then mt s x.b else if x.a=4 then kh s x.b else lD s x.b
def lF (s:aA)(x:na):aH:=if x.a=0 then ⟨1,s.a+1,x.n,x.c.data.toList⟩ else if x.a=1 then ⟨2,x.b,0,x.c.data.toList⟩ else if x.a=2 then ⟨3,x.b,x.n,[]⟩ else if x.a=3 then ⟨4,x.b,0,[]⟩ else if x.a=4 then ⟨5,x.b,0,[]⟩ else ⟨6,x.b,0,[]⟩
def kl (s:av)(x:na):av×Nat:=if x.a=0 then cy s x.n x.c else if x.a=1 then cK s x.b x.n x.c.data.toList else if x.a=2 then qI s x.b x.n else if x.a=3 then ga s x.b else if x.a=4 then fu s x.b else if x.a=5 then kT s x.b else if x.a=6 then (eA s,0) else if x.a=7 then (gV s x.n,0) else (s,0)
def nY:ae:=⟨#[47,102,105,108,101,115]⟩
def kr:ae:=⟨#[47,102,105,108,101,115,47]⟩
def Bm:ae:=⟨#[79,80,84,73,79,78,83]⟩
def uS:ae:=⟨#[80,79,83,84]⟩
def uT:ae:=⟨#[72,69,65,68]⟩
def uU:ae:=⟨#[68,69,76,69,84,69]⟩
def uW:ae:=⟨#[80,65,84,67,72]⟩
def oN:ae:=⟨#[116,117,115,45,114,101,115,117,109,97,98,108,101]⟩
def gc:ae:=⟨#[117,112,108,111,97,100,45,108,101,110,103,116,104]⟩
def nh:ae:=⟨#[117,112,108,111,97,100,45,100,101,102,101,114,45,108,101,110,103,116,104]⟩
def qR:ae:=⟨#[117,112,108,111,97,100,45,109,101,116,97,100,97,116,97]⟩
def jI:ae:=⟨#[99,111,110,116,101,110,116,45,116,121,112,101]⟩
def xI:ae:=⟨#[117,112,108,111,97,100,45,111,102,102,115,101,116]⟩
def fx:ae:=⟨#[84,117,115,45,82,101,115,117,109,97,98,108,101]⟩
def cG:ae:=⟨#[49,46,48,46,48]⟩
def eb:ae:=⟨#[84,117,115,45,86,101,114,115,105,111,110]⟩
def nj:ae:=⟨#[84,117,115,45,77,97,120,45,83,105,122,101]⟩
def nr:ae:=⟨#[50,48,48,48]⟩
def nV:ae:=⟨#[84,117,115,45,69,120,116,101,110,115,105,111,110]⟩
def nW:ae:=⟨#[99,114,101,97,116,105,111,110,44,99,114,101,97,116,105,111,110,45,100,101,102,101,114,45,108,101,110,103,116,104,44,116,101,114,109,105,110,97,116,105,111,110]⟩
def qQ:ae:=⟨#[76,111,99,97,116,105,111,110]⟩
def dp:ae:=⟨#[85,112,108,111,97,100,45,79,102,102,115,101,116]⟩
def gB:ae:=⟨#[85,112,108,111,97,100,45,76,101,110,103,116,104]⟩
def gC:ae:=⟨#[85,112,108,111,97,100,45,68,101,102,101,114,45,76,101,110,103,116,104]⟩
def kV:ae:=⟨#[49]⟩
def km:ae:=⟨#[67,97,99,104,101,45,67,111,110,116,114,111,108]⟩
def kn:ae:=⟨#[110,111,45,115,116,111,114,101]⟩
def ir:ae:=⟨#[85,112,108,111,97,100,45,77,101,116,97,100,97,116,97]⟩
def P7:ae:=⟨#[97,112,112,108,105,99,97,116,105,111,110,47,111,102,102,115,101,116,43,111,99,116,101,116,45,115,116,114,101,97,109]⟩
def aZ (vs:List ae):ab×Nat :=
 match vs with
 | []=>([],10)
 | [v]=>(v.data.toList,0)
 | _=>([],9)
def aO (name:ae)(l:aC):List ae:=(l.filter fun p=>decide (be p.1.data.toList=be name.data.toList)).map (·.2)
def dh (r:ab×Nat):Int×Bool:=if r.2=10 then (-1,true) else ((bB 10 9 r.1).1,(bB 10 9 r.1).2&&decide (r.2=0))
abbrev iX:=Nat×aC
def bT (st:Nat)(l:aC):iX:=(st,(fx,cG)::l)
def pF (c:Nat):Nat:=if c=10 then 404 else if c=17∨c=19 then 409 else if c=4 then 413 else if c=8∨c=16 then 507 else 400
def eL (n:Nat):ae:=⟨(bx 8 n).toArray⟩
def uY (t:ae):Option Int :=
 if 7<t.size∧t.data.toList.take 7=kr.data.toList∧(bB 10 9 (t.data.toList.drop 7)).2=true∧bx 8 (bB 10 9 (t.data.toList.drop 7)).1.toNat=t.data.toList.drop 7 then some (bB 10 9 (t.data.toList.drop 7)).1 else none
def lJ (s:aA)(t:ae):Option aL:=match uY t with
 | none=>none
 | some n => match cE s.l n with
   | none=>none
   | some i=>s.l[i]?
def nk (s:av)(m:ae)(l:aC):av×iX :=
 if m≠uS then (s,bT 405 [])
 else if (dh (aZ (aO gc l))).2=F then (s,bT 400 [])
 else if (aZ (aO nh l)).2=9∨((aZ (aO nh l)).2=0∧(aZ (aO nh l)).1≠kV.data.toList)∨(0<=(dh (aZ (aO gc l))).1<->(aZ (aO nh l)).2=0) then (s,bT 400 [])
 else if (aZ (aO qR l)).2=9 then (s,bT 400 [])
 else if (cy s (dh (aZ (aO gc l))).1 (gA (aZ (aO qR l)).1)).2≠0 then (s,bT (pF (cy s (dh (aZ (aO gc l))).1 (gA (aZ (aO qR l)).1)).2) [])
 else (eA (cy s (dh (aZ (aO gc l))).1 (gA (aZ (aO qR l)).1)).1,bT 201 [(qQ,kr++eL (s.h.a+1).toNat)])
def jJ (u:aL):iX:=bT 200 ((dp,eL u.b.length)::(if u.a<0 then (gC,kV) else (gB,eL u.a.toNat))::(km,kn)::(if u.d.size=0 then [] else [(ir,u.d)]))
def qN (v:ab):Bool:=match dY v with
 | .inl _=>F
 | .inr x=>decide (x.1=P7.data.toList)
def pG (u:aL)(l:aC):Prop:=0<=(dh (aZ (aO gc l))).1∧u.a<0
instance (u:aL) (l:aC):Decidable (pG u l):=by unfold pG;exact inferInstance
def mv (s:av)(u:aL)(l:aC)(body:ab):av×iX :=
 if (aZ (aO jI l)).2=9 then (s,bT 400 [])
 else if qN (aZ (aO jI l)).1=F then (s,bT 415 [])
 else if (dh (aZ (aO xI l))).2=F∨(dh (aZ (aO xI l))).1<0 then (s,bT 400 [])
 else if (dh (aZ (aO xI l))).1≠u.b.length then (s,bT 409 [])
 else if (dh (aZ (aO gc l))).2=F∨(0<=(dh (aZ (aO gc l))).1∧0<=u.a∧(dh (aZ (aO gc l))).1≠u.a) then (s,bT 400 [])
 else if pG u l∧(2000<(dh (aZ (aO gc l))).1∨(dh (aZ (aO gc l))).1<u.b.length+body.length) then (s,bT 413 [])
 else if 100000<s.a.length+(body.length+60) then (s,bT 507 [])
 else if (cK s u.c u.b.length body).2≠0 then (s,bT (pF (cK s u.c u.b.length body).2) [])
 else (eA (if pG u l then (qI (cK s u.c u.b.length body).1 u.c (dh (aZ (aO gc l))).1).1 else (cK s u.c u.b.length body).1),bT 204 [(dp,eL (u.b.length+body.length))])
theorem pE {s:av}{r:aA×Nat}{e:aH}(h:(bI s r e).2≠0):(bI s r e).1=s:=by grind [bI]
theorem Bj {s:aA}{t:ae}{u:aL}(h:lJ s t=some u):u∈s.l∧∃n i,uY t=some n∧cE s.l n=some i∧s.l[i]? = some u∧u.c=n:=by grind [lJ,uY,cE,xG]
theorem PZ {s:av}(h:aJ s)(m:ae)(l:aC):aJ (nk s m l).1:=by
 unfold nk;repeat' split
 all_goals first
  | exact h
  | exact(h.j _ _).f
theorem PT {s:av}(h:aJ s)(u:aL)(l:aC)(body:ab):aJ (mv s u l body).1:=by
 unfold mv;repeat' split
 all_goals first
  | exact h
  | exact((h.a _ _ _).jK _ _).f
  | exact(h.a _ _ _).f
def qO (s:av)(u:aL)(m:ae)(l:aC)(body:ab):av×iX :=
 if m=uT then (s,jJ u)
 else if m=uU then (eA (ga s u.c).1,bT 204 [])
 else if m=uW then mv s u l body else (s,bT 405 [])
def bw (s:av)(m t:ae)(l:aC)(body:ab):av×iX :=
 if t=nY∧m=Bm then (s,bT 204 [(eb,cG),(nj,nr),(nV,nW)])
 else if (aZ (aO oN l)).2=9 then (s,bT 400 [])
 else if (aZ (aO oN l)).1≠cG.data.toList then (s,bT 412 [(eb,cG)])
 else if t=nY then nk s m l
 else match lJ s.h t with
  | none=>(s,bT 404 [])
  | some u=>qO s u m l body
theorem P0 {s:av}(h:aJ s)(u:aL)(m:ae)(l:aC)(body:ab):aJ (qO s u m l body).1:=by
 unfold qO;repeat' split
 all_goals first
  | exact h
  | exact(h.B _).f
  | exact PT h u l body
theorem Bl {s:av}(h:aJ s)(m t:ae)(l:aC)(body:ab):aJ (bw s m t l body).1:=by grind [bw,PZ,P0]
theorem Pn {s:aA}{c a:Int}{b:ab}(h:(iL s c a b).2=0):a=nU s c:=by
 cases d:cE s.l c with
 | none=>rw[Be,qD d] at h;simp at h
 | some i =>
   rw[Be,qE d] at h;rw[GH d];unfold kj at h;split at h
   . simp at h
   . split at h
     . simp at h
     . rename_i e;simpa using e
theorem Pj {s:aA}{x:na}(h:(lE s x).2=0):dF s (lF s x)=lE s x:=by
 by_cases a:x.a=0
 . simp only[lE,lF,if_pos a,dF,if_true];rw[Pq]
 by_cases b:x.a=1
 . simp only[lE,if_neg a,if_pos b] at h;have:=Pn h;simp only[lE,lF,if_neg a,if_pos b,dF];rw[if_neg (by decide),if_pos trivial,<-this]
 by_cases c:x.a=2
 . simp only[lE,lF,if_neg a,if_neg b,if_pos c,dF];rw[if_neg (by decide),if_neg (by decide),if_pos trivial]
 by_cases d:x.a=3
 . simp only[lE,lF,if_neg a,if_neg b,if_neg c,if_pos d,dF];rw[if_neg (by decide),if_neg (by decide),if_neg (by decide),if_pos trivial]
 by_cases e:x.a=4
 . simp only[lE,lF,if_neg a,if_neg b,if_neg c,if_neg d,if_pos e,dF];rw[if_neg (by decide),if_neg (by decide),if_neg (by decide),if_neg (by decide),if_pos trivial]
 . simp only[lE,lF,if_neg a,if_neg b,if_neg c,if_neg d,if_neg e,dF];rw[if_neg (by decide),if_neg (by decide),if_neg (by decide),if_neg (by decide),if_neg (by decide)]
def GN (h:aA)(e:aH):Prop:=∃x:na,0<=x.a∧x.a<=5∧e=lF h x∧(lE h x).2=0∧df e=true
def qH (es:List aH):Prop:=∀i (hi:i<es.length),GN (gY fa (es.take i)) es[i]
theorem qH.f:qH []:=fun i a=>by simp at a
theorem qH.j {es:List aH}{e:aH}(h:qH es)(b:GN (gY fa es) e):qH (es++[e]):=by
 intro i c;by_cases a:i<es.length
 . rw[List.take_append_of_le_length (by omega),List.getElem_append_left a];exact h i a
 . have:i=es.length:=by simp at c;omega
   subst this;simp only[List.take_left',List.getElem_append_right (ak _),Nat.sub_self,List.getElem_cons_zero];exact b
theorem qH.r {es:List aH}(h:qH es)(k:Nat):qH (es.take k):=by
 intro i a;rw[bU] at a;rw[List.take_take,pN (by omega),List.getElem_take];exact h i (by omega)
theorem qH.a {es:List aH}(h:qH es):∀e∈es,df e=true:=fun e a=>by
 obtain⟨i,b,rfl⟩:=List.getElem_of_mem a;obtain⟨x,_,_,_,_,c⟩:=h i b;exact c
structure fw (s:av)(es:List aH)(m:Nat):Prop where
 a:s.a=fG es
 c:qH es
 b:s.h=gY fa es
 d:m<=es.length
 e:s.b=(fG (es.take m)).length
theorem fw.B:fw iW [] 0:=⟨rfl,qH.f,rfl,ak _,rfl⟩
theorem Ps (es:List aH)(j:Nat):(fG es).take (fG (es.take j)).length=fG (es.take j):=by
 conv=>lhs;rw[<-iN j es,EG]
 rw[iN,List.take_left'];rfl
theorem GK {es:List aH}{m k:Nat}(a:m<=es.length)(h:(fG (es.take m)).length<=k):m<=iT es k:=by
 cases m with
 | zero=>exact ax _
 | succ m=>exact(EB es k m (by omega)).1 h
theorem fw.y {s:av}{es:List aH}{m:Nat}(h:fw s es m)(a:Int):fw (gV s a) (es.take (iT es (dJ s a))) (iT es (dJ s a))∧m<=iT es (dJ s a)∧iT es (dJ s a)<=es.length:=by
 have b:=At es (dJ s a) h.c.a;have c:=ED es (dJ s a);refine⟨⟨?_,h.c.r _,?_,?_,?_⟩,?_,c⟩
 . simp only[gV];rw[h.a,b];exact Ps es _
 . simp only[gV];rw[h.a,b]
 . rw[bU];omega
 . simp only[gV];rw[h.a,b,List.take_take,Nat.min_self]
 . refine GK h.d ?_;unfold dJ;rw[h.e];omega
theorem fw.j {s:av}{es:List aH}{m:Nat}(h:fw s es m):fw (eA s) es es.length:=⟨h.a,h.c,h.b,ak _,by simp only[eA];rw[eQ,h.a]⟩
theorem Pu {s:av}{x:na}(g:0<=x.a)(i:x.a<=5):kl s x=bI s (lE s.h x) (lF s.h x):=by
 unfold kl lE lF;by_cases a:x.a=0
 . simp only[if_pos a];rfl
 by_cases b:x.a=1
 . simp only[if_neg a,if_pos b];rfl
 by_cases c:x.a=2
 . simp only[if_neg a,if_neg b,if_pos c];rfl
 by_cases d:x.a=3
 . simp only[if_neg a,if_neg b,if_neg c,if_pos d];rfl
 by_cases e:x.a=4
 . simp only[if_neg a,if_neg b,if_neg c,if_neg d,if_pos e];rfl
 . have f:x.a=5:=by omega
   simp only[if_neg a,if_neg b,if_neg c,if_neg d,if_neg e,if_pos f];rfl
theorem fw.f {s:av}{es:List aH}{m:Nat}(h:fw s es m){x:na}(c:0<=x.a)(d:x.a<=5):((kl s x).1=s)∨∃e,fw (kl s x).1 (es++[e]) m:=by
 rw[Pu c d];by_cases a:(lE s.h x).2=0
 . cases b:df (lF s.h x) with
   | false=>rw[qL a b];exact Or.inl rfl
   | true =>
     by_cases f:100000<s.a.length+(aW (lF s.h x)).length
     . rw[qK a b f];exact Or.inl rfl
     . rw[qM a b f];refine Or.inr ⟨lF s.h x,⟨?_,?_,?_,?_,?_⟩⟩
       . simp only;rw[h.a,EG];simp[fG]
       . refine h.c.j ⟨x,c,d,by rw[<-h.b],by rw[<-h.b];exact a,b⟩
       . simp only;rw[GO,<-h.b,Pj a]
       . have:=h.d;simp;omega
       . simp only;rw[List.take_append_of_le_length h.d];exact h.e
 . rw[qJ a];exact Or.inl rfl
theorem fw.G {s:av}{es:List aH}{m:Nat}(h:fw s es m)(x:na):(x.a≠6∧x.a≠7∧((kl s x).1=s∨∃e,fw (kl s x).1 (es++[e]) m))∨((x.a=6∨x.a=7)∧∃b,fw (kl s x).1 b b.length):=by
 by_cases g:0<=x.a∧x.a<=5
 . exact Or.inl ⟨by omega,by omega,h.f g.1 g.2⟩
 . have i:¬x.a=0:=by omega
   have j:¬x.a=1:=by omega
   have k:¬x.a=2:=by omega
   have l:¬x.a=3:=by omega
   have o:¬x.a=4:=by omega
   have p:¬x.a=5:=by omega
   unfold kl;simp only[if_neg i,if_neg j,if_neg k,if_neg l,if_neg o,if_neg p];by_cases d:x.a=6
   . rw[if_pos d];exact Or.inr ⟨Or.inl d,es,h.j⟩
   . by_cases f:x.a=7
     . rw[if_neg d,if_pos f];obtain⟨a,_,c⟩:=h.y x.n;refine Or.inr ⟨Or.inr f,es.take (iT es (dJ s x.n)),?_⟩;have:(es.take (iT es (dJ s x.n))).length=iT es (dJ s x.n):=by rw[bU];omega
       rw[this];exact a
     . rw[if_neg d,if_neg f];exact Or.inl ⟨d,f,Or.inl rfl⟩
theorem xJ {s:av}{es:List aH}{m:Nat}(h:fw s es m){x:na}(b:0<=x.a)(c:x.a<=5):∃a,fw (kl s x).1 a m:=by
 rcases h.f b c with e | ⟨e,d⟩
 . rw[e];exact⟨es,h⟩
 . exact⟨_,d⟩
theorem GP {s:av}{es:List aH}{m:Nat}(h:fw s es m)(size:Int)(t:ae):∃a,fw (cy s size t).1 a m:=by
 have:=xJ h (x:=⟨0,0,size,t⟩) (by simp) (by simp);unfold kl at this;rw[if_pos rfl] at this;exact this
theorem Bo {s:av}{es:List aH}{m:Nat}(h:fw s es m)(d a:Int)(b:ab):∃c,fw (cK s d a b).1 c m:=by
 have:=xJ h (x:=⟨1,d,a,gA b⟩) (by simp) (by simp);unfold kl at this;rw[if_neg (by simp),if_pos rfl,Pr] at this;exact this
theorem PM {s:av}{es:List aH}{m:Nat}(h:fw s es m)(b c:Int):∃a,fw (qI s b c).1 a m:=by
 have:=xJ h (x:=⟨2,b,c,⟨#[]⟩⟩) (by simp) (by simp);unfold kl at this;rw[if_neg (by simp),if_neg (by simp),if_pos rfl] at this;exact this
theorem PQ {s:av}{es:List aH}{m:Nat}(h:fw s es m)(b:Int):∃a,fw (ga s b).1 a m:=by
 have:=xJ h (x:=⟨3,b,0,⟨#[]⟩⟩) (by simp) (by simp);unfold kl at this;rw[if_neg (by simp),if_neg (by simp),if_neg (by simp),if_pos rfl] at this;exact this
def iu (s:av):Prop:=∃es,fw s es es.length
theorem iu.a:iu iW:=⟨[],fw.B⟩
theorem xK {s:av}{es:List aH}{m:Nat}(h:fw s es m):iu (eA s):=⟨es,h.j⟩
theorem PR {s:av}(h:iu s)(m:ae)(l:aC):iu (nk s m l).1:=by
 obtain⟨b,a⟩:=h;unfold nk;repeat' split
 all_goals first
  | exact⟨b,a⟩
  | exact xK (GP a _ _).choose_spec
theorem PN {s:av}(h:iu s)(u:aL)(l:aC)(body:ab):iu (mv s u l body).1:=by
 obtain⟨b,a⟩:=h;unfold mv;repeat' split
 all_goals first
  | exact⟨b,a⟩
  | exact xK (PM (Bo a _ _ _).choose_spec _ _).choose_spec
  | exact xK (Bo a _ _ _).choose_spec
theorem PP {s:av}{r:aA×Nat}{e:aH}(h:(bI s r e).2=0):r.2=0∧(bI s r e).1.h=r.1:=by
 unfold bI at h ⊢;split
 . rename_i a;rw[if_pos a] at h;exact absurd h a
 . rename_i a;rw[if_neg a] at h;split
   . rename_i b;rw[if_pos b] at h;cases h
   . rename_i b;rw[if_neg b] at h;split
     . rename_i c;rw[if_pos c] at h;cases h
     . exact⟨by simpa using a,rfl⟩
theorem Pl {s:av}{es:List aH}(h:fw s es es.length)(k:Int):gV s k=s:=by
 have f:s.b=s.a.length:=by rw[h.e,eQ,h.a]
 have a:dJ s k=s.a.length:=by unfold dJ Bg;omega
 have b:=At es (fG es).length h.c.a;have g:iT es (fG es).length=es.length:=by
  have l:=ED es (fG es).length;have n:=GK (m:=es.length) (k:=(fG es).length) (ak _) (by rw[eQ];exact ak _);omega
 rw[g,eQ,eQ] at b;unfold gV;rw[a,eQ,h.a,b];obtain⟨sh,i,j⟩:=s;have c:=h.b;have d:=h.a;have e:=f
 simp only at c d e;subst d;subst e;rw[<-c];simp only[eQ]
theorem fw.r {s:av}{es:List aH}{m:Nat}(h:fw s es m)(x:na):∃a c,fw (kl s x).1 a c:=by
 rcases h.G x with ⟨_,_,b⟩ | ⟨_,a,d⟩
 . rcases b with b | ⟨e,f⟩
   . rw[b];exact⟨es,m,h⟩
   . exact⟨_,_,f⟩
 . exact⟨_,_,d⟩
