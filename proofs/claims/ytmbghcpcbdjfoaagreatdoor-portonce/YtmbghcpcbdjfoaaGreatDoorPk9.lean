import Derived.Test.YtmbghcpcbdjfoaaGreatDoorPk3
import Derived.Test.YtmbghcpcbdjfoaaGreatDoorPk6
open Bool renaming false->F
namespace Go.Proofs.YtmbghcpcbdjfoaaGreatDoor
def gN (l:ae):ag:=⟨l.toArray⟩
theorem QA (m:ag):gN m.data.toList=m:=by cases m;simp[gN]
theorem QB (l:ae):(gN l).data.toList=l:=by simp[gN]
theorem Hh (l:ae):(gN l).size=l.length:=by simp[gN,ByteArray.size]
structure av where
 h:aA
 a:ae
 b:Nat
def jj:av:=⟨fA,[],0⟩
def lY (s:aA)(size:Int)(m:ag):aA×Nat:=((fq s size m).1,(fq s size m).2.2)
def ou (s:aA)(id:Int):Nat:=match cq s.l id with
 | none=>0
 | some i => match s.l[i]? with
   | none=>0
   | some u=>u.a.length
theorem Qw {s:aA}{id:Int}(h:cq s.l id=none):ou s id=0:=by unfold ou;rw[h]
theorem Hd {s:aA}{id:Int}{i:Nat}(h:cq s.l id=some i):ou s id=(s.l[i]'(lk h)).a.length:=by grind [cq,ou]
def dF (s:aA)(e:aK):aA×Nat :=
 if e.b=1 then lY s e.n (gN e.c) else if e.b=2 then iG s e.a (ou s e.a) e.c else if e.b=3 then li s e.a e.n else if e.b=4 then lU s e.a else if e.b=5 then jP s e.a else lj s e.a
def ii (s:aA)(l:List aK):aA:=l.foldl (fun h e=>(dF h e).1) s
def bK (s:av)(r:aA×Nat)(e:aK):av×Nat :=
 if r.2≠0 then (s,r.2) else if dg e=F then (s,1) else if 100000<s.a.length+(bi e).length then (s,16) else (⟨r.1,s.a++bi e,s.b⟩,0)
def cx (s:av)(size:Int)(m:ag):av×Nat:=bK s (lY s.h size m) ⟨1,s.h.a+1,size,m.data.toList⟩
def nG (s:av)(c:Nat):Int:=if c=0 then s.h.a+1 else 0
def cL (s:av)(id off:Int)(b:ae):av×Nat:=bK s (iG s.h id off b) ⟨2,id,0,b⟩
def rs (s:av)(id size:Int):av×Nat:=bK s (li s.h id size) ⟨3,id,size,[]⟩
def gn (s:av)(id:Int):av×Nat:=bK s (lU s.h id) ⟨4,id,0,[]⟩
def ex (s:av)(id:Int):av×Nat:=bK s (jP s.h id) ⟨5,id,0,[]⟩
def lW (s:av)(id:Int):av×Nat:=bK s (lj s.h id) ⟨6,id,0,[]⟩
def ey (s:av):av:=⟨s.h,s.a,s.a.length⟩
def BW (keep:Int)(d:Nat):Nat:=min (max keep 0).toNat d
def dM (s:av)(keep:Int):Nat:=s.b+BW keep (s.a.length-s.b)
def ie (s:av)(keep:Int):av:=⟨ii fA (cu (s.a.take (dM s keep))).1,s.a.take (cu (s.a.take (dM s keep))).2,(cu (s.a.take (dM s keep))).2⟩
structure aN (s:av):Prop where
 h:cO s.h
 c:s.h.a<=s.a.length
 g:s.b<=s.a.length
 b:s.a.length<=100000
theorem aN.G:aN jj:=⟨cO.q,by simp[jj,fA],by simp[jj],by simp[jj]⟩
theorem aN.j {s:av}(h:aN s):s.h.a<=100000:=by have:=h.c;have:=h.b;omega
theorem QC {s:av}(h:s.b<=s.a.length)(a:Int):dM s a<=s.a.length:=by unfold dM BW;omega
theorem Hl {s:aA}(h:cO s)(size:Int)(m:ag):cO (lY s size m).1:=h.jD size m
theorem Hg (s:aA)(size:Int)(m:ag):(lY s size m).1.a<=s.a+1:=Qj s size m
theorem Qx {s:aA}(h:cO s)(e:aK):cO (dF s e).1:=by
 unfold dF;split
 . exact Hl h _ _
 . split
   . exact h.r ..
   . split
     . exact h.B ..
     . split
       . exact h.E ..
       . split
         . exact h.y ..
         . exact h.G ..
theorem Qt (s:aA)(e:aK):(dF s e).1.a<=s.a+1:=by
 unfold dF;split
 . exact Hg s _ _
 . split
   . rw[G2];omega
   . split
     . rw[Hc];omega
     . split
       . rw[G6];omega
       . split
         . rw[G3];omega
         . rw[G7];omega
theorem Hq (s:aA)(l:List aK)(e:aK):ii s (l++[e])=(dF (ii s l) e).1:=by simp[ii]
theorem Qs (s:aA)(l:List aK)(k:Nat)(h:k<l.length):ii s (l.take (k+1))=(dF (ii s (l.take k)) l[k]).1:=by
 rw[go h,Hq]
theorem BY:∀(l:List aK) {s:aA},cO s->cO (ii s l)
 | [],_,h=>h
 | e::t,_,h=>BY t (Qx h e)
theorem BX:∀(l:List aK) (s:aA),(ii s l).a<=s.a+l.length
 | [],s=>by simp[ii]
 | e :: t, s => by
   have a:=BX t (dF s e).1;have b:=Qt s e;show(ii (dF s e).1 t).a<=_;simp only[bO];omega
theorem rt {s:av}{r:aA×Nat}{e:aK}(h:r.2≠0):bK s r e=(s,r.2):=by unfold bK;rw[if_pos h]
theorem rv {s:av}{r:aA×Nat}{e:aK}(h:r.2=0)(a:dg e=F):bK s r e=(s,1):=by unfold bK;rw[if_neg (by simpa using h),if_pos a]
theorem ru {s:av}{r:aA×Nat}{e:aK}(h:r.2=0)(a:dg e=true)(b:100000<s.a.length+(bi e).length):bK s r e=(s,16):=by grind [dg,bi,bK]
theorem rx {s:av}{r:aA×Nat}{e:aK}(h:r.2=0)(a:dg e=true)(b:¬100000<s.a.length+(bi e).length):bK s r e=(⟨r.1,s.a++bi e,s.b⟩,0):=by grind [dg,bi,bK]
theorem aN.f {s:av}(h:aN s){r:aA×Nat}(a:cO r.1)(b:r.1.a<=s.h.a+1)(e:aK):aN (bK s r e).1:=by
 unfold bK;split
 . exact h
 . split
   . exact h
   . split
     . exact h
     . rename_i c;have d:=h.c;have f:=h.g
       have g:=E6 e;refine⟨a,?_,?_,?_⟩
       . simp only[aF];omega
       . simp only[aF];omega
       . simp only[aF];omega
theorem aN.e {s:av}(h:aN s)(size:Int)(m:ag):aN (cx s size m).1:=h.f (Hl h.h _ _) (Hg _ _ _) _
theorem aN.a {s:av}(h:aN s)(id a:Int)(b:ae):aN (cL s id a b).1:=h.f (h.h.r ..) (by rw[G2];omega) _
theorem aN.B {s:av}(h:aN s)(id size:Int):aN (rs s id size).1:=h.f (h.h.B ..) (by rw[Hc];omega) _
theorem aN.q {s:av}(h:aN s)(id:Int):aN (gn s id).1:=h.f (h.h.E ..) (by rw[G6];omega) _
theorem aN.r {s:av}(h:aN s)(id:Int):aN (ex s id).1:=h.f (h.h.y ..) (by rw[G3];omega) _
theorem aN.E {s:av}(h:aN s)(id:Int):aN (lW s id).1:=h.f (h.h.G ..) (by rw[G7];omega) _
theorem aN.d {s:av}(h:aN s):aN (ey s):=⟨h.h,h.c,ak _,h.b⟩
theorem Hp (s:av)(a:Int):(cu (s.a.take (dM s a))).2<=s.a.length∧(cu (s.a.take (dM s a))).2<=dM s a∧(cu (s.a.take (dM s a))).1.length<=(cu (s.a.take (dM s a))).2:=by
 obtain⟨_,b,_,c⟩:=AK _ (s.a.take (dM s a)) (ak _);rw[bP] at b;omega
theorem aN.y {s:av}(h:aN s)(a:Int):aN (ie s a):=by
 obtain⟨b,_,c⟩:=Hp s a;have d:=BX (cu (s.a.take (dM s a))).1 fA;have e:=h.b;have f:fA.a=0:=rfl;refine⟨BY _ cO.q,?_,?_,?_⟩
 . show(ii fA _).a<=_;simp only[ie,bP];omega
 . simp only[ie,bP];omega
 . simp only[ie,bP];omega
abbrev nH:=QD
def lV (s:aA)(x:nH):aA×Nat:=if x.a=0 then lY s x.n x.c else if x.a=1 then iG s x.b x.n x.c.data.toList else if x.a=2 then li s x.b x.n else if x.a=3 then lU s x.b else if x.a=4 then jP s x.b else lj s x.b
def lX (s:aA)(x:nH):aK:=if x.a=0 then ⟨1,s.a+1,x.n,x.c.data.toList⟩ else if x.a=1 then ⟨2,x.b,0,x.c.data.toList⟩ else if x.a=2 then ⟨3,x.b,x.n,[]⟩ else if x.a=3 then ⟨4,x.b,0,[]⟩ else if x.a=4 then ⟨5,x.b,0,[]⟩ else ⟨6,x.b,0,[]⟩
def ky (s:av)(x:nH):av×Nat:=if x.a=0 then cx s x.n x.c else if x.a=1 then cL s x.b x.n x.c.data.toList else if x.a=2 then rs s x.b x.n else if x.a=3 then gn s x.b else if x.a=4 then ex s x.b else if x.a=5 then lW s x.b else if x.a=6 then (ey s,0) else if x.a=7 then (ie s x.n,0) else (s,0)
def oy:ag:=⟨#[47,102,105,108,101,115]⟩
def kG:ag:=⟨#[47,102,105,108,101,115,47]⟩
def B4:ag:=⟨#[79,80,84,73,79,78,83]⟩
def vW:ag:=⟨#[80,79,83,84]⟩
def vY:ag:=⟨#[72,69,65,68]⟩
def wa:ag:=⟨#[68,69,76,69,84,69]⟩
def we:ag:=⟨#[80,65,84,67,72]⟩
def ph:ag:=⟨#[116,117,115,45,114,101,115,117,109,97,98,108,101]⟩
def gD:ag:=⟨#[117,112,108,111,97,100,45,108,101,110,103,116,104]⟩
def nI:ag:=⟨#[117,112,108,111,97,100,45,100,101,102,101,114,45,108,101,110,103,116,104]⟩
def rA:ag:=⟨#[117,112,108,111,97,100,45,109,101,116,97,100,97,116,97]⟩
def jR:ag:=⟨#[99,111,110,116,101,110,116,45,116,121,112,101]⟩
def yn:ag:=⟨#[117,112,108,111,97,100,45,111,102,102,115,101,116]⟩
def fQ:ag:=⟨#[84,117,115,45,82,101,115,117,109,97,98,108,101]⟩
def cI:ag:=⟨#[49,46,48,46,48]⟩
def ei:ag:=⟨#[84,117,115,45,86,101,114,115,105,111,110]⟩
def nJ:ag:=⟨#[84,117,115,45,77,97,120,45,83,105,122,101]⟩
def nL:ag:=⟨#[50,48,48,48]⟩
def ox:ag:=⟨#[84,117,115,45,69,120,116,101,110,115,105,111,110]⟩
def oz:ag:=⟨#[99,114,101,97,116,105,111,110,44,99,114,101,97,116,105,111,110,45,100,101,102,101,114,45,108,101,110,103,116,104,44,116,101,114,109,105,110,97,116,105,111,110]⟩
def rz:ag:=⟨#[76,111,99,97,116,105,111,110]⟩
def dq:ag:=⟨#[85,112,108,111,97,100,45,79,102,102,115,101,116]⟩
def gO:ag:=⟨#[85,112,108,111,97,100,45,76,101,110,103,116,104]⟩
def gP:ag:=⟨#[85,112,108,111,97,100,45,68,101,102,101,114,45,76,101,110,103,116,104]⟩
def lv:ag:=⟨#[49]⟩
def kz:ag:=⟨#[67,97,99,104,101,45,67,111,110,116,114,111,108]⟩
def kA:ag:=⟨#[110,111,45,115,116,111,114,101]⟩
def gR:ag:=⟨#[85,112,108,111,97,100,45,77,101,116,97,100,97,116,97]⟩
def QU:ag:=⟨#[97,112,112,108,105,99,97,116,105,111,110,47,111,102,102,115,101,116,43,111,99,116,101,116,45,115,116,114,101,97,109]⟩
def bj (vs:List ag):ae×Nat :=
 match vs with
 | []=>([],10)
 | [v]=>(v.data.toList,0)
 | _=>([],9)
def aT (name:ag)(l:aC):List ag:=(l.filter fun p=>decide (aU p.1.data.toList=aU name.data.toList)).map (·.2)
def dl (r:ae×Nat):Int×Bool:=if r.2=10 then (-1,true) else ((bB 10 9 r.1).1,(bB 10 9 r.1).2&&decide (r.2=0))
abbrev jk:=Nat×aC
def bY (st:Nat)(l:aC):jk:=(st,(fQ,cI)::l)
def qi (c:Nat):Nat:=if c=10 then 404 else if c=17∨c=19 then 409 else if c=4 then 413 else if c=8∨c=16 then 507 else 400
def fb (n:Nat):ag:=⟨(ba 8 n).toArray⟩
def wg (t:ag):Option Int :=
 if 7<t.size∧t.data.toList.take 7=kG.data.toList∧(bB 10 9 (t.data.toList.drop 7)).2=true∧ba 8 (bB 10 9 (t.data.toList.drop 7)).1.toNat=t.data.toList.drop 7 then some (bB 10 9 (t.data.toList.drop 7)).1 else none
def lZ (s:aA)(t:ag):Option aL:=match wg t with
 | none=>none
 | some n => match cq s.l n with
   | none=>none
   | some i=>s.l[i]?
def mM (s:av)(m:ag)(l:aC):av×jk :=
 if m≠vW then (s,bY 405 [])
 else if (dl (bj (aT gD l))).2=F then (s,bY 400 [])
 else if (bj (aT nI l)).2=9∨((bj (aT nI l)).2=0∧(bj (aT nI l)).1≠lv.data.toList)∨(0<=(dl (bj (aT gD l))).1<->(bj (aT nI l)).2=0) then (s,bY 400 [])
 else if (bj (aT rA l)).2=9 then (s,bY 400 [])
 else if (cx s (dl (bj (aT gD l))).1 (gN (bj (aT rA l)).1)).2≠0 then (s,bY (qi (cx s (dl (bj (aT gD l))).1 (gN (bj (aT rA l)).1)).2) [])
 else (ey (cx s (dl (bj (aT gD l))).1 (gN (bj (aT rA l)).1)).1,bY 201 [(rz,kG++fb (s.h.a+1).toNat)])
def jS (u:aL):jk:=bY 200 ((dq,fb u.a.length)::(if u.c<0 then (gP,lv) else (gO,fb u.c.toNat))::(kz,kA)::(if u.d.size=0 then [] else [(gR,u.d)]))
def ry (v:ae):Bool:=match eh v with
 | .inl _=>F
 | .inr x=>decide (x.1=QU.data.toList)
def qj (u:aL)(l:aC):Prop:=0<=(dl (bj (aT gD l))).1∧u.c<0
instance (u:aL) (l:aC):Decidable (qj u l):=by unfold qj;exact inferInstance
def lw (s:av)(u:aL)(l:aC)(body:ae):av×jk :=
 if (bj (aT jR l)).2=9 then (s,bY 400 [])
 else if ry (bj (aT jR l)).1=F then (s,bY 415 [])
 else if (dl (bj (aT yn l))).2=F∨(dl (bj (aT yn l))).1<0 then (s,bY 400 [])
 else if (dl (bj (aT yn l))).1≠u.a.length then (s,bY 409 [])
 else if (dl (bj (aT gD l))).2=F∨(0<=(dl (bj (aT gD l))).1∧0<=u.c∧(dl (bj (aT gD l))).1≠u.c) then (s,bY 400 [])
 else if qj u l∧(2000<(dl (bj (aT gD l))).1∨(dl (bj (aT gD l))).1<u.a.length+body.length) then (s,bY 413 [])
 else if 100000<s.a.length+(body.length+60) then (s,bY 507 [])
 else if (cL s u.b u.a.length body).2≠0 then (s,bY (qi (cL s u.b u.a.length body).2) [])
 else (ey (if qj u l then (rs (cL s u.b u.a.length body).1 u.b (dl (bj (aT gD l))).1).1 else (cL s u.b u.a.length body).1),bY 204 [(dq,fb (u.a.length+body.length))])
theorem qh {s:av}{r:aA×Nat}{e:aK}(h:(bK s r e).2≠0):(bK s r e).1=s:=by grind [bK]
theorem B0 {s:aA}{t:ag}{u:aL}(h:lZ s t=some u):u∈s.l∧∃n i,wg t=some n∧cq s.l n=some i∧s.l[i]? = some u∧u.b=n:=by grind [lZ,wg,cq,yh]
theorem QR {s:av}(h:aN s)(m:ag)(l:aC):aN (mM s m l).1:=by
 unfold mM;repeat' split
 all_goals first
  | exact h
  | exact(h.e _ _).d
theorem QL {s:av}(h:aN s)(u:aL)(l:aC)(body:ae):aN (lw s u l body).1:=by
 unfold lw;repeat' split
 all_goals first
  | exact h
  | exact((h.a _ _ _).B _ _).d
  | exact(h.a _ _ _).d
def qg (s:av)(u:aL)(m:ag)(l:aC)(body:ae):av×jk :=
 if m=vY then (s,jS u)
 else if m=wa then (ey (gn s u.b).1,bY 204 [])
 else if m=we then lw s u l body else (s,bY 405 [])
def bq (s:av)(m t:ag)(l:aC)(body:ae):av×jk :=
 if t=oy∧m=B4 then (s,bY 204 [(ei,cI),(nJ,nL),(ox,oz)])
 else if (bj (aT ph l)).2=9 then (s,bY 400 [])
 else if (bj (aT ph l)).1≠cI.data.toList then (s,bY 412 [(ei,cI)])
 else if t=oy then mM s m l
 else match lZ s.h t with
  | none=>(s,bY 404 [])
  | some u=>qg s u m l body
theorem QQ {s:av}(h:aN s)(u:aL)(m:ag)(l:aC)(body:ae):aN (qg s u m l body).1:=by
 unfold qg;repeat' split
 all_goals first
  | exact h
  | exact(h.q _).d
  | exact QL h u l body
theorem B3 {s:av}(h:aN s)(m t:ag)(l:aC)(body:ae):aN (bq s m t l body).1:=by grind [bq,QR,QQ]
theorem Qv {s:aA}{id a:Int}{b:ae}(h:(iG s id a b).2=0):a=ou s id:=by
 cases c:cq s.l id with
 | none=>rw[BU,rk c] at h;simp at h
 | some i =>
   rw[BU,rj c] at h;rw[Hd c];unfold kw at h;split at h
   . simp at h
   . split at h
     . simp at h
     . rename_i d;simpa using d
theorem Qr {s:aA}{x:nH}(h:(lV s x).2=0):dF s (lX s x)=lV s x:=by
 by_cases a:x.a=0
 . simp only[lV,lX,if_pos a,dF,if_true];rw[QA]
 by_cases b:x.a=1
 . simp only[lV,if_neg a,if_pos b] at h;have:=Qv h;simp only[lV,lX,if_neg a,if_pos b,dF];rw[if_neg (by decide),if_pos trivial,<-this]
 by_cases c:x.a=2
 . simp only[lV,lX,if_neg a,if_neg b,if_pos c,dF];rw[if_neg (by decide),if_neg (by decide),if_pos trivial]
 by_cases d:x.a=3
 . simp only[lV,lX,if_neg a,if_neg b,if_neg c,if_pos d,dF];rw[if_neg (by decide),if_neg (by decide),if_neg (by decide),if_pos trivial]
 by_cases e:x.a=4
 . simp only[lV,lX,if_neg a,if_neg b,if_neg c,if_neg d,if_pos e,dF];rw[if_neg (by decide),if_neg (by decide),if_neg (by decide),if_neg (by decide),if_pos trivial]
 . simp only[lV,lX,if_neg a,if_neg b,if_neg c,if_neg d,if_neg e,dF];rw[if_neg (by decide),if_neg (by decide),if_neg (by decide),if_neg (by decide),if_neg (by decide)]
def Hm (h:aA)(e:aK):Prop:=∃x:nH,0<=x.a∧x.a<=5∧e=lX h x∧(lV h x).2=0∧dg e=true
def rp (es:List aK):Prop:=∀i (hi:i<es.length),Hm (ii fA (es.take i)) es[i]
theorem rp.d:rp []:=fun i a=>by simp at a
theorem rp.e {es:List aK}{e:aK}(h:rp es)(b:Hm (ii fA es) e):rp (es++[e]):=by
 intro i c;by_cases a:i<es.length
 . rw[List.take_append_of_le_length (by omega),List.getElem_append_left a];exact h i a
 . have:i=es.length:=by simp at c;omega
   subst this;simp only[List.take_left',List.getElem_append_right (ak _),Nat.sub_self,List.getElem_cons_zero];exact b
theorem rp.f {es:List aK}(h:rp es)(k:Nat):rp (es.take k):=by
 intro i a;rw[bP] at a;rw[List.take_take,oC (by omega),List.getElem_take];exact h i (by omega)
theorem rp.a {es:List aK}(h:rp es):∀e∈es,dg e=true:=fun e a=>by
 obtain⟨i,b,rfl⟩:=List.getElem_of_mem a;obtain⟨x,_,_,_,_,c⟩:=h i b;exact c
structure fP (s:av)(es:List aK)(m:Nat):Prop where
 a:s.a=fV es
 c:rp es
 b:s.h=ii fA es
 d:m<=es.length
 e:s.b=(fV (es.take m)).length
theorem fP.y:fP jj [] 0:=⟨rfl,rp.d,rfl,ak _,rfl⟩
theorem Qz (es:List aK)(j:Nat):(fV es).take (fV (es.take j)).length=fV (es.take j):=by
 conv=>lhs;rw[<-jn j es,E7]
 rw[jn,List.take_left'];rfl
theorem Hk {es:List aK}{m k:Nat}(a:m<=es.length)(h:(fV (es.take m)).length<=k):m<=jf es k:=by
 cases m with
 | zero=>exact ax _
 | succ m=>exact(E2 es k m (by omega)).1 h
theorem fP.r {s:av}{es:List aK}{m:Nat}(h:fP s es m)(a:Int):fP (ie s a) (es.take (jf es (dM s a))) (jf es (dM s a))∧m<=jf es (dM s a)∧jf es (dM s a)<=es.length:=by
 have b:=AN es (dM s a) h.c.a;have c:=E4 es (dM s a);refine⟨⟨?_,h.c.f _,?_,?_,?_⟩,?_,c⟩
 . simp only[ie];rw[h.a,b];exact Qz es _
 . simp only[ie];rw[h.a,b]
 . rw[bP];omega
 . simp only[ie];rw[h.a,b,List.take_take,Nat.min_self]
 . refine Hk h.d ?_;unfold dM;rw[h.e];omega
theorem fP.j {s:av}{es:List aK}{m:Nat}(h:fP s es m):fP (ey s) es es.length:=⟨h.a,h.c,h.b,ak _,by simp only[ey];rw[fD,h.a]⟩
theorem Qy {s:av}{x:nH}(g:0<=x.a)(i:x.a<=5):ky s x=bK s (lV s.h x) (lX s.h x):=by
 unfold ky lV lX;by_cases a:x.a=0
 . simp only[if_pos a];rfl
 by_cases b:x.a=1
 . simp only[if_neg a,if_pos b];rfl
 by_cases c:x.a=2
 . simp only[if_neg a,if_neg b,if_pos c];rfl
 by_cases d:x.a=3
 . simp only[if_neg a,if_neg b,if_neg c,if_pos d];rfl
 by_cases e:x.a=4
 . simp only[if_neg a,if_neg b,if_neg c,if_neg d,if_pos e];rfl
 . have f:x.a=5:=by omega
   simp only[if_neg a,if_neg b,if_neg c,if_neg d,if_neg e,if_pos f];rfl
theorem fP.f {s:av}{es:List aK}{m:Nat}(h:fP s es m){x:nH}(c:0<=x.a)(d:x.a<=5):((ky s x).1=s)∨∃e,fP (ky s x).1 (es++[e]) m:=by
 rw[Qy c d];by_cases a:(lV s.h x).2=0
 . cases b:dg (lX s.h x) with
   | false=>rw[rv a b];exact Or.inl rfl
   | true =>
     by_cases f:100000<s.a.length+(bi (lX s.h x)).length
     . rw[ru a b f];exact Or.inl rfl
     . rw[rx a b f];refine Or.inr ⟨lX s.h x,⟨?_,?_,?_,?_,?_⟩⟩
       . simp only;rw[h.a,E7];simp[fV]
       . refine h.c.e ⟨x,c,d,by rw[<-h.b],by rw[<-h.b];exact a,b⟩
       . simp only;rw[Hq,<-h.b,Qr a]
       . have:=h.d;simp;omega
       . simp only;rw[List.take_append_of_le_length h.d];exact h.e
 . rw[rt a];exact Or.inl rfl
theorem fP.B {s:av}{es:List aK}{m:Nat}(h:fP s es m)(x:nH):(x.a≠6∧x.a≠7∧((ky s x).1=s∨∃e,fP (ky s x).1 (es++[e]) m))∨((x.a=6∨x.a=7)∧∃b,fP (ky s x).1 b b.length):=by
 by_cases g:0<=x.a∧x.a<=5
 . exact Or.inl ⟨by omega,by omega,h.f g.1 g.2⟩
 . have i:¬x.a=0:=by omega
   have j:¬x.a=1:=by omega
   have k:¬x.a=2:=by omega
   have l:¬x.a=3:=by omega
   have o:¬x.a=4:=by omega
   have p:¬x.a=5:=by omega
   unfold ky;simp only[if_neg i,if_neg j,if_neg k,if_neg l,if_neg o,if_neg p];by_cases d:x.a=6
   . rw[if_pos d];exact Or.inr ⟨Or.inl d,es,h.j⟩
   . by_cases f:x.a=7
     . rw[if_neg d,if_pos f];obtain⟨a,_,c⟩:=h.r x.n;refine Or.inr ⟨Or.inr f,es.take (jf es (dM s x.n)),?_⟩;have:(es.take (jf es (dM s x.n))).length=jf es (dM s x.n):=by rw[bP];omega
       rw[this];exact a
     . rw[if_neg d,if_neg f];exact Or.inl ⟨d,f,Or.inl rfl⟩
theorem yo {s:av}{es:List aK}{m:Nat}(h:fP s es m){x:nH}(b:0<=x.a)(c:x.a<=5):∃a,fP (ky s x).1 a m:=by
 rcases h.f b c with e | ⟨e,d⟩
 . rw[e];exact⟨es,h⟩
 . exact⟨_,d⟩
theorem H9 {s:av}{es:List aK}{m:Nat}(h:fP s es m)(size:Int)(t:ag):∃a,fP (cx s size t).1 a m:=by
 have:=yo h (x:=⟨0,0,size,t⟩) (by simp) (by simp);unfold ky at this;rw[if_pos rfl] at this;exact this
theorem B5 {s:av}{es:List aK}{m:Nat}(h:fP s es m)(id a:Int)(b:ae):∃c,fP (cL s id a b).1 c m:=by
 have:=yo h (x:=⟨1,id,a,gN b⟩) (by simp) (by simp);unfold ky at this;rw[if_neg (by simp),if_pos rfl,QB] at this;exact this
theorem QE {s:av}{es:List aK}{m:Nat}(h:fP s es m)(id b:Int):∃a,fP (rs s id b).1 a m:=by
 have:=yo h (x:=⟨2,id,b,⟨#[]⟩⟩) (by simp) (by simp);unfold ky at this;rw[if_neg (by simp),if_neg (by simp),if_pos rfl] at this;exact this
theorem QJ {s:av}{es:List aK}{m:Nat}(h:fP s es m)(id:Int):∃a,fP (gn s id).1 a m:=by
 have:=yo h (x:=⟨3,id,0,⟨#[]⟩⟩) (by simp) (by simp);unfold ky at this;rw[if_neg (by simp),if_neg (by simp),if_neg (by simp),if_pos rfl] at this;exact this
def iH (s:av):Prop:=∃es,fP s es es.length
theorem iH.a:iH jj:=⟨[],fP.y⟩
theorem yp {s:av}{es:List aK}{m:Nat}(h:fP s es m):iH (ey s):=⟨es,h.j⟩
theorem QK {s:av}(h:iH s)(m:ag)(l:aC):iH (mM s m l).1:=by
 obtain⟨b,a⟩:=h;unfold mM;repeat' split
 all_goals first
  | exact⟨b,a⟩
  | exact yp (H9 a _ _).choose_spec
theorem QH {s:av}(h:iH s)(u:aL)(l:aC)(body:ae):iH (lw s u l body).1:=by
 obtain⟨b,a⟩:=h;unfold lw;repeat' split
 all_goals first
  | exact⟨b,a⟩
  | exact yp (QE (B5 a _ _ _).choose_spec _ _).choose_spec
  | exact yp (B5 a _ _ _).choose_spec
theorem QI {s:av}{r:aA×Nat}{e:aK}(h:(bK s r e).2=0):r.2=0∧(bK s r e).1.h=r.1:=by
 unfold bK at h ⊢;split
 . rename_i a;rw[if_pos a] at h;exact absurd h a
 . rename_i a;rw[if_neg a] at h;split
   . rename_i b;rw[if_pos b] at h;cases h
   . rename_i b;rw[if_neg b] at h;split
     . rename_i c;rw[if_pos c] at h;cases h
     . exact⟨by simpa using a,rfl⟩
theorem QS {l:List aL}(a:(l.map (·.b)).Pairwise (·<·)){i j:Nat}(b:i<l.length)(c:j<l.length)(h:l[i].b=l[j].b):i=j:=by
 rcases Nat.lt_trichotomy i j with e | e | e
 . have:=List.pairwise_iff_getElem.1 a i j (by simpa using b) (by simpa using c) e;simp only[dH] at this;omega
 . exact e
 . have:=List.pairwise_iff_getElem.1 a j i (by simpa using c) (by simpa using b) e;simp only[dH] at this;omega
theorem Qu {s:av}{es:List aK}(h:fP s es es.length)(k:Int):ie s k=s:=by
 have f:s.b=s.a.length:=by rw[h.e,fD,h.a]
 have a:dM s k=s.a.length:=by unfold dM BW;omega
 have b:=AN es (fV es).length h.c.a;have g:jf es (fV es).length=es.length:=by
  have l:=E4 es (fV es).length;have n:=Hk (m:=es.length) (k:=(fV es).length) (ak _) (by rw[fD];exact ak _);omega
 rw[g,fD,fD] at b;unfold ie;rw[a,fD,h.a,b];obtain⟨o,i,j⟩:=s;have c:=h.b;have d:=h.a;have e:=f
 simp only at c d e;subst d;subst e;rw[<-c];simp only[fD]
theorem fP.q {s:av}{es:List aK}{m:Nat}(h:fP s es m)(x:nH):∃a c,fP (ky s x).1 a c:=by
 rcases h.B x with ⟨_,_,b⟩ | ⟨_,a,d⟩
 . rcases b with b | ⟨e,f⟩
   . rw[b];exact⟨es,m,h⟩
   . exact⟨_,_,f⟩
 . exact⟨_,_,d⟩
