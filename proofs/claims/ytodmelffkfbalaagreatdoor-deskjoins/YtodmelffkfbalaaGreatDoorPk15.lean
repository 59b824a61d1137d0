import Derived.Test.YtodmelffkfbalaaGreatDoorPk1
import Derived.Test.YtodmelffkfbalaaGreatDoorPk5
import Derived.Test.YtodmelffkfbalaaGreatDoorPk9
open Option renaming none->U,some->M
open Bool renaming false->F
namespace Go.Proofs.YtodmelffkfbalaaGreatDoor
def nJ (c:UInt8):Bool:=c==47||c==92
def mP (l:ab):ab:=(l.reverse.takeWhile fun c=>!nJ c).reverse
def mg (c:UInt8):Bool:=c==9||c==34||c==58||!er c.toNat
def kF (c:UInt8):UInt8:=if mg c then 95 else c
def rL (l:ab):ab:=l.dropWhile (·==46)
def Jp:ab:=[102,105,108,101]
def ua (l:ab):ab:=if l=[] then Jp else l
def oB (l:ab):ab:=ua ((rL ((mP l).map kF)).take 40)
def iP:ab->Option (ab)
 | []=>M []
 | c :: t => if c = 37 then (match t with
     | a::b::r=>if 0<=aT a.toNat∧0<=aT b.toNat then (iP r).map ((16*aT a.toNat+aT b.toNat).toNat.toUInt8::·) else U
     | _=>U)
  else (iP t).map (c::·)
def DN:ab:=[117,116,102,45,56,39,39]
def jW (l:ab):Option (ab):=if l.length<7∨be (l.take 7)≠DN then U else iP (l.drop 7)
def ib (n:ab)(ps:List cW):Option (ab):=(ps.find? fun p=>p.1==n).map (·.2)
def wO:ab:=[110,97,109,101]
def zC:ab:=[102,105,108,101,110,97,109,101]
def wM:ab:=[102,105,108,101,110,97,109,101,42]
def qr:ab:=[102,111,114,109,45,100,97,116,97]
def zD:ab:=[99,111,110,116,101,110,116,45,100,105,115,112,111,115,105,116,105,111,110]
def zH:ab:=[99,111,110,116,101,110,116,45,116,121,112,101]
def lu (ps:List cW):Option (ab) :=
 match ib wM ps with
 | some x=>(jW x).map oB
 | none => match ib zC ps with
   | some x=>M (oB x)
   | none=>M []
structure oA where
 b:ab
 a:ab
 c:ab
def qt:List (ab)->ab×Nat
 | []=>([],10)
 | [v]=>(v,0)
 | _=>([],9)
def mO (d t:ab×Nat):Nat ⊕ oA :=
 if d.2≠0 then .inl d.2
 else match dY d.1 with
  | .inl c=>.inl c
  | .inr x => if x.1 ≠ qr then .inl 11
    else match ib wO x.2 with
     | none=>.inl 6
     | some nm => match lu x.2 with
       | none=>.inl 5
       | some f=>if t.2=9 then .inl 9 else .inr ⟨nm,f,t.1⟩
def kD (fs:List gz):Nat ⊕ oA:=mO (qt (dZ fs zD)) (qt (dZ fs zH))
def wP (p:oA):az:=⟨5,⟨#[]⟩,⟨#[]⟩,0,[],0,[],⟨p.b.toArray⟩,⟨p.a.toArray⟩,⟨p.c.toArray⟩,[],0⟩
def tX:az:=⟨6,⟨#[]⟩,⟨#[]⟩,0,[],0,[],⟨#[]⟩,⟨#[]⟩,⟨#[]⟩,[],0⟩
def DO:az:=⟨3,⟨#[]⟩,⟨#[]⟩,0,[],0,[],⟨#[]⟩,⟨#[]⟩,⟨#[]⟩,[],0⟩
def zE (c:Nat):az:=⟨4,⟨#[]⟩,⟨#[]⟩,0,[],0,[],⟨#[]⟩,⟨#[]⟩,⟨#[]⟩,[],(c:Int)⟩
def ic (l:ab):List az:=if l=[] then [] else [dS l]
structure bg where
 b:Nat
 c:Nat
 d:Nat
 a:cx
 e:List gz
 f:Nat
 g:Nat
def DS:bg:=⟨0,0,0,dw,[],0,0⟩
def ie:bg:=⟨0,2,2,dw,[],0,0⟩
def zF (c:Nat):bg:={ DS with g:=c }
def tZ:bg:={ DS with b:=6 }
def iJ (s:bg):Prop:=s.g=0∧s.b≠6
instance (s:bg):Decidable (iJ s):=by unfold iJ;infer_instance
def ih (p:Nat)(c:UInt8):Nat×Nat :=
 if p=4 then (if c=10 then (5,0) else (0,2))
 else if p=2 then (if c=45 then (6,0) else (0,5))
 else if p=1∧c=45 then (2,0)
 else if c=32∨c=9 then (3,0)
 else if c=13 then (4,0)
 else (0,5)
def iQ (c:Nat):bg×List az:=(zF c,[zE c])
def dW (s:bg)(t:ab):bg×List az :=
 if t≠[] then
  if s.e.length=16 then iQ 8
  else if (aY t).a≠0 then iQ (aY t).a
  else ({ s with e:=s.e++[((aY t).b,(aY t).c)] },[])
 else match kD s.e with
  | .inl c=>iQ c
  | .inr p=>if s.f=12 then iQ 8 else ({ s with e:=[],f:=s.f+1,b:=0,c:=2,d:=2 },[wP p])
def cB (m:ab)(s:bg)(c:UInt8):bg×List az :=
 if ¬iJ s then (s,[])
 else if s.b=0 then
  ({ s with c := fJ m s.c c, d := s.d-(dE m s.c c).length, b := if eK m s.c c then 1 else 0 },
   if 0<s.f then ic ((dE m s.c c).drop s.d)++(if eK m s.c c then [tX] else []) else [])
 else if s.b=5 then
  if (bi s.a c).a≠0 then iQ (bi s.a c).a
  else if fH s.a c then dW { s with a:=bi s.a c } (cV s.a c)
  else ({ s with a:=bi s.a c },[])
 else if (ih s.b c).2≠0 then iQ (ih s.b c).2
 else if (ih s.b c).1=6 then (tZ,[DO])
 else ({ s with b:=(ih s.b c).1 },[])
def cZ (m:ab):bg->ab->bg
 | s,[]=>s
 | s,c::t=>cZ m (cB m s c).1 t
def cu (m:ab):bg->ab->List az
 | _,[]=>[]
 | s,c::t=>(cB m s c).2++cu m (cB m s c).1 t
def mN (s:bg):Nat:=if s.g=0∧s.b≠6 then 14 else s.g
def fq (b:ab):ab:=13::10::45::45::b
def iI (b:ab):Bool:=!b.isEmpty&&decide (b.length<=70)&&dO b&&decide (Lib.trimS b cf=b)
theorem zG (m:ab):∀(a b:ab) (s:bg),cZ m s (a++b)=cZ m (cZ m s a) b
 | [],_,_=>rfl
 | _::t,b,_=>zG m t b _
theorem DP (m:ab):∀(a b:ab) (s:bg),cu m s (a++b)=cu m s a++cu m (cZ m s a) b:=by intro l;induction l <;> grind [cu,cZ]
theorem Jo (m:ab)(s:bg)(l:ab)(c:UInt8):cZ m s (l++[c])=(cB m (cZ m s l) c).1:=by rw[zG];rfl
theorem Jn (m:ab)(s:bg)(l:ab)(c:UInt8):cu m s (l++[c])=cu m s l++(cB m (cZ m s l) c).2:=by grind [cu,cB,cZ,DP]
theorem JL {m:ab}{s:bg}(h:¬iJ s)(c:UInt8):cB m s c=(s,[]):=by unfold cB;rw[if_pos h]
theorem DR {m:ab}:∀(l:ab) {s:bg},¬iJ s->cu m s l=[]∧cZ m s l=s
 | [],_,_=>⟨rfl,rfl⟩
 | c :: t, s, h => by
   have a:=DR (m:=m) t h;show(cB m s c).2++cu m (cB m s c).1 t=[]∧cZ m (cB m s c).1 t=s;rw[JL h];exact a
structure dI where
 b:List az
 a:ab
def fE (t:dI):List az:=t.b++ic t.a
def nK (t:dI)(e:az):dI:=if e.b=2 then ⟨t.b,t.a++e.a⟩ else ⟨fE t++[e],[]⟩
def dA (t:dI)(l:List az):dI:=l.foldl nK t
def gN:dI:=⟨[],[]⟩
def kB (l:List az):Prop:=∀e∈l,e.b=2->e=dS e.a∧e.a≠[]
theorem kB.a {a b:List az}(h:kB a)(k:kB b):kB (a++b):=by grind [kB]
theorem pe:kB []:=fun e a=>by cases a
theorem Js (l:ab):kB (ic l):=by
 unfold ic;split
 . exact pe
 . rename_i h;intro e a _;rw[cY.1 a];exact⟨rfl,h⟩
theorem wS {e:az}(h:e.b≠2):kB [e]:=fun x a k=>by rw[cY.1 a] at k;exact absurd k h
theorem rM (c:Nat):kB (iQ c).2:=wS (by show(4:Int)≠2;decide)
theorem Jx (s:bg)(t:ab):kB (dW s t).2:=by
 unfold dW;split
 . split
   . exact rM _
   . split
     . exact rM _
     . exact pe
 . split
   . exact rM _
   . split
     . exact rM _
     . exact wS (by show(5:Int)≠2;decide)
theorem Jy (m:ab)(s:bg)(c:UInt8):kB (cB m s c).2:=by
 unfold cB;split
 . exact pe
 . split
   . show kB (if 0<s.f then _ else _);split
     . refine kB.a (Js _) ?_;split
       . exact wS (by decide)
       . exact pe
     . exact pe
   . split
     . split
       . exact rM _
       . split
         . exact Jx _ _
         . exact pe
     . split
       . exact rM _
       . split
         . exact wS (by decide)
         . exact pe
theorem zM (m:ab):∀(l:ab) (s:bg),kB (cu m s l)
 | [],_=>pe
 | c::t,s=>(Jy m s c).a (zM m t _)
theorem JA (t:dI)(l:List az)(e:az):dA t (l++[e])=nK (dA t l) e:=by unfold dA;rw[sH];rfl
theorem DT (t:dI)(a b:List az):dA t (a++b)=dA (dA t a) b:=by unfold dA;rw[sH]
theorem De (l:List az)(h:kB l):fE (dA gN l)=gr l∧jw (dA gN l).b=F:=by
 have:∀n (l:List az),l.length=n->kB l->fE (dA gN l)=gr l∧jw (dA gN l).b=F:=by
  intro n;induction n with
  | zero=>intro l b _;rw[ix b];exact⟨rfl,rfl⟩
  | succ n j =>
    intro l b d;rcases mz l with rfl | ⟨q,x,rfl⟩
    . simp at b
    . rw[kW] at b d ⊢;obtain⟨g,c⟩:=j q (by simpa using b) (fun e k=>d e (qT _ k));rw[JA,CY,<-g];generalize dA gN q=t at g c;obtain⟨es,bs⟩:=t;simp only at c;by_cases a:x.b=2
      . obtain⟨m,f⟩:=d x (by simp) a;unfold nK;rw[if_pos a];refine⟨?_,c⟩;unfold fE ic;simp only;rw[if_neg (by simp[f])];by_cases i:bs=[]
        . subst i;rw[if_pos rfl,fK,rg _ _ (fun _=>c),kX,<-m]
        . rw[if_neg i,sY _ _ _ rfl a];rfl
      . unfold nK;rw[if_neg a];refine⟨?_,?_⟩
        . rw[rg _ _ (fun e=>absurd e a)];show(_++[x])++ic []=_;simp[ic]
        . show jw (_++[x])=F;rw[vK,ba a]
 exact this _ l rfl h
structure ia (m:ab)(s:bg):Prop where
 j:s.b<=6
 a:s.c<=m.length-1
 h:s.b≠0->s.c=0
 b:qu s.a
 i:s.a.a=0
 c:s.e.length<=16
 e:∀f∈s.e,f.1.length<=200∧f.2.length<=200
 k:s.b≠5->s.a=dw∧s.e=[]
 d:s.f<=12
 g:s.g<=20
theorem ia.H {m:ab}(b:3<=m.length):ia m ie:=⟨ax _,by show 2<=_;omega,fun h=>absurd rfl h,qu.a,rfl,ax _,(fun f a=>by cases a),fun _=>⟨rfl,rfl⟩,ax _,ax _⟩
theorem ia.f {m:ab}{c:Nat}(a:c<=20):ia m (zF c):=⟨ax _,ax _,fun _=>rfl,qu.a,rfl,ax _,(fun f b=>by cases b),fun _=>⟨rfl,rfl⟩,ax _,a⟩
theorem ia.B {m:ab}:ia m tZ:=⟨ak _,ax _,fun _=>rfl,qu.a,rfl,ax _,(fun f a=>by cases a),fun _=>⟨rfl,rfl⟩,ax _,ax _⟩
theorem J6 (m:ab)(h:Nat)(c:UInt8)(b:0<m.length):fJ m h c<=m.length-1:=by
 unfold fJ;split
 . exact ax _
 . rename_i a;have d:=Ba m h c;unfold eK at a;rw[br b,Bool.true_and,bR] at a;omega
theorem Do {s:cx}{c:UInt8}(h:fH s c=true):bi s c=dw:=by grind [fH,bi,dw]
theorem J7 (s:cx)(c:UInt8):ft s c<=4:=by grind [ft]
theorem JM {s:cx}(c:UInt8)(h:s.a=0):(bi s c).a<=4:=by grind [bi,J7]
theorem Ku (t:ab):(aY t).a<=20:=by
 unfold aY jg;repeat' split
 all_goals (first | exact ax _ | (simp only;omega) | decide)
theorem DK (p:Nat)(c:UInt8):(ih p c).1<=6∧(ih p c).2<=20:=by
 unfold ih;repeat' split
 all_goals decide
theorem Kw {r:ab}{c:Nat}(h:kI r=.inl c):c<=20:=by grind [kI]
theorem Kx {r:ab}{c:Nat}(h:kd r=.inl c):c<=20:=by
 unfold kd at h;split at h
 . simp only[] at h;split at h
   . injection h with h;omega
   . split at h
     . split at h
       . rename_i a;injection h with h;subst h;exact Kw a
       . cases h
     . injection h with h;omega
 . injection h with h;omega
theorem DL:∀(n:Nat) (r:ab) (a:List cW) (c:Nat),jl n r a=.inl c->c<=20
 | 0,r,a,c,h=>by rw[jl] at h;cases h
 | n + 1, r, a, c, h => by
   rw[jl] at h;split at h
   . cases h
   . split at h
     . rename_i b;injection h with h;subst h;exact Kx b
     . split at h
       . injection h with h;omega
       . split at h
         . injection h with h;omega
         . exact DL n _ _ c h
theorem J5 {l:ab}{c:Nat}(h:dY l=.inl c):c<=20:=by
 unfold dY at h;split at h
 . injection h with h;omega
 . split at h
   . rename_i a;injection h with h;subst h;unfold qw at a;simp only[] at a;repeat' split at a
     all_goals (first | (injection a with a;omega) | (cases a;done))
   . unfold kH at h;split at h
     . rename_i b;injection h with h;subst h;exact DL _ _ _ _ b
     . cases h
theorem Kv {a:List gz}{c:Nat}(h:kD a=.inl c):c<=20:=by
 unfold kD mO at h;split at h
 . injection h with h;subst h;unfold qt;split <;> (first | exact ax _ | decide)
 . split at h
   . rename_i b;injection h with h;subst h;exact J5 b
   . repeat' split at h
     all_goals (first | (injection h with h;omega) | (cases h;done))
theorem ia.G {m:ab}{s:bg}(h:ia m s)(i:3<=m.length)(c:s.b=5)(d:s.a=dw){t:ab}(j:t.length<=200):ia m (dW s t).1:=by
 unfold dW;split
 . split
   . exact ia.f (by omega)
   . split
     . exact ia.f (Ku t)
     . rename_i g a;have:=C9 t;refine⟨h.j,h.a,h.h,h.b,h.i,?_,fun f a=>?_,fun e=>absurd c e,h.d,h.g⟩
       . have:=h.c;show(s.e++[_]).length<=16;rw[aD];simp;omega
       . rcases eC.1 a with a | a
         . exact h.e f a
         . rw[cY.1 a];exact⟨by show(aY t).b.length<=_;omega,by show(aY t).c.length<=_;omega⟩
 . split
   . rename_i b;exact ia.f (Kv b)
   . split
     . exact ia.f (by omega)
     . rename_i b;have:=h.d;exact⟨ax _,by show 2<=_;omega,fun e=>absurd rfl e,h.b,h.i,ax _,(fun f a=>by cases a),fun _=>⟨d,rfl⟩,by show s.f+1<=12;omega,h.g⟩
theorem ia.r {m:ab}{s:bg}(h:ia m s)(f:3<=m.length)(c:UInt8):ia m (cB m s c).1:=by
 unfold cB;split
 . exact h
 . split
   . rename_i b;refine⟨?_,J6 m _ c (by omega),fun e=>?_,h.b,h.i,h.c,h.e,fun _=>h.k (by omega),h.d,h.g⟩
     . show(if _ then 1 else 0)<=6;split <;> omega
     . show fJ m s.c c=0;unfold fJ;cases g:eK m s.c c
       . exfalso;exact e (by show(if eK m s.c c then 1 else 0)=0;rw[g];rfl)
       . rfl
   . rename_i b;split
     . rename_i a;split
       . exact ia.f (by have:=JM c h.i;omega)
       . rename_i j;have d:ia m { s with a:=bi s.a c }:=⟨h.j,h.a,h.h,xk h.b,by show(bi s.a c).a=0;omega,h.c,h.e,fun e=>absurd a e,h.d,h.g⟩;split
         . rename_i i;exact d.G f a (Do i) (xz h.b).1
         . exact d
     . rename_i a;split
       . exact ia.f (DK _ _).2
       . split
         . exact ia.B
         . rename_i k l;exact⟨(DK _ _).1,h.a,fun _=>h.h b,h.b,h.i,h.c,h.e,fun _=>h.k a,h.d,h.g⟩
theorem ia.y {m:ab}(a:3<=m.length):∀(l:ab) {s:bg},ia m s->ia m (cZ m s l)
 | [],_,h=>h
 | c::t,_,h=>ia.y a t (h.r a c)
theorem zJ (m:ab)(h:Nat)(c:UInt8)(a:h<=m.length-1):(dE m h c).length+fJ m h c<=h+1:=by grind [dE,fJ,xF,Gs]
theorem Ds (l:ab):dx (ic l)=l.length:=by
 unfold ic;split
 . rename_i h;subst h;rfl
 . simp[dx,dS]
theorem J9 (s:bg)(t:ab):dx (dW s t).2=0∧(dW s t).2.length<=1:=by
 unfold dW;split
 . split
   . exact⟨rfl,ak _⟩
   . split
     . exact⟨rfl,ak _⟩
     . exact⟨rfl,ax _⟩
 . split
   . exact⟨rfl,ak _⟩
   . split
     . exact⟨rfl,ak _⟩
     . exact⟨rfl,ak _⟩
theorem JN {s:bg}(t:ab)(a:s.c=0):(dW s t).1.c<=2:=by
 unfold dW;split
 . split
   . exact ax _
   . split
     . exact ax _
     . show s.c<=2;omega
 . split
   . exact ax _
   . split
     . exact ax _
     . exact ak _
theorem Ka {m:ab}{s:bg}(h:ia m s)(c:UInt8):dx (cB m s c).2+(cB m s c).1.c<=s.c+2∧(cB m s c).2.length<=2:=by
 unfold cB;split
 . exact⟨by show 0+s.c<=_;omega,ax _⟩
 . split
   . have a:=zJ m s.c c h.a;have b:dx (if eK m s.c c then [tX] else [])=0:=by split <;> rfl
     have f:(if eK m s.c c then [tX] else []).length<=1:=by split <;> simp
     have g:(ic ((dE m s.c c).drop s.d)).length<=1:=by unfold ic;split <;> simp
     have i:((dE m s.c c).drop s.d).length<=(dE m s.c c).length:=by rw[cO];omega
     show dx (if 0<s.f then _ else _)+fJ m s.c c<=_∧(if 0<s.f then _ else _:List az).length<=2;split
     . rw[sW,b,Ds,aD];exact⟨by omega,by omega⟩
     . exact⟨by show 0+_<=_;omega,ax _⟩
   . split
     . rename_i d j;have e:=h.h d;split
       . exact⟨by show 0+0<=_;omega,by show 1<=2;omega⟩
       . split
         . have a:=J9 { s with a:=bi s.a c } (cV s.a c);have k:=JN (s:={ s with a:=bi s.a c }) (cV s.a c) e;exact⟨by omega,by omega⟩
         . exact⟨by show 0+s.c<=_;omega,ax _⟩
     . split
       . exact⟨by show 0+0<=_;omega,by show 1<=2;omega⟩
       . split
         . exact⟨by show 0+0<=_;omega,by show 1<=2;omega⟩
         . exact⟨by show 0+s.c<=_;omega,ax _⟩
theorem wQ {m:ab}(a:3<=m.length):∀(l:ab) {s:bg},ia m s->dx (cu m s l)+(cZ m s l).c<=s.c+2*l.length∧(cu m s l).length<=2*l.length
 | [],_,_=>⟨by show 0+_<=_;simp[cZ],ax _⟩
 | c :: t, s, h => by
   have b:=Ka h c;have d:=wQ a t (h.r a c);show dx ((cB m s c).2++cu m (cB m s c).1 t)+(cZ m (cB m s c).1 t).c<=_∧((cB m s c).2++cu m (cB m s c).1 t).length<=_;rw[sW,aD,bG];exact⟨by omega,by omega⟩
structure nL (e:az):Prop where
 f:e.i.size=0
 h:e.j.size=0
 c:e.d=[]
 a:e.c=[]
 d:e.g.size<=200
 b:e.e.size<=200
 g:e.h.size<=200
theorem Dt (b:ab):nL (dS b):=⟨rfl,rfl,rfl,rfl,ax _,ax _,ax _⟩
theorem rN (c:Nat):nL (zE c):=⟨rfl,rfl,rfl,rfl,ax _,ax _,ax _⟩
theorem DA (l:ab):(oB l).length<=40:=by
 unfold oB ua;split
 . decide
 . rw[bU];omega
theorem Ky {n:ab}{a:List cW}{v:ab}(h:ib n a=M v):∃p∈a,p.2=v:=by
 unfold ib at h;obtain⟨p,b,rfl⟩:=xV.1 h;exact⟨p,List.mem_of_find?_eq_some b,rfl⟩
theorem Kb {a:List cW}{f:ab}(h:lu a=M f):f.length<=40:=by
 unfold lu at h;split at h
 . obtain⟨x,_,rfl⟩:=xV.1 h;exact DA x
 . split at h
   . injection h with h;subst h;exact DA _
   . injection h with h;subst h;exact ax _
theorem DM {a:List (ab)}{N:Nat}(h:∀v∈a,v.length<=N):(qt a).1.length<=N:=by
 unfold qt;split
 . exact ax _
 . exact h _ (by simp)
 . exact ax _
theorem DB {a:List gz}{n:ab}{N:Nat}(h:∀f∈a,f.2.length<=N):∀v∈dZ a n,v.length<=N:=fun v b=>by
 unfold dZ at b;obtain⟨f,c,rfl⟩:=my.1 b;exact h f (List.mem_filter.1 c).1
theorem Kc {b:List gz}{p:oA}{N:Nat}(h:kD b=.inr p)(c:∀f∈b,f.2.length<=N):p.b.length<=N∧p.a.length<=40∧p.c.length<=N:=by
 have l:=DM (DB (n:=zD) c);have d:=DM (DB (n:=zH) c);unfold kD mO at h;split at h
 . cases h
 . split at h
   . cases h
   . rename_i x g;split at h
     . cases h
     . split at h
       . cases h
       . rename_i i j;split at h
         . cases h
         . rename_i f a;split at h
           . cases h
           . injection h with h;subst h;obtain⟨q,k,e⟩:=Ky j;have:=(AG g).2 q k;exact⟨by show i.length<=N;rw[<-e];omega,Kb a,d⟩
theorem JO {m:ab}{s:bg}(h:ia m s)(t:ab):∀e∈(dW s t).2,nL e:=by
 unfold dW;split
 . split
   . intro e a;rw[cY.1 a];exact rN 8
   . split
     . intro e a;rw[cY.1 a];exact rN _
     . intro e a;cases a
 . split
   . intro e a;rw[cY.1 a];exact rN _
   . split
     . intro e a;rw[cY.1 a];exact rN 8
     . rename_i p b _;have:=Kc b (fun f c=>(h.e f c).2);intro e a;rw[cY.1 a];refine⟨rfl,rfl,rfl,rfl,?_,?_,?_⟩
       . show p.b.toArray.size<=_;rw[cz];omega
       . show p.a.toArray.size<=_;rw[cz];omega
       . show p.c.toArray.size<=_;rw[cz];omega
theorem JK {m:ab}{s:bg}(h:ia m s)(c:UInt8):∀e∈(cB m s c).2,nL e:=by
 unfold cB;split
 . intro e a;cases a
 . split
   . show ∀e∈(if 0<s.f then _ else _),nL e;split
     . intro e a;rcases eC.1 a with a | a
       . unfold ic at a;split at a
         . cases a
         . rw[cY.1 a];exact Dt _
       . split at a
         . rw[cY.1 a];exact⟨rfl,rfl,rfl,rfl,ax _,ax _,ax _⟩
         . cases a
     . intro e a;cases a
   . split
     . rename_i b;split
       . intro e a;rw[cY.1 a];exact rN _
       . rename_i d;split
         . exact JO (m:=m) (s:={ s with a:=bi s.a c }) ⟨h.j,h.a,h.h,xk h.b,by show(bi s.a c).a=0;omega,h.c,h.e,fun e=>absurd b e,h.d,h.g⟩ _
         . intro e a;cases a
     . split
       . intro e a;rw[cY.1 a];exact rN _
       . split
         . intro e a;rw[cY.1 a];exact⟨rfl,rfl,rfl,rfl,ax _,ax _,ax _⟩
         . intro e a;cases a
theorem DQ {m:ab}(b:3<=m.length):∀(l:ab) {s:bg},ia m s->∀e∈cu m s l,nL e
 | [],_,_=>fun e a=>by cases a
 | c :: t, s, h => fun e a => by
   rcases eC.1 a with a | a
   . exact JK h c e a
   . exact DQ b t (h.r b c) e a
theorem Kz {l:List az}(h:∀e∈l,nL e):∀e∈gr l,nL e:=OU Dt l h
theorem JP (m:ab){s:bg}(a:s.b=5)(b:s.g=0)(c:UInt8):cB m s c=if (bi s.a c).a≠0 then iQ (bi s.a c).a else if fH s.a c then dW { s with a:=bi s.a c } (cV s.a c) else ({ s with a:=bi s.a c },[]):=by
 unfold cB;rw[if_neg (fun h=>h ⟨b,by omega⟩),if_neg (by omega),if_pos a]
theorem Jq {c:Nat}(h:c≠0):¬iJ (zF c):=fun k=>h k.1
theorem JR:¬iJ tZ:=fun k=>k.2 rfl
theorem Dg (t:dI)(l:ab):dA t (ic l)=⟨t.b,t.a++l⟩:=by
 unfold ic;split
 . rename_i h;subst h;rw[fK];rfl
 . show nK t (dS l)=_;unfold nK;rw[if_pos (show(dS l).b=2 from rfl)];rfl
theorem JS (m:ab){s:bg}(b:s.b=1∨s.b=2∨s.b=3∨s.b=4)(a:s.g=0)(c:UInt8):cB m s c=if (ih s.b c).2≠0 then iQ (ih s.b c).2 else if (ih s.b c).1=6 then (tZ,[DO]) else ({ s with b:=(ih s.b c).1 },[]):=by
 unfold cB;rw[if_neg (fun h=>h ⟨a,by omega⟩),if_neg (by omega),if_neg (by omega)]
theorem JT (p:Nat)(c:UInt8):(ih p c).1=6->(ih p c).2=0:=by grind [ih]
theorem JU {s:bg}{b:List gz}{p:oA}(c:kD b=.inr p)(a:s.f≠12):dW { s with e:=b } []=({ s with e:=[],f:=s.f+1,b:=0,c:=2,d:=2 },[wP p]):=by
 unfold dW;rw[if_neg (fun h=>h rfl)];simp only[c];rw[if_neg a]
theorem Kd {r:ab}{c:Nat}(h:kI r=.inl c):c≠0:=by grind [kI]
theorem Kf {r:ab}{c:Nat}(h:kd r=.inl c):c≠0:=by grind [kd,Kd]
theorem Du:∀(n:Nat) (r:ab) (a:List cW) (c:Nat),jl n r a=.inl c->c≠0
 | 0,r,a,c,h=>by rw[jl] at h;cases h
 | n + 1, r, a, c, h => by
   rw[jl] at h;split at h
   . cases h
   . split at h
     . rename_i b;injection h with h;subst h;exact Kf b
     . split at h
       . injection h with h;omega
       . split at h
         . injection h with h;omega
         . exact Du n _ _ c h
theorem Dp {l:ab}{c:Nat}(h:dY l=.inl c):c≠0:=by
 unfold dY at h;split at h
 . injection h with h;omega
 . split at h
   . rename_i a;injection h with h;subst h;unfold qw at a;simp only[] at a;repeat' split at a
     all_goals (first | (injection a with a;omega) | (cases a;done))
   . unfold kH at h;split at h
     . rename_i b;injection h with h;subst h;exact Du _ _ _ _ b
     . cases h
theorem JW {a:List gz}{c:Nat}(h:kD a=.inl c):c≠0:=by
 unfold kD mO at h;split at h
 . rename_i b;injection h with h;subst h;exact b
 . split at h
   . rename_i d;injection h with h;subst h;exact Dp d
   . repeat' split at h
     all_goals (first | (injection h with h;omega) | (cases h;done))
theorem JC (s:bg)(t:ab)(h:s.d<=2):(dW s t).1.d<=2:=by
 unfold dW;split
 . split
   . exact ax _
   . split
     . exact ax _
     . exact h
 . split
   . exact ax _
   . split
     . exact ax _
     . exact ak _
theorem JD (m:ab)(s:bg)(c:UInt8)(h:s.d<=2):(cB m s c).1.d<=2:=by
 unfold cB;split
 . exact h
 . split
   . show s.d-_<=2;omega
   . split
     . split
       . exact ax _
       . split
         . exact JC _ _ h
         . exact h
     . split
       . exact ax _
       . split
         . exact ax _
         . exact h
theorem Dq (m:ab):∀(l:ab) (s:bg),s.d<=2->(cZ m s l).d<=2
 | [],_,h=>h
 | c::t,s,h=>Dq m t _ (JD m s c h)
theorem J0 {m:ab}(c:3<=m.length){s:bg}(h:ia m s)(l:ab):(dA gN (cu m s l)).b.length<=2*l.length∧(dA gN (cu m s l)).a.length<=s.c+2*l.length:=by
 have e:=wQ c l h;have d:=(De _ (zM m l s)).1;have a:=BE (cu m s l);have b:=Ea (cu m s l);rw[<-d] at a b;generalize dA gN (cu m s l)=t at *;obtain⟨es,bs⟩:=t;unfold fE at a b;simp only at *;rw[aD] at a;rw[sW,Ds] at b;exact⟨by omega,by omega⟩
theorem Dr (b:ab)(h:b≠[])(a:b.length<=70):(fq b).take 2=[13,10]∧5<=(fq b).length∧(fq b).length<=74:=by
 refine⟨rfl,?_,?_⟩
 . have:=kY.2 h;show 5<=b.length+1+1+1+1;omega
 . show b.length+1+1+1+1<=74;omega
def iR (l:List az):Prop:=∃x∈l,x.b=5
def gO (l:List az):Prop:=∀q e r,l=q++e::r->e.b=2->iR q
theorem iR.a {a b:List az}(h:iR a):iR (a++b):=by grind [iR]
theorem gO.j:gO []:=by simp_all [gO]
theorem gO.f {q:List az}{e:az}(h:gO q)(f:e.b=2->iR q):gO (q++[e]):=by
 intro g i r a d;rcases mz r with rfl | ⟨j,x,rfl⟩
 . obtain⟨b,c⟩:=vg a rfl;subst b;injection c with c;subst c;exact f d
 . rw[kW,<-gd,<-iY] at a;obtain⟨b,_⟩:=vg a rfl;exact h g i j b d
theorem gO.r {a b:List az}(h:gO (a++b)):gO a:=fun q e r c d=>h q e (r++b) (by rw[c];simp) d
theorem Jr {l:List az}{e:az}(h:iR l∨e.b=5):iR (iE l e):=by grind [iR,iE,yh,sY,rg]
theorem DC:∀(n:Nat) (l:List az),l.length=n->gO l->gO (gr l)∧(iR l->iR (gr l))
 | 0,l,c,_=>by rw[ix c];exact⟨gO.j,fun h=>h⟩
 | n + 1, l, c, h => by
   rcases mz l with rfl | ⟨q,x,rfl⟩
   . exact⟨gO.j,fun h=>h⟩
   . rw[kW] at c h ⊢;obtain⟨d,g⟩:=DC n q (by simpa using c) h.r;have i:x.b=2->iR q:=fun b=>h q x [] rfl b;rw[CY];refine⟨?_,fun j=>Jr ?_⟩
     . by_cases e:x.b=2∧jw (gr q)=true
       . obtain⟨p,y,f,a⟩:=yh e.2;rw[f] at d ⊢;rw[sY p y x a e.1];exact d.r.f (fun _=>d p y [] rfl a)
       . rw[rg _ x (fun k=>by
          cases m:jw (gr q)
          . rfl
          . exact absurd ⟨k,m⟩ e)]
         exact d.f (fun b=>g (i b))
     . obtain⟨y,a,b⟩:=j;rcases eC.1 a with a | a
       . exact Or.inl (g ⟨y,a,b⟩)
       . rw[cY.1 a] at b;exact Or.inr b
theorem gO.a {a b:List az}(h:gO a)(c:∀e∈b,e.b≠2):gO (a++b):=by
 induction b generalizing a with
 | nil=>rw[fK];exact h
 | cons e r d =>
   have:=d (h.f (e:=e) (fun k=>absurd k (c e (lM ..)))) (fun x f=>c x (iw _ f));rw[iY] at this;exact this
theorem gO.B {a b:List az}(h:gO a)(c:iR a):gO (a++b):=by
 induction b generalizing a with
 | nil=>rw[fK];exact h
 | cons e r d =>
   have:=d (h.f (e:=e) (fun _=>c)) c.a;rw[iY] at this;exact this
theorem JE (s:bg)(t:ab):(∀e∈(dW s t).2,e.b≠2)∧(0<(dW s t).1.f->0<s.f∨iR (dW s t).2):=by
 unfold dW;split
 . split
   . exact⟨fun e a=>by rw[cY.1 a];show(4:Int)≠2;decide,fun h=>absurd h (by decide)⟩
   . split
     . exact⟨fun e a=>by rw[cY.1 a];show(4:Int)≠2;decide,fun h=>absurd h (Nat.lt_irrefl 0)⟩
     . exact⟨(fun e a=>by cases a),fun h=>Or.inl h⟩
 . split
   . exact⟨fun e a=>by rw[cY.1 a];show(4:Int)≠2;decide,fun h=>absurd h (Nat.lt_irrefl 0)⟩
   . split
     . exact⟨fun e a=>by rw[cY.1 a];show(4:Int)≠2;decide,fun h=>absurd h (by decide)⟩
     . rename_i p _ _;exact⟨fun e a=>by rw[cY.1 a];show(5:Int)≠2;decide,fun _=>Or.inr ⟨wP p,by simp,rfl⟩⟩
theorem Kh {m:ab}{s:bg}(c:UInt8){o:List az}(h:gO o)(a:0<s.f->iR o):gO (o++(cB m s c).2)∧(0<(cB m s c).1.f->iR (o++(cB m s c).2)):=by
 unfold cB;split
 . exact⟨by rw[fK];exact h,fun k=>(a k).a⟩
 . split
   . show gO (o++if 0<s.f then _ else _)∧(0<s.f->_);by_cases b:0<s.f
     . rw[if_pos b];exact⟨h.B (a b),fun _=>(a b).a⟩
     . rw[if_neg b];exact⟨by rw[fK];exact h,fun k=>absurd k b⟩
   . split
     . split
       . exact⟨h.a (fun e d=>by rw[cY.1 d];show(4:Int)≠2;decide),fun k=>absurd k (Nat.lt_irrefl 0)⟩
       . split
         . obtain⟨f,g⟩:=JE { s with a:=bi s.a c } (cV s.a c);refine⟨h.a f,fun k=>?_⟩;rcases g k with k | ⟨x,i,j⟩
           . exact(a k).a
           . exact⟨x,xT _ i,j⟩
         . exact⟨by rw[fK];exact h,fun k=>(a k).a⟩
     . split
       . exact⟨h.a (fun e d=>by rw[cY.1 d];show(4:Int)≠2;decide),fun k=>absurd k (Nat.lt_irrefl 0)⟩
       . split
         . exact⟨h.a (fun e d=>by rw[cY.1 d];show(3:Int)≠2;decide),fun k=>absurd k (Nat.lt_irrefl 0)⟩
         . exact⟨by rw[fK];exact h,fun k=>(a k).a⟩
theorem DD (m:ab):∀(l:ab) (s:bg) (o:List az),gO o->(0<s.f->iR o)->gO (o++cu m s l)
 | [],_,o,h,_=>by show gO (o++[]);rw[fK];exact h
 | c :: t, s, o, h, hp => by
   obtain⟨a,b⟩:=Kh (m:=m) c h hp;have:=DD m t (cB m s c).1 (o++(cB m s c).2) a b;rw[iY] at this;exact this
theorem Ki (m l:ab):gO (gr (cu m ie l)):=(DC _ _ rfl (by have:=DD m l ie [] gO.j (fun h=>absurd h (by decide));simpa using this)).1
theorem gO.y {l:List az}(h:gO l){k:Nat}(a:k<l.length)(b:l[k].b=2):iR (l.take k):=h (l.take k) l[k] (l.drop (k+1)) (by rw[<-kt a,iN]) b
structure bW where
 c:ae
 b:ae
 d:ae
 a:ab
def fO (acc:List bW)(e:az):List bW:=if e.b=5 then acc++[⟨e.g,e.e,e.h,e.c⟩] else if e.b=2 then acc.dropLast++(acc.getLast?.map fun p=>{ p with a:=e.a }).toList else acc
def fF (l:List az):List bW:=l.foldl fO []
theorem Dv (l:List az)(e:az):fF (l++[e])=fO (fF l) e:=by unfold fF;rw[sH];rfl
theorem Dh (a:List bW)(e:az):a.length<=(fO a e).length∧(fO a e).length<=a.length+1:=by grind [fO]
theorem Dx:∀(n:Nat) (l:List az),l.length=n->iR l->0<(fF l).length
 | 0,l,b,⟨x,c,_⟩=>by rw[ix b] at c;cases c
 | n + 1, l, b, h => by
   rcases mz l with rfl | ⟨q,x,rfl⟩
   . obtain⟨_,c,_⟩:=h;cases c
   . rw[kW] at b h ⊢;rw[Dv];obtain⟨y,a,d⟩:=h;rcases eC.1 a with a | a
     . have:=Dx n q (by simpa using b) ⟨y,a,d⟩;have:=(Dh (fF q) x).1;omega
     . rw[cY.1 a] at d;unfold fO;rw[if_pos d];simp
theorem Di (l:List az):(fF l).length<=l.length:=by
 have:∀(m:List az) (o:List bW),(m.foldl fO o).length<=o.length+m.length:=by
  intro m;induction m with
  | nil=>intro o;simp
  | cons e r a=>intro o;rw[qY];have b:=a (fO o e);have c:=(Dh o e).2;simp only[bG];omega
 have h:=this l [];simpa[fF] using h
def bL {α:Type}(f:Nat->α)(k:Nat)(a:α):Nat->α:=fun i=>if i=k then a else f i
theorem dc {b:Type}(f:Nat->b)(k:Nat)(a:b):bL f k a k=a:=if_pos rfl
theorem ef {b:Type}(f:Nat->b){k i:Nat}(a:b)(h:i≠k):bL f k a i=f i:=if_neg h
theorem TY {a:Type}(f:Nat->a)(k:Nat):bL f k (f k)=f:=by
 funext i;unfold bL;split
 . next h=>rw[h]
 . rfl
theorem oU {c:Type}(f:Nat->c)(k:Nat)(a b:c):bL (bL f k a) k b=bL f k b:=by
 funext i;unfold bL;split <;> rfl
def iS (l:ab):ae:=⟨l.toArray⟩
def pq (l:List gz):aC:=l.map fun p=>(iS p.1,iS p.2)
abbrev mU:=Nat×aC×ab
def zZ:ab:=[98,111,117,110,100,97,114,121]
def wU:ab:=[109,117,108,116,105,112,97,114,116,47,102,111,114,109,45,100,97,116,97]
def D3:ae:=⟨#[47,102,111,114,109]⟩
def DW:ae:=⟨#[80,79,83,84]⟩
def ug:ae:=⟨#[80,65,84,67,72]⟩
def rO:ab:=[102,105,108,101,110,97,109,101,32]
def um (t:ae):Bool:=decide (7<=t.size)&&decide (t.data.toList.take 7=kr.data.toList)
def Ac (t:ae):Bool:=decide (t=nY)||um t
def mj (l:aC):Option (ab) :=
 if (aZ (aO jI l)).2≠0 then U
 else match dY (aZ (aO jI l)).1 with
  | .inl _=>U
  | .inr x=>if x.1≠wU then U else ib zZ x.2
def lw (b body:ab):Option (List bW) :=
 if iI b=true∧mN (cZ (fq b) ie body)=0 then M (fF (gr (cu (fq b) ie body))) else U
def gP (ps:List bW):Nat:=(ps.map fun p=>p.a.length+200).sum
def mS (s:av)(ids:List Int):av:=ids.foldl (fun s i=>(ga s i).1) s
def nN (c:Nat):Nat:=if c=4 then 413 else 507
def mT (id:Int)(f:ae):ab:=bx 8 id.toNat++[32]++f.data.toList++[10]
def dB (p:bW):ae:=iS (rO++p.b.data.toList)
def ml (s:av)(made:List Int)(told:ab):List bW->av×mU
 | []=>(eA s,(201,[],told))
 | p :: r =>
   if p.b.size=0 then ml s made told r
   else if (cy s p.a.length (dB p)).2≠0 then (eA (mS s made),(nN (cy s p.a.length (dB p)).2,[],[]))
   else if (cK (cy s p.a.length (dB p)).1 (s.h.a+1) 0 p.a).2≠0 then
    (eA (mS (ga (cy s p.a.length (dB p)).1 (s.h.a+1)).1 made),(nN (cK (cy s p.a.length (dB p)).1 (s.h.a+1) 0 p.a).2,[],[]))
   else ml (cK (cy s p.a.length (dB p)).1 (s.h.a+1) 0 p.a).1 (made++[s.h.a+1]) (told++mT (s.h.a+1) p.b) r
def jh (s:av)(l:aC)(body:ab):av×mU:=match mj l with
 | none=>(s,(415,[],[]))
 | some b => match lw b body with
   | none=>(s,(400,[],[]))
   | some ps=>if 100000<s.a.length+gP ps then (s,(507,[],[])) else ml s [] [] ps
abbrev D5:=av->ae->ae->aC->ab->av×iX
section
variable (T:D5)
def mh (s:av)(m t:ae)(l:aC)(body:ab):av×mU :=
 if Ac t=true then ((T s m t l body).1,((T s m t l body).2.1,(T s m t l body).2.2,[]))
 else if t≠D3 then (s,(404,[],[]))
 else if m≠DW then (s,(405,[],[]))
 else jh s l body
def wV (s:av)(h:dg)(body:ab):av×mU:=mh T s (iS h.e) (iS h.b) (pq h.a) body
def mm (r:mU):ab:=(rX (r.1:Int) r.2.1 (aO ⟨#[99,111,110,116,101,110,116,45,108,101,110,103,116,104]⟩ r.2.1).length r.2.2).1
def pr (c:Nat):mU:=(if c=4 then 413 else 400,[],[])
structure eI where
 s:av
 c:dg
 b:ab
 a:ab
def dl (g:eI):aU->eI
 | .head h=>{ g with c:=h }
 | .body b=>{ g with b:=g.b++b }
 | .fin=>{ s:=(wV T g.s g.c g.b).1,c:=mY,b:=[],a:=g.a++mm (wV T g.s g.c g.b).2 }
 | .fail c=>{ s:=g.s,c:=mY,b:=[],a:=g.a++mm (pr c) }
def ew (g:eI)(l:List aU):eI:=l.foldl (dl T) g
theorem uk (g:eI)(e:aU)(l:List aU):ew T g (e::l)=ew T (dl T g e) l:=rfl
theorem KV (g:eI)(a b:List aU):ew T g (a++b)=ew T (ew T g a) b:=by unfold ew;rw[sH]
theorem Ll (g:eI)(a b:ab):dl T (dl T g (.body a)) (.body b)=dl T g (.body (a++b)):=by grind [dl]
theorem ul:∀(l:List aU) (g:eI),ew T g (aE l)=ew T g l
 | [],_=>rfl
 | .head h::r,g=>ul r (dl T g (.head h))
 | .fin::r,g=>ul r (dl T g .fin)
 | .fail c::r,g=>ul r (dl T g (.fail c))
 | .body a :: r, g => by
   have d:=ul r (dl T g (.body a));rw[uk T g (.body a) r,<-d];show ew T g (match aE r with
    | .body b::q=>.body (a++b)::q
    | q=>.body a::q)=_
   cases f:aE r with
   | nil=>rfl
   | cons e q =>
     cases e with
     | body b=>rw[uk,uk,Ll]
     | head _=>rfl
     | fin=>rfl
     | fail _=>rfl
theorem Lm (g:eI)(o:ab)(e:aU):dl T { g with a:=o++g.a } e={ dl T g e with a:=o++(dl T g e).a }:=by
 cases e with
 | head h=>rfl
 | body b=>rfl
 | fin=>simp only[dl,iY]
 | fail c=>simp only[dl,iY]
structure da where
 c:bN
 a:dg
 b:ab
def eG:da:=⟨pC,mY,[]⟩
def nM (s:av)(c:da):eI:=⟨s,c.a,c.b,[]⟩
def ui (s:av)(c:da)(b:ab):eI:=ew T (nM s c) (cX c.c b)
def mR (s:av)(c:da)(b:ab):av×da×ab:=((ui T s c b).s,⟨cM c.c b,(ui T s c b).c,(ui T s c b).b⟩,(ui T s c b).a)
def pp (s:av)(c:da):av:=if iS c.a.e=ug∧um (iS c.a.b)=true∧c.b≠[] then (T s (iS c.a.e) (iS c.a.b) (pq c.a.a) c.b).1 else s
theorem wW:∀(ids:List Int) {s:av},aJ s->aJ (mS s ids)
 | [],_,h=>h
 | i::r,_,h=>wW r (h.B i)
theorem zQ:∀(b:List bW) {s:av} (made:List Int) (a:ab),aJ s->aJ (ml s made a b).1
 | [],_,_,_,h=>h.f
 | p :: r, s, made, a, h => by
   unfold ml;split
   . exact zQ r made a h
   . split
     . exact(wW made h).f
     . split
       . exact(wW made ((h.j _ _).B _)).f
       . exact zQ r _ _ ((h.j _ _).a _ _ _)
theorem Lg {s:av}(h:aJ s)(l:aC)(body:ab):aJ (jh s l body).1:=by grind [jh,zQ]
theorem KY (a:∀{s:av},aJ s->∀m t l body,aJ (T s m t l body).1){s:av}(h:aJ s)(m t:ae)(l:aC)(body:ab):aJ (mh T s m t l body).1:=by grind [mh,Lg]
theorem Ab (a:∀{s:av},aJ s->∀m t l body,aJ (T s m t l body).1){g:eI}(h:aJ g.s)(e:aU):aJ (dl T g e).s:=by
 cases e with
 | head _=>exact h
 | body _=>exact h
 | fin=>exact KY T a h _ _ _ _
 | fail _=>exact h
theorem D0 (a:∀{s:av},aJ s->∀m t l body,aJ (T s m t l body).1):∀(l:List aU) {g:eI},aJ g.s->aJ (ew T g l).s
 | [],_,h=>h
 | e::r,_,h=>D0 a r (Ab T a h e)
theorem Lh (a:∀{s:av},aJ s->∀m t l body,aJ (T s m t l body).1){s:av}(h:aJ s)(c:da)(b:ab):aJ (mR T s c b).1:=D0 T a (g:=nM s c) _ h
theorem Li (a:∀{s:av},aJ s->∀m t l body,aJ (T s m t l body).1){s:av}(h:aJ s)(c:da):aJ (pp T s c):=by
 unfold pp;split
 . exact a h _ _ _ _
 . exact h
end
structure pm (r:mU):Prop where
 c:r.2.1.length<=5
 d:∀p∈r.2.1,p.1.size<=2000∧p.2.size<=2000
 b:r.2.2.length<=2000
theorem pm.a (st:Nat):pm (st,[],[]):=⟨ax _,fun p a=>by simp at a,ax _⟩
def pk (r:iX):Prop:=r.2.length<=5∧∀p∈r.2,p.1.size<=2000∧p.2.size<=2000
theorem wX (n:Nat):(eL n).size<=9:=by
 unfold eL;show(bx 8 n).toArray.size<=_;rw[cz];exact(gx 8 n).1
theorem wT (st:Nat)(l:aC)(b:l.length<=4)(h:∀p∈l,p.1.size<=2000∧p.2.size<=2000):pk (bT st l):=by
 refine⟨by show l.length+1<=5;omega,fun p a=>?_⟩;rcases fS.1 a with rfl | a
 . exact⟨by decide,by decide⟩
 . exact h p a
theorem lv (st:Nat):pk (bT st []):=wT st [] (ax _) (fun p a=>by cases a)
theorem Aa (st:Nat)(a b:ae)(ha:a.size<=2000)(c:b.size<=2000):pk (bT st [(a,b)]):=by grind [pk,bT,wT]
theorem Lj (s:av)(m:ae)(l:aC):pk (nk s m l).2:=by
 unfold nk;repeat' split
 all_goals first
  | exact lv _
  | exact Aa _ _ _ (by decide) (by rw[mB];have:=wX (s.h.a+1).toNat;have:kr.size=7:=rfl;omega)
theorem K6 (s:av)(u:aL)(l:aC)(body:ab):pk (mv s u l body).2:=by
 unfold mv;split
 . exact lv _
 . split
   . exact lv _
   . split
     . exact lv _
     . split
       . exact lv _
       . split
         . exact lv _
         . split
           . exact lv _
           . split
             . exact lv _
             . split
               . exact lv _
               . exact Aa _ _ _ (by decide) (by have:=wX (u.b.length+body.length);omega)
theorem Le (u:aL)(h:u.d.size<=100):pk (jJ u):=by
 unfold jJ;refine wT 200 _ ?_ (fun p a=>?_)
 . simp only[bG];split <;> simp
 . rcases fS.1 a with rfl | a
   . exact⟨show dp.size<=2000 by decide,by have:=wX u.b.length;show(eL u.b.length).size<=_;omega⟩
   . rcases fS.1 a with rfl | a
     . split
       . exact⟨by decide,by decide⟩
       . exact⟨show gB.size<=2000 by decide,by have:=wX u.a.toNat;show(eL u.a.toNat).size<=_;omega⟩
     . rcases fS.1 a with rfl | a
       . exact⟨by decide,by decide⟩
       . split at a
         . cases a
         . rw[cY.1 a];exact⟨show ir.size<=2000 by decide,by show u.d.size<=_;omega⟩
theorem D1 {s:av}(ok:aJ s)(m t:ae)(l:aC)(body:ab):pk (bw s m t l body).2:=by
 unfold bw;split
 . exact wT _ _ (by decide) (by decide)
 . split
   . exact lv _
   . split
     . exact Aa _ _ _ (by decide) (by decide)
     . split
       . exact Lj s m l
       . split
         . exact lv _
         . rename_i u a;unfold qO;split
           . exact Le u (ok.h.a u (Bj a).1).b
           . split
             . exact lv _
             . split
               . exact K6 s u l body
               . exact lv _
theorem zR {s:av}{z:Int}{m:ae}(h:(cy s z m).2=0):(cy s z m).1.h.l.length=s.h.l.length+1∧m.size<=100:=by
 unfold cy bI at h ⊢;split
 . rename_i a;rw[if_pos a] at h;exact absurd h a
 . rename_i a;rw[if_neg a] at h;split
   . rename_i c;rw[if_pos c] at h;exact absurd h (by simp)
   . rename_i c;rw[if_neg c] at h;split
     . rename_i b;rw[if_pos b] at h;exact absurd h (by simp)
     . skip;show(ng s.h z m).1.l.length=_∧_;unfold ng eZ at a ⊢;split
       . rename_i b;rw[if_pos b] at a;exact absurd (by simp) a
       . rename_i b;rw[if_neg b] at a;split
         . rename_i d;rw[if_pos d] at a;exact absurd (by simp) a
         . rename_i d;rw[if_neg d] at a;split
           . rename_i e;rw[if_pos e] at a;exact absurd (by simp) a
           . rename_i e;rw[if_neg e] at a;split
             . rename_i f;rw[if_pos f] at a;exact absurd (by simp) a
             . exact⟨by simp,by omega⟩
theorem DZ (s:av)(c a:Int)(b:ab):(cK s c a b).1.h.l.length=s.h.l.length:=by
 have d:(iL s.h c a b).1.l.length=s.h.l.length:=by
  unfold iL cQ;split
  . rfl
  . split
    . rfl
    . simp only[];repeat' split
      all_goals first
       | rfl
       | (show(List.set _ _ _).length=_;rw[pI])
 unfold cK bI;repeat' split
 all_goals first
  | rfl
  | exact d
theorem DX (a:Int)(f:ae):(mT a f).length<=11+f.size:=by
 unfold mT;have:=(gx 8 a.toNat).1;have b:f.data.toList.length=f.size:=by rw[cJ];rfl
 simp only[aD,bG,iv];omega
theorem Ad:∀(b:List bW) {s:av} (made:List Int) (a:ab),aJ s->a.length<=120*s.h.l.length->pm (ml s made a b).2
 | [],s,_,a,ok,h=>⟨ax _,(fun p c=>by cases c),(by have:=ok.h.b;show a.length<=_;omega)⟩
 | p :: r, s, made, a, ok, h => by
   unfold ml;split
   . exact Ad r made a ok h
   . split
     . exact pm.a _
     . rename_i d;split
       . exact pm.a _
       . have f:(cy s p.a.length (dB p)).2=0:=by
          rcases Nat.eq_zero_or_pos (cy s p.a.length (dB p)).2 with e | e
          . exact e
          . exact absurd (by omega) d
         obtain⟨g,i⟩:=zR f;refine Ad r _ _ ((ok.j _ _).a _ _ _) ?_;rw[DZ,g,aD];have j:(dB p).size=9+p.b.size:=by
          show(rO++p.b.data.toList).toArray.size=_;rw[cz,aD,cJ];rfl
         have:=DX (s.h.a+1) p.b;omega
theorem KW {s:av}(ok:aJ s)(l:aC)(body:ab):pm (jh s l body).2:=by grind [jh,pm.a,Ad]
theorem D8 {s:av}(ok:aJ s)(m t:ae)(l:aC)(body:ab):pm (mh bw s m t l body).2:=by
 unfold mh;split
 . exact⟨(D1 ok m t l body).1,(D1 ok m t l body).2,ax _⟩
 . split
   . exact pm.a _
   . split
     . exact pm.a _
     . exact KW ok l body
theorem K7 (p:ae×ae):(jn p).length<=202:=by
 unfold jn;rw[aD];have:(bP p.1.data.toList p.2.data.toList).1.length<=200:=by
  unfold bP;repeat' split
  all_goals first
   | exact ax _
   | (simp only[aD,bG,iv];omega)
 simp only[bG,iv];omega
theorem D6:∀l:aC,(l.flatMap jn).length<=202*l.length
 | []=>ax _
 | p :: r => by
   rw[ob,aD,bG];have:=K7 p;have:=D6 r;omega
theorem K8 (st:Int)(l:aC)(a:Nat)(body:ab):(rX st l a body).1.length<=4000+body.length:=by
 unfold rX;split
 . exact ax _
 . split
   . exact ax _
   . split
     . exact ax _
     . split
       . exact ax _
       . have b:=D6 l;have c:=FN st;have d:=(gx 8 st.toNat).1;have e:=(gx 8 body.length).1;have f:FP.length=9:=rfl;have g:xv.length=16:=rfl;simp only[ke,aD,bG,iv];omega
theorem DY {r:mU}(h:pm r):(mm r).length<=6000:=by
 unfold mm;have:=K8 (r.1:Int) r.2.1 (aO ⟨#[99,111,110,116,101,110,116,45,108,101,110,103,116,104]⟩ r.2.1).length r.2.2;have:=h.b;omega
theorem D7 (c:Nat):pm (pr c):=pm.a _
structure ph (c:da):Prop where
 b:fI c.c
 a:jo c.a
theorem zS:jo mY:=⟨ax _,ax _,ax _,ax _,fun f a=>by cases a⟩
theorem ph.f:ph eG:=⟨fI.B,zS⟩
section
variable (T:D5)
theorem D4 {g:eI}{e:aU}(h:jo g.c)(a:e.f):jo (dl T g e).c:=by
 cases e with
 | head x=>exact a
 | body b=>exact h
 | fin=>exact zS
 | fail c=>exact zS
theorem D2:∀(l:List aU) {g:eI},jo g.c->(∀e∈l,e.f)->jo (ew T g l).c
 | [],_,h,_=>h
 | e::r,_,h,he=>D2 r (D4 T h (he e (by simp))) (fun x a=>he x (by simp[a]))
theorem zT:∀(l:List aU) (g:eI),(ew T g l).b.length<=g.b.length+bQ l
 | [],_=>ak _
 | e :: r, g => by
   have h:=zT r (dl T g e);rw[uk];cases e with
   | head x=>exact h
   | body b =>
     have a:(dl T g (.body b)).b.length=g.b.length+b.length:=aD;show _<=_+(b.length+bQ r);omega
   | fin =>
     have a:(dl T g .fin).b.length=0:=rfl;show _<=_+bQ r;omega
   | fail c =>
     have a:(dl T g (.fail c)).b.length=0:=rfl;show _<=_+bQ r;omega
theorem Lf {c:da}(h:ph c)(s:av)(b:ab):ph (mR T s c b).2.1:=⟨h.b.j b,D2 T _ (g:=nM s c) h.a (A8 b h.b)⟩
theorem KZ (s:av)(c:da)(b:ab):(mR T s c b).2.1.b.length<=c.b.length+b.length:=by
 have a:=zT T (cX c.c b) (nM s c);have e:=(xx b c.c).2.1;show(ew T (nM s c) (cX c.c b)).b.length<=_;have d:(nM s c).b=c.b:=rfl;rw[d] at a;omega
end
theorem KX {g:eI}(ok:aJ g.s)(e:aU):(dl bw g e).a.length<=g.a.length+6000:=by
 cases e with
 | head x=>exact dR _ _
 | body b=>exact dR _ _
 | fin =>
   show(g.a++mm _).length<=_;rw[aD];have:=DY (D8 ok (iS g.c.e) (iS g.c.b) (pq g.c.a) g.b);unfold wV;omega
 | fail c =>
   show(g.a++mm _).length<=_;rw[aD];have:=DY (D7 c);omega
theorem Ae:∀(l:List aU) {g:eI},aJ g.s->(ew bw g l).a.length<=g.a.length+6000*l.length
 | [],_,_=>by simp[ew]
 | e :: r, g, ok => by
   have a:=KX ok e;have c:=Ae r (Ab bw (fun h m t l b=>Bl h m t l b) ok e);rw[uk,bG];omega
structure kJ where
 c:Int
 a:Int
 n:Int
 b:ab
structure bJ where
 s:av
 c:Nat->da
 a:List Int
def im:bJ:=⟨iW,fun _=>eG,[]⟩
structure mn where
 a:Nat
 b:ab
 c:ab
def AM:ae:=⟨#[47,116,97,107,101,47]⟩
def qx:ae:=⟨#[72,111,115,116]⟩
def qy:ae:=⟨#[105,110,108,97,110,100]⟩
def lA (m:ae):aC:=(qx,qy)::if m.size=0 then [] else [(ir,m)]
def AO (id:Int):ae:=AM++eL id.toNat
def AN (u:aL):dg:=⟨uS.data.toList,(AO u.c).data.toList,0,(lA u.d).map fun p=>(p.1.data.toList,p.2.data.toList),0⟩
def nP (u:aL):ab:=(jp (AN u) u.b).1
def FA (s:aA)(id:Int):Option aL:=match cE s.l id with
 | none=>U
 | some i=>s.l[i]?
def rW (s:aA)(id:Int):ab:=match FA s id with
 | none=>[]
 | some u=>nP u
def px (k:Int):Prop:=0<=k∧k<4
instance (k:Int):Decidable (px k):=by unfold px;exact inferInstance
def kL (p:bJ)(k:Int)(b:ab):bJ×mn :=
 if px k then (⟨(mR bw p.s (p.c k.toNat) b).1,bL p.c k.toNat (mR bw p.s (p.c k.toNat) b).2.1,p.a⟩,⟨if (p.c k.toNat).c.a=4 then 18 else 0,(mR bw p.s (p.c k.toNat) b).2.2,[]⟩)
 else (p,⟨1,[],[]⟩)
def lz (p:bJ)(k:Int):bJ×mn :=
 if px k then (⟨pp bw p.s (p.c k.toNat),bL p.c k.toNat eG,p.a⟩,⟨0,[],[]⟩) else (p,⟨1,[],[]⟩)
def oH (p:bJ)(id:Int):bJ×mn :=
 if (fu p.s id).2≠0 then (p,⟨(fu p.s id).2,[],[]⟩)
 else (⟨eA (fu p.s id).1,p.c,p.a++[id]⟩,⟨0,[],rW (fu p.s id).1.h id⟩)
def oE (p:bJ)(id:Int):bJ×mn :=
 if (kT p.s id).2≠0 then (p,⟨(kT p.s id).2,[],[]⟩) else (⟨eA (kT p.s id).1,p.c,p.a⟩,⟨0,[],[]⟩)
def uE (p:bJ)(keep:Int):bJ×mn:=(⟨gV p.s keep,fun _=>eG,p.a⟩,⟨0,[],[]⟩)
def gR (p:bJ)(x:kJ):bJ×mn :=
 if x.c=1 then kL p x.a x.b else if x.c=2 then lz p x.a else if x.c=3 then oH p x.n else if x.c=4 then oE p x.n else if x.c=5 then uE p x.n else (p,⟨11,[],[]⟩)
def jm (s:av):Prop:=∃es m,fw s es m
theorem jm.a {s:av}(h:jm s):iu (eA s):=h.elim fun _ h=>h.elim fun _ h=>xK h
theorem jm.f {s:av}(h:iu s):jm s:=h.elim fun a h=>⟨a,a.length,h⟩
theorem jm.r {s:av}(h:jm s)(x:na):jm (kl s x).1:=h.elim fun _ h=>h.elim fun _ h=>h.r x
theorem jm.j {s:av}(h:jm s)(a:Int):jm (ga s a).1:=h.elim fun _ h=>h.elim fun m h=>(PQ h a).elim fun b h=>⟨b,m,h⟩
theorem jm.y {s:av}(h:jm s)(z:Int)(t:ae):jm (cy s z t).1:=h.elim fun _ h=>h.elim fun m h=>(GP h z t).elim fun a h=>⟨a,m,h⟩
theorem jm.B {s:av}(h:jm s)(c a:Int)(b:ab):jm (cK s c a b).1:=h.elim fun _ h=>h.elim fun m h=>(Bo h c a b).elim fun d h=>⟨d,m,h⟩
theorem AP:∀(ids:List Int) {s:av},jm s->jm (mS s ids)
 | [],_,h=>h
 | i::r,_,h=>AP r (h.j i)
theorem AS:∀(b:List bW) {s:av} (made:List Int) (a:ab),jm s->iu (ml s made a b).1
 | [],_,_,_,h=>h.a
 | p :: r, s, made, a, h => by
   unfold ml;split
   . exact AS r made a h
   . split
     . exact(AP made h).a
     . split
       . exact(AP made ((h.y _ _).j _)).a
       . exact AS r _ _ ((h.y _ _).B _ _ _)
theorem Fw {s:av}(h:iu s)(m t:ae)(l:aC)(body:ab):iu (bw s m t l body).1:=by
 unfold bw qO;repeat' split
 all_goals first
  | exact h
  | exact PR h m l
  | exact((jm.f h).j _).a
  | exact PN h _ l body
theorem NL {s:av}(h:iu s)(m t:ae)(l:aC)(body:ab):iu (mh bw s m t l body).1:=by
 unfold mh jh;repeat' split
 all_goals first
  | exact h
  | exact Fw h m t l body
  | exact AS _ _ _ (jm.f h)
theorem Fy:∀(l:List aU) {g:eI},iu g.s->iu (ew bw g l).s
 | [],_,h=>h
 | e :: r, g, h => Fy r (g := dl bw g e) (by
   cases e with
   | fin=>exact NL h _ _ _ _
   | head _=>exact h
   | body _=>exact h
   | fail _=>exact h)
theorem NS {s:av}(h:iu s)(c:da):iu (pp bw s c):=by
 unfold pp;split
 . exact Fw h _ _ _ _
 . exact h
theorem NO {s:av}(h:jm s)(a:Int):jm (fu s a).1:=h.r ⟨4,a,0,⟨#[]⟩⟩
theorem NV {s:av}(h:jm s)(a:Int):jm (kT s a).1:=h.r ⟨5,a,0,⟨#[]⟩⟩
theorem NQ {s:av}(h:iu s)(k:Int):gV s k=s:=h.elim fun _ h=>Pl h k
structure il (p:bJ)(n:Nat):Prop where
 s:aJ p.s
 b:iu p.s
 c:∀k,ph (p.c k)
 a:∀k,(p.c k).b.length<=n
theorem il.f:il im 0:=⟨aJ.kU,iu.a,fun _=>ph.f,fun _=>ak _⟩
theorem il.j {p:bJ}{n m:Nat}(h:il p n)(a:n<=m):il p m:=⟨h.s,h.b,h.c,fun k=>cq (h.a k) a⟩
theorem xo {b:Type}{aam:b->Prop}{f:Nat->b}{a:b}(k:Nat)(c:∀i,aam (f i))(ha:aam a):∀i,aam (bL f k a i):=fun i=>by
 unfold bL;split
 . exact ha
 . exact c i
theorem Fz:∀{s:av},aJ s->∀m t l body,aJ (bw s m t l body).1:=fun h m t l b=>Bl h m t l b
theorem il.r {p:bJ}{n:Nat}(h:il p n)(x:kJ):il (gR p x).1 (n+x.b.length):=by
 have a:=h.j (dR n x.b.length);unfold gR;split
 . unfold kL;split
   . refine⟨Lh bw Fz h.s _ _,Fy _ (g:=nM p.s _) h.b,xo _ h.c (Lf bw (h.c _) _ _),xo (aam:=fun c:da=>c.b.length<=n+x.b.length) _ a.a ?_⟩;have:=KZ bw p.s (p.c x.a.toNat) x.b;have:=h.a x.a.toNat;omega
   . exact a
 . split
   . unfold lz;split
     . exact⟨Li bw Fz h.s _,NS h.b _,xo _ h.c ph.f,xo (aam:=fun c:da=>c.b.length<=n+x.b.length) _ a.a (ax _)⟩
     . exact a
   . split
     . unfold oH;split
       . exact a
       . exact⟨(h.s.G _).f,(NO (jm.f h.b) _).a,h.c,a.a⟩
     . split
       . unfold oE;split
         . exact a
         . exact⟨(h.s.jY _).f,(NV (jm.f h.b) _).a,h.c,a.a⟩
       . split
         . refine⟨h.s.H _,?_,fun _=>ph.f,fun _=>ax _⟩;show iu (gV p.s x.n);rw[NQ h.b];exact h.b
         . exact a
def jc (n:Nat):ab:=bx 8 n
def fD (n:Int):ab:=if n<0 then 45::jc (-n).toNat else jc n.toNat
def kA (l:ab):Option Int:=if (bB 10 9 l).2=true∧jc (bB 10 9 l).1.toNat=l then M (bB 10 9 l).1 else U
def mc (l:ab):ab:=l.take (aV 32 l)
def nI (l:ab):ab:=l.drop (aV 32 l+1)
def oz (l:ab):Option kJ:=match kA (mc l),je (nI l) with
 | some k,M b=>if aV 32 l<l.length then M ⟨1,k,0,b⟩ else U
 | _,_=>U
def CE:ab:=[98,121,116,101,115]
def CJ:ab:=[100,114,111,112]
def CL:ab:=[115,101,110,100]
def CM:ab:=[116,111,108,100]
def CF:ab:=[99,114,97,115,104]
def qm (l:ab):Option kJ :=
 if mc l=CE then oz (nI l) else match kA (nI l) with
 | none=>U
 | some n=>if mc l=CJ then M ⟨2,n,0,[]⟩ else if mc l=CL then M ⟨3,0,n,[]⟩ else if mc l=CM then M ⟨4,0,n,[]⟩ else if mc l=CF then M ⟨5,0,n,[]⟩ else U
def fM (ws:List (ab)):ab:=[32].intercalate ws++[10]
def rJ (o:mn):ab:=if o.a≠0 then fM [[110,111],jc o.a] else if o.c≠[] then fM [[117,112],dP o.c] else if o.b≠[] then fM [[111,117,116],dP o.b] else fM [[111,107]]
def jx (u:aL):ab:=fM [[117,112,108,111,97,100],fD u.c,fD u.a,jc u.b.length,fD u.e,dP u.d.data.toList]
def qk (l:List aL):ab:=l.flatMap jx++fM [[101,110,100]]
def jy (p:bJ)(l:ab):bJ×ab :=
 if l=[] then (p,[]) else if l=[108,105,115,116] then (p,qk p.s.h.l) else if l=[108,111,103] then (p,fM [[108,111,103],jc p.s.a.length,jc p.s.b]) else match qm l with
 | none=>(p,fM [[119,104,97,116]])
 | some x=>((gR p x).1,rJ (gR p x).2)
def cL (p:bJ):List (ab)->bJ×ab
 | []=>(p,[])
 | l::r=>((cL (jy p l).1 r).1,(jy p l).2++(cL (jy p l).1 r).2)
def fC:List (ab)->Option Nat
 | []=>U
 | l::r=>if 10∈l then M 0 else (fC r).map (·+1)
theorem zl (p:bJ):∀(a b:List (ab)),cL p (a++b)=((cL (cL p a).1 b).1,(cL p a).2++(cL (cL p a).1 b).2)
 | [],b=>by simp[cL]
 | x::a,b=>by simp only[gd,cL,zl _ a b,iY]
theorem Iy {l:ab}{x:kJ}(h:oz l=M x):x.b.length<=l.length:=by
 unfold oz at h;split at h
 . rename_i k b c a;split at h
   . injection h with h;have:=Ct _ _ (ak _) b a;unfold nI at this;rw[cO] at this;rw[<-h];show b.length<=_;omega
   . cases h
 . cases h
theorem zm {l:ab}{x:kJ}(h:qm l=M x):x.b.length<=l.length:=by
 unfold qm at h;split at h
 . have:=Iy h;unfold nI at this;rw[cO] at this;omega
 . split at h
   . cases h
   . repeat' split at h
     all_goals first | (injection h with h;rw[<-h];exact ax _) | cases h
theorem uc {l:ab}{p:Nat}(n:p<=l.length)(f:∀j (b:j<l.length),p<=j->nJ l[j]=F)(g:p=0∨∃h:p-1<l.length,0<p∧nJ l[p-1]=true):mP l=l.drop p:=by
 have e:l.reverse=(l.drop p).reverse++(l.take p).reverse:=by rw[<-List.reverse_append,iN]
 have ha:∀c∈(l.drop p).reverse,(!nJ c)=true:=by
  intro c d;rw[List.mem_reverse] at d;obtain⟨j,b,rfl⟩:=List.getElem_of_mem d;rw[cO] at b;rw[List.getElem_drop,f (p+j) (by omega) (by omega)];rfl
 have i:(l.take p).reverse.takeWhile (fun c=>!nJ c)=[]:=by
  rcases g with rfl | ⟨h,o,k⟩
  . rfl
  . obtain⟨q,rfl⟩:∃q,p=q+1:=⟨p-1,by omega⟩;have m:q<l.length:=by simpa using h
    have a:nJ l[q]=true:=by simpa using k
    rw[fR m,List.reverse_append];show(l[q]::(l.take q).reverse).takeWhile _=[];rw[vp,a];rfl
 unfold mP;rw[e,List.takeWhile_append_of_pos ha,i,fK,List.reverse_reverse]
theorem JF {c:UInt8}(h:mg c=F):kF c=c:=by unfold kF;rw[h];rfl
def jX (k:Nat)(l:ab):ab:=(l.take k).map kF++l.drop k
theorem zI (k:Nat)(l:ab):(jX k l).length=l.length:=by grind [jX]
theorem Jt (l:ab):jX 0 l=l:=rfl
theorem JG (l:ab):jX l.length l=l.map kF:=by unfold jX;rw[eQ,List.drop_length,fK]
theorem J1 {k:Nat}{l:ab}(h:k<l.length):(jX k l)[k]'(by rw[zI];exact h)=l[k]:=by grind [jX]
theorem Ju {k:Nat}{l:ab}(h:k<l.length):jX (k+1) l=(jX k l).set k (kF l[k]):=by
 unfold jX;rw[fR h,ku,kt h,sy _ _ (by rw[gD,bU];omega)];rw[gD,bU,pN (Nat.le_of_lt h),Nat.sub_self];simp;rw[kt h];rfl
theorem Jv {k:Nat}{l:ab}(h:k<l.length)(hd:mg l[k]=F):jX (k+1) l=jX k l:=by
 unfold jX;rw[fR h,ku,kt h];simp[JF hd]
theorem DE {c:UInt8}{t:ab}(h:c≠37):iP (c::t)=(iP t).map (c::·):=by rw[iP.eq_def];simp only[];rw[if_neg h]
theorem DH {a b:UInt8}{r:ab}(ha:0<=aT a.toNat)(c:0<=aT b.toNat):iP (37::a::b::r)=(iP r).map ((16*aT a.toNat+aT b.toNat).toNat.toUInt8::·):=by grind [aT,iP]
theorem DJ {a b:UInt8}{r:ab}(h:¬(0<=aT a.toNat∧0<=aT b.toNat)):iP (37::a::b::r)=U:=by
 rw[iP.eq_def];simp only[];rw[if_pos trivial,if_neg h]
theorem zA {t:ab}(h:t.length<2):iP (37::t)=U:=by
 match t,h with
 | [],_=>rw[iP.eq_def];simp only[];rw[if_pos trivial]
 | [_],_=>rw[iP.eq_def];simp only[];rw[if_pos trivial]
 | _::_::_,h=>simp at h;omega
def jA (bs r:ab):Option (ab):=(iP r).map (bs++·)
theorem J8 (bs:ab):jA bs []=M bs:=by unfold jA;rw[iP];simp
theorem J2 {bs:ab}{c:UInt8}{t:ab}(h:c≠37):jA bs (c::t)=jA (bs++[c]) t:=by
 unfold jA;rw[DE h,Option.map_map];congr 1;funext x;simp
theorem Kj {bs:ab}{a b:UInt8}{r:ab}(ha:0<=aT a.toNat)(c:0<=aT b.toNat):jA bs (37::a::b::r)=jA (bs++[(16*aT a.toNat+aT b.toNat).toNat.toUInt8]) r:=by
 unfold jA;rw[DH ha c,Option.map_map];congr 1;funext x;simp
theorem Kk {bs:ab}{a b:UInt8}{r:ab}(h:¬(0<=aT a.toNat∧0<=aT b.toNat)):jA bs (37::a::b::r)=U:=by unfold jA;rw[DJ h];rfl
theorem JH {bs t:ab}(h:t.length<2):jA bs (37::t)=U:=by unfold jA;rw[zA h];rfl
theorem JI (r:ab):jA [] r=iP r:=by unfold jA;simp
theorem JJ (a b:UInt8):bB 16 6 [a,b]=if 0<=aT a.toNat∧0<=aT b.toNat then (16*aT a.toNat+aT b.toNat,true) else (0,F):=by
 have c:¬(6:Int)<(([a,b]:ab).length:Int):=by simp
 by_cases h:0<=aT a.toNat∧0<=aT b.toNat
 . rw[if_pos h,yZ 16 6 _ (by simp) c (by rw[qX,qX,vZ,vZ,br h.1,br h.2];rfl)];unfold lm;simp only[qY,List.foldl_nil];rw[show(0:Int)*16+aT a.toNat=aT a.toNat by omega,show aT a.toNat*16+aT b.toNat=16*aT a.toNat+aT b.toNat by omega]
 . rw[if_neg h,yN 16 6 _ (by
    rw[qX,qX,vZ,vZ];simp only[List.all_nil,Bool.and_true];rw[pO,cC,cC];rcases Decidable.not_and_iff_not_or_not.1 h with h | h
    . exact Or.inl h
    . exact Or.inr h)]
theorem Kl {a b:UInt8}(ha:0<=aT a.toNat)(c:0<=aT b.toNat):((16*aT a.toNat+aT b.toNat).toNat.toUInt8.toNat:Int)=16*aT a.toNat+aT b.toNat∧16*aT a.toNat+aT b.toNat<=255:=by
 have d:=(qi a).2;have f:=(qi b).2;generalize aT (a.toNat:Int)=x at *;generalize aT (b.toNat:Int)=y at *;refine⟨?_,by omega⟩;have:(16*x+y).toNat<256:=by omega
 have e:(16*x+y).toNat.toUInt8.toNat=(16*x+y).toNat:=by simp[Nat.toUInt8];omega
 rw[e];omega
def kE (d:ab×Nat):Nat ⊕ List cW :=
 if d.2≠0 then .inl d.2
 else match dY d.1 with
  | .inl c=>.inl c
  | .inr x=>if x.1≠qr then .inl 11 else .inr x.2
def ub (ps:List cW)(t:ab×Nat):Nat ⊕ oA :=
 match ib wO ps with
 | none=>.inl 6
 | some nm => match lu ps with
   | none=>.inl 5
   | some f=>if t.2=9 then .inl 9 else .inr ⟨nm,f,t.1⟩
theorem Jw (d t:ab×Nat):mO d t=match kE d with
 | .inl c=>.inl c
 | .inr b=>ub b t:=by
 unfold mO kE ub;by_cases h:d.2≠0
 . rw[if_pos h,if_pos h]
 . rw[if_neg h,if_neg h];cases dY d.1 with
   | inl c=>rfl
   | inr x =>
     simp only;by_cases a:x.1≠qr
     . rw[if_pos a,if_pos a]
     . rw[if_neg a,if_neg a];all_goals
        simp only;cases get KP x.2 with
        | none=>rfl
        | some e=>cases file x.2 <;> rfl
theorem Kp {d:ab×Nat}{c:Nat}(h:d.2=0)(a:dY d.1=.inl c):kE d=.inl c:=by unfold kE;rw[if_neg (fun e=>e h),a]
theorem J3 {d:ab×Nat}{x:ab×List cW}(h:d.2=0)(a:dY d.1=.inr x)(b:x.1≠qr):kE d=.inl 11:=by unfold kE;rw[if_neg (fun e=>e h),a];exact if_pos b
theorem Kt {d:ab×Nat}{x:ab×List cW}(h:d.2=0)(a:dY d.1=.inr x)(b:x.1=qr):kE d=.inr x.2:=by simp_all [cW,dY,qr,kE]
theorem zB:∀(n:Nat) (l y:ab),l.length<=n->iP l=M y->y.length<=l.length
 | _,[],y,_,h=>by rw[iP] at h;injection h with h;subst h;exact ak _
 | 0,_::_,_,hn,_=>by simp at hn
 | n + 1, c :: t, y, hn, h => by
   simp only[bG] at hn;by_cases f:c=37
   . subst f;match t,hn,h with
     | [],_,h=>rw[zA (by simp)] at h;cases h
     | [_],_,h=>rw[zA (by simp)] at h;cases h
     | a :: b :: r, hn, h =>
       by_cases d:0<=aT a.toNat∧0<=aT b.toNat
       . rw[DH d.1 d.2] at h;obtain⟨z,e,rfl⟩:=xV.1 h;have:=zB n r z (by simp only[bG] at hn;omega) e;simp only[bG];omega
       . rw[DJ d] at h;cases h
   . rw[DE f] at h;obtain⟨z,e,rfl⟩:=xV.1 h;have:=zB n t z (by omega) e;simp only[bG];omega
theorem J4 {l y:ab}(h:jW l=M y):y.length<=l.length:=by
 unfold jW at h;split at h
 . cases h
 . have:=zB _ _ _ (ak _) h;rw[cO] at this;omega
theorem DG:∀(n:Nat) (r:ab) (a b:List cW),a.length<=8->jl n r a=.inr b->b.length<=8
 | 0,r,a,b,c,h=>by rw[jl] at h;injection h with h;subst h;exact c
 | n + 1, r, a, b, c, h => by
   rw[jl] at h;split at h
   . injection h with h;subst h;exact c
   . split at h
     . cases h
     . split at h
       . cases h
       . split at h
         . cases h
         . rename_i d;exact DG n _ _ b (by rw[aD];simp;omega) h
theorem Dz {l wd:ab}{a:List cW}(h:dY l=.inr (wd,a)):a.length<=8:=by
 unfold dY at h;split at h
 . cases h
 . split at h
   . cases h
   . unfold kH at h;split at h
     . cases h
     . rename_i b;injection h with h;injection h with _ h;subst h;exact DG _ _ _ _ (ax _) b
theorem Ks {d:ab×Nat}{a:List cW}(h:kE d=.inr a):a.length<=8∧∀p∈a,p.2.length<=d.1.length:=by
 unfold kE at h;split at h
 . cases h
 . split at h
   . cases h
   . rename_i x b;split at h
     . cases h
     . injection h with h;subst h;exact⟨Dz b,fun p c=>((AG b).2 p c).2⟩
structure jD where
 s:av
 a:List Int
 c:ab
 b:Nat
def eX (r:jD)(p:bW):jD :=
 if (cy r.s p.a.length (dB p)).2≠0 then { r with b:=(cy r.s p.a.length (dB p)).2 }
 else if (cK (cy r.s p.a.length (dB p)).1 (r.s.h.a+1) 0 p.a).2≠0 then
  { r with s:=(ga (cK (cy r.s p.a.length (dB p)).1 (r.s.h.a+1) 0 p.a).1 (r.s.h.a+1)).1,b:=(cK (cy r.s p.a.length (dB p)).1 (r.s.h.a+1) 0 p.a).2 }
 else ⟨(cK (cy r.s p.a.length (dB p)).1 (r.s.h.a+1) 0 p.a).1,r.a++[r.s.h.a+1],r.c++mT (r.s.h.a+1) p.b,0⟩
def fP (r:jD):List bW->jD
 | []=>r
 | p::t=>if p.b.size=0 then fP r t else if (eX r p).b≠0 then eX r p else fP (eX r p) t
def po (r:jD):av×mU:=if r.b=0 then (eA r.s,(201,[],r.c)) else (eA (mS r.s r.a),(nN r.b,[],[]))
theorem KT {s:av}{c a:Int}{b:ab}(h:(cK s c a b).2≠0):(cK s c a b).1=s:=pE h
theorem KU {s:av}{z:Int}{m:ae}(h:(cy s z m).2≠0):(cy s z m).1=s:=pE h
theorem Ag:∀(ps:List bW) (r:jD),r.b=0->ml r.s r.a r.c ps=po (fP r ps)
 | [],r,h=>by unfold ml fP po;rw[if_pos h]
 | p :: t, r, h => by
   unfold ml fP;by_cases h0:p.b.size=0
   . rw[if_pos h0,if_pos h0];exact Ag t r h
   . rw[if_neg h0,if_neg h0];by_cases h1:(cy r.s p.a.length (dB p)).2=0
     . by_cases h2:(cK (cy r.s p.a.length (dB p)).1 (r.s.h.a+1) 0 p.a).2=0
       . have ha:eX r p=⟨(cK (cy r.s p.a.length (dB p)).1 (r.s.h.a+1) 0 p.a).1,r.a++[r.s.h.a+1],r.c++mT (r.s.h.a+1) p.b,0⟩:=by
          unfold eX;rw[if_neg (by rw[h1];simp),if_neg (by rw[h2];simp)]
         rw[if_neg (by show ¬(cy r.s p.a.length (dB p)).2≠0;rw[h1];simp),if_neg (by show ¬(cK (cy r.s p.a.length (dB p)).1 (r.s.h.a+1) 0 p.a).2≠0;rw[h2];simp),ha,if_neg (by simp)];exact Ag t ⟨(cK (cy r.s p.a.length (dB p)).1 (r.s.h.a+1) 0 p.a).1,r.a++[r.s.h.a+1],r.c++mT (r.s.h.a+1) p.b,0⟩ rfl
       . have ha:eX r p={ r with s:=(ga (cK (cy r.s p.a.length (dB p)).1 (r.s.h.a+1) 0 p.a).1 (r.s.h.a+1)).1,b:=(cK (cy r.s p.a.length (dB p)).1 (r.s.h.a+1) 0 p.a).2 }:=by
          unfold eX;rw[if_neg (by rw[h1];simp),if_pos h2]
         rw[if_neg (by show ¬(cy r.s p.a.length (dB p)).2≠0;rw[h1];simp),if_pos (show(cK (cy r.s p.a.length (dB p)).1 (r.s.h.a+1) 0 p.a).2≠0 from h2),ha,if_pos h2];unfold po;rw[if_neg h2,KT h2]
     . have ha:eX r p={ r with b:=(cy r.s p.a.length (dB p)).2 }:=by unfold eX;rw[if_pos h1]
       rw[if_pos (show(cy r.s p.a.length (dB p)).2≠0 from h1),ha,if_pos h1];unfold po;rw[if_neg h1]
theorem zX {r:jD}(h:aJ r.s)(p:bW):aJ (eX r p).s:=by
 unfold eX;split
 . exact h
 . split
   . exact((h.j _ _).a _ _ _).B _
   . exact(h.j _ _).a _ _ _
theorem zY:∀(a:List bW) {r:jD},aJ r.s->aJ (fP r a).s
 | [],_,h=>h
 | p :: t, r, h => by
   unfold fP;split
   . exact zY t h
   . split
     . exact zX h p
     . exact zY t (zX h p)
structure uj (r:jD):Prop where
 b:aJ r.s
 a:r.c.length<=120*r.a.length
 c:r.a.length<=r.s.h.l.length∨r.b≠0
theorem K1 {r:jD}(h:uj r)(d:r.b=0)(p:bW):uj (eX r p):=by
 refine⟨zX h.b p,?_,?_⟩
 . unfold eX;split
   . exact h.a
   . rename_i a;split
     . exact h.a
     . have b:(cy r.s p.a.length (dB p)).2=0:=sF a;have e:(dB p).size=9+p.b.size:=by
        show(rO++p.b.data.toList).toArray.size=_;rw[cz,aD,cJ];rfl
       have c:=(zR b).2;have f:=DX (r.s.h.a+1) p.b;have g:=h.a;simp only[aD,bG,iv];omega
 . unfold eX;split
   . rename_i a;exact Or.inr a
   . rename_i a;split
     . rename_i c;exact Or.inr c
     . have b:(cy r.s p.a.length (dB p)).2=0:=sF a;refine Or.inl ?_;show(r.a++[r.s.h.a+1]).length<=(cK _ _ _ _).1.h.l.length;rw[DZ,(zR b).1,aD];rcases h.c with h | h
       . simp;omega
       . exact absurd d h
def ii (o:List bW):Nat:=(o.map fun p=>p.a.length).sum
theorem zP (a b:List bW):ii (a++b)=ii a+ii b:=by unfold ii;rw[ku,List.sum_append]
theorem Ln:∀{o:List bW} {q:bW},q∈o->q.a.length<=ii o:=by intro l;induction l <;> grind [ii]
theorem Lc (o:List bW)(e:az)(h:e.c=[]):ii (fO o e)<=ii o+e.a.length:=by
 unfold fO;split
 . rw[zP];show _+(e.c.length+0)<=_;rw[h];show ii o+0<=_;omega
 . split
   . rcases mz o with rfl | ⟨q,p,rfl⟩
     . exact ax _
     . rw[kW,List.dropLast_concat,sG,zP,zP];show ii q+(e.a.length+0)<=ii q+ii [p]+e.a.length;omega
   . omega
theorem K0 (o:List bW)(e:az)(h:e.e.size<=200)(b:∀q∈o,q.b.size<=200):∀q∈fO o e,q.b.size<=200:=by
 unfold fO;split
 . intro q a;rcases eC.1 a with a | a
   . exact b q a
   . rw[cY.1 a];exact h
 . split
   . rcases mz o with rfl | ⟨r,p,rfl⟩
     . intro q a;cases a
     . rw[kW] at b ⊢;rw[List.dropLast_concat,sG];intro q a;rcases eC.1 a with a | a
       . exact b q (qT _ a)
       . have:q={ p with a:=e.a }:=cY.1 a;rw[this];exact b p (xT _ (by simp))
   . exact b
theorem Ld (es:List az)(h:∀e∈es,nL e):ii (fF es)<=dx es∧∀q∈fF es,q.b.size<=200:=by
 have a:∀(m:List az) (o:List bW),(∀e∈m,nL e)->(∀q∈o,q.b.size<=200)->ii (m.foldl fO o)<=ii o+dx m∧∀q∈m.foldl fO o,q.b.size<=200:=by
  intro m;induction m with
  | nil=>intro o _ b;exact⟨ak _,b⟩
  | cons e t g =>
    intro o c b;have d:=c e (by simp);have i:=Lc o e d.a;have f:=g (fO o e) (fun x j=>c x (by simp[j])) (K0 o e d.b b);refine⟨?_,f.2⟩;show ii (t.foldl fO (fO o e))<=ii o+(e.a.length+dx t);have:=f.1;omega
 have:=a es [] h (fun q k=>by cases k);refine⟨?_,this.2⟩;have i:ii (fF es)<=0+dx es:=this.1;omega
theorem Lk:∀o:List bW,gP o=ii o+200*o.length:=by intro l;induction l <;> grind [gP,ii]
theorem KS {b body:ab}{a:List bW}(h:lw b body=M a)(c:3<=(fq b).length)(d:ia (fq b) ie)(g:ie.c<=1000)(i:body.length<=20000):gP a<=1000000000∧a.length<=1000000∧∀q∈a,q.a.length<=1000000∧q.b.size<=900000:=by
 unfold lw at h;split at h
 . injection h with h;subst h;have j:=wQ c body d;have k:=BE (cu (fq b) ie body);have l:=Ea (cu (fq b) ie body);have f:=Ld _ (Kz (DQ c body d));have m:=Di (gr (cu (fq b) ie body));have n:=Lk (fF (gr (cu (fq b) ie body)));refine⟨by omega,by omega,fun q e=>⟨?_,by have:=f.2 q e;omega⟩⟩;have:=Ln e;omega
 . cases h
theorem La (r:jD)(p:bW):(eX r p).a.length<=r.a.length+1:=by grind [eX]
theorem zV:∀(a:List bW) (r:jD),(fP r a).a.length<=r.a.length+a.length
 | [],_=>ak _
 | p :: t, r => by
   unfold fP;rw[bG];split
   . have:=zV t r;omega
   . have b:=La r p;split
     . omega
     . have:=zV t (eX r p);omega
section
variable {s:av} {l:aC} {body b:ab} {ps:List bW}
theorem K3 (h:mj l=U):jh s l body=(s,(415,[],[])):=by unfold jh;rw[h]
theorem Lb (h:mj l=M b)(a:lw b body=U):jh s l body=(s,(400,[],[])):=by grind [mj,lw,jh]
theorem K4 (h:mj l=M b)(a:lw b body=M ps)(c:100000<s.a.length+gP ps):jh s l body=(s,(507,[],[])):=by grind [mj,lw,gP,jh]
theorem K5 (h:mj l=M b)(a:lw b body=M ps)(c:¬100000<s.a.length+gP ps):jh s l body=po (fP ⟨s,[],[],0⟩ ps):=by
 unfold jh;rw[h];show(match lw b body with | none=>_ | some ps=>_)=_;rw[a];show(if 100000<s.a.length+gP ps then _ else _)=_;rw[if_neg c];exact Ag ps ⟨s,[],[],0⟩ rfl
end
theorem NR {s:av}{b:Int}(h:(fu s b).2=0):∃i u,cE s.h.l b=M i∧s.h.l[i]? = M u∧u.c=b∧u.e=0∧u.a=u.b.length∧(fu s b).1.h=⟨s.h.l.set i { u with e:=1 },s.h.a⟩:=by
 unfold fu at h ⊢;obtain⟨a,j⟩:=PP h;rw[j];cases c:cE s.h.l b with
 | none=>unfold kh at a;rw[qD c] at a;cases a
 | some i =>
   obtain⟨u,d,e⟩:=xG _ _ _ c;have k:=mu c;have m:s.h.l[i]=u:=by rw[iz k] at d;injection d
   unfold kh at a ⊢;rw[qE c,m] at a ⊢;by_cases f:u.e≠0
   . rw[if_pos f] at a;cases a
   rw[if_neg f] at a ⊢;by_cases g:u.a≠u.b.length
   . rw[if_pos g] at a;cases a
   rw[if_neg g];exact⟨i,u,rfl,d,e,by omega,by omega,rfl⟩
theorem Fv:∀(l:List aL) (a:Int) (i:Nat) (u v:aL),l[i]? = M u->v.c=u.c->cE (l.set i v) a=cE l a
 | [],_,_,_,_,h,_=>by simp at h
 | x :: t, a, 0, u, v, h, e => by
   have h:x=u:=by simpa using h
   subst h;rw[oP,cE,cE,e]
 | x :: t, a, i + 1, u, v, h, e => by
   rw[List.set_cons_succ,cE,cE,Fv t a i u v (by simpa using h) e]
theorem NY {s:av}{a:Int}{i:Nat}{u:aL}(b:cE s.h.l a=M i)(e:s.h.l[i]? = M u)(f:(fu s a).1.h=⟨s.h.l.set i { u with e:=1 },s.h.a⟩):cE (fu s a).1.h.l a=M i∧(fu s a).1.h.l[i]? = M { u with e:=1 }∧rW (fu s a).1.h a=nP u:=by
 have c:cE (s.h.l.set i { u with e:=1 }) a=M i:=(Fv _ a i u { u with e:=1 } e rfl).trans b;have d:(s.h.l.set i { u with e:=1 })[i]? = M { u with e:=1 }:=by rw[List.getElem?_set_self (mu b)]
 rw[f];refine⟨c,d,?_⟩;unfold rW FA;simp only[c,d];rfl
open Go.RowKit
theorem NZ (h:dg)(a:ab):(jp h a).1.length<=8000:=by
 by_cases b:(jp h a).2=0
 . exact(OJ h a b).2
 . revert b;unfold jp;repeat' split
   all_goals first | (intro _;exact ax _) | (intro b;exact absurd rfl b)
theorem NT (s:aA)(a:Int):(rW s a).length<=8000:=by
 unfold rW;split
 . exact ax _
 . exact NZ _ _
theorem FB {s:av}{r:aA×Nat}{e:aH}(h:r.2<=100):(bI s r e).2<=100:=by
 unfold bI;repeat' split
 all_goals first | exact h | exact Nat.le_of_ble_eq_true rfl
theorem Fx (s:aA)(a:Int)(f:Nat->aL->aA×Nat)(b:∀i u,(f i u).2<=100):(cQ s a f).2<=100:=by
 unfold cQ;repeat' split
 all_goals first | exact b _ _ | exact Nat.le_of_ble_eq_true rfl
theorem NU (p:bJ)(x:kJ):(gR p x).2.a<=100:=by
 have a:(fu p.s x.n).2<=100:=FB (Fx _ _ _ fun i u=>by
  repeat' split
  all_goals exact Nat.le_of_ble_eq_true rfl)
 have b:(kT p.s x.n).2<=100:=FB (Fx _ _ _ fun i u=>by split <;> exact Nat.le_of_ble_eq_true rfl);unfold gR kL lz oH oE uE;repeat' split
 all_goals first | exact a | exact b | (split <;> exact Nat.le_of_ble_eq_true rfl) | exact Nat.le_of_ble_eq_true rfl
theorem Fu (p:bJ)(x:kJ):(gR p x).2.c.length<=8000:=by
 unfold gR kL lz oH oE uE;repeat' split
 all_goals first | exact NT _ _ | exact ax _
theorem Ft {p:bJ}(ok:aJ p.s)(x:kJ):(gR p x).2.b.length<=12000*x.b.length:=by
 unfold gR kL lz oH oE uE;repeat' split
 all_goals first
  | exact ax _
  | (show(ew bw (nM p.s (p.c x.a.toNat)) (cX (p.c x.a.toNat).c x.b)).a.length <= _
     have a:=Ae (cX (p.c x.a.toNat).c x.b) (g:=nM p.s (p.c x.a.toNat)) ok
     have d:=(xx x.b (p.c x.a.toNat).c).1
     have e:(nM p.s (p.c x.a.toNat)).a.length=0:=rfl
     omega)
theorem N0 (p:bJ)(x:kJ):(gR p x).1.a.length<=p.a.length+1:=by
 unfold gR kL lz oH oE uE;repeat' split
 all_goals simp
def hZ (ls:List (ab)):Nat:=(ls.map (·.length)).sum
theorem wm (a:List (ab))(i:Nat)(h:i<a.length):hZ (a.take i)+a[i].length=hZ (a.take (i+1)):=by
 unfold hZ;rw[fR h,ku,List.sum_append];simp
theorem CG (a:List (ab))(i:Nat):hZ (a.take i)<=hZ a:=by
 conv=>rhs;rw[<-iN i a]
 unfold hZ;rw[ku,List.sum_append];omega
theorem wp (p:bJ)(a:List (ab))(i:Nat)(h:i<a.length):cL p (a.take (i+1))=((jy (cL p (a.take i)).1 a[i]).1,(cL p (a.take i)).2++(jy (cL p (a.take i)).1 a[i]).2):=by
 rw[fR h,zl];simp[cL]
theorem IP {p:bJ}{n:Nat}(h:il p n)(l:ab):il (jy p l).1 (n+l.length):=by
 unfold jy;repeat' split
 all_goals first
  | exact h.j (dR _ _)
  | (rename_i x a;exact(h.r x).j (Nat.add_le_add_left (zm a) _))
theorem IK (p:bJ)(l:ab):(jy p l).1.a.length<=p.a.length+1:=by
 unfold jy;repeat' split
 all_goals first
  | exact Nat.le_succ _
  | exact N0 _ _
theorem wt {p:bJ}{n:Nat}(h:il p n)(a:List (ab)):∀i,i<=a.length->il (cL p (a.take i)).1 (n+hZ (a.take i))
 | 0,_=>h
 | i + 1, b => by
   rw[wp p a i (by omega),<-wm a i (by omega),<-gE];exact IP (wt h a i (by omega)) _
theorem zh (p:bJ)(a:List (ab)):∀i,i<=a.length->(cL p (a.take i)).1.a.length<=p.a.length+i
 | 0,_=>ak _
 | i + 1, b => by
   rw[wp p a i (by omega)];have:=IK (cL p (a.take i)).1 a[i];have:=zh p a i (by omega);show(jy (cL p (a.take i)).1 a[i]).1.a.length<=_;omega
def mL:List ae:=[⟨#[98,121,116,101,115,32,48,32,71,69,84,32,47,32,72,84,84,80,47,49,46,49,92,114,92,110,72,111,115,116,58,32,97,92,114,92,110,92,114,92,110]⟩,⟨#[108,105,115,116]⟩,⟨#[108,111,103]⟩,⟨#[115,101,110,100,32,49]⟩,⟨#[100,114,111,112,32,52]⟩,⟨#[120]⟩]
def CP:ab:=[111,117,116,32,72,84,84,80,47,49,46,49,32,52,48,52,32,78,111,116,32,70,111,117,110,100,92,114,92,110,67,111,110,116,101,110,116,45,76,101,110,103,116,104,58,32,48,92,114,92,110,92,114,92,110,10,101,110,100,10,108,111,103,32,48,32,48,10,110,111,32,49,48,10,110,111,32,49,10,119,104,97,116,10]
theorem IT:(cL im (mL.map (·.data.toList))).2=CP:=by decide +kernel
theorem IV:fC (mL.map (·.data.toList))=U:=by decide +kernel
