import Derived.Test.YtmbghcpcbdjfoaaGreatDoorPk1
import Derived.Test.YtmbghcpcbdjfoaaGreatDoorPk5
import Derived.Test.YtmbghcpcbdjfoaaGreatDoorPk9
open Option renaming none->U,some->M
open Bool renaming false->F
open Or renaming inl->A,inr->R
open Go renaming World->X
namespace Go.Proofs.YtmbghcpcbdjfoaaGreatDoor
def oa (c:UInt8):Bool:=c==47||c==92
def nu (l:ae):ae:=(l.reverse.takeWhile fun c=>!oa c).reverse
def mB (c:UInt8):Bool:=c==9||c==34||c==58||!cG c.toNat
def kP (c:UInt8):UInt8:=if mB c then 95 else c
def sE (l:ae):ae:=l.dropWhile (·==46)
def JK:ae:=[102,105,108,101]
def uQ (l:ae):ae:=if l=[] then JK else l
def oX (l:ae):ae:=uQ ((sE ((nu l).map kP)).take 40)
def ja:ae->Option (ae)
 | []=>M []
 | c :: t => if c = 37 then (match t with
     | a::b::r=>if 0<=bl a.toNat∧0<=bl b.toNat then (ja r).map ((16*bl a.toNat+bl b.toNat).toNat.toUInt8::·) else U
     | _=>U)
  else (ja t).map (c::·)
def Ec:ae:=[117,116,102,45,56,39,39]
def kf (l:ae):Option (ae):=if l.length<7∨aU (l.take 7)≠Ec then U else ja (l.drop 7)
def iu (n:ae)(ps:List cZ):Option (ae):=(ps.find? fun p=>p.1==n).map (·.2)
def xv:ae:=[110,97,109,101]
def Ac:ae:=[102,105,108,101,110,97,109,101]
def xt:ae:=[102,105,108,101,110,97,109,101,42]
def qU:ae:=[102,111,114,109,45,100,97,116,97]
def Ae:ae:=[99,111,110,116,101,110,116,45,100,105,115,112,111,115,105,116,105,111,110]
def Ah:ae:=[99,111,110,116,101,110,116,45,116,121,112,101]
def lP (ps:List cZ):Option (ae) :=
 match iu xt ps with
 | some x=>(kf x).map oX
 | none => match iu Ac ps with
   | some x=>M (oX x)
   | none=>M []
structure oV where
 b:ae
 a:ae
 c:ae
def qV:List (ae)->ae×Nat
 | []=>([],10)
 | [v]=>(v,0)
 | _=>([],9)
def nt (d t:ae×Nat):Nat ⊕ oV :=
 if d.2≠0 then .inl d.2
 else match eh d.1 with
  | .inl c=>.inl c
  | .inr x => if x.1 ≠ qU then .inl 11
    else match iu xv x.2 with
     | none=>.inl 6
     | some nm => match lP x.2 with
       | none=>.inl 5
       | some f=>if t.2=9 then .inl 9 else .inr ⟨nm,f,t.1⟩
def kS (fs:List dR):Nat ⊕ oV:=nt (qV (bU fs Ae)) (qV (bU fs Ah))
def xw (p:oV):az:=⟨5,⟨#[]⟩,⟨#[]⟩,0,[],0,[],⟨p.b.toArray⟩,⟨p.a.toArray⟩,⟨p.c.toArray⟩,[],0⟩
def uN:az:=⟨6,⟨#[]⟩,⟨#[]⟩,0,[],0,[],⟨#[]⟩,⟨#[]⟩,⟨#[]⟩,[],0⟩
def Eg:az:=⟨3,⟨#[]⟩,⟨#[]⟩,0,[],0,[],⟨#[]⟩,⟨#[]⟩,⟨#[]⟩,[],0⟩
def Ad (c:Nat):az:=⟨4,⟨#[]⟩,⟨#[]⟩,0,[],0,[],⟨#[]⟩,⟨#[]⟩,⟨#[]⟩,[],(c:Int)⟩
def iv (l:ae):List az:=if l=[] then [] else [dW l]
structure br where
 b:Nat
 c:Nat
 d:Nat
 a:cw
 e:List dR
 f:Nat
 g:Nat
def Ek:br:=⟨0,0,0,dv,[],0,0⟩
def iw:br:=⟨0,2,2,dv,[],0,0⟩
def Af (c:Nat):br:={ Ek with g:=c }
def uP:br:={ Ek with b:=6 }
def iS (s:br):Prop:=s.g=0∧s.b≠6
instance (s:br):Decidable (iS s):=by unfold iS;infer_instance
def ix (p:Nat)(c:UInt8):Nat×Nat :=
 if p=4 then (if c=10 then (5,0) else (0,2))
 else if p=2 then (if c=45 then (6,0) else (0,5))
 else if p=1∧c=45 then (2,0)
 else if c=32∨c=9 then (3,0)
 else if c=13 then (4,0)
 else (0,5)
def jb (c:Nat):br×List az:=(Af c,[Ad c])
def ef (s:br)(t:ae):br×List az :=
 if t≠[] then
  if s.e.length=16 then jb 8
  else if (aP t).a≠0 then jb (aP t).a
  else ({ s with e:=s.e++[((aP t).b,(aP t).c)] },[])
 else match kS s.e with
  | .inl c=>jb c
  | .inr p=>if s.f=12 then jb 8 else ({ s with e:=[],f:=s.f+1,b:=0,c:=2,d:=2 },[xw p])
def cC (m:ae)(s:br)(c:UInt8):br×List az :=
 if ¬iS s then (s,[])
 else if s.b=0 then
  ({ s with c := fZ m s.c c, d := s.d-(dE m s.c c).length, b := if fp m s.c c then 1 else 0 },
   if 0<s.f then iv ((dE m s.c c).drop s.d)++(if fp m s.c c then [uN] else []) else [])
 else if s.b=5 then
  if (bu s.a c).a≠0 then jb (bu s.a c).a
  else if fW s.a c then ef { s with a:=bu s.a c } (cY s.a c)
  else ({ s with a:=bu s.a c },[])
 else if (ix s.b c).2≠0 then jb (ix s.b c).2
 else if (ix s.b c).1=6 then (uP,[Eg])
 else ({ s with b:=(ix s.b c).1 },[])
def da (m:ae):br->ae->br
 | s,[]=>s
 | s,c::t=>da m (cC m s c).1 t
def co (m:ae):br->ae->List az
 | _,[]=>[]
 | s,c::t=>(cC m s c).2++co m (cC m s c).1 t
def ns (s:br):Nat:=if s.g=0∧s.b≠6 then 14 else s.g
def fK (b:ae):ae:=13::10::45::45::b
def iR (b:ae):Bool:=!b.isEmpty&&decide (b.length<=70)&&cF b&&decide (Lib.trimS b aX=b)
theorem Ag (m:ae):∀(a b:ae) (s:br),da m s (a++b)=da m (da m s a) b
 | [],_,_=>rfl
 | _::t,b,_=>Ag m t b _
theorem Ei (m:ae):∀(a b:ae) (s:br),co m s (a++b)=co m s a++co m (da m s a) b:=by intro l;induction l <;> grind [co,da]
theorem JI (m:ae)(s:br)(l:ae)(c:UInt8):da m s (l++[c])=(cC m (da m s l) c).1:=by rw[Ag];rfl
theorem JJ (m:ae)(s:br)(l:ae)(c:UInt8):co m s (l++[c])=co m s l++(cC m (da m s l) c).2:=by grind [co,cC,da,Ei]
theorem J4 {m:ae}{s:br}(h:¬iS s)(c:UInt8):cC m s c=(s,[]):=by unfold cC;rw[if_pos h]
theorem Ej {m:ae}:∀(l:ae) {s:br},¬iS s->co m s l=[]∧da m s l=s
 | [],_,_=>⟨rfl,rfl⟩
 | c :: t, s, h => by
   have a:=Ej (m:=m) t h;show(cC m s c).2++co m (cC m s c).1 t=[]∧da m (cC m s c).1 t=s;rw[J4 h];exact a
structure dL where
 b:List az
 a:ae
def fT (t:dL):List az:=t.b++iv t.a
def oc (t:dL)(e:az):dL:=if e.b=2 then ⟨t.b,t.a++e.a⟩ else ⟨fT t++[e],[]⟩
def dA (t:dL)(l:List az):dL:=l.foldl oc t
def hY:dL:=⟨[],[]⟩
def kR (l:List az):Prop:=∀e∈l,e.b=2->e=dW e.a∧e.a≠[]
theorem kR.a {a b:List az}(h:kR a)(k:kR b):kR (a++b):=by grind [kR]
theorem pE:kR []:=fun e a=>by cases a
theorem JL (l:ae):kR (iv l):=by
 unfold iv;split
 . exact pE
 . rename_i h;intro e a _;rw[cD.1 a];exact⟨rfl,h⟩
theorem xz {e:az}(h:e.b≠2):kR [e]:=fun x a k=>by rw[cD.1 a] at k;exact absurd k h
theorem sF (c:Nat):kR (jb c).2:=xz (by show(4:Int)≠2;decide)
theorem JS (s:br)(t:ae):kR (ef s t).2:=by
 unfold ef;split
 . split
   . exact sF _
   . split
     . exact sF _
     . exact pE
 . split
   . exact sF _
   . split
     . exact sF _
     . exact xz (by show(5:Int)≠2;decide)
theorem JT (m:ae)(s:br)(c:UInt8):kR (cC m s c).2:=by
 unfold cC;split
 . exact pE
 . split
   . show kR (if 0<s.f then _ else _);split
     . refine kR.a (JL _) ?_;split
       . exact xz (by decide)
       . exact pE
     . exact pE
   . split
     . split
       . exact sF _
       . split
         . exact JS _ _
         . exact pE
     . split
       . exact sF _
       . split
         . exact xz (by decide)
         . exact pE
theorem Aj (m:ae):∀(l:ae) (s:br),kR (co m s l)
 | [],_=>pE
 | c::t,s=>(JT m s c).a (Aj m t _)
theorem JU (t:dL)(l:List az)(e:az):dA t (l++[e])=oc (dA t l) e:=by unfold dA;rw[rF];rfl
theorem DG (t:dL)(a b:List az):dA t (a++b)=dA (dA t a) b:=by unfold dA;rw[rF]
theorem DH (l:List az)(h:kR l):fT (dA hY l)=gK l∧jF (dA hY l).b=F:=by
 have:∀n (l:List az),l.length=n->kR l->fT (dA hY l)=gK l∧jF (dA hY l).b=F:=by
  intro n;induction n with
  | zero=>intro l b _;rw[gW b];exact⟨rfl,rfl⟩
  | succ n j =>
    intro l b d;rcases mQ l with rfl | ⟨q,x,rfl⟩
    . simp at b
    . rw[lA] at b d ⊢;obtain⟨g,c⟩:=j q (by simpa using b) (fun e k=>d e (qm _ k));rw[JU,Dp,<-g];generalize dA hY q=t at g c;obtain⟨es,bs⟩:=t;simp only at c;by_cases a:x.b=2
      . obtain⟨m,f⟩:=d x (by simp) a;unfold oc;rw[if_pos a];refine⟨?_,c⟩;unfold fT iv;simp only;rw[if_neg (by simp[f])];by_cases i:bs=[]
        . subst i;rw[if_pos rfl,eN,rK _ _ (fun _=>c),jo,<-m]
        . rw[if_neg i,uc _ _ _ rfl a];rfl
      . unfold oc;rw[if_neg a];refine⟨?_,?_⟩
        . rw[rK _ _ (fun e=>absurd e a)];show(_++[x])++iv []=_;simp[iv]
        . show jF (_++[x])=F;rw[wN,aW a]
 exact this _ l rfl h
structure ir (m:ae)(s:br):Prop where
 j:s.b<=6
 a:s.c<=m.length-1
 h:s.b≠0->s.c=0
 b:qX s.a
 i:s.a.a=0
 c:s.e.length<=16
 e:∀f∈s.e,f.1.length<=200∧f.2.length<=200
 k:s.b≠5->s.a=dv∧s.e=[]
 d:s.f<=12
 g:s.g<=20
theorem ir.E {m:ae}(b:3<=m.length):ir m iw:=⟨ax _,by show 2<=_;omega,fun h=>absurd rfl h,qX.a,rfl,ax _,(fun f a=>by cases a),fun _=>⟨rfl,rfl⟩,ax _,ax _⟩
theorem ir.f {m:ae}{c:Nat}(a:c<=20):ir m (Af c):=⟨ax _,ax _,fun _=>rfl,qX.a,rfl,ax _,(fun f b=>by cases b),fun _=>⟨rfl,rfl⟩,ax _,a⟩
theorem ir.y {m:ae}:ir m uP:=⟨ak _,ax _,fun _=>rfl,qX.a,rfl,ax _,(fun f a=>by cases a),fun _=>⟨rfl,rfl⟩,ax _,ax _⟩
theorem Kj (m:ae)(h:Nat)(c:UInt8)(b:0<m.length):fZ m h c<=m.length-1:=by
 unfold fZ;split
 . exact ax _
 . rename_i a;have d:=BR m h c;unfold fp at a;rw[aV b,Bool.true_and,bS] at a;omega
theorem DM {s:cw}{c:UInt8}(h:fW s c=true):bu s c=dv:=by grind [fW,bu,dv]
theorem Kk (s:cw)(c:UInt8):fM s c<=4:=by grind [fM]
theorem J5 {s:cw}(c:UInt8)(h:s.a=0):(bu s c).a<=4:=by grind [bu,Kk]
theorem KB (t:ae):(aP t).a<=20:=by
 unfold aP gd;repeat' split
 all_goals (first | exact ax _ | (simp only;omega) | decide)
theorem D3 (p:Nat)(c:UInt8):(ix p c).1<=6∧(ix p c).2<=20:=by
 unfold ix;repeat' split
 all_goals decide
theorem KD {r:ae}{c:Nat}(h:kZ r=.inl c):c<=20:=by grind [kZ]
theorem KE {r:ae}{c:Nat}(h:kn r=.inl c):c<=20:=by
 unfold kn at h;split at h
 . simp only[] at h;split at h
   . injection h with h;omega
   . split at h
     . split at h
       . rename_i a;injection h with h;subst h;exact KD a
       . cases h
     . injection h with h;omega
 . injection h with h;omega
theorem D4:∀(n:Nat) (r:ae) (a:List cZ) (c:Nat),jv n r a=.inl c->c<=20
 | 0,r,a,c,h=>by rw[jv] at h;cases h
 | n + 1, r, a, c, h => by
   rw[jv] at h;split at h
   . cases h
   . split at h
     . rename_i b;injection h with h;subst h;exact KE b
     . split at h
       . injection h with h;omega
       . split at h
         . injection h with h;omega
         . exact D4 n _ _ c h
theorem Kl {l:ae}{c:Nat}(h:eh l=.inl c):c<=20:=by
 unfold eh at h;split at h
 . injection h with h;omega
 . split at h
   . rename_i a;injection h with h;subst h;unfold qZ at a;simp only[] at a;repeat' split at a
     all_goals (first | (injection a with a;omega) | (cases a;done))
   . unfold kY at h;split at h
     . rename_i b;injection h with h;subst h;exact D4 _ _ _ _ b
     . cases h
theorem KA {a:List dR}{c:Nat}(h:kS a=.inl c):c<=20:=by
 unfold kS nt at h;split at h
 . injection h with h;subst h;unfold qV;split <;> (first | exact ax _ | decide)
 . split at h
   . rename_i b;injection h with h;subst h;exact Kl b
   . repeat' split at h
     all_goals (first | (injection h with h;omega) | (cases h;done))
theorem ir.B {m:ae}{s:br}(h:ir m s)(i:3<=m.length)(c:s.b=5)(d:s.a=dv){t:ae}(j:t.length<=200):ir m (ef s t).1:=by
 unfold ef;split
 . split
   . exact ir.f (by omega)
   . split
     . exact ir.f (KB t)
     . rename_i g a;have:=zP t;refine⟨h.j,h.a,h.h,h.b,h.i,?_,fun f a=>?_,fun e=>absurd c e,h.d,h.g⟩
       . have:=h.c;show(s.e++[_]).length<=16;rw[aF];simp;omega
       . rcases dm.1 a with a | a
         . exact h.e f a
         . rw[cD.1 a];exact⟨by show(aP t).b.length<=_;omega,by show(aP t).c.length<=_;omega⟩
 . split
   . rename_i b;exact ir.f (KA b)
   . split
     . exact ir.f (by omega)
     . rename_i b;have:=h.d;exact⟨ax _,by show 2<=_;omega,fun e=>absurd rfl e,h.b,h.i,ax _,(fun f a=>by cases a),fun _=>⟨d,rfl⟩,by show s.f+1<=12;omega,h.g⟩
theorem ir.q {m:ae}{s:br}(h:ir m s)(f:3<=m.length)(c:UInt8):ir m (cC m s c).1:=by
 unfold cC;split
 . exact h
 . split
   . rename_i b;refine⟨?_,Kj m _ c (by omega),fun e=>?_,h.b,h.i,h.c,h.e,fun _=>h.k (by omega),h.d,h.g⟩
     . show(if _ then 1 else 0)<=6;split <;> omega
     . show fZ m s.c c=0;unfold fZ;cases g:fp m s.c c
       . exfalso;exact e (by show(if fp m s.c c then 1 else 0)=0;rw[g];rfl)
       . rfl
   . rename_i b;split
     . rename_i a;split
       . exact ir.f (by have:=J5 c h.i;omega)
       . rename_i j;have d:ir m { s with a:=bu s.a c }:=⟨h.j,h.a,h.h,xU h.b,by show(bu s.a c).a=0;omega,h.c,h.e,fun e=>absurd a e,h.d,h.g⟩;split
         . rename_i i;exact d.B f a (DM i) (ye h.b).1
         . exact d
     . rename_i a;split
       . exact ir.f (D3 _ _).2
       . split
         . exact ir.y
         . rename_i k l;exact⟨(D3 _ _).1,h.a,fun _=>h.h b,h.b,h.i,h.c,h.e,fun _=>h.k a,h.d,h.g⟩
theorem ir.r {m:ae}(a:3<=m.length):∀(l:ae) {s:br},ir m s->ir m (da m s l)
 | [],_,h=>h
 | c::t,_,h=>ir.r a t (h.q a c)
theorem Ak (m:ae)(h:Nat)(c:UInt8)(a:h<=m.length-1):(dE m h c).length+fZ m h c<=h+1:=by grind [dE,fZ,yg,GU]
theorem DR (l:ae):dx (iv l)=l.length:=by
 unfold iv;split
 . rename_i h;subst h;rfl
 . simp[dx,dW]
theorem Km (s:br)(t:ae):dx (ef s t).2=0∧(ef s t).2.length<=1:=by
 unfold ef;split
 . split
   . exact⟨rfl,ak _⟩
   . split
     . exact⟨rfl,ak _⟩
     . exact⟨rfl,ax _⟩
 . split
   . exact⟨rfl,ak _⟩
   . split
     . exact⟨rfl,ak _⟩
     . exact⟨rfl,ak _⟩
theorem J6 {s:br}(t:ae)(a:s.c=0):(ef s t).1.c<=2:=by
 unfold ef;split
 . split
   . exact ax _
   . split
     . exact ax _
     . show s.c<=2;omega
 . split
   . exact ax _
   . split
     . exact ax _
     . exact ak _
theorem Kn {m:ae}{s:br}(h:ir m s)(c:UInt8):dx (cC m s c).2+(cC m s c).1.c<=s.c+2∧(cC m s c).2.length<=2:=by
 unfold cC;split
 . exact⟨by show 0+s.c<=_;omega,ax _⟩
 . split
   . have a:=Ak m s.c c h.a;have b:dx (if fp m s.c c then [uN] else [])=0:=by split <;> rfl
     have f:(if fp m s.c c then [uN] else []).length<=1:=by split <;> simp
     have g:(iv ((dE m s.c c).drop s.d)).length<=1:=by unfold iv;split <;> simp
     have i:((dE m s.c c).drop s.d).length<=(dE m s.c c).length:=by rw[bV];omega
     show dx (if 0<s.f then _ else _)+fZ m s.c c<=_∧(if 0<s.f then _ else _:List az).length<=2;split
     . rw[ua,b,DR,aF];exact⟨by omega,by omega⟩
     . exact⟨by show 0+_<=_;omega,ax _⟩
   . split
     . rename_i d j;have e:=h.h d;split
       . exact⟨by show 0+0<=_;omega,by show 1<=2;omega⟩
       . split
         . have a:=Km { s with a:=bu s.a c } (cY s.a c);have k:=J6 (s:={ s with a:=bu s.a c }) (cY s.a c) e;exact⟨by omega,by omega⟩
         . exact⟨by show 0+s.c<=_;omega,ax _⟩
     . split
       . exact⟨by show 0+0<=_;omega,by show 1<=2;omega⟩
       . split
         . exact⟨by show 0+0<=_;omega,by show 1<=2;omega⟩
         . exact⟨by show 0+s.c<=_;omega,ax _⟩
theorem xx {m:ae}(a:3<=m.length):∀(l:ae) {s:br},ir m s->dx (co m s l)+(da m s l).c<=s.c+2*l.length∧(co m s l).length<=2*l.length
 | [],_,_=>⟨by show 0+_<=_;simp[da],ax _⟩
 | c :: t, s, h => by
   have b:=Kn h c;have d:=xx a t (h.q a c);show dx ((cC m s c).2++co m (cC m s c).1 t)+(da m (cC m s c).1 t).c<=_∧((cC m s c).2++co m (cC m s c).1 t).length<=_;rw[ua,aF,bO];exact⟨by omega,by omega⟩
structure od (e:az):Prop where
 f:e.i.size=0
 h:e.j.size=0
 c:e.e=[]
 a:e.c=[]
 d:e.g.size<=200
 b:e.f.size<=200
 g:e.h.size<=200
theorem DS (b:ae):od (dW b):=⟨rfl,rfl,rfl,rfl,ax _,ax _,ax _⟩
theorem sI (c:Nat):od (Ad c):=⟨rfl,rfl,rfl,rfl,ax _,ax _,ax _⟩
theorem DX (l:ae):(oX l).length<=40:=by
 unfold oX uQ;split
 . decide
 . rw[bP];omega
theorem KF {n:ae}{a:List cZ}{v:ae}(h:iu n a=M v):∃p∈a,p.2=v:=by
 unfold iu at h;obtain⟨p,b,rfl⟩:=yG.1 h;exact⟨p,List.mem_of_find?_eq_some b,rfl⟩
theorem Ko {a:List cZ}{f:ae}(h:lP a=M f):f.length<=40:=by
 unfold lP at h;split at h
 . obtain⟨x,_,rfl⟩:=yG.1 h;exact DX x
 . split at h
   . injection h with h;subst h;exact DX _
   . injection h with h;subst h;exact ax _
theorem D5 {a:List (ae)}{N:Nat}(h:∀v∈a,v.length<=N):(qV a).1.length<=N:=by
 unfold qV;split
 . exact ax _
 . exact h _ (by simp)
 . exact ax _
theorem DY {a:List dR}{n:ae}{N:Nat}(h:∀f∈a,f.2.length<=N):∀v∈bU a n,v.length<=N:=fun v b=>by
 unfold bU at b;obtain⟨f,c,rfl⟩:=jT.1 b;exact h f (List.mem_filter.1 c).1
theorem Kp {b:List dR}{p:oV}{N:Nat}(h:kS b=.inr p)(c:∀f∈b,f.2.length<=N):p.b.length<=N∧p.a.length<=40∧p.c.length<=N:=by
 have l:=D5 (DY (n:=Ae) c);have d:=D5 (DY (n:=Ah) c);unfold kS nt at h;split at h
 . cases h
 . split at h
   . cases h
   . rename_i x g;split at h
     . cases h
     . split at h
       . cases h
       . rename_i i j;split at h
         . cases h
         . rename_i f a;split at h
           . cases h
           . injection h with h;subst h;obtain⟨q,k,e⟩:=KF j;have:=(A8 g).2 q k;exact⟨by show i.length<=N;rw[<-e];omega,Ko a,d⟩
theorem J7 {m:ae}{s:br}(h:ir m s)(t:ae):∀e∈(ef s t).2,od e:=by
 unfold ef;split
 . split
   . intro e a;rw[cD.1 a];exact sI 8
   . split
     . intro e a;rw[cD.1 a];exact sI _
     . intro e a;cases a
 . split
   . intro e a;rw[cD.1 a];exact sI _
   . split
     . intro e a;rw[cD.1 a];exact sI 8
     . rename_i p b _;have:=Kp b (fun f c=>(h.e f c).2);intro e a;rw[cD.1 a];refine⟨rfl,rfl,rfl,rfl,?_,?_,?_⟩
       . show p.b.toArray.size<=_;rw[cN];omega
       . show p.a.toArray.size<=_;rw[cN];omega
       . show p.c.toArray.size<=_;rw[cN];omega
theorem J8 {m:ae}{s:br}(h:ir m s)(c:UInt8):∀e∈(cC m s c).2,od e:=by
 unfold cC;split
 . intro e a;cases a
 . split
   . show ∀e∈(if 0<s.f then _ else _),od e;split
     . intro e a;rcases dm.1 a with a | a
       . unfold iv at a;split at a
         . cases a
         . rw[cD.1 a];exact DS _
       . split at a
         . rw[cD.1 a];exact⟨rfl,rfl,rfl,rfl,ax _,ax _,ax _⟩
         . cases a
     . intro e a;cases a
   . split
     . rename_i b;split
       . intro e a;rw[cD.1 a];exact sI _
       . rename_i d;split
         . exact J7 (m:=m) (s:={ s with a:=bu s.a c }) ⟨h.j,h.a,h.h,xU h.b,by show(bu s.a c).a=0;omega,h.c,h.e,fun e=>absurd b e,h.d,h.g⟩ _
         . intro e a;cases a
     . split
       . intro e a;rw[cD.1 a];exact sI _
       . split
         . intro e a;rw[cD.1 a];exact⟨rfl,rfl,rfl,rfl,ax _,ax _,ax _⟩
         . intro e a;cases a
theorem Eh {m:ae}(b:3<=m.length):∀(l:ae) {s:br},ir m s->∀e∈co m s l,od e
 | [],_,_=>fun e a=>by cases a
 | c :: t, s, h => fun e a => by
   rcases dm.1 a with a | a
   . exact J8 h c e a
   . exact Eh b t (h.q b c) e a
theorem KG {l:List az}(h:∀e∈l,od e):∀e∈gK l,od e:=Q2 DS l h
theorem J9 (m:ae){s:br}(a:s.b=5)(b:s.g=0)(c:UInt8):cC m s c=if (bu s.a c).a≠0 then jb (bu s.a c).a else if fW s.a c then ef { s with a:=bu s.a c } (cY s.a c) else ({ s with a:=bu s.a c },[]):=by
 unfold cC;rw[if_neg (fun h=>h ⟨b,by omega⟩),if_neg (by omega),if_pos a]
theorem JM {c:Nat}(h:c≠0):¬iS (Af c):=fun k=>h k.1
theorem Ka:¬iS uP:=fun k=>k.2 rfl
theorem DI (t:dL)(l:ae):dA t (iv l)=⟨t.b,t.a++l⟩:=by
 unfold iv;split
 . rename_i h;subst h;rw[eN];rfl
 . show oc t (dW l)=_;unfold oc;rw[if_pos (show(dW l).b=2 from rfl)];rfl
theorem Kb (m:ae){s:br}(b:s.b=1∨s.b=2∨s.b=3∨s.b=4)(a:s.g=0)(c:UInt8):cC m s c=if (ix s.b c).2≠0 then jb (ix s.b c).2 else if (ix s.b c).1=6 then (uP,[Eg]) else ({ s with b:=(ix s.b c).1 },[]):=by
 unfold cC;rw[if_neg (fun h=>h ⟨a,by omega⟩),if_neg (by omega),if_neg (by omega)]
theorem Kc (p:Nat)(c:UInt8):(ix p c).1=6->(ix p c).2=0:=by grind [ix]
theorem Kd {s:br}{b:List dR}{p:oV}(c:kS b=.inr p)(a:s.f≠12):ef { s with e:=b } []=({ s with e:=[],f:=s.f+1,b:=0,c:=2,d:=2 },[xw p]):=by
 unfold ef;rw[if_neg (fun h=>h rfl)];simp only[c];rw[if_neg a]
theorem Kq {r:ae}{c:Nat}(h:kZ r=.inl c):c≠0:=by grind [kZ]
theorem Kr {r:ae}{c:Nat}(h:kn r=.inl c):c≠0:=by grind [kn,Kq]
theorem DT:∀(n:Nat) (r:ae) (a:List cZ) (c:Nat),jv n r a=.inl c->c≠0
 | 0,r,a,c,h=>by rw[jv] at h;cases h
 | n + 1, r, a, c, h => by
   rw[jv] at h;split at h
   . cases h
   . split at h
     . rename_i b;injection h with h;subst h;exact Kr b
     . split at h
       . injection h with h;omega
       . split at h
         . injection h with h;omega
         . exact DT n _ _ c h
theorem DO {l:ae}{c:Nat}(h:eh l=.inl c):c≠0:=by
 unfold eh at h;split at h
 . injection h with h;omega
 . split at h
   . rename_i a;injection h with h;subst h;unfold qZ at a;simp only[] at a;repeat' split at a
     all_goals (first | (injection a with a;omega) | (cases a;done))
   . unfold kY at h;split at h
     . rename_i b;injection h with h;subst h;exact DT _ _ _ _ b
     . cases h
theorem Ke {a:List dR}{c:Nat}(h:kS a=.inl c):c≠0:=by
 unfold kS nt at h;split at h
 . rename_i b;injection h with h;subst h;exact b
 . split at h
   . rename_i d;injection h with h;subst h;exact DO d
   . repeat' split at h
     all_goals (first | (injection h with h;omega) | (cases h;done))
theorem JV (s:br)(t:ae)(h:s.d<=2):(ef s t).1.d<=2:=by
 unfold ef;split
 . split
   . exact ax _
   . split
     . exact ax _
     . exact h
 . split
   . exact ax _
   . split
     . exact ax _
     . exact ak _
theorem JW (m:ae)(s:br)(c:UInt8)(h:s.d<=2):(cC m s c).1.d<=2:=by
 unfold cC;split
 . exact h
 . split
   . show s.d-_<=2;omega
   . split
     . split
       . exact ax _
       . split
         . exact JV _ _ h
         . exact h
     . split
       . exact ax _
       . split
         . exact ax _
         . exact h
theorem DP (m:ae):∀(l:ae) (s:br),s.d<=2->(da m s l).d<=2
 | [],_,h=>h
 | c::t,s,h=>DP m t _ (JW m s c h)
theorem J3 {m:ae}(c:3<=m.length){s:br}(h:ir m s)(l:ae):(dA hY (co m s l)).b.length<=2*l.length∧(dA hY (co m s l)).a.length<=s.c+2*l.length:=by
 have e:=xx c l h;have d:=(DH _ (Aj m l s)).1;have a:=Cr (co m s l);have b:=EM (co m s l);rw[<-d] at a b;generalize dA hY (co m s l)=t at *;obtain⟨es,bs⟩:=t;unfold fT at a b;simp only at *;rw[aF] at a;rw[ua,DR] at b;exact⟨by omega,by omega⟩
theorem DQ (b:ae)(h:b≠[])(a:b.length<=70):(fK b).take 2=[13,10]∧5<=(fK b).length∧(fK b).length<=74:=by
 refine⟨rfl,?_,?_⟩
 . have:=kH.2 h;show 5<=b.length+1+1+1+1;omega
 . show b.length+1+1+1+1<=74;omega
def jc (l:List az):Prop:=∃x∈l,x.b=5
def hZ (l:List az):Prop:=∀q e r,l=q++e::r->e.b=2->jc q
theorem jc.a {a b:List az}(h:jc a):jc (a++b):=by grind [jc]
theorem hZ.e:hZ []:=by simp_all [hZ]
theorem hZ.d {q:List az}{e:az}(h:hZ q)(f:e.b=2->jc q):hZ (q++[e]):=by
 intro g i r a d;rcases mQ r with rfl | ⟨j,x,rfl⟩
 . obtain⟨b,c⟩:=wp a rfl;subst b;injection c with c;subst c;exact f d
 . rw[lA,<-gV,<-iX] at a;obtain⟨b,_⟩:=wp a rfl;exact h g i j b d
theorem hZ.f {a b:List az}(h:hZ (a++b)):hZ a:=fun q e r c d=>h q e (r++b) (by rw[c];simp) d
theorem JN {l:List az}{e:az}(h:jc l∨e.b=5):jc (iN l e):=by grind [jc,iN,yV,uc,rK]
theorem DZ:∀(n:Nat) (l:List az),l.length=n->hZ l->hZ (gK l)∧(jc l->jc (gK l))
 | 0,l,c,_=>by rw[gW c];exact⟨hZ.e,fun h=>h⟩
 | n + 1, l, c, h => by
   rcases mQ l with rfl | ⟨q,x,rfl⟩
   . exact⟨hZ.e,fun h=>h⟩
   . rw[lA] at c h ⊢;obtain⟨d,g⟩:=DZ n q (by simpa using c) h.f;have i:x.b=2->jc q:=fun b=>h q x [] rfl b;rw[Dp];refine⟨?_,fun j=>JN ?_⟩
     . by_cases e:x.b=2∧jF (gK q)=true
       . obtain⟨p,y,f,a⟩:=yV e.2;rw[f] at d ⊢;rw[uc p y x a e.1];exact d.f.d (fun _=>d p y [] rfl a)
       . rw[rK _ x (fun k=>by
          cases m:jF (gK q)
          . rfl
          . exact absurd ⟨k,m⟩ e)]
         exact d.d (fun b=>g (i b))
     . obtain⟨y,a,b⟩:=j;rcases dm.1 a with a | a
       . exact A (g ⟨y,a,b⟩)
       . rw[cD.1 a] at b;exact R b
theorem hZ.a {a b:List az}(h:hZ a)(c:∀e∈b,e.b≠2):hZ (a++b):=by
 induction b generalizing a with
 | nil=>rw[eN];exact h
 | cons e r d =>
   have:=d (h.d (e:=e) (fun k=>absurd k (c e (mR ..)))) (fun x f=>c x (iW _ f));rw[iX] at this;exact this
theorem hZ.q {a b:List az}(h:hZ a)(c:jc a):hZ (a++b):=by
 induction b generalizing a with
 | nil=>rw[eN];exact h
 | cons e r d =>
   have:=d (h.d (e:=e) (fun _=>c)) c.a;rw[iX] at this;exact this
theorem JX (s:br)(t:ae):(∀e∈(ef s t).2,e.b≠2)∧(0<(ef s t).1.f->0<s.f∨jc (ef s t).2):=by
 unfold ef;split
 . split
   . exact⟨fun e a=>by rw[cD.1 a];show(4:Int)≠2;decide,fun h=>absurd h (by decide)⟩
   . split
     . exact⟨fun e a=>by rw[cD.1 a];show(4:Int)≠2;decide,fun h=>absurd h (Nat.lt_irrefl 0)⟩
     . exact⟨(fun e a=>by cases a),fun h=>A h⟩
 . split
   . exact⟨fun e a=>by rw[cD.1 a];show(4:Int)≠2;decide,fun h=>absurd h (Nat.lt_irrefl 0)⟩
   . split
     . exact⟨fun e a=>by rw[cD.1 a];show(4:Int)≠2;decide,fun h=>absurd h (by decide)⟩
     . rename_i p _ _;exact⟨fun e a=>by rw[cD.1 a];show(5:Int)≠2;decide,fun _=>R ⟨xw p,by simp,rfl⟩⟩
theorem Ks {m:ae}{s:br}(c:UInt8){o:List az}(h:hZ o)(a:0<s.f->jc o):hZ (o++(cC m s c).2)∧(0<(cC m s c).1.f->jc (o++(cC m s c).2)):=by
 unfold cC;split
 . exact⟨by rw[eN];exact h,fun k=>(a k).a⟩
 . split
   . show hZ (o++if 0<s.f then _ else _)∧(0<s.f->_);by_cases b:0<s.f
     . rw[if_pos b];exact⟨h.q (a b),fun _=>(a b).a⟩
     . rw[if_neg b];exact⟨by rw[eN];exact h,fun k=>absurd k b⟩
   . split
     . split
       . exact⟨h.a (fun e d=>by rw[cD.1 d];show(4:Int)≠2;decide),fun k=>absurd k (Nat.lt_irrefl 0)⟩
       . split
         . obtain⟨f,g⟩:=JX { s with a:=bu s.a c } (cY s.a c);refine⟨h.a f,fun k=>?_⟩;rcases g k with k | ⟨x,i,j⟩
           . exact(a k).a
           . exact⟨x,qr _ i,j⟩
         . exact⟨by rw[eN];exact h,fun k=>(a k).a⟩
     . split
       . exact⟨h.a (fun e d=>by rw[cD.1 d];show(4:Int)≠2;decide),fun k=>absurd k (Nat.lt_irrefl 0)⟩
       . split
         . exact⟨h.a (fun e d=>by rw[cD.1 d];show(3:Int)≠2;decide),fun k=>absurd k (Nat.lt_irrefl 0)⟩
         . exact⟨by rw[eN];exact h,fun k=>(a k).a⟩
theorem D0 (m:ae):∀(l:ae) (s:br) (o:List az),hZ o->(0<s.f->jc o)->hZ (o++co m s l)
 | [],_,o,h,_=>by show hZ (o++[]);rw[eN];exact h
 | c :: t, s, o, h, hp => by
   obtain⟨a,b⟩:=Ks (m:=m) c h hp;have:=D0 m t (cC m s c).1 (o++(cC m s c).2) a b;rw[iX] at this;exact this
theorem Kt (m l:ae):hZ (gK (co m iw l)):=(DZ _ _ rfl (by have:=D0 m l iw [] hZ.e (fun h=>absurd h (by decide));simpa using this)).1
theorem hZ.j {l:List az}(h:hZ l){k:Nat}(a:k<l.length)(b:l[k].b=2):jc (l.take k):=h (l.take k) l[k] (l.drop (k+1)) (by rw[<-gS a,jn]) b
structure bW where
 c:ag
 b:ag
 d:ag
 a:ae
def ge (acc:List bW)(e:az):List bW:=if e.b=5 then acc++[⟨e.g,e.f,e.h,e.c⟩] else if e.b=2 then acc.dropLast++(acc.getLast?.map fun p=>{ p with a:=e.a }).toList else acc
def fU (l:List az):List bW:=l.foldl ge []
theorem DU (l:List az)(e:az):fU (l++[e])=ge (fU l) e:=by unfold fU;rw[rF];rfl
theorem DJ (a:List bW)(e:az):a.length<=(ge a e).length∧(ge a e).length<=a.length+1:=by grind [ge]
theorem DV:∀(n:Nat) (l:List az),l.length=n->jc l->0<(fU l).length
 | 0,l,b,⟨x,c,_⟩=>by rw[gW b] at c;cases c
 | n + 1, l, b, h => by
   rcases mQ l with rfl | ⟨q,x,rfl⟩
   . obtain⟨_,c,_⟩:=h;cases c
   . rw[lA] at b h ⊢;rw[DU];obtain⟨y,a,d⟩:=h;rcases dm.1 a with a | a
     . have:=DV n q (by simpa using b) ⟨y,a,d⟩;have:=(DJ (fU q) x).1;omega
     . rw[cD.1 a] at d;unfold ge;rw[if_pos d];simp
theorem DK (l:List az):(fU l).length<=l.length:=by
 have:∀(m:List az) (o:List bW),(m.foldl ge o).length<=o.length+m.length:=by
  intro m;induction m with
  | nil=>intro o;simp
  | cons e r a=>intro o;rw[pp];have b:=a (ge o e);have c:=(DJ o e).2;simp only[bO];omega
 have h:=this l [];simpa[fU] using h
def bN {α:Type}(f:Nat->α)(k:Nat)(a:α):Nat->α:=fun i=>if i=k then a else f i
theorem dd {b:Type}(f:Nat->b)(k:Nat)(a:b):bN f k a k=a:=if_pos rfl
theorem em {b:Type}(f:Nat->b){k i:Nat}(a:b)(h:i≠k):bN f k a i=f i:=if_neg h
theorem Vg {a:Type}(f:Nat->a)(k:Nat):bN f k (f k)=f:=by
 funext i;unfold bN;split
 . next h=>rw[h]
 . rfl
theorem pw {c:Type}(f:Nat->c)(k:Nat)(a b:c):bN (bN f k a) k b=bN f k b:=by
 funext i;unfold bN;split <;> rfl
def je (l:ae):ag:=⟨l.toArray⟩
def pL (l:List dR):aC:=l.map fun p=>(je p.1,je p.2)
abbrev nA:=Nat×aC×ae
def AC:ae:=[98,111,117,110,100,97,114,121]
def xD:ae:=[109,117,108,116,105,112,97,114,116,47,102,111,114,109,45,100,97,116,97]
def EF:ag:=⟨#[47,102,111,114,109]⟩
def Eu:ag:=⟨#[80,79,83,84]⟩
def uW:ag:=⟨#[80,65,84,67,72]⟩
def sK:ae:=[102,105,108,101,110,97,109,101,32]
def uV (t:ag):Bool:=decide (7<=t.size)&&decide (t.data.toList.take 7=kG.data.toList)
def AF (t:ag):Bool:=decide (t=oy)||uV t
def mC (l:aC):Option (ae) :=
 if (bj (aT jR l)).2≠0 then U
 else match eh (bj (aT jR l)).1 with
  | .inl _=>U
  | .inr x=>if x.1≠xD then U else iu AC x.2
def lR (b body:ae):Option (List bW) :=
 if iR b=true∧ns (da (fK b) iw body)=0 then M (fU (gK (co (fK b) iw body))) else U
def ia (ps:List bW):Nat:=(ps.map fun p=>p.a.length+200).sum
def mD (s:av)(ids:List Int):av:=ids.foldl (fun s i=>(gn s i).1) s
def og (c:Nat):Nat:=if c=4 then 413 else 507
def ny (id:Int)(f:ag):ae:=ba 8 id.toNat++[32]++f.data.toList++[10]
def dB (p:bW):ag:=je (sK++p.b.data.toList)
def kW (s:av)(made:List Int)(told:ae):List bW->av×nA
 | []=>(ey s,(201,[],told))
 | p :: r =>
   if p.b.size=0 then kW s made told r
   else if (cx s p.a.length (dB p)).2≠0 then (ey (mD s made),(og (cx s p.a.length (dB p)).2,[],[]))
   else if (cL (cx s p.a.length (dB p)).1 (s.h.a+1) 0 p.a).2≠0 then
    (ey (mD (gn (cx s p.a.length (dB p)).1 (s.h.a+1)).1 made),(og (cL (cx s p.a.length (dB p)).1 (s.h.a+1) 0 p.a).2,[],[]))
   else kW (cL (cx s p.a.length (dB p)).1 (s.h.a+1) 0 p.a).1 (made++[s.h.a+1]) (told++ny (s.h.a+1) p.b) r
def jd (s:av)(l:aC)(body:ae):av×nA:=match mC l with
 | none=>(s,(415,[],[]))
 | some b => match lR b body with
   | none=>(s,(400,[],[]))
   | some ps=>if 100000<s.a.length+ia ps then (s,(507,[],[])) else kW s [] [] ps
abbrev EH:=av->ag->ag->aC->ae->av×jk
section
variable (T:EH)
def kV (s:av)(m t:ag)(l:aC)(body:ae):av×nA :=
 if AF t=true then ((T s m t l body).1,((T s m t l body).2.1,(T s m t l body).2.2,[]))
 else if t≠EF then (s,(404,[],[]))
 else if m≠Eu then (s,(405,[],[]))
 else jd s l body
def xF (s:av)(h:cf)(body:ae):av×nA:=kV T s (je h.c) (je h.b) (pL h.a) body
def mE (r:nA):ae:=(sV (r.1:Int) r.2.1 (aT ⟨#[99,111,110,116,101,110,116,45,108,101,110,103,116,104]⟩ r.2.1).length r.2.2).1
def pM (c:Nat):nA:=(if c=4 then 413 else 400,[],[])
structure eW where
 s:av
 c:cf
 b:ae
 a:ae
def dh (g:eW):aS->eW
 | .head h=>{ g with c:=h }
 | .body b=>{ g with b:=g.b++b }
 | .fin=>{ s:=(xF T g.s g.c g.b).1,c:=nE,b:=[],a:=g.a++mE (xF T g.s g.c g.b).2 }
 | .fail c=>{ s:=g.s,c:=nE,b:=[],a:=g.a++mE (pM c) }
def eX (g:eW)(l:List aS):eW:=l.foldl (dh T) g
theorem uZ (g:eW)(e:aS)(l:List aS):eX T g (e::l)=eX T (dh T g e) l:=rfl
theorem K0 (g:eW)(a b:List aS):eX T g (a++b)=eX T (eX T g a) b:=by unfold eX;rw[rF]
theorem LB (g:eW)(a b:ae):dh T (dh T g (.body a)) (.body b)=dh T g (.body (a++b)):=by grind [dh]
theorem vc:∀(l:List aS) (g:eW),eX T g (aH l)=eX T g l
 | [],_=>rfl
 | .head h::r,g=>vc r (dh T g (.head h))
 | .fin::r,g=>vc r (dh T g .fin)
 | .fail c::r,g=>vc r (dh T g (.fail c))
 | .body a :: r, g => by
   have d:=vc r (dh T g (.body a));rw[uZ T g (.body a) r,<-d];show eX T g (match aH r with
    | .body b::q=>.body (a++b)::q
    | q=>.body a::q)=_
   cases f:aH r with
   | nil=>rfl
   | cons e q =>
     cases e with
     | body b=>rw[uZ,uZ,LB]
     | head _=>rfl
     | fin=>rfl
     | fail _=>rfl
theorem LC (g:eW)(o:ae)(e:aS):dh T { g with a:=o++g.a } e={ dh T g e with a:=o++(dh T g e).a }:=by
 cases e with
 | head h=>rfl
 | body b=>rfl
 | fin=>simp only[dh,iX]
 | fail c=>simp only[dh,iX]
structure cU where
 c:bR
 a:cf
 b:ae
def fj:cU:=⟨qb,nE,[]⟩
def pJ (s:av)(c:cU):eW:=⟨s,c.a,c.b,[]⟩
def uX (s:av)(c:cU)(b:ae):eW:=eX T (pJ s c) (dc c.c b)
def nw (s:av)(c:cU)(b:ae):av×cU×ae:=((uX T s c b).s,⟨cP c.c b,(uX T s c b).c,(uX T s c b).b⟩,(uX T s c b).a)
def oe (s:av)(c:cU):av:=if je c.a.c=uW∧uV (je c.a.b)=true∧c.b≠[] then (T s (je c.a.c) (je c.a.b) (pL c.a.a) c.b).1 else s
theorem xG:∀(ids:List Int) {s:av},aN s->aN (mD s ids)
 | [],_,h=>h
 | i::r,_,h=>xG r (h.q i)
theorem Ax:∀(b:List bW) {s:av} (made:List Int) (a:ae),aN s->aN (kW s made a b).1
 | [],_,_,_,h=>h.d
 | p :: r, s, made, a, h => by
   unfold kW;split
   . exact Ax r made a h
   . split
     . exact(xG made h).d
     . split
       . exact(xG made ((h.e _ _).q _)).d
       . exact Ax r _ _ ((h.e _ _).a _ _ _)
theorem Ls {s:av}(h:aN s)(l:aC)(body:ae):aN (jd s l body).1:=by grind [jd,Ax]
theorem K1 (a:∀{s:av},aN s->∀m t l body,aN (T s m t l body).1){s:av}(h:aN s)(m t:ag)(l:aC)(body:ae):aN (kV T s m t l body).1:=by grind [kV,Ls]
theorem AE (a:∀{s:av},aN s->∀m t l body,aN (T s m t l body).1){g:eW}(h:aN g.s)(e:aS):aN (dh T g e).s:=by
 cases e with
 | head _=>exact h
 | body _=>exact h
 | fin=>exact K1 T a h _ _ _ _
 | fail _=>exact h
theorem EC (a:∀{s:av},aN s->∀m t l body,aN (T s m t l body).1):∀(l:List aS) {g:eW},aN g.s->aN (eX T g l).s
 | [],_,h=>h
 | e::r,_,h=>EC a r (AE T a h e)
theorem Lt (a:∀{s:av},aN s->∀m t l body,aN (T s m t l body).1){s:av}(h:aN s)(c:cU)(b:ae):aN (nw T s c b).1:=EC T a (g:=pJ s c) _ h
theorem Lu (a:∀{s:av},aN s->∀m t l body,aN (T s m t l body).1){s:av}(h:aN s)(c:cU):aN (oe T s c):=by
 unfold oe;split
 . exact a h _ _ _ _
 . exact h
end
structure pI (r:nA):Prop where
 c:r.2.1.length<=5
 d:∀p∈r.2.1,p.1.size<=2000∧p.2.size<=2000
 b:r.2.2.length<=2000
theorem pI.a (st:Nat):pI (st,[],[]):=⟨ax _,fun p a=>by simp at a,ax _⟩
def pH (r:jk):Prop:=r.2.length<=5∧∀p∈r.2,p.1.size<=2000∧p.2.size<=2000
theorem xB (n:Nat):(fb n).size<=9:=by
 unfold fb;show(ba 8 n).toArray.size<=_;rw[cN];exact(jq 8 n).1
theorem xC (st:Nat)(l:aC)(b:l.length<=4)(h:∀p∈l,p.1.size<=2000∧p.2.size<=2000):pH (bY st l):=by
 refine⟨by show l.length+1<=5;omega,fun p a=>?_⟩;rcases fr.1 a with rfl | a
 . exact⟨by decide,by decide⟩
 . exact h p a
theorem lQ (st:Nat):pH (bY st []):=xC st [] (ax _) (fun p a=>by cases a)
theorem AD (st:Nat)(a b:ag)(ha:a.size<=2000)(c:b.size<=2000):pH (bY st [(a,b)]):=by grind [pH,bY,xC]
theorem Lv (s:av)(m:ag)(l:aC):pH (mM s m l).2:=by
 unfold mM;repeat' split
 all_goals first
  | exact lQ _
  | exact AD _ _ _ (by decide) (by rw[mj];have:=xB (s.h.a+1).toNat;have:kG.size=7:=rfl;omega)
theorem Lb (s:av)(u:aL)(l:aC)(body:ae):pH (lw s u l body).2:=by
 unfold lw;split
 . exact lQ _
 . split
   . exact lQ _
   . split
     . exact lQ _
     . split
       . exact lQ _
       . split
         . exact lQ _
         . split
           . exact lQ _
           . split
             . exact lQ _
             . split
               . exact lQ _
               . exact AD _ _ _ (by decide) (by have:=xB (u.a.length+body.length);omega)
theorem Lw (u:aL)(h:u.d.size<=100):pH (jS u):=by
 unfold jS;refine xC 200 _ ?_ (fun p a=>?_)
 . simp only[bO];split <;> simp
 . rcases fr.1 a with rfl | a
   . exact⟨show dq.size<=2000 by decide,by have:=xB u.a.length;show(fb u.a.length).size<=_;omega⟩
   . rcases fr.1 a with rfl | a
     . split
       . exact⟨by decide,by decide⟩
       . exact⟨show gO.size<=2000 by decide,by have:=xB u.c.toNat;show(fb u.c.toNat).size<=_;omega⟩
     . rcases fr.1 a with rfl | a
       . exact⟨by decide,by decide⟩
       . split at a
         . cases a
         . rw[cD.1 a];exact⟨show gR.size<=2000 by decide,by show u.d.size<=_;omega⟩
theorem ED {s:av}(ok:aN s)(m t:ag)(l:aC)(body:ae):pH (bq s m t l body).2:=by
 unfold bq;split
 . exact xC _ _ (by decide) (by decide)
 . split
   . exact lQ _
   . split
     . exact AD _ _ _ (by decide) (by decide)
     . split
       . exact Lv s m l
       . split
         . exact lQ _
         . rename_i u a;unfold qg;split
           . exact Lw u (ok.h.a u (B0 a).1).b
           . split
             . exact lQ _
             . split
               . exact Lb s u l body
               . exact lQ _
theorem Ay {s:av}{z:Int}{m:ag}(h:(cx s z m).2=0):(cx s z m).1.h.l.length=s.h.l.length+1∧m.size<=100:=by
 unfold cx bK at h ⊢;split
 . rename_i a;rw[if_pos a] at h;exact absurd h a
 . rename_i a;rw[if_neg a] at h;split
   . rename_i c;rw[if_pos c] at h;exact absurd h (by simp)
   . rename_i c;rw[if_neg c] at h;split
     . rename_i b;rw[if_pos b] at h;exact absurd h (by simp)
     . skip;show(lY s.h z m).1.l.length=_∧_;unfold lY fq at a ⊢;split
       . rename_i b;rw[if_pos b] at a;exact absurd (by simp) a
       . rename_i b;rw[if_neg b] at a;split
         . rename_i d;rw[if_pos d] at a;exact absurd (by simp) a
         . rename_i d;rw[if_neg d] at a;split
           . rename_i e;rw[if_pos e] at a;exact absurd (by simp) a
           . rename_i e;rw[if_neg e] at a;split
             . rename_i f;rw[if_pos f] at a;exact absurd (by simp) a
             . exact⟨by simp,by omega⟩
theorem EB (s:av)(id a:Int)(b:ae):(cL s id a b).1.h.l.length=s.h.l.length:=by
 have c:(iG s.h id a b).1.l.length=s.h.l.length:=by
  unfold iG cR;split
  . rfl
  . split
    . rfl
    . simp only[];repeat' split
      all_goals first
       | rfl
       | (show(List.set _ _ _).length=_;rw[qk])
 unfold cL bK;repeat' split
 all_goals first
  | rfl
  | exact c
theorem Ey (id:Int)(f:ag):(ny id f).length<=11+f.size:=by
 unfold ny;have:=(jq 8 id.toNat).1;have a:f.data.toList.length=f.size:=by rw[cy];rfl
 simp only[aF,bO,lD];omega
theorem AG:∀(b:List bW) {s:av} (made:List Int) (a:ae),aN s->a.length<=120*s.h.l.length->pI (kW s made a b).2
 | [],s,_,a,ok,h=>⟨ax _,(fun p c=>by cases c),(by have:=ok.h.b;show a.length<=_;omega)⟩
 | p :: r, s, made, a, ok, h => by
   unfold kW;split
   . exact AG r made a ok h
   . split
     . exact pI.a _
     . rename_i d;split
       . exact pI.a _
       . have f:(cx s p.a.length (dB p)).2=0:=by
          rcases ww (cx s p.a.length (dB p)).2 with e | e
          . exact e
          . exact absurd (by omega) d
         obtain⟨g,i⟩:=Ay f;refine AG r _ _ ((ok.e _ _).a _ _ _) ?_;rw[EB,g,aF];have j:(dB p).size=9+p.b.size:=by
          show(sK++p.b.data.toList).toArray.size=_;rw[cN,aF,cy];rfl
         have:=Ey (s.h.a+1) p.b;omega
theorem KY {s:av}(ok:aN s)(l:aC)(body:ae):pI (jd s l body).2:=by grind [jd,pI.a,AG]
theorem Ew {s:av}(ok:aN s)(m t:ag)(l:aC)(body:ae):pI (kV bq s m t l body).2:=by
 unfold kV;split
 . exact⟨(ED ok m t l body).1,(ED ok m t l body).2,ax _⟩
 . split
   . exact pI.a _
   . split
     . exact pI.a _
     . exact KY ok l body
theorem Ld (p:ag×ag):(jx p).length<=202:=by
 unfold jx;rw[aF];have:(bz p.1.data.toList p.2.data.toList).1.length<=200:=by
  unfold bz;repeat' split
  all_goals first
   | exact ax _
   | (simp only[aF,bO,lD];omega)
 simp only[bO,lD];omega
theorem EA:∀l:aC,(l.flatMap jx).length<=202*l.length
 | []=>ax _
 | p :: r => by
   rw[oA,aF,bO];have:=Ld p;have:=EA r;omega
theorem Lk (st:Int)(l:aC)(a:Nat)(body:ae):(sV st l a body).1.length<=4000+body.length:=by
 unfold sV;split
 . exact ax _
 . split
   . exact ax _
   . split
     . exact ax _
     . split
       . exact ax _
       . have b:=EA l;have c:=Gm st;have d:=(jq 8 st.toNat).1;have e:=(jq 8 body.length).1;have f:Gp.length=9:=rfl;have g:ya.length=16:=rfl;simp only[kq,aF,bO,lD];omega
theorem Ez {r:nA}(h:pI r):(mE r).length<=6000:=by
 unfold mE;have:=Lk (r.1:Int) r.2.1 (aT ⟨#[99,111,110,116,101,110,116,45,108,101,110,103,116,104]⟩ r.2.1).length r.2.2;have:=h.b;omega
theorem EI (c:Nat):pI (pM c):=pI.a _
structure pG (c:cU):Prop where
 b:fX c.c
 a:iD c.a
theorem At:iD nE:=⟨ax _,ax _,ax _,ax _,fun f a=>by cases a⟩
theorem pG.d:pG fj:=⟨fX.y,At⟩
section
variable (T:EH)
theorem EG {g:eW}{e:aS}(h:iD g.c)(a:e.e):iD (dh T g e).c:=by
 cases e with
 | head x=>exact a
 | body b=>exact h
 | fin=>exact At
 | fail c=>exact At
theorem EE:∀(l:List aS) {g:eW},iD g.c->(∀e∈l,e.e)->iD (eX T g l).c
 | [],_,h,_=>h
 | e::r,_,h,he=>EE r (EG T h (he e (by simp))) (fun x a=>he x (by simp[a]))
theorem Aw:∀(l:List aS) (g:eW),(eX T g l).b.length<=g.b.length+bT l
 | [],_=>ak _
 | e :: r, g => by
   have h:=Aw r (dh T g e);rw[uZ];cases e with
   | head x=>exact h
   | body b =>
     have a:(dh T g (.body b)).b.length=g.b.length+b.length:=aF;show _<=_+(b.length+bT r);omega
   | fin =>
     have a:(dh T g .fin).b.length=0:=rfl;show _<=_+bT r;omega
   | fail c =>
     have a:(dh T g (.fail c)).b.length=0:=rfl;show _<=_+bT r;omega
theorem LA {c:cU}(h:pG c)(s:av)(b:ae):pG (nw T s c b).2.1:=⟨h.b.j b,EE T _ (g:=pJ s c) h.a (BJ b h.b)⟩
theorem K3 (s:av)(c:cU)(b:ae):(nw T s c b).2.1.b.length<=c.b.length+b.length:=by
 have a:=Aw T (dc c.c b) (pJ s c);have e:=(BL b c.c).2.1;show(eX T (pJ s c) (dc c.c b)).b.length<=_;have d:(pJ s c).b=c.b:=rfl;rw[d] at a;omega
end
theorem KZ {g:eW}(ok:aN g.s)(e:aS):(dh bq g e).a.length<=g.a.length+6000:=by
 cases e with
 | head x=>exact ej _ _
 | body b=>exact ej _ _
 | fin =>
   show(g.a++mE _).length<=_;rw[aF];have:=Ez (Ew ok (je g.c.c) (je g.c.b) (pL g.c.a) g.b);unfold xF;omega
 | fail c =>
   show(g.a++mE _).length<=_;rw[aF];have:=Ez (EI c);omega
theorem Ex:∀(l:List aS) {g:eW},aN g.s->(eX bq g l).a.length<=g.a.length+6000*l.length
 | [],_,_=>by simp[eX]
 | e :: r, g, ok => by
   have a:=KZ ok e;have c:=Ex r (AE bq (fun h m t l b=>B3 h m t l b) ok e);rw[uZ,bO];omega
structure di where
 c:Int
 a:Int
 n:Int
 b:ae
structure cV where
 s:av
 c:Nat->cU
 a:List Int
def dj:cV:=⟨jj,fun _=>fj,[]⟩
structure oj where
 a:Nat
 c:ae
 b:ae
def oY:ag:=⟨#[47,116,97,107,101,47]⟩
def pS:ag:=⟨#[72,111,115,116]⟩
def pX:ag:=⟨#[105,110,108,97,110,100]⟩
def gL (m:ag):aC:=(pS,pX)::if m.size=0 then [] else [(gR,m)]
def vF (id:Int):ag:=oY++fb id.toNat
def lb (u:aL):cf:=⟨vW.data.toList,(vF u.b).data.toList,0,(gL u.d).map fun p=>(p.1.data.toList,p.2.data.toList),0⟩
def iU (u:aL):ae:=(ic (lb u) u.a).1
def Gi (s:aA)(id:Int):Option aL:=match cq s.l id with
 | none=>U
 | some i=>s.l[i]?
def vC (s:aA)(id:Int):ae:=match Gi s id with
 | none=>[]
 | some u=>iU u
def pT (k:Int):Prop:=0<=k∧k<4
instance (k:Int):Decidable (pT k):=by unfold pT;exact inferInstance
def lT (p:cV)(k:Int)(b:ae):cV×oj :=
 if pT k then (⟨(nw bq p.s (p.c k.toNat) b).1,bN p.c k.toNat (nw bq p.s (p.c k.toNat) b).2.1,p.a⟩,⟨if (p.c k.toNat).c.a=4 then 18 else 0,(nw bq p.s (p.c k.toNat) b).2.2,[]⟩)
 else (p,⟨1,[],[]⟩)
def mG (p:cV)(k:Int):cV×oj :=
 if pT k then (⟨oe bq p.s (p.c k.toNat),bN p.c k.toNat fj,p.a⟩,⟨0,[],[]⟩) else (p,⟨1,[],[]⟩)
def pa (p:cV)(id:Int):cV×oj :=
 if (ex p.s id).2≠0 then (p,⟨(ex p.s id).2,[],[]⟩)
 else (⟨ey (ex p.s id).1,p.c,p.a++[id]⟩,⟨0,[],vC (ex p.s id).1.h id⟩)
def pV (p:cV)(id:Int):cV×oj :=
 if (lW p.s id).2≠0 then (p,⟨(lW p.s id).2,[],[]⟩) else (⟨ey (lW p.s id).1,p.c,p.a⟩,⟨0,[],[]⟩)
def Bm (p:cV)(keep:Int):cV×oj:=(⟨ie p.s keep,fun _=>fj,p.a⟩,⟨0,[],[]⟩)
def dk (p:cV)(x:di):cV×oj :=
 if x.c=1 then lT p x.a x.b else if x.c=2 then mG p x.a else if x.c=3 then pa p x.n else if x.c=4 then pV p x.n else if x.c=5 then Bm p x.n else (p,⟨11,[],[]⟩)
def jg (p:cV)(l:List di):cV:=l.foldl (fun p x=>(dk p x).1) p
theorem vG (p:cV)(l:List di)(i:Nat)(h:i<l.length):jg p (l.take (i+1))=(dk (jg p (l.take i)) l[i]).1:=by
 unfold jg;rw[go h,rF];rfl
def jJ (l:List di):Nat:=(l.map fun x=>x.b.length).sum
theorem Bi (l:List di)(i:Nat)(h:i<l.length):jJ (l.take i)+l[i].b.length=jJ (l.take (i+1)):=by
 unfold jJ;rw[go h,lB,List.sum_append];simp
theorem N6 (l:List di)(i:Nat):jJ (l.take i)<=jJ l:=by
 conv=>rhs;rw[<-jn i l]
 unfold jJ;rw[lB,List.sum_append];omega
def jw (s:av):Prop:=∃es m,fP s es m
theorem jw.a {s:av}(h:jw s):iH (ey s):=h.elim fun _ h=>h.elim fun _ h=>yp h
theorem jw.d {s:av}(h:iH s):jw s:=h.elim fun a h=>⟨a,a.length,h⟩
theorem jw.f {s:av}(h:jw s)(x:nH):jw (ky s x).1:=h.elim fun _ h=>h.elim fun _ h=>h.q x
theorem jw.e {s:av}(h:jw s)(id:Int):jw (gn s id).1:=h.elim fun _ h=>h.elim fun m h=>(QJ h id).elim fun a h=>⟨a,m,h⟩
theorem jw.j {s:av}(h:jw s)(z:Int)(t:ag):jw (cx s z t).1:=h.elim fun _ h=>h.elim fun m h=>(H9 h z t).elim fun a h=>⟨a,m,h⟩
theorem jw.q {s:av}(h:jw s)(id a:Int)(b:ae):jw (cL s id a b).1:=h.elim fun _ h=>h.elim fun m h=>(B5 h id a b).elim fun c h=>⟨c,m,h⟩
theorem Bn:∀(ids:List Int) {s:av},jw s->jw (mD s ids)
 | [],_,h=>h
 | i::r,_,h=>Bn r (h.e i)
theorem Bp:∀(b:List bW) {s:av} (made:List Int) (a:ae),jw s->iH (kW s made a b).1
 | [],_,_,_,h=>h.a
 | p :: r, s, made, a, h => by
   unfold kW;split
   . exact Bp r made a h
   . split
     . exact(Bn made h).a
     . split
       . exact(Bn made ((h.j _ _).e _)).a
       . exact Bp r _ _ ((h.j _ _).q _ _ _)
theorem Gb {s:av}(h:iH s)(m t:ag)(l:aC)(body:ae):iH (bq s m t l body).1:=by
 unfold bq qg;repeat' split
 all_goals first
  | exact h
  | exact QK h m l
  | exact((jw.d h).e _).a
  | exact QH h _ l body
theorem NH {s:av}(h:iH s)(m t:ag)(l:aC)(body:ae):iH (kV bq s m t l body).1:=by
 unfold kV jd;repeat' split
 all_goals first
  | exact h
  | exact Gb h m t l body
  | exact Bp _ _ _ (jw.d h)
theorem Gd:∀(l:List aS) {g:eW},iH g.s->iH (eX bq g l).s
 | [],_,h=>h
 | e :: r, g, h => Gd r (g := dh bq g e) (by
   cases e with
   | fin=>exact NH h _ _ _ _
   | head _=>exact h
   | body _=>exact h
   | fail _=>exact h)
theorem NT {s:av}(h:iH s)(c:cU):iH (oe bq s c):=by
 unfold oe;split
 . exact Gb h _ _ _ _
 . exact h
theorem NP {s:av}(h:jw s)(id:Int):jw (ex s id).1:=h.f ⟨4,id,0,⟨#[]⟩⟩
theorem N0 {s:av}(h:jw s)(id:Int):jw (lW s id).1:=h.f ⟨5,id,0,⟨#[]⟩⟩
theorem F9 {s:av}(h:iH s)(k:Int):ie s k=s:=h.elim fun _ h=>Qu h k
structure mF (p:cV)(n:Nat):Prop where
 s:aN p.s
 b:iH p.s
 c:∀k,pG (p.c k)
 a:∀k,(p.c k).b.length<=n
theorem mF.f:mF dj 0:=⟨aN.G,iH.a,fun _=>pG.d,fun _=>ak _⟩
theorem mF.j {p:cV}{n m:Nat}(h:mF p n)(a:n<=m):mF p m:=⟨h.s,h.b,h.c,fun k=>ce (h.a k) a⟩
theorem xY {b:Type}{aaf:b->Prop}{f:Nat->b}{a:b}(k:Nat)(c:∀i,aaf (f i))(ha:aaf a):∀i,aaf (bN f k a i):=fun i=>by
 unfold bN;split
 . exact ha
 . exact c i
theorem Gh:∀{s:av},aN s->∀m t l body,aN (bq s m t l body).1:=fun h m t l b=>B3 h m t l b
theorem mF.e {p:cV}{n:Nat}(h:mF p n)(x:di):mF (dk p x).1 (n+x.b.length):=by
 have a:=h.j (ej n x.b.length);unfold dk;split
 . unfold lT;split
   . refine⟨Lt bq Gh h.s _ _,Gd _ (g:=pJ p.s _) h.b,xY _ h.c (LA bq (h.c _) _ _),xY (aaf:=fun c:cU=>c.b.length<=n+x.b.length) _ a.a ?_⟩;have:=K3 bq p.s (p.c x.a.toNat) x.b;have:=h.a x.a.toNat;omega
   . exact a
 . split
   . unfold mG;split
     . exact⟨Lu bq Gh h.s _,NT h.b _,xY _ h.c pG.d,xY (aaf:=fun c:cU=>c.b.length<=n+x.b.length) _ a.a (ax _)⟩
     . exact a
   . split
     . unfold pa;split
       . exact a
       . exact⟨(h.s.r _).d,(NP (jw.d h.b) _).a,h.c,a.a⟩
     . split
       . unfold pV;split
         . exact a
         . exact⟨(h.s.E _).d,(N0 (jw.d h.b) _).a,h.c,a.a⟩
       . split
         . refine⟨h.s.y _,?_,fun _=>pG.d,fun _=>ax _⟩;show iH (ie p.s x.n);rw[F9 h.b];exact h.b
         . exact a
theorem mF.d (l:List di):∀i,i<=l.length->mF (jg dj (l.take i)) (jJ (l.take i))
 | 0,_=>mF.f
 | i + 1, h => by
   rw[vG dj l i (by omega),<-Bi l i (by omega)];exact(mF.d l i (by omega)).e l[i]
theorem uS {l:ae}{p:Nat}(n:p<=l.length)(f:∀j (b:j<l.length),p<=j->oa l[j]=F)(g:p=0∨∃h:p-1<l.length,0<p∧oa l[p-1]=true):nu l=l.drop p:=by
 have e:l.reverse=(l.drop p).reverse++(l.take p).reverse:=by rw[<-yE,jn]
 have ha:∀c∈(l.drop p).reverse,(!oa c)=true:=by
  intro c d;rw[List.mem_reverse] at d;obtain⟨j,b,rfl⟩:=List.getElem_of_mem d;rw[bV] at b;rw[List.getElem_drop,f (p+j) (by omega) (by omega)];rfl
 have i:(l.take p).reverse.takeWhile (fun c=>!oa c)=[]:=by
  rcases g with rfl | ⟨h,o,k⟩
  . rfl
  . obtain⟨q,rfl⟩:∃q,p=q+1:=⟨p-1,by omega⟩;have m:q<l.length:=by simpa using h
    have a:oa l[q]=true:=by simpa using k
    rw[go m,yE];show(l[q]::(l.take q).reverse).takeWhile _=[];rw[wv,a];rfl
 unfold nu;rw[e,List.takeWhile_append_of_pos ha,i,eN,List.reverse_reverse]
theorem JY {c:UInt8}(h:mB c=F):kP c=c:=by unfold kP;rw[h];rfl
def kh (k:Nat)(l:ae):ae:=(l.take k).map kP++l.drop k
theorem Ai (k:Nat)(l:ae):(kh k l).length=l.length:=by grind [kh]
theorem JO (l:ae):kh 0 l=l:=rfl
theorem JZ (l:ae):kh l.length l=l.map kP:=by unfold kh;rw[fD,List.drop_length,eN]
theorem Kf {k:Nat}{l:ae}(h:k<l.length):(kh k l)[k]'(by rw[Ai];exact h)=l[k]:=by grind [kh]
theorem JP {k:Nat}{l:ae}(h:k<l.length):kh (k+1) l=(kh k l).set k (kP l[k]):=by
 unfold kh;rw[go h,lB,gS h,tC _ _ (by rw[ij,bP];omega)];rw[ij,bP,oC (Nat.le_of_lt h),Nat.sub_self];simp;rw[gS h];rfl
theorem JQ {k:Nat}{l:ae}(h:k<l.length)(hd:mB l[k]=F):kh (k+1) l=kh k l:=by
 unfold kh;rw[go h,lB,gS h];simp[JY hd]
theorem D1 {c:UInt8}{t:ae}(h:c≠37):ja (c::t)=(ja t).map (c::·):=by rw[ja.eq_def];simp only[];rw[if_neg h]
theorem D7 {a b:UInt8}{r:ae}(ha:0<=bl a.toNat)(c:0<=bl b.toNat):ja (37::a::b::r)=(ja r).map ((16*bl a.toNat+bl b.toNat).toNat.toUInt8::·):=by grind [bl,ja]
theorem Eb {a b:UInt8}{r:ae}(h:¬(0<=bl a.toNat∧0<=bl b.toNat)):ja (37::a::b::r)=U:=by
 rw[ja.eq_def];simp only[];rw[if_pos trivial,if_neg h]
theorem Aa {t:ae}(h:t.length<2):ja (37::t)=U:=by
 match t,h with
 | [],_=>rw[ja.eq_def];simp only[];rw[if_pos trivial]
 | [_],_=>rw[ja.eq_def];simp only[];rw[if_pos trivial]
 | _::_::_,h=>simp at h;omega
def jG (bs r:ae):Option (ae):=(ja r).map (bs++·)
theorem Ky (bs:ae):jG bs []=M bs:=by unfold jG;rw[ja];simp
theorem Kg {bs:ae}{c:UInt8}{t:ae}(h:c≠37):jG bs (c::t)=jG (bs++[c]) t:=by
 unfold jG;rw[D1 h,Option.map_map];congr 1;funext x;simp
theorem Kz {bs:ae}{a b:UInt8}{r:ae}(ha:0<=bl a.toNat)(c:0<=bl b.toNat):jG bs (37::a::b::r)=jG (bs++[(16*bl a.toNat+bl b.toNat).toNat.toUInt8]) r:=by
 unfold jG;rw[D7 ha c,Option.map_map];congr 1;funext x;simp
theorem Ku {bs:ae}{a b:UInt8}{r:ae}(h:¬(0<=bl a.toNat∧0<=bl b.toNat)):jG bs (37::a::b::r)=U:=by unfold jG;rw[Eb h];rfl
theorem J0 {bs t:ae}(h:t.length<2):jG bs (37::t)=U:=by unfold jG;rw[Aa h];rfl
theorem J1 (r:ae):jG [] r=ja r:=by unfold jG;simp
theorem J2 (a b:UInt8):bB 16 6 [a,b]=if 0<=bl a.toNat∧0<=bl b.toNat then (16*bl a.toNat+bl b.toNat,true) else (0,F):=by
 have c:¬(6:Int)<(([a,b]:ae).length:Int):=by simp
 by_cases h:0<=bl a.toNat∧0<=bl b.toNat
 . rw[if_pos h,uE 16 6 _ (by simp) c (by rw[po,po,xe,xe,aV h.1,aV h.2];rfl)];unfold iP;simp only[pp,List.foldl_nil];rw[show(0:Int)*16+bl a.toNat=bl a.toNat by omega,show bl a.toNat*16+bl b.toNat=16*bl a.toNat+bl b.toNat by omega]
 . rw[if_neg h,xi 16 6 _ (by
    rw[po,po,xe,xe];simp only[List.all_nil,Bool.and_true];rw[qu,cz,cz];rcases Decidable.not_and_iff_not_or_not.1 h with h | h
    . exact A h
    . exact R h)]
theorem Kv {a b:UInt8}(ha:0<=bl a.toNat)(c:0<=bl b.toNat):((16*bl a.toNat+bl b.toNat).toNat.toUInt8.toNat:Int)=16*bl a.toNat+bl b.toNat∧16*bl a.toNat+bl b.toNat<=255:=by
 have d:=(ss a).2;have f:=(ss b).2;generalize bl (a.toNat:Int)=x at *;generalize bl (b.toNat:Int)=y at *;refine⟨?_,by omega⟩;have:(16*x+y).toNat<256:=by omega
 have e:(16*x+y).toNat.toUInt8.toNat=(16*x+y).toNat:=by simp[Nat.toUInt8];omega
 rw[e];omega
def kQ (d:ae×Nat):Nat ⊕ List cZ :=
 if d.2≠0 then .inl d.2
 else match eh d.1 with
  | .inl c=>.inl c
  | .inr x=>if x.1≠qU then .inl 11 else .inr x.2
def uR (ps:List cZ)(t:ae×Nat):Nat ⊕ oV :=
 match iu xv ps with
 | none=>.inl 6
 | some nm => match lP ps with
   | none=>.inl 5
   | some f=>if t.2=9 then .inl 9 else .inr ⟨nm,f,t.1⟩
theorem JR (d t:ae×Nat):nt d t=match kQ d with
 | .inl c=>.inl c
 | .inr b=>uR b t:=by
 unfold nt kQ uR;by_cases h:d.2≠0
 . rw[if_pos h,if_pos h]
 . rw[if_neg h,if_neg h];cases eh d.1 with
   | inl c=>rfl
   | inr x =>
     simp only;by_cases a:x.1≠qU
     . rw[if_pos a,if_pos a]
     . rw[if_neg a,if_neg a];all_goals
        simp only;cases get LX x.2 with
        | none=>rfl
        | some e=>cases file x.2 <;> rfl
theorem Kw {d:ae×Nat}{c:Nat}(h:d.2=0)(a:eh d.1=.inl c):kQ d=.inl c:=by unfold kQ;rw[if_neg (fun e=>e h),a]
theorem Kh {d:ae×Nat}{x:ae×List cZ}(h:d.2=0)(a:eh d.1=.inr x)(b:x.1≠qU):kQ d=.inl 11:=by unfold kQ;rw[if_neg (fun e=>e h),a];exact if_pos b
theorem KC {d:ae×Nat}{x:ae×List cZ}(h:d.2=0)(a:eh d.1=.inr x)(b:x.1=qU):kQ d=.inr x.2:=by simp_all [cZ,eh,qU,kQ]
theorem Ab:∀(n:Nat) (l y:ae),l.length<=n->ja l=M y->y.length<=l.length
 | _,[],y,_,h=>by rw[ja] at h;injection h with h;subst h;exact ak _
 | 0,_::_,_,hn,_=>by simp at hn
 | n + 1, c :: t, y, hn, h => by
   simp only[bO] at hn;by_cases f:c=37
   . subst f;match t,hn,h with
     | [],_,h=>rw[Aa (by simp)] at h;cases h
     | [_],_,h=>rw[Aa (by simp)] at h;cases h
     | a :: b :: r, hn, h =>
       by_cases d:0<=bl a.toNat∧0<=bl b.toNat
       . rw[D7 d.1 d.2] at h;obtain⟨z,e,rfl⟩:=yG.1 h;have:=Ab n r z (by simp only[bO] at hn;omega) e;simp only[bO];omega
       . rw[Eb d] at h;cases h
   . rw[D1 f] at h;obtain⟨z,e,rfl⟩:=yG.1 h;have:=Ab n t z (by omega) e;simp only[bO];omega
theorem Ki {l y:ae}(h:kf l=M y):y.length<=l.length:=by
 unfold kf at h;split at h
 . cases h
 . have:=Ab _ _ _ (ak _) h;rw[bV] at this;omega
theorem D2:∀(n:Nat) (r:ae) (a b:List cZ),a.length<=8->jv n r a=.inr b->b.length<=8
 | 0,r,a,b,c,h=>by rw[jv] at h;injection h with h;subst h;exact c
 | n + 1, r, a, b, c, h => by
   rw[jv] at h;split at h
   . injection h with h;subst h;exact c
   . split at h
     . cases h
     . split at h
       . cases h
       . split at h
         . cases h
         . rename_i d;exact D2 n _ _ b (by rw[aF];simp;omega) h
theorem DW {l wd:ae}{a:List cZ}(h:eh l=.inr (wd,a)):a.length<=8:=by
 unfold eh at h;split at h
 . cases h
 . split at h
   . cases h
   . unfold kY at h;split at h
     . cases h
     . rename_i b;injection h with h;injection h with _ h;subst h;exact D2 _ _ _ _ (ax _) b
theorem Kx {d:ae×Nat}{a:List cZ}(h:kQ d=.inr a):a.length<=8∧∀p∈a,p.2.length<=d.1.length:=by
 unfold kQ at h;split at h
 . cases h
 . split at h
   . cases h
   . rename_i x b;split at h
     . cases h
     . injection h with h;subst h;exact⟨DW b,fun p c=>((A8 b).2 p c).2⟩
structure jH where
 s:av
 a:List Int
 c:ae
 b:Nat
def fx (r:jH)(p:bW):jH :=
 if (cx r.s p.a.length (dB p)).2≠0 then { r with b:=(cx r.s p.a.length (dB p)).2 }
 else if (cL (cx r.s p.a.length (dB p)).1 (r.s.h.a+1) 0 p.a).2≠0 then
  { r with s:=(gn (cL (cx r.s p.a.length (dB p)).1 (r.s.h.a+1) 0 p.a).1 (r.s.h.a+1)).1,b:=(cL (cx r.s p.a.length (dB p)).1 (r.s.h.a+1) 0 p.a).2 }
 else ⟨(cL (cx r.s p.a.length (dB p)).1 (r.s.h.a+1) 0 p.a).1,r.a++[r.s.h.a+1],r.c++ny (r.s.h.a+1) p.b,0⟩
def gg (r:jH):List bW->jH
 | []=>r
 | p::t=>if p.b.size=0 then gg r t else if (fx r p).b≠0 then fx r p else gg (fx r p) t
def pK (r:jH):av×nA:=if r.b=0 then (ey r.s,(201,[],r.c)) else (ey (mD r.s r.a),(og r.b,[],[]))
theorem KW {s:av}{id a:Int}{b:ae}(h:(cL s id a b).2≠0):(cL s id a b).1=s:=qh h
theorem KX {s:av}{z:Int}{m:ag}(h:(cx s z m).2≠0):(cx s z m).1=s:=qh h
theorem AH:∀(ps:List bW) (r:jH),r.b=0->kW r.s r.a r.c ps=pK (gg r ps)
 | [],r,h=>by unfold kW gg pK;rw[if_pos h]
 | p :: t, r, h => by
   unfold kW gg;by_cases h0:p.b.size=0
   . rw[if_pos h0,if_pos h0];exact AH t r h
   . rw[if_neg h0,if_neg h0];by_cases h1:(cx r.s p.a.length (dB p)).2=0
     . by_cases h2:(cL (cx r.s p.a.length (dB p)).1 (r.s.h.a+1) 0 p.a).2=0
       . have ha:fx r p=⟨(cL (cx r.s p.a.length (dB p)).1 (r.s.h.a+1) 0 p.a).1,r.a++[r.s.h.a+1],r.c++ny (r.s.h.a+1) p.b,0⟩:=by
          unfold fx;rw[if_neg (by rw[h1];simp),if_neg (by rw[h2];simp)]
         rw[if_neg (by show ¬(cx r.s p.a.length (dB p)).2≠0;rw[h1];simp),if_neg (by show ¬(cL (cx r.s p.a.length (dB p)).1 (r.s.h.a+1) 0 p.a).2≠0;rw[h2];simp),ha,if_neg (by simp)];exact AH t ⟨(cL (cx r.s p.a.length (dB p)).1 (r.s.h.a+1) 0 p.a).1,r.a++[r.s.h.a+1],r.c++ny (r.s.h.a+1) p.b,0⟩ rfl
       . have ha:fx r p={ r with s:=(gn (cL (cx r.s p.a.length (dB p)).1 (r.s.h.a+1) 0 p.a).1 (r.s.h.a+1)).1,b:=(cL (cx r.s p.a.length (dB p)).1 (r.s.h.a+1) 0 p.a).2 }:=by
          unfold fx;rw[if_neg (by rw[h1];simp),if_pos h2]
         rw[if_neg (by show ¬(cx r.s p.a.length (dB p)).2≠0;rw[h1];simp),if_pos (show(cL (cx r.s p.a.length (dB p)).1 (r.s.h.a+1) 0 p.a).2≠0 from h2),ha,if_pos h2];unfold pK;rw[if_neg h2,KW h2]
     . have ha:fx r p={ r with b:=(cx r.s p.a.length (dB p)).2 }:=by unfold fx;rw[if_pos h1]
       rw[if_pos (show(cx r.s p.a.length (dB p)).2≠0 from h1),ha,if_pos h1];unfold pK;rw[if_neg h1]
theorem AA {r:jH}(h:aN r.s)(p:bW):aN (fx r p).s:=by
 unfold fx;split
 . exact h
 . split
   . exact((h.e _ _).a _ _ _).q _
   . exact(h.e _ _).a _ _ _
theorem AB:∀(a:List bW) {r:jH},aN r.s->aN (gg r a).s
 | [],_,h=>h
 | p :: t, r, h => by
   unfold gg;split
   . exact AB t h
   . split
     . exact AA h p
     . exact AB t (AA h p)
structure uY (r:jH):Prop where
 b:aN r.s
 a:r.c.length<=120*r.a.length
 c:r.a.length<=r.s.h.l.length∨r.b≠0
theorem K4 {r:jH}(h:uY r)(d:r.b=0)(p:bW):uY (fx r p):=by
 refine⟨AA h.b p,?_,?_⟩
 . unfold fx;split
   . exact h.a
   . rename_i a;split
     . exact h.a
     . have b:(cx r.s p.a.length (dB p)).2=0:=tI a;have e:(dB p).size=9+p.b.size:=by
        show(sK++p.b.data.toList).toArray.size=_;rw[cN,aF,cy];rfl
       have c:=(Ay b).2;have f:=Ey (r.s.h.a+1) p.b;have g:=h.a;simp only[aF,bO,lD];omega
 . unfold fx;split
   . rename_i a;exact R a
   . rename_i a;split
     . rename_i c;exact R c
     . have b:(cx r.s p.a.length (dB p)).2=0:=tI a;refine A ?_;show(r.a++[r.s.h.a+1]).length<=(cL _ _ _ _).1.h.l.length;rw[EB,(Ay b).1,aF];rcases h.c with h | h
       . simp;omega
       . exact absurd d h
def iy (o:List bW):Nat:=(o.map fun p=>p.a.length).sum
theorem As (a b:List bW):iy (a++b)=iy a+iy b:=by unfold iy;rw[lB,List.sum_append]
theorem LD:∀{o:List bW} {q:bW},q∈o->q.a.length<=iy o:=by intro l;induction l <;> grind [iy]
theorem Lx (o:List bW)(e:az)(h:e.c=[]):iy (ge o e)<=iy o+e.a.length:=by
 unfold ge;split
 . rw[As];show _+(e.c.length+0)<=_;rw[h];show iy o+0<=_;omega
 . split
   . rcases mQ o with rfl | ⟨q,p,rfl⟩
     . exact ax _
     . rw[lA,List.dropLast_concat,tH,As,As];show iy q+(e.a.length+0)<=iy q+iy [p]+e.a.length;omega
   . omega
theorem K5 (o:List bW)(e:az)(h:e.f.size<=200)(b:∀q∈o,q.b.size<=200):∀q∈ge o e,q.b.size<=200:=by
 unfold ge;split
 . intro q a;rcases dm.1 a with a | a
   . exact b q a
   . rw[cD.1 a];exact h
 . split
   . rcases mQ o with rfl | ⟨r,p,rfl⟩
     . intro q a;cases a
     . rw[lA] at b ⊢;rw[List.dropLast_concat,tH];intro q a;rcases dm.1 a with a | a
       . exact b q (qm _ a)
       . have:q={ p with a:=e.a }:=cD.1 a;rw[this];exact b p (qr _ (by simp))
   . exact b
theorem Ly (es:List az)(h:∀e∈es,od e):iy (fU es)<=dx es∧∀q∈fU es,q.b.size<=200:=by
 have a:∀(m:List az) (o:List bW),(∀e∈m,od e)->(∀q∈o,q.b.size<=200)->iy (m.foldl ge o)<=iy o+dx m∧∀q∈m.foldl ge o,q.b.size<=200:=by
  intro m;induction m with
  | nil=>intro o _ b;exact⟨ak _,b⟩
  | cons e t g =>
    intro o c b;have d:=c e (by simp);have i:=Lx o e d.a;have f:=g (ge o e) (fun x j=>c x (by simp[j])) (K5 o e d.b b);refine⟨?_,f.2⟩;show iy (t.foldl ge (ge o e))<=iy o+(e.a.length+dx t);have:=f.1;omega
 have:=a es [] h (fun q k=>by cases k);refine⟨?_,this.2⟩;have i:iy (fU es)<=0+dx es:=this.1;omega
theorem Lz:∀o:List bW,ia o=iy o+200*o.length:=by intro l;induction l <;> grind [ia,iy]
theorem KV {b body:ae}{a:List bW}(h:lR b body=M a)(c:3<=(fK b).length)(d:ir (fK b) iw)(g:iw.c<=1000)(i:body.length<=20000):ia a<=1000000000∧a.length<=1000000∧∀q∈a,q.a.length<=1000000∧q.b.size<=900000:=by
 unfold lR at h;split at h
 . injection h with h;subst h;have j:=xx c body d;have k:=Cr (co (fK b) iw body);have l:=EM (co (fK b) iw body);have f:=Ly _ (KG (Eh c body d));have m:=DK (gK (co (fK b) iw body));have n:=Lz (fU (gK (co (fK b) iw body)));refine⟨by omega,by omega,fun q e=>⟨?_,by have:=f.2 q e;omega⟩⟩;have:=LD e;omega
 . cases h
theorem Lo (r:jH)(p:bW):(fx r p).a.length<=r.a.length+1:=by grind [fx]
theorem Az:∀(a:List bW) (r:jH),(gg r a).a.length<=r.a.length+a.length
 | [],_=>ak _
 | p :: t, r => by
   unfold gg;rw[bO];split
   . have:=Az t r;omega
   . have b:=Lo r p;split
     . omega
     . have:=Az t (fx r p);omega
section
variable {s:av} {l:aC} {body b:ae} {ps:List bW}
theorem K8 (h:mC l=U):jd s l body=(s,(415,[],[])):=by unfold jd;rw[h]
theorem Lq (h:mC l=M b)(a:lR b body=U):jd s l body=(s,(400,[],[])):=by grind [mC,lR,jd]
theorem K9 (h:mC l=M b)(a:lR b body=M ps)(c:100000<s.a.length+ia ps):jd s l body=(s,(507,[],[])):=by grind [mC,lR,ia,jd]
theorem La (h:mC l=M b)(a:lR b body=M ps)(c:¬100000<s.a.length+ia ps):jd s l body=pK (gg ⟨s,[],[],0⟩ ps):=by
 unfold jd;rw[h];show(match lR b body with | none=>_ | some ps=>_)=_;rw[a];show(if 100000<s.a.length+ia ps then _ else _)=_;rw[if_neg c];exact AH ps ⟨s,[],[],0⟩ rfl
end
def vE (m:ag):Prop:=m.size<=100∧cF m.data.toList=true∧Lib.trimS m.data.toList aX=m.data.toList
structure gj (s s':aA):Prop where
 b:s.a<=s'.a
 e:∀u'∈s'.l,s.a<u'.b∨∃u∈s.l,u.b=u'.b∧(u.e≠0->u'.e≠0)
 c:∀u'∈s'.l,vE u'.d∨∃u∈s.l,u.d=u'.d
theorem gj.a (s:aA):gj s s:=⟨ly _,fun u h=>R ⟨u,h,rfl,fun e=>e⟩,fun u h=>R ⟨u,h,rfl⟩⟩
theorem gj.d {a b c:aA}(h:gj a b)(g:gj b c):gj a c:=by
 refine⟨Int.le_trans h.b g.b,fun u i=>?_,fun u i=>?_⟩
 . rcases g.e u i with e | ⟨v,j,e,f⟩
   . have:=h.b;exact A (by omega)
   . rcases h.e v j with d | ⟨x,k,d,l⟩
     . exact A (by omega)
     . exact R ⟨x,k,d.trans e,fun q=>f (l q)⟩
 . rcases g.c u i with e | ⟨v,j,e⟩
   . exact A e
   . rcases h.c v j with d | ⟨x,k,d⟩
     . exact A (by rw[<-e];exact d)
     . exact R ⟨x,k,d.trans e⟩
theorem xZ {s:aA}{i:Nat}{u v:aL}(c:s.l[i]? = M u)(d:v.b=u.b)(f:v.d=u.d)(g:u.e≠0->v.e≠0):gj s ⟨s.l.set i v,s.a⟩:=by
 have b:=mm c;refine⟨ly _,fun x a=>?_,fun x a=>?_⟩
 . rcases List.mem_or_eq_of_mem_set a with h | h
   . exact R ⟨x,h,rfl,fun e=>e⟩
   . subst h;exact R ⟨u,b,d.symm,g⟩
 . rcases List.mem_or_eq_of_mem_set a with h | h
   . exact R ⟨x,h,rfl⟩
   . subst h;exact R ⟨u,b,f.symm⟩
theorem vD (s:aA)(id:Int)(f:Nat->aL->aA×Nat)(a:∀i u,s.l[i]? = M u->gj s (f i u).1):gj s (cR s id f).1:=by
 unfold cR;split
 . exact gj.a s
 . split
   . exact gj.a s
   . rename_i h;exact a _ _ h
theorem Ga (s:aA)(id a:Int)(b:ae):gj s (iG s id a b).1:=vD s id _ fun i u h=>by
 repeat' split
 all_goals first
  | exact gj.a s
  | exact xZ h rfl rfl (fun e=>e)
theorem NL (s:aA)(id z:Int):gj s (li s id z).1:=vD s id _ fun i u h=>by
 repeat' split
 all_goals first
  | exact gj.a s
  | exact xZ h rfl rfl (fun e=>e)
theorem Bh (s:aA)(id:Int):gj s (lU s id).1:=vD s id _ fun _ _ _=>⟨ly _,fun u h=>R ⟨u,List.mem_of_mem_eraseIdx h,rfl,fun e=>e⟩,fun u h=>R ⟨u,List.mem_of_mem_eraseIdx h,rfl⟩⟩
theorem NS (s:aA)(id:Int):gj s (jP s id).1:=vD s id _ fun i u h=>by
 repeat' split
 all_goals first
  | exact gj.a s
  | exact xZ h rfl rfl (fun _=>by simp)
theorem N2 (s:aA)(id:Int):gj s (lj s id).1:=vD s id _ fun i u h=>by
 repeat' split
 all_goals first
  | exact gj.a s
  | exact xZ h rfl rfl (fun _=>by simp)
theorem Bg (s:aA)(z:Int)(m:ag):gj s (lY s z m).1:=by
 unfold lY fq;by_cases c:z < -1
 . rw[if_pos c];exact gj.a s
 rw[if_neg c];by_cases d:2000<z∨100<m.size
 . rw[if_pos d];exact gj.a s
 rw[if_neg d];by_cases a:cF m.data.toList=F∨Lib.trimS m.data.toList aX≠m.data.toList
 . rw[if_pos a];exact gj.a s
 rw[if_neg a];by_cases f:12<=s.l.length
 . rw[if_pos f];exact gj.a s
 rw[if_neg f];refine⟨by show s.a<=s.a+1;omega,fun u b=>?_,fun u b=>?_⟩
 . rcases dm.1 b with h | h
   . exact R ⟨u,h,rfl,fun e=>e⟩
   . rw[cD.1 h];exact A (by show s.a<s.a+1;omega)
 . rcases dm.1 b with h | h
   . exact R ⟨u,h,rfl⟩
   . rw[cD.1 h];refine A ⟨by show m.size<=100;omega,?_,?_⟩
     . show cF m.data.toList=true;cases g:cF m.data.toList with
       | true=>rfl
       | false=>exact absurd (A g) a
     . show Lib.trimS m.data.toList aX=m.data.toList;exact tI fun e=>a (R e)
theorem nC {s:av}{r:aA×Nat}{e:aK}(h:gj s.h r.1):gj s.h (bK s r e).1.h:=by
 unfold bK;repeat' split
 all_goals first
  | exact gj.a _
  | exact h
theorem Be:∀(ids:List Int) (s:av),gj s.h (mD s ids).h
 | [],_=>gj.a _
 | i::r,s=>(nC (Bh s.h i)).d (Be r (gn s i).1)
theorem Bf:∀(b:List bW) (s:av) (made:List Int) (a:ae),gj s.h (kW s made a b).1.h
 | [],_,_,_=>gj.a _
 | p :: r, s, made, a => by
   unfold kW;split
   . exact Bf r s made a
   . split
     . exact Be made s
     . split
       . exact((nC (Bg _ _ _)).d (nC (Bh _ _))).d (Be made _)
       . exact((nC (Bg _ _ _)).d (nC (Ga _ _ _ _))).d (Bf r _ _ _)
theorem NU (s:av)(u:aL)(l:aC)(body:ae):gj s.h (lw s u l body).1.h:=by
 have a:gj s.h (cL s u.b u.a.length body).1.h:=nC (Ga _ _ _ _);unfold lw;repeat' split
 all_goals first
  | exact gj.a _
  | exact a
  | exact a.d (nC (NL _ _ _))
theorem Ge (s:av)(m t:ag)(l:aC)(body:ae):gj s.h (bq s m t l body).1.h:=by
 unfold bq qg mM;repeat' split
 all_goals first
  | exact gj.a _
  | exact nC (Bg _ _ _)
  | exact nC (Bh _ _)
  | exact NU _ _ _ _
theorem Gf:∀(l:List aS) (g:eW),gj g.s.h (eX bq g l).s.h
 | [],_=>gj.a _
 | e :: r, g => by
   refine gj.d ?_ (Gf r (dh bq g e));cases e with
   | fin =>
     show gj g.s.h (kV bq g.s _ _ _ _).1.h;unfold kV jd;repeat' split
     all_goals first
      | exact gj.a _
      | exact Ge _ _ _ _ _
      | exact Bf _ _ _ _
   | head _=>exact gj.a _
   | body _=>exact gj.a _
   | fail _=>exact gj.a _
theorem N3 (s:av)(c:cU):gj s.h (oe bq s c).h:=by
 unfold oe;split
 . exact Ge _ _ _ _ _
 . exact gj.a _
theorem Bo {s:av}{id:Int}(h:(ex s id).2=0):∃i u,cq s.h.l id=M i∧s.h.l[i]? = M u∧u.b=id∧u.e=0∧u.c=u.a.length∧(ex s id).1.h=⟨s.h.l.set i { u with e:=1 },s.h.a⟩:=by
 unfold ex at h ⊢;obtain⟨a,g⟩:=QI h;rw[g];cases b:cq s.h.l id with
 | none=>unfold jP at a;rw[rk b] at a;cases a
 | some i =>
   obtain⟨u,c,d⟩:=yh _ _ _ b;have j:=lk b;have k:s.h.l[i]=u:=by rw[gU j] at c;injection c
   unfold jP at a ⊢;rw[rj b,k] at a ⊢;by_cases e:u.e≠0
   . rw[if_pos e] at a;cases a
   rw[if_neg e] at a ⊢;by_cases f:u.c≠u.a.length
   . rw[if_pos f] at a;cases a
   rw[if_neg f];exact⟨i,u,rfl,c,d,by omega,by omega,rfl⟩
theorem Gc:∀(l:List aL) (id:Int) (i:Nat) (u v:aL),l[i]? = M u->v.b=u.b->cq (l.set i v) id=cq l id
 | [],_,_,_,_,h,_=>by simp at h
 | x :: t, id, 0, u, v, h, e => by
   have h:x=u:=by simpa using h
   subst h;rw[qt,cq,cq,e]
 | x :: t, id, i + 1, u, v, h, e => by
   rw[List.set_cons_succ,cq,cq,Gc t id i u v (by simpa using h) e]
theorem Gg {s:av}{id:Int}{i:Nat}{u:aL}(a:cq s.h.l id=M i)(d:s.h.l[i]? = M u)(e:(ex s id).1.h=⟨s.h.l.set i { u with e:=1 },s.h.a⟩):cq (ex s id).1.h.l id=M i∧(ex s id).1.h.l[i]? = M { u with e:=1 }∧vC (ex s id).1.h id=iU u:=by
 have b:cq (s.h.l.set i { u with e:=1 }) id=M i:=(Gc _ id i u { u with e:=1 } d rfl).trans a;have c:(s.h.l.set i { u with e:=1 })[i]? = M { u with e:=1 }:=by rw[List.getElem?_set_self (lk a)]
 rw[e];refine⟨b,c,?_⟩;unfold vC Gi;simp only[b,c];rfl
structure re (p:cV):Prop where
 c:∀u∈p.s.h.l,vE u.d
 b:∀id∈p.a,id<=p.s.h.a∧∀u∈p.s.h.l,u.b=id->u.e≠0
theorem re.e:re dj:=⟨fun _ h=>(by cases h),fun _ h=>(by cases h)⟩
theorem re.a {p:cV}{s:av}{c:Nat->cU}(h:re p)(k:gj p.s.h s.h):re ⟨s,c,p.a⟩:=by
 refine⟨fun u b=>?_,fun d a=>⟨Int.le_trans (h.b d a).1 k.b,fun u b e=>?_⟩⟩
 . rcases k.c u b with q | ⟨v,f,q⟩
   . exact q
   . rw[<-q];exact h.c v f
 . rcases k.e u b with q | ⟨v,f,g,i⟩
   . have:=(h.b d a).1;omega
   . exact i ((h.b d a).2 v f (g.trans e))
theorem re.f {p:cV}{n:Nat}(ok:mF p n)(h:re p)(x:di):re (dk p x).1:=by
 unfold dk;split
 . unfold lT;split
   . exact h.a (Gf _ (pJ p.s _))
   . exact h
 . split
   . unfold mG;split
     . exact h.a (N3 _ _)
     . exact h
   . split
     . unfold pa;split
       . exact h
       . rename_i o;obtain⟨i,u,q,b,d,_,_,r⟩:=Bo (s:=p.s) (id:=x.n) (by simpa using o);have k:=h.a (c:=p.c) (s:=ey (ex p.s x.n).1) (nC (NS _ _));refine⟨k.c,fun id t=>?_⟩;rcases dm.1 t with e | e
         . exact k.b id e
         . rw[cD.1 e];have m:=lk q;have f:p.s.h.l[i]=u:=by rw[gU m] at b;injection b
           show x.n<=(ex p.s x.n).1.h.a∧∀v∈(ex p.s x.n).1.h.l,v.b=x.n->v.e≠0;rw[r];refine⟨by have:=(ok.s.h.a u (mm b)).c;show x.n<=p.s.h.a;omega,fun v w ev=>?_⟩;obtain⟨j,y,rfl⟩:=List.getElem_of_mem w;have g:j<p.s.h.l.length:=by simpa using y
           simp only[List.getElem_set] at ev ⊢;split
           . simp
           . rename_i a;rw[if_neg a] at ev;exact absurd (QS ok.s.h.f m g (by rw[f,d,ev])) a
     . split
       . unfold pV;split
         . exact h
         . exact h.a (nC (N2 _ _))
       . split
         . refine h.a ?_;rw[F9 ok.b];exact gj.a _
         . exact h
theorem re.d (l:List di):∀i,i<=l.length->re (jg dj (l.take i))
 | 0,_=>re.e
 | i + 1, h => by
   rw[vG dj l i (by omega)];exact(re.d l i (by omega)).f (mF.d l i (by omega)) l[i]
theorem NV (m:ag):m.data.toList.length=m.size:=by rw[cy];rfl
theorem NN (id:Int):(vF id).data.toList=oY.data.toList++ba 8 id.toNat:=by
 show(oY++fb id.toNat).data.toList=_;rw[ByteArray.data_append,Array.toList_append];rfl
theorem NW {u:aL}(a:vE u.d)(r:u.b<1000000000)(g:u.a.length<=4000):(ic (lb u) u.a).2=0:=by
 have i:∀b∈ba 8 u.b.toNat,cG b.toNat=true∧aX.contains b=F:=BB 8 u.b.toNat (by show u.b.toNat<1000000000;omega);have n:=(jq 8 u.b.toNat).1;have j:(lb u).b=oY.data.toList++ba 8 u.b.toNat:=NN u.b;have k:∀c,aX.contains c=true->c∉ba 8 u.b.toNat:=fun c o e=>by have:=(i c e).2;rw[o] at this;cases this
 have l:=NV u.d;unfold ic;rw[if_neg (show ¬cT (lb u).c=F from(by decide +kernel:¬cT vW.data.toList=F)),if_neg ?t,if_neg ?z,if_neg ?f,if_neg ?v,if_neg ?h]
 case t =>
  rw[j];rintro (e | e | e | e)
  . exact e rfl
  . rcases dm.1 e with e | e
    . exact absurd e (by decide)
    . exact k 32 (by decide) e
  . rcases dm.1 e with e | e
    . exact absurd e (by decide)
    . exact k 9 (by decide) e
  . have:cF (oY.data.toList++ba 8 u.b.toNat)=true:=by
     unfold cF;rw[List.all_append,gr];exact⟨by decide,pm.2 fun b g=>(i b g).1⟩
    rw[this] at e;cases e
 case z =>
  rw[j,aF];have d:(lb u).c.length=4:=rfl;have m:oY.data.toList.length=6:=rfl;omega
 case f =>
  show ¬16<=((gL u.d).map fun p=>(p.1.data.toList,p.2.data.toList)).length;unfold gL;split <;> simp
 case v =>
  show ¬(bU ((gL u.d).map fun p=>(p.1.data.toList,p.2.data.toList)) le≠[]∨bU ((gL u.d).map fun p=>(p.1.data.toList,p.2.data.toList)) lg≠[]);unfold gL bU;split
  . decide +kernel
  . simp only[List.map_cons,List.map_nil,List.filter_cons,List.filter_nil];rw[if_neg (by decide +kernel),if_neg (by decide +kernel),if_neg (by decide +kernel),if_neg (by decide +kernel)];simp
 case h =>
  show ¬(bU ((gL u.d).map fun p=>(p.1.data.toList,p.2.data.toList)) mJ).length≠1;unfold gL bU;split
  . decide +kernel
  . simp only[List.map_cons,List.map_nil,List.filter_cons,List.filter_nil];rw[if_pos (by decide +kernel),if_neg (by decide +kernel)];simp
 have d:(bz pS.data.toList pX.data.toList).2=0:=by decide +kernel
 have m:(bz gR.data.toList u.d.data.toList).2=0:=by
  unfold bz;rw[if_neg (by decide +kernel),if_neg (by
   have:gR.data.toList.length=15:=rfl;have:=a.1;omega),if_neg (by rw[a.2.1,a.2.2];simp)]
 have q:∃s,er (lb u).a=.inr s:=by
  show ∃s,er ((gL u.d).map fun p=>(p.1.data.toList,p.2.data.toList))=.inr s;unfold gL;split
  . exact⟨_,by simp only[List.map_cons,List.map_nil,er];rw[if_neg (by rw[d];simp)]⟩
  . exact⟨_,by simp only[List.map_cons,List.map_nil,er];rw[if_neg (by rw[d];simp),if_neg (by rw[m];simp)]⟩
 obtain⟨s,l⟩:=q;rw[l]
theorem NO {u:aL}(b:vE u.d)(c:u.b<1000000000)(d:u.a.length<=4000):0<(iU u).length∧(iU u).length<=8000∧et (iU u)=(.head (vJ (lb u) u.a)::eu u.a++[.fin],F):=by
 have a:=NW b c d;obtain⟨e,f⟩:=PD _ _ a;refine⟨e,f,?_⟩;unfold et iU;have:=PR (lb u) u.a [] (ic (lb u) u.a).1.length a (by simp);rw[eN,PW] at this;exact this
theorem NX {u:aL}{b:Bool}(e:et (iU u)=(.head (vJ (lb u) u.a)::eu u.a++[.fin],b)):¬∃h,aS.head h∈(et (iU u)).1∧h.d<0:=by
 rintro ⟨h,a,c⟩;rw[e] at a;rcases dm.1 a with a | a
 . rcases fr.1 a with a | a
   . injection a with a;rw[a] at c;exact absurd c (by show ¬((u.a.length:Int)<0);omega)
   . unfold eu at a;split at a
     . cases a
     . cases cD.1 a
 . cases cD.1 a
open Go.RowKit
structure mP where
 a:ai
 b:Nat
def nT (x:di)(s:mP):List Value:=[.int .i64 x.c,.int .i64 x.a,.int .i64 x.n,.slice s.a x.b.length s.b]
def uh (l:List (di×mP)):List Value:=l.flatMap fun q=>nT q.1 q.2
theorem En (l:List (di×mP)):(uh l).length=l.length*4:=by
 induction l with
 | nil=>rfl
 | cons p t a =>
   have:(nT p.1 p.2).length=4:=rfl;simp only[uh,oA,aF,bO] at a ⊢;omega
theorem Bs:∀(l:List (di×mP)) (i:Nat) (a:i<l.length) (j:Nat),j<4->(uh l)[i*4+j]? = (nT l[i].1 l[i].2)[j]?
 | p :: t, 0, _, j, hj => by
   show(nT p.1 p.2++uh t)[0*4+j]? = _;rw[ql (by rw[show(nT p.1 p.2).length=4 from rfl];omega),pj,dV];rfl
 | p :: t, i + 1, a, j, hj => by
   show(nT p.1 p.2++uh t)[(i+1)*4+j]? = _;rw[qq (by rw[show(nT p.1 p.2).length=4 from rfl];omega),show(nT p.1 p.2).length=4 from rfl,show(i+1)*4+j-4=i*4+j by omega];exact Bs t i (by simpa using a) j hj
def px (w:X)(ao:ai)(cap:Nat)(l:List di):Prop:=∃qs:List (di×mP),qs.map (·.1)=l∧bx w ao cap l.length (uh qs)∧∀q∈qs,ay w q.2.a q.2.b q.1.b
theorem px.f {w w':X}{ao:ai}{cap:Nat}{l:List di}(h:px w ao cap l)(a:Below w.heap.size w w'):px w' ao cap l:=by
 obtain⟨b,c,d,e⟩:=h;exact⟨b,c,d.a a,fun q f=>(e q f).a a⟩
theorem px.e (w:X):px w U 0 []:=⟨[],rfl,bx.f w,fun q a=>by cases a⟩
theorem px.d {w:X}{ao:ai}{cap:Nat}{l:List di}(h:px w ao cap l):l.length<=cap:=by
 obtain⟨_,_,a,_⟩:=h;exact a.1
structure yy (w:X)(b o:Nat)(x:di)(s:mP):Prop where
 d:w.cell? ⟨b,o,U⟩=M (.int .i64 x.c)
 e:w.cell? ⟨b,o+1,U⟩=M (.int .i64 x.a)
 f:w.cell? ⟨b,o+2,U⟩=M (.int .i64 x.n)
 a:w.cell? ⟨b,o+3,U⟩=M (.slice s.a x.b.length s.b)
 c:ay w s.a s.b x.b
theorem px.a {w:X}{ao:ai}{cap:Nat}{l:List di}(h:px w ao cap l)(k:Nat)(f:k<l.length):∃(b o:Nat) (s:mP),ao=M ⟨b,o,U⟩∧yy w b (o+k*4) l[k] s:=by
 obtain⟨d,rfl,g,i⟩:=h;have a:k<d.length:=by simpa using f
 obtain⟨b,o,rfl,c⟩:=g.e (by rw[En];omega);have m:=i _ (dG a);have e:=fun j n=>Bs d k a j n;refine⟨b,o,d[k].2,rfl,?_⟩;rw[dH];refine⟨?_,?_,?_,?_,m⟩
 . have:=e 0 (by decide);rw[lC] at this;exact c _ _ this
 . rw[fC];exact c _ _ (e 1 (by decide))
 . rw[fC];exact c _ _ (e 2 (by decide))
 . rw[fC];exact c _ _ (e 3 (by decide))
def pU:ae:=[80,79,83,84,32,47,102,105,108,101,115,32,72,84,84,80,47,49,46,49,13,10,72,111,115,116,58,32,97,13,10,84,117,115,45,82,101,115,117,109,97,98,108,101,58,32,49,46,48,46,48,13,10,85,112,108,111,97,100,45,76,101,110,103,116,104,58,32,48,13,10,13,10]
def Gj:ae:=[80,79,83,84,32,47,116,97,107,101,47,49,32,72,84,84,80,47,49,46,49,13,10,72,111,115,116,58,32,105,110,108,97,110,100,13,10,67,111,110,116,101,110,116,45,76,101,110,103,116,104,58,32,48,13,10,13,10]
def ko:di:=⟨1,0,0,pU⟩
def mH:di:=⟨3,0,1,[]⟩
theorem N7:(dk dj ko).2.a=0∧0<(dk dj ko).2.c.length∧(dk dj ko).2.c.length<=1000:=by decide +kernel
theorem N8:(dk (dk dj ko).1 mH).2.a=0∧(dk (dk dj ko).1 mH).2.b=Gj:=by decide +kernel
theorem N1:(dk (dk (dk dj ko).1 mH).1 mH).2.a=19∧(dk (dk (dk dj ko).1 mH).1 mH).1.a=[1]:=by decide +kernel
theorem Bj (p:cV)(x:di):(dk p x).1.a.length<=p.a.length+1:=by
 unfold dk lT mG pa pV Bm;repeat' split
 all_goals simp
theorem Bk (l:List di):∀i,i<=l.length->(jg dj (l.take i)).a.length<=i
 | 0,_=>ak _
 | i + 1, h => by
   rw[vG dj l i (by omega)];have:=Bj (jg dj (l.take i)) l[i];have:=Bk l i (by omega);omega
structure NK (P:cV)(x:di)(i:Nat)(u:aL):Prop where
 f:x.c=3
 e:(dk P x).2.a=0
 k:cq P.s.h.l x.n=M i
 d:P.s.h.l[i]? = M u
 b:u.b=x.n
 l:u.e=0
 m:u.c=u.a.length
 o:(dk P x).2.b=iU u
 n:(dk P x).1.a=P.a++[x.n]
 c:x.n∉P.a
 j:vE u.d
 g:1<=x.n
 a:x.n<=100000
 h:u.a.length<=2000
theorem NZ {P:cV}{n:Nat}(ok:mF P n)(l:re P)(x:di):((dk P x).2.b=[]∧(dk P x).1.a=P.a)∨∃i u,NK P x i u:=by
 by_cases a:x.c=3∧(ex P.s x.n).2=0
 . obtain⟨a,o⟩:=a;have e:dk P x=(⟨ey (ex P.s x.n).1,P.c,P.a++[x.n]⟩,⟨0,[],vC (ex P.s x.n).1.h x.n⟩):=by
    unfold dk pa;rw[if_neg (by omega),if_neg (by omega),if_pos a,if_neg (by omega)]
   obtain⟨i,u,m,f,b,d,g,p⟩:=Bo o;obtain⟨_,_,r⟩:=Gg m f p;have j:=mm f;have k:=ok.s.h.a u j;have v:=k.f;have w:=k.c;have y:=ok.s.j
   refine R ⟨i,u,a,by rw[e],m,f,b,d,g,by rw[e];exact r,by rw[e],fun q=>?_,l.c u j,by omega,by omega,k.a⟩;exact(l.b x.n q).2 u j b d
 . refine A ?_;unfold dk lT mG pa pV Bm;repeat' split
   all_goals first
    | exact⟨rfl,rfl⟩
    | (rename_i z t;exact absurd ⟨by assumption,by simpa using t⟩ a)
theorem NI {u:aL}{n:Nat}(h:u.b=(n:Int)):(⟨(vJ (lb u) u.a).b.toArray⟩:ag)=oY++⟨(ba 8 n).toArray⟩:=by
 show(⟨(vF u.b).data.toList.toArray⟩:ag)=_;rw[h];rfl
