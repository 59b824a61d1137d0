import Derived.Test.YtodmelffkfbalaaGreatDoorPk3
open Bool renaming false->F
namespace Go.Proofs.YtodmelffkfbalaaGreatDoor
abbrev gA:=ab×ab
structure df where
 e:ab
 b:ab
 d:Nat
 a:List gA
 c:Int
inductive aU
 | head (h:df)
 | body (l:ab)
 | fin
 | fail (c:Nat)
def ng:ab->ab->List (ab)
 | w,[]=>[w]
 | w,c::t=>if c=32 then w::ng [] t else ng (w++[c]) t
def kR (t:ab):Nat ⊕ df :=
 match ng [] t with
 | [m, g, v] =>
   if fi m=F then .inl 6
   else if g.head?≠some 47∨9∈g then .inl 5
   else if v=[72,84,84,80,47,49,46,49] then .inr ⟨m,g,1,[],0⟩
   else if v=[72,84,84,80,47,49,46,48] then .inr ⟨m,g,0,[],0⟩
   else .inl 11
 | _=>.inl 5
def ef (fs:List gA)(name:ab):List (ab):=(fs.filter fun f=>aY f.1==name).map (·.2)
def lB (f:ab):Int->List (ab)->Nat ⊕ Int
 | n,[]=>.inr n
 | _,v::t=>if (bB 10 9 v).2=F then .inl 7 else if v≠f then .inl 12 else lB f (bB 10 9 v).1 t
def qE:ab:=[104,111,115,116]
def pG:ab:=[99,111,110,116,101,110,116,45,108,101,110,103,116,104]
def pH:ab:=[116,114,97,110,115,102,101,114,45,101,110,99,111,100,105,110,103]
def uP:ab:=[99,104,117,110,107,101,100]
def mr (h:df):Nat ⊕ Int :=
 if 1<(ef h.a qE).length∨(ef h.a qE).length=0∧h.d=1 then .inl 13
 else if ef h.a pH≠[] then
  (if ef h.a pG ≠ [] ∨ h.d = 0 then .inl 12
   else if (ef h.a pH).length≠1∨aY ((ef h.a pH).headD [])≠uP then .inl 11
   else .inr (-1))
 else match lB ((ef h.a pG).headD []) 0 (ef h.a pG) with
  | .inl c=>.inl c
  | .inr n=>if 4000<n then .inl 4 else .inr n
inductive OI
 | fail (c:Nat)
 | open_
 | ok (fs:List gA) (rest:ab)
def Gm:Nat->ab->List gA->OI
 | 0,_,_=>.open_
 | f + 1, l, fs =>
   if (bZ l).c≠0 then .fail (bZ l).c
   else if (bZ l).d=F then .open_
   else if (bZ l).b=[] then .ok fs (l.drop (bZ l).a)
   else if fs.length=16 then .fail 8
   else if (aZ (bZ l).b).a≠0 then .fail (aZ (bZ l).b).a
   else Gm f (l.drop (bZ l).a) (fs++[((aZ (bZ l).b).b,(aZ (bZ l).b).c)])
def oQ (l:ab):List aU:=if l=[] then [] else [.body l]
def A1:Nat->ab->List aU×Bool
 | 0,_=>([],F)
 | f + 1, l =>
   if (bZ l).c≠0 then ([.fail (bZ l).c],F)
   else if (bZ l).d=F then ([],decide (l≠[]))
   else if (bZ l).b=[] then A1 f (l.drop (bZ l).a)
   else match kR (bZ l).b with
    | .inl c=>([.fail c],F)
    | .inr h =>
      match Gm (f+1) (l.drop (bZ l).a) [] with
      | .fail c=>([.fail c],F)
      | .open_=>([],true)
      | .ok fs r =>
        match mr { h with a:=fs } with
        | .inl c=>([.fail c],F)
        | .inr k =>
          if 0<=k then
           (if k.toNat <= r.length then
            let q:=A1 f (r.drop k.toNat);(.head { h with a:=fs,c:=k }::oQ (r.take k.toNat)++.fin::q.1,q.2)
            else (.head { h with a:=fs,c:=k }::oQ r,true))
          else
           let t:=IM r
           if t.b≠0 then (.head { h with a:=fs,c:=k }::oQ t.a++[.fail t.b],F)
           else if t.c=F then (.head { h with a:=fs,c:=k }::oQ t.a,true)
           else let q:=A1 f (r.drop t.d);(.head { h with a:=fs,c:=k }::oQ t.a++.fin::q.1,q.2)
structure bL where
 a:Nat
 b:ct
 c:df
 e:Nat
 d:dy
def nh:df:=⟨[],[],0,[],0⟩
def pJ:bL:=⟨0,dv,nh,0,rM⟩
def kQ (s:bL):bL:={ s with a:=4 }
def ip (s:bL)(t:ab):bL×List aU :=
 if s.a=0 then
  (if t = [] then (s, [])
   else match kR t with
    | .inl c=>(kQ s,[.fail c])
    | .inr h=>({ s with a:=1,c:=h },[]))
 else if t=[] then
  (match mr s.c with
   | .inl c=>(kQ s,[.fail c])
   | .inr k =>
     if k=0 then ({ s with a:=0 },[.head { s.c with c:=k },.fin])
     else if 0<k then ({ s with a:=2,e:=k.toNat },[.head { s.c with c:=k }])
     else ({ s with a:=3,d:=rM },[.head { s.c with c:=k }]))
 else if s.c.a.length=16 then (kQ s,[.fail 8])
 else if (aZ t).a≠0 then (kQ s,[.fail (aZ t).a])
 else ({ s with c:={ s.c with a:=s.c.a++[((aZ t).b,(aZ t).c)] } },[])
def cH (s:bL)(c:UInt8):bL×List aU :=
 if s.a=4 then (s,[])
 else if s.a=2 then (if s.e<=1 then ({ s with a:=0,e:=0 },[.body [c],.fin]) else ({ s with e:=s.e-1 },[.body [c]]))
 else if s.a=3 then
  (if (dc s.d c).a ≠ 0 then (kQ s, [.fail (dc s.d c).a])
   else if (dc s.d c).b=4 then ({ s with a:=0 },[.fin])
   else ({ s with d:=dc s.d c },oQ (iH s.d c)))
 else if (bj s.b c).a≠0 then (kQ s,[.fail (bj s.b c).a])
 else if fI s.b c=true then ip { s with b:=dv } (cT s.b c)
 else ({ s with b:=bj s.b c },[])
def cL:bL->ab->bL
 | s,[]=>s
 | s,c::t=>cL (cH s c).1 t
def cV:bL->ab->List aU
 | _,[]=>[]
 | s,c::t=>(cH s c).2++cV (cH s c).1 t
def aE:List aU->List aU
 | []=>[]
 | .body a :: r => match aE r with
   | .body b::q=>.body (a++b)::q
   | q=>.body a::q
 | .head h::r=>.head h::aE r
 | .fin::r=>.fin::aE r
 | .fail c::r=>.fail c::aE r
theorem A3:∀(a b:ab) (s:bL),cL s (a++b)=cL (cL s a) b
 | [],_,_=>rfl
 | c::t,b,s=>A3 t b (cH s c).1
theorem Gl:∀(a b:ab) (s:bL),cV s (a++b)=cV s a++cV (cL s a) b:=by intro l;induction l <;> grind [cV,cL]
