import Derived.Test.YtodmelffkfbalaaGreatDoorPk3
open Bool renaming false->F
namespace Go.Proofs.YtodmelffkfbalaaGreatDoor
abbrev gz:=ab×ab
structure dg where
 e:ab
 b:ab
 d:Nat
 a:List gz
 c:Int
inductive aU
 | head (h:dg)
 | body (l:ab)
 | fin
 | fail (c:Nat)
def mX:ab->ab->List (ab)
 | w,[]=>[w]
 | w,c::t=>if c=32 then w::mX [] t else mX (w++[c]) t
def kP (t:ab):Nat ⊕ dg :=
 match mX [] t with
 | [m, g, v] =>
   if fj m=F then .inl 6
   else if g.head?≠some 47∨9∈g then .inl 5
   else if v=[72,84,84,80,47,49,46,49] then .inr ⟨m,g,1,[],0⟩
   else if v=[72,84,84,80,47,49,46,48] then .inr ⟨m,g,0,[],0⟩
   else .inl 11
 | _=>.inl 5
def dZ (fs:List gz)(name:ab):List (ab):=(fs.filter fun f=>be f.1==name).map (·.2)
def lB (f:ab):Int->List (ab)->Nat ⊕ Int
 | n,[]=>.inr n
 | _,v::t=>if (bB 10 9 v).2=F then .inl 7 else if v≠f then .inl 12 else lB f (bB 10 9 v).1 t
def qB:ab:=[104,111,115,116]
def pz:ab:=[99,111,110,116,101,110,116,45,108,101,110,103,116,104]
def pA:ab:=[116,114,97,110,115,102,101,114,45,101,110,99,111,100,105,110,103]
def uN:ab:=[99,104,117,110,107,101,100]
def mr (h:dg):Nat ⊕ Int :=
 if 1<(dZ h.a qB).length∨(dZ h.a qB).length=0∧h.d=1 then .inl 13
 else if dZ h.a pA≠[] then
  (if dZ h.a pz ≠ [] ∨ h.d = 0 then .inl 12
   else if (dZ h.a pA).length≠1∨be ((dZ h.a pA).headD [])≠uN then .inl 11
   else .inr (-1))
 else match lB ((dZ h.a pz).headD []) 0 (dZ h.a pz) with
  | .inl c=>.inl c
  | .inr n=>if 4000<n then .inl 4 else .inr n
inductive Oy
 | fail (c:Nat)
 | open_
 | ok (fs:List gz) (rest:ab)
def Gh:Nat->ab->List gz->Oy
 | 0,_,_=>.open_
 | f + 1, l, fs =>
   if (cl l).c≠0 then .fail (cl l).c
   else if (cl l).d=F then .open_
   else if (cl l).b=[] then .ok fs (l.drop (cl l).a)
   else if fs.length=16 then .fail 8
   else if (aY (cl l).b).a≠0 then .fail (aY (cl l).b).a
   else Gh f (l.drop (cl l).a) (fs++[((aY (cl l).b).b,(aY (cl l).b).c)])
def oJ (l:ab):List aU:=if l=[] then [] else [.body l]
def A6:Nat->ab->List aU×Bool
 | 0,_=>([],F)
 | f + 1, l =>
   if (cl l).c≠0 then ([.fail (cl l).c],F)
   else if (cl l).d=F then ([],decide (l≠[]))
   else if (cl l).b=[] then A6 f (l.drop (cl l).a)
   else match kP (cl l).b with
    | .inl c=>([.fail c],F)
    | .inr h =>
      match Gh (f+1) (l.drop (cl l).a) [] with
      | .fail c=>([.fail c],F)
      | .open_=>([],true)
      | .ok fs r =>
        match mr { h with a:=fs } with
        | .inl c=>([.fail c],F)
        | .inr k =>
          if 0<=k then
           (if k.toNat <= r.length then
            let q:=A6 f (r.drop k.toNat);(.head { h with a:=fs,c:=k }::oJ (r.take k.toNat)++.fin::q.1,q.2)
            else (.head { h with a:=fs,c:=k }::oJ r,true))
          else
           let t:=Iv r
           if t.b≠0 then (.head { h with a:=fs,c:=k }::oJ t.a++[.fail t.b],F)
           else if t.c=F then (.head { h with a:=fs,c:=k }::oJ t.a,true)
           else let q:=A6 f (r.drop t.d);(.head { h with a:=fs,c:=k }::oJ t.a++.fin::q.1,q.2)
structure bN where
 a:Nat
 b:cx
 c:dg
 e:Nat
 d:dz
def mY:dg:=⟨[],[],0,[],0⟩
def pC:bN:=⟨0,dw,mY,0,rH⟩
def kO (s:bN):bN:={ s with a:=4 }
def ip (s:bN)(t:ab):bN×List aU :=
 if s.a=0 then
  (if t = [] then (s, [])
   else match kP t with
    | .inl c=>(kO s,[.fail c])
    | .inr h=>({ s with a:=1,c:=h },[]))
 else if t=[] then
  (match mr s.c with
   | .inl c=>(kO s,[.fail c])
   | .inr k =>
     if k=0 then ({ s with a:=0 },[.head { s.c with c:=k },.fin])
     else if 0<k then ({ s with a:=2,e:=k.toNat },[.head { s.c with c:=k }])
     else ({ s with a:=3,d:=rH },[.head { s.c with c:=k }]))
 else if s.c.a.length=16 then (kO s,[.fail 8])
 else if (aY t).a≠0 then (kO s,[.fail (aY t).a])
 else ({ s with c:={ s.c with a:=s.c.a++[((aY t).b,(aY t).c)] } },[])
def cI (s:bN)(c:UInt8):bN×List aU :=
 if s.a=4 then (s,[])
 else if s.a=2 then (if s.e<=1 then ({ s with a:=0,e:=0 },[.body [c],.fin]) else ({ s with e:=s.e-1 },[.body [c]]))
 else if s.a=3 then
  (if (de s.d c).a ≠ 0 then (kO s, [.fail (de s.d c).a])
   else if (de s.d c).b=4 then ({ s with a:=0 },[.fin])
   else ({ s with d:=de s.d c },oJ (iG s.d c)))
 else if (bi s.b c).a≠0 then (kO s,[.fail (bi s.b c).a])
 else if fH s.b c=true then ip { s with b:=dw } (cV s.b c)
 else ({ s with b:=bi s.b c },[])
def cM:bN->ab->bN
 | s,[]=>s
 | s,c::t=>cM (cI s c).1 t
def cX:bN->ab->List aU
 | _,[]=>[]
 | s,c::t=>(cI s c).2++cX (cI s c).1 t
def aE:List aU->List aU
 | []=>[]
 | .body a :: r => match aE r with
   | .body b::q=>.body (a++b)::q
   | q=>.body a::q
 | .head h::r=>.head h::aE r
 | .fin::r=>.fin::aE r
 | .fail c::r=>.fail c::aE r
theorem A7:∀(a b:ab) (s:bN),cM s (a++b)=cM (cM s a) b
 | [],_,_=>rfl
 | c::t,b,s=>A7 t b (cI s c).1
theorem Gg:∀(a b:ab) (s:bN),cX s (a++b)=cX s a++cX (cM s a) b:=by intro l;induction l <;> grind [cX,cM]
