import Derived.Test.YtmbghcpcbdjfoaaGreatDoorPk3
open Bool renaming false->F
namespace Go.Proofs.YtmbghcpcbdjfoaaGreatDoor
abbrev dR:=ae×ae
structure cf where
 c:ae
 b:ae
 e:Nat
 a:List dR
 d:Int
inductive aS
 | head (h:cf)
 | body (l:ae)
 | fin
 | fail (c:Nat)
def gB:ae->ae->List (ae)
 | w,[]=>[w]
 | w,c::t=>if c=32 then w::gB [] t else gB (w++[c]) t
def dw (t:ae):Nat ⊕ cf :=
 match gB [] t with
 | [m, g, v] =>
   if cT m=F then .inl 6
   else if g.head?≠some 47∨9∈g then .inl 5
   else if v=[72,84,84,80,47,49,46,49] then .inr ⟨m,g,1,[],0⟩
   else if v=[72,84,84,80,47,49,46,48] then .inr ⟨m,g,0,[],0⟩
   else .inl 11
 | _=>.inl 5
def bU (fs:List dR)(name:ae):List (ae):=(fs.filter fun f=>aU f.1==name).map (·.2)
def gm (f:ae):Int->List (ae)->Nat ⊕ Int
 | n,[]=>.inr n
 | _,v::t=>if (bB 10 9 v).2=F then .inl 7 else if v≠f then .inl 12 else gm f (bB 10 9 v).1 t
def mJ:ae:=[104,111,115,116]
def le:ae:=[99,111,110,116,101,110,116,45,108,101,110,103,116,104]
def lg:ae:=[116,114,97,110,115,102,101,114,45,101,110,99,111,100,105,110,103]
def pZ:ae:=[99,104,117,110,107,101,100]
def gC (h:cf):Nat ⊕ Int :=
 if 1<(bU h.a mJ).length∨(bU h.a mJ).length=0∧h.e=1 then .inl 13
 else if bU h.a lg≠[] then
  (if bU h.a le ≠ [] ∨ h.e = 0 then .inl 12
   else if (bU h.a lg).length≠1∨aU ((bU h.a lg).headD [])≠pZ then .inl 11
   else .inr (-1))
 else match gm ((bU h.a le).headD []) 0 (bU h.a le) with
  | .inl c=>.inl c
  | .inr n=>if 4000<n then .inl 4 else .inr n
inductive BD
 | fail (c:Nat)
 | open_
 | ok (fs:List dR) (rest:ae)
def fY:Nat->ae->List dR->BD
 | 0,_,_=>.open_
 | f + 1, l, fs =>
   if (aw l).c≠0 then .fail (aw l).c
   else if (aw l).d=F then .open_
   else if (aw l).b=[] then .ok fs (l.drop (aw l).a)
   else if fs.length=16 then .fail 8
   else if (aP (aw l).b).a≠0 then .fail (aP (aw l).b).a
   else fY f (l.drop (aw l).a) (fs++[((aP (aw l).b).b,(aP (aw l).b).c)])
def eu (l:ae):List aS:=if l=[] then [] else [.body l]
def fO:Nat->ae->List aS×Bool
 | 0,_=>([],F)
 | f + 1, l =>
   if (aw l).c≠0 then ([.fail (aw l).c],F)
   else if (aw l).d=F then ([],decide (l≠[]))
   else if (aw l).b=[] then fO f (l.drop (aw l).a)
   else match dw (aw l).b with
    | .inl c=>([.fail c],F)
    | .inr h =>
      match fY (f+1) (l.drop (aw l).a) [] with
      | .fail c=>([.fail c],F)
      | .open_=>([],true)
      | .ok fs r =>
        match gC { h with a:=fs } with
        | .inl c=>([.fail c],F)
        | .inr k =>
          if 0<=k then
           (if k.toNat <= r.length then
            let q:=fO f (r.drop k.toNat);(.head { h with a:=fs,d:=k }::eu (r.take k.toNat)++.fin::q.1,q.2)
            else (.head { h with a:=fs,d:=k }::eu r,true))
          else
           let t:=eU r
           if t.c≠0 then (.head { h with a:=fs,d:=k }::eu t.b++[.fail t.c],F)
           else if t.d=F then (.head { h with a:=fs,d:=k }::eu t.b,true)
           else let q:=fO f (r.drop t.a);(.head { h with a:=fs,d:=k }::eu t.b++.fin::q.1,q.2)
def et (l:ae):List aS×Bool:=fO (l.length+1) l
structure bR where
 a:Nat
 b:cw
 c:cf
 e:Nat
 d:dz
def nE:cf:=⟨[],[],0,[],0⟩
def qb:bR:=⟨0,dv,nE,0,sv⟩
def ld (s:bR):bR:={ s with a:=4 }
def iC (s:bR)(t:ae):bR×List aS :=
 if s.a=0 then
  (if t = [] then (s, [])
   else match dw t with
    | .inl c=>(ld s,[.fail c])
    | .inr h=>({ s with a:=1,c:=h },[]))
 else if t=[] then
  (match gC s.c with
   | .inl c=>(ld s,[.fail c])
   | .inr k =>
     if k=0 then ({ s with a:=0 },[.head { s.c with d:=k },.fin])
     else if 0<k then ({ s with a:=2,e:=k.toNat },[.head { s.c with d:=k }])
     else ({ s with a:=3,d:=sv },[.head { s.c with d:=k }]))
 else if s.c.a.length=16 then (ld s,[.fail 8])
 else if (aP t).a≠0 then (ld s,[.fail (aP t).a])
 else ({ s with c:={ s.c with a:=s.c.a++[((aP t).b,(aP t).c)] } },[])
def cK (s:bR)(c:UInt8):bR×List aS :=
 if s.a=4 then (s,[])
 else if s.a=2 then (if s.e<=1 then ({ s with a:=0,e:=0 },[.body [c],.fin]) else ({ s with e:=s.e-1 },[.body [c]]))
 else if s.a=3 then
  (if (df s.d c).a ≠ 0 then (ld s, [.fail (df s.d c).a])
   else if (df s.d c).b=4 then ({ s with a:=0 },[.fin])
   else ({ s with d:=df s.d c },eu (iQ s.d c)))
 else if (bu s.b c).a≠0 then (ld s,[.fail (bu s.b c).a])
 else if fW s.b c=true then iC { s with b:=dv } (cY s.b c)
 else ({ s with b:=bu s.b c },[])
def cP:bR->ae->bR
 | s,[]=>s
 | s,c::t=>cP (cK s c).1 t
def dc:bR->ae->List aS
 | _,[]=>[]
 | s,c::t=>(cK s c).2++dc (cK s c).1 t
def aH:List aS->List aS
 | []=>[]
 | .body a :: r => match aH r with
   | .body b::q=>.body (a++b)::q
   | q=>.body a::q
 | .head h::r=>.head h::aH r
 | .fin::r=>.fin::aH r
 | .fail c::r=>.fail c::aH r
theorem BH:∀(a b:ae) (s:bR),cP s (a++b)=cP (cP s a) b
 | [],_,_=>rfl
 | c::t,b,s=>BH t b (cK s c).1
theorem GQ:∀(a b:ae) (s:bR),dc s (a++b)=dc s a++dc (cP s a) b:=by intro l;induction l <;> grind [dc,cP]
