/- Plain laws of requests of a stream, with no program in them: what the document's own answer tells of all bytes, and a reader byte by byte. -/
import Derived.Test.YthhklgjjnaeaoaaGreatDoorPk4
open Bool renaming false->F
namespace Go.Proofs.YthhklgjjnaeaoaaGreatDoor.Rq
abbrev Fl:=av×av
structure Hd where
 method:av
 target:av
 minor:Nat
 fields:List Fl
 length:Int
inductive Ev
 | head (h:Hd)
 | body (l:av)
 | fin
 | fail (c:Nat)
def cut:av->av->List (av)
 | w,[]=>[w]
 | w,c::t=>if c=32 then w::cut [] t else cut (w++[c]) t
def first (t:av):Nat ⊕ Hd :=
 match cut [] t with
 | [m, g, v] =>
   if Ch.isToken m=F then .inl 6
   else if g.head?≠some 47∨9∈g then .inl 5
   else if v=[72,84,84,80,47,49,46,49] then .inr ⟨m,g,1,[],0⟩
   else if v=[72,84,84,80,47,49,46,48] then .inr ⟨m,g,0,[],0⟩
   else .inl 11
 | _=>.inl 5
def vals (fs:List Fl)(name:av):List (av):=(fs.filter fun f=>Ch.lower f.1==name).map (·.2)
def sizes (f:av):Int->List (av)->Nat ⊕ Int
 | n,[]=>.inr n
 | _,v::t=>if (Ch.number 10 9 v).2=F then .inl 7 else if v≠f then .inl 12 else sizes f (Ch.number 10 9 v).1 t
def nHost:av:=[104,111,115,116]
def CY:av:=[99,111,110,116,101,110,116,45,108,101,110,103,116,104]
def CZ:av:=[116,114,97,110,115,102,101,114,45,101,110,99,111,100,105,110,103]
def vw:av:=[99,104,117,110,107,101,100]
def len (h:Hd):Nat ⊕ Int :=
 if 1<(vals h.fields nHost).length∨(vals h.fields nHost).length=0∧h.minor=1 then .inl 13
 else if vals h.fields CZ≠[] then
  (if vals h.fields CY ≠ [] ∨ h.minor = 0 then .inl 12
   else if (vals h.fields CZ).length≠1∨Ch.lower ((vals h.fields CZ).headD [])≠vw then .inl 11
   else .inr (-1))
 else match sizes ((vals h.fields CY).headD []) 0 (vals h.fields CY) with
  | .inl c=>.inl c
  | .inr n=>if 4000<n then .inl 4 else .inr n
inductive Fs
 | fail (c:Nat)
 | open_
 | ok (fs:List Fl) (rest:av)
def xu:Nat->av->List Fl->Fs
 | 0,_,_=>.open_
 | f + 1, l, fs =>
   if (Ln.of l).code≠0 then .fail (Ln.of l).code
   else if (Ln.of l).ended=F then .open_
   else if (Ln.of l).text=[] then .ok fs (l.drop (Ln.of l).size)
   else if fs.length=16 then .fail 8
   else if (Fd.of (Ln.of l).text).code≠0 then .fail (Fd.of (Ln.of l).text).code
   else xu f (l.drop (Ln.of l).size) (fs++[((Fd.of (Ln.of l).text).name,(Fd.of (Ln.of l).text).value)])
def some_ (l:av):List Ev:=if l=[] then [] else [.body l]
def go:Nat->av->List Ev×Bool
 | 0,_=>([],F)
 | f + 1, l =>
   if (Ln.of l).code≠0 then ([.fail (Ln.of l).code],F)
   else if (Ln.of l).ended=F then ([],decide (l≠[]))
   else if (Ln.of l).text=[] then go f (l.drop (Ln.of l).size)
   else match first (Ln.of l).text with
    | .inl c=>([.fail c],F)
    | .inr h =>
      match xu (f+1) (l.drop (Ln.of l).size) [] with
      | .fail c=>([.fail c],F)
      | .open_=>([],true)
      | .ok fs r =>
        match len { h with fields:=fs } with
        | .inl c=>([.fail c],F)
        | .inr k =>
          if 0<=k then
           (if k.toNat <= r.length then
            let q:=go f (r.drop k.toNat);(.head { h with fields:=fs,length:=k }::some_ (r.take k.toNat)++.fin::q.1,q.2)
            else (.head { h with fields:=fs,length:=k }::some_ r,true))
          else
           let t:=Ck.of r
           if t.code≠0 then (.head { h with fields:=fs,length:=k }::some_ t.body++[.fail t.code],F)
           else if t.over=F then (.head { h with fields:=fs,length:=k }::some_ t.body,true)
           else let q:=go f (r.drop t.used);(.head { h with fields:=fs,length:=k }::some_ t.body++.fin::q.1,q.2)
structure St where
 ph:Nat
 ln:Ln.St
 hd:Hd
 left:Nat
 ck:Ck.St
def hd0:Hd:=⟨[],[],0,[],0⟩
def start:St:=⟨0,Ln.start,hd0,0,Ck.start⟩
def dead (s:St):St:={ s with ph:=4 }
def line (s:St)(t:av):St×List Ev :=
 if s.ph=0 then
  (if t = [] then (s, [])
   else match first t with
    | .inl c=>(dead s,[.fail c])
    | .inr h=>({ s with ph:=1,hd:=h },[]))
 else if t=[] then
  (match len s.hd with
   | .inl c=>(dead s,[.fail c])
   | .inr k =>
     if k=0 then ({ s with ph:=0 },[.head { s.hd with length:=k },.fin])
     else if 0<k then ({ s with ph:=2,left:=k.toNat },[.head { s.hd with length:=k }])
     else ({ s with ph:=3,ck:=Ck.start },[.head { s.hd with length:=k }]))
 else if s.hd.fields.length=16 then (dead s,[.fail 8])
 else if (Fd.of t).code≠0 then (dead s,[.fail (Fd.of t).code])
 else ({ s with hd:={ s.hd with fields:=s.hd.fields++[((Fd.of t).name,(Fd.of t).value)] } },[])
def next (s:St)(c:UInt8):St×List Ev :=
 if s.ph=4 then (s,[])
 else if s.ph=2 then (if s.left<=1 then ({ s with ph:=0,left:=0 },[.body [c],.fin]) else ({ s with left:=s.left-1 },[.body [c]]))
 else if s.ph=3 then
  (if (Ck.next s.ck c).code ≠ 0 then (dead s, [.fail (Ck.next s.ck c).code])
   else if (Ck.next s.ck c).ph=4 then ({ s with ph:=0 },[.fin])
   else ({ s with ck:=Ck.next s.ck c },some_ (Ck.out s.ck c)))
 else if (Ln.next s.ln c).code≠0 then (dead s,[.fail (Ln.next s.ln c).code])
 else if Ln.ends s.ln c=true then line { s with ln:=Ln.start } (Ln.text s.ln c)
 else ({ s with ln:=Ln.next s.ln c },[])
def fold:St->av->St
 | s,[]=>s
 | s,c::t=>fold (next s c).1 t
def outs:St->av->List Ev
 | _,[]=>[]
 | s,c::t=>(next s c).2++outs (next s c).1 t
def join:List Ev->List Ev
 | []=>[]
 | .body a :: r => match join r with
   | .body b::q=>.body (a++b)::q
   | q=>.body a::q
 | .head h::r=>.head h::join r
 | .fin::r=>.fin::join r
 | .fail c::r=>.fail c::join r
theorem lQ:∀(a b:av) (s:St),fold s (a++b)=fold (fold s a) b
 | [],_,_=>rfl
 | c::t,b,s=>lQ t b (next s c).1
theorem oO:∀(a b:av) (s:St),outs s (a++b)=outs s a++outs (fold s a) b:=by intro l;induction l <;> grind [outs,fold]
end Go.Proofs.YthhklgjjnaeaoaaGreatDoor.Rq