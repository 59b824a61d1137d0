/- Small texts, one behind the other: PlainHA, PlainHB, PlainHF, PlainHC, PlainHD, PlainHE, PlainHV, PlainHW, PlainGA, PlainGB, PlainGC, PlainHS, PlainHT, PlainHU, PlainGD, PlainGE. -/
import Derived.Test.YtjmndjmhjleabaaGreatDoorAl
import Derived.Test.YtjmndjmhjleabaaGreatDoorPlainRA
import Derived.Test.YtjmndjmhjleabaaGreatDoorPk4
import Derived.Test.YtjmndjmhjleabaaGreatDoorPk9
import Derived.Test.YtjmndjmhjleabaaGreatDoorPk1
import Derived.Test.YtjmndjmhjleabaaGreatDoorPk8
import Derived.Test.YtjmndjmhjleabaaGreatDoorPk12
namespace Go.Proofs.YtjmndjmhjleabaaGreatDoor.Fm
def stroke (c:UInt8):Bool:=c==47||c==92
def tail (l:av):av:=(l.reverse.takeWhile fun c=>!stroke c).reverse
def dirty (c:UInt8):Bool:=c==9||c==34||c==58||!Ch.visible c.toNat
def zD (c:UInt8):UInt8:=if dirty c then 95 else c
def Hg (l:av):av:=l.dropWhile (·==46)
def BD:av:=[102,105,108,101]
def named (l:av):av:=if l=[] then BD else l
def safe (l:av):av:=named ((Hg ((tail l).map zD)).take 40)
def dec:av->Option (av)
 | []=>some []
 | c :: t => if c = 37 then (match t with
     | a::b::r=>if 0<=Ch.hex a.toNat∧0<=Ch.hex b.toNat then (dec r).map ((16*Ch.hex a.toNat+Ch.hex b.toNat).toNat.toUInt8::·) else none
     | _=>none)
  else (dec t).map (c::·)
def ad4:av:=[117,116,102,45,56,39,39]
def coded (l:av):Option (av):=if l.length<7∨Ch.lower (l.take 7)≠ad4 then none else dec (l.drop 7)
def get (n:av)(ps:List Pm.tL):Option (av):=(ps.find? fun p=>p.1==n).map (·.2)
def KG:av:=[110,97,109,101]
def Ns:av:=[102,105,108,101,110,97,109,101]
def Jc:av:=[102,105,108,101,110,97,109,101,42]
def Hl:av:=[102,111,114,109,45,100,97,116,97]
def VA:av:=[99,111,110,116,101,110,116,45,100,105,115,112,111,115,105,116,105,111,110]
def nType:av:=[99,111,110,116,101,110,116,45,116,121,112,101]
def file (ps:List Pm.tL):Option (av) :=
 match get Jc ps with
 | some x=>(coded x).map safe
 | none => match get Ns ps with
   | some x=>some (safe x)
   | none=>some []
structure YU where
 name:av
 file:av
 type:av
def one:List (av)->av×Nat
 | []=>([],10)
 | [v]=>(v,0)
 | _=>([],9)
def qh (d t:av×Nat):Nat ⊕ YU :=
 if d.2≠0 then .inl d.2
 else match Pm.ku d.1 with
  | .inl c=>.inl c
  | .inr x => if x.1 ≠ Hl then .inl 11
    else match get KG x.2 with
     | none=>.inl 6
     | some nm => match file x.2 with
       | none=>.inl 5
       | some f=>if t.2=9 then .inl 9 else .inr ⟨nm,f,t.1⟩
def part (fs:List Rq.Fl):Nat ⊕ YU:=qh (one (Rq.vals fs VA)) (one (Rq.vals fs nType))
def Qh (p:YU):iN:=⟨5,⟨#[]⟩,⟨#[]⟩,0,[],0,[],⟨p.name.toArray⟩,⟨p.file.toArray⟩,⟨p.type.toArray⟩,[],0⟩
def KH:iN:=⟨6,⟨#[]⟩,⟨#[]⟩,0,[],0,[],⟨#[]⟩,⟨#[]⟩,⟨#[]⟩,[],0⟩
def ad5:iN:=⟨3,⟨#[]⟩,⟨#[]⟩,0,[],0,[],⟨#[]⟩,⟨#[]⟩,⟨#[]⟩,[],0⟩
def VB (c:Nat):iN:=⟨4,⟨#[]⟩,⟨#[]⟩,0,[],0,[],⟨#[]⟩,⟨#[]⟩,⟨#[]⟩,[],(c:Int)⟩
def nT (l:av):List iN:=if l=[] then [] else [jY l]
structure St where
 place:Nat
 held:Nat
 ahead:Nat
 ln:Ln.St
 fields:List Rq.Fl
 parts:Nat
 code:Nat
def zero:St:=⟨0,0,0,Ln.start,[],0,0⟩
def start:St:=⟨0,2,2,Ln.start,[],0,0⟩
def failed (c:Nat):St:={ zero with code:=c }
def done:St:={ zero with place:=6 }
def live (s:St):Prop:=s.code=0∧s.place≠6
instance (s:St):Decidable (live s):=by unfold live;infer_instance
def turn (p:Nat)(c:UInt8):Nat×Nat :=
 if p=4 then (if c=10 then (5,0) else (0,2))
 else if p=2 then (if c=45 then (6,0) else (0,5))
 else if p=1∧c=45 then (2,0)
 else if c=32∨c=9 then (3,0)
 else if c=13 then (4,0)
 else (0,5)
def fails (c:Nat):St×List iN:=(failed c,[VB c])
def line (s:St)(t:av):St×List iN :=
 if t≠[] then
  if s.fields.length=16 then fails 8
  else if (Fd.of t).code≠0 then fails (Fd.of t).code
  else ({ s with fields:=s.fields++[((Fd.of t).name,(Fd.of t).value)] },[])
 else match part s.fields with
  | .inl c=>fails c
  | .inr p=>if s.parts=12 then fails 8 else ({ s with fields:=[],parts:=s.parts+1,place:=0,held:=2,ahead:=2 },[Qh p])
def next (m:av)(s:St)(c:UInt8):St×List iN :=
 if ¬live s then (s,[])
 else if s.place=0 then
  ({ s with held := Sk.after m s.held c, ahead := s.ahead-(Sk.out m s.held c).length, place := if Sk.found m s.held c then 1 else 0 },
   if 0<s.parts then nT ((Sk.out m s.held c).drop s.ahead)++(if Sk.found m s.held c then [KH] else []) else [])
 else if s.place=5 then
  if (Ln.next s.ln c).code≠0 then fails (Ln.next s.ln c).code
  else if Ln.ends s.ln c then line { s with ln:=Ln.next s.ln c } (Ln.text s.ln c)
  else ({ s with ln:=Ln.next s.ln c },[])
 else if (turn s.place c).2≠0 then fails (turn s.place c).2
 else if (turn s.place c).1=6 then (done,[ad5])
 else ({ s with place:=(turn s.place c).1 },[])
def fold (m:av):St->av->St
 | s,[]=>s
 | s,c::t=>fold m (next m s c).1 t
def outs (m:av):St->av->List iN
 | _,[]=>[]
 | s,c::t=>(next m s c).2++outs m (next m s c).1 t
def close (s:St):Nat:=if s.code=0∧s.place≠6 then 14 else s.code
def mark (b:av):av:=13::10::45::45::b
def lK (b:av):Bool:=!b.isEmpty&&decide (b.length<=70)&&Ch.iy b&&decide (Lib.trimS b Ch.ws=b)
theorem jM (m:av):∀(a b:av) (s:St),fold m s (a++b)=fold m (fold m s a) b
 | [],_,_=>rfl
 | _::t,b,_=>jM m t b _
theorem jF (m:av):∀(a b:av) (s:St),outs m s (a++b)=outs m s a++outs m (fold m s a) b
 | [],_,_=>rfl
 | c :: t, b, s => by
   show(next m s c).2++outs m (next m s c).1 (t++b)=_;rw[jF m t b];show _=((next m s c).2++outs m (next m s c).1 t)++_;rw[dU];rfl
theorem oJ (m:av)(s:St)(l:av)(c:UInt8):fold m s (l++[c])=(next m (fold m s l) c).1:=by rw[jM];rfl
theorem AO (m:av)(s:St)(l:av)(c:UInt8):outs m s (l++[c])=outs m s l++(next m (fold m s l) c).2:=by
 rw[jF];show _++(_++[])=_;rw[bW]
theorem Rv {m:av}{s:St}(h:¬live s)(c:UInt8):next m s c=(s,[]):=by unfold next;rw[if_pos h]
theorem lT {m:av}:∀(l:av) {s:St},¬live s->outs m s l=[]∧fold m s l=s
 | [],_,_=>⟨rfl,rfl⟩
 | c :: t, s, h => by
   have ih:=lT (m:=m) t h;show(next m s c).2++outs m (next m s c).1 t=[]∧fold m (next m s c).1 t=s;rw[Rv h];exact ih
structure Td where
 es:List iN
 bs:av
def flush (t:Td):List iN:=t.es++nT t.bs
def tell (t:Td)(e:iN):Td:=if e.kind=2 then ⟨t.es,t.bs++e.bytes⟩ else ⟨flush t++[e],[]⟩
def tells (t:Td)(l:List iN):Td:=l.foldl tell t
def FV:Td:=⟨[],[]⟩
def Clean (l:List iN):Prop:=∀e∈l,e.kind=2->e=jY e.bytes∧e.bytes≠[]
theorem Clean.append {a b:List iN}(h:Clean a)(k:Clean b):Clean (a++b):=fun e he=>by
 rcases bB.1 he with he | he
 . exact h e he
 . exact k e he
theorem clean_nil:Clean []:=fun e he=>by cases he
theorem KI (l:av):Clean (nT l):=by
 unfold nT;split
 . exact clean_nil
 . rename_i h;intro e he _;rw[bC.1 he];exact⟨rfl,h⟩
theorem xC {e:iN}(h:e.kind≠2):Clean [e]:=fun x hx k=>by rw[bC.1 hx] at k;exact absurd k h
theorem nU (c:Nat):Clean (fails c).2:=xC (by show(4:Int)≠2;decide)
theorem Nt (s:St)(t:av):Clean (line s t).2:=by
 unfold line;split
 . split
   . exact nU _
   . split
     . exact nU _
     . exact clean_nil
 . split
   . exact nU _
   . split
     . exact nU _
     . exact xC (by show(5:Int)≠2;decide)
theorem Nu (m:av)(s:St)(c:UInt8):Clean (next m s c).2:=by
 unfold next;split
 . exact clean_nil
 . split
   . show Clean (if 0<s.parts then _ else _);split
     . refine Clean.append (KI _) ?_;split
       . exact xC (by decide)
       . exact clean_nil
     . exact clean_nil
   . split
     . split
       . exact nU _
       . split
         . exact Nt _ _
         . exact clean_nil
     . split
       . exact nU _
       . split
         . exact xC (by decide)
         . exact clean_nil
theorem yN (m:av):∀(l:av) (s:St),Clean (outs m s l)
 | [],_=>clean_nil
 | c::t,s=>(Nu m s c).append (yN m t _)
theorem Nv (t:Td)(l:List iN)(e:iN):tells t (l++[e])=tell (tells t l) e:=by unfold tells;rw[fA];rfl
theorem zF (t:Td)(a b:List iN):tells t (a++b)=tells (tells t a) b:=by unfold tells;rw[fA]
theorem BF (l:List iN)(h:Clean l):flush (tells FV l)=lY l∧tailD (tells FV l).es=false:=by
 have:∀n (l:List iN),l.length=n->Clean l->flush (tells FV l)=lY l∧tailD (tells FV l).es=false:=by
  intro n;induction n with
  | zero=>intro l hl _;rw[dw hl];exact⟨rfl,rfl⟩
  | succ n ih =>
    intro l hl hc;rcases bD l with rfl | ⟨q,x,rfl⟩
    . simp at hl
    . rw[bF] at hl hc ⊢;obtain⟨i1,i2⟩:=ih q (by simpa using hl) (fun e he=>hc e (bJ _ he));rw[Nv,DJ,<-i1];generalize tells FV q=t at i1 i2;obtain⟨es,bs⟩:=t;simp only at i2;by_cases hk:x.kind=2
      . obtain⟨hx,hx2⟩:=hc x (by simp) hk;unfold tell;rw[if_pos hk];refine⟨?_,i2⟩;unfold flush nT;simp only;rw[if_neg (by simp[hx2])];by_cases hb:bs=[]
        . subst hb;rw[if_pos rfl,bW,mJ _ _ (fun _=>i2),dz,<-hx]
        . rw[if_neg hb,nN _ _ _ rfl hk];rfl
      . unfold tell;rw[if_neg hk];refine⟨?_,?_⟩
        . rw[mJ _ _ (fun e=>absurd e hk)];show(_++[x])++nT []=_;simp[nT]
        . show tailD (_++[x])=false;rw[rM,aJ hk]
 exact this _ l rfl h
structure Good (m:av)(s:St):Prop where
 place:s.place<=6
 held:s.held<=m.length-1
 idle:s.place≠0->s.held=0
 ln:Ln.Good s.ln
 lc:s.ln.code=0
 many:s.fields.length<=16
 short:∀f∈s.fields,f.1.length<=200∧f.2.length<=200
 bare:s.place≠5->s.ln=Ln.start∧s.fields=[]
 parts:s.parts<=12
 code:s.code<=20
theorem Good.start {m:av}(hm:3<=m.length):Good m start:=⟨aA _,by show 2<=_;omega,fun h=>absurd rfl h,Ln.Good.start,rfl,aA _,(fun f hf=>by cases hf),fun _=>⟨rfl,rfl⟩,aA _,aA _⟩
theorem Good.failed {m:av}{c:Nat}(hc:c<=20):Good m (failed c):=⟨aA _,aA _,fun _=>rfl,Ln.Good.start,rfl,aA _,(fun f hf=>by cases hf),fun _=>⟨rfl,rfl⟩,aA _,hc⟩
theorem Good.done {m:av}:Good m done:=⟨aM _,aA _,fun _=>rfl,Ln.Good.start,rfl,aA _,(fun f hf=>by cases hf),fun _=>⟨rfl,rfl⟩,aA _,aA _⟩
theorem VF (m:av)(h:Nat)(c:UInt8)(hm:0<m.length):Sk.after m h c<=m.length-1:=by
 unfold Sk.after;split
 . exact aA _
 . rename_i hf;have h1:=Sk.Nr m h c;unfold Sk.found at hf;rw[aI hm,Bool.true_and,bR] at hf;omega
theorem DT {s:Ln.St}{c:UInt8}(h:Ln.ends s c=true):Ln.next s c=Ln.start:=by
 unfold Ln.ends at h;rw[bR] at h;obtain⟨h1,h2,h3⟩:=h;unfold Ln.next;rw[if_neg (by omega),if_neg (by omega),if_pos h3];rfl
theorem VG (s:Ln.St)(c:UInt8):Ln.fault s c<=4:=by
 unfold Ln.fault;split
 . split
   . omega
   . split
     . omega
     . split <;> omega
 . omega
theorem Rx {s:Ln.St}(c:UInt8)(h:s.code=0):(Ln.next s c).code<=4:=by
 unfold Ln.next;rw[if_neg (by omega)];split
 . exact VG s c
 . split
   . exact aA _
   . split
     . show s.code<=4;omega
     . show s.code<=4;omega
theorem YW (t:av):(Fd.of t).code<=20:=by
 unfold Fd.of Fd.bad;repeat' split
 all_goals (first | exact aA _ | (simp only;omega) | decide)
theorem Qk (p:Nat)(c:UInt8):(turn p c).1<=6∧(turn p c).2<=20:=by
 unfold turn;repeat' split
 all_goals decide
theorem abD {r:av}{c:Nat}(h:Pm.val r=.inl c):c<=20:=by
 unfold Pm.val at h;repeat' split at h
 all_goals (first | cases h;done | (injection h with h;omega))
theorem abE {r:av}{c:Nat}(h:Pm.par r=.inl c):c<=20:=by
 unfold Pm.par at h;split at h
 . simp only[] at h;split at h
   . injection h with h;omega
   . split at h
     . split at h
       . rename_i hv;injection h with h;subst h;exact abD hv
       . cases h
     . injection h with h;omega
 . injection h with h;omega
theorem Ql:∀(n:Nat) (r:av) (acc:List Pm.tL) (c:Nat),Pm.uG n r acc=.inl c->c<=20
 | 0,r,acc,c,h=>by rw[Pm.uG] at h;cases h
 | n + 1, r, acc, c, h => by
   rw[Pm.uG] at h;split at h
   . cases h
   . split at h
     . rename_i hp;injection h with h;subst h;exact abE hp
     . split at h
       . injection h with h;omega
       . split at h
         . injection h with h;omega
         . exact Ql n _ _ c h
theorem VH {l:av}{c:Nat}(h:Pm.ku l=.inl c):c<=20:=by
 unfold Pm.ku at h;split at h
 . injection h with h;omega
 . split at h
   . rename_i hw;injection h with h;subst h;unfold Pm.wrd at hw;simp only[] at hw;repeat' split at hw
     all_goals (first | (injection hw with hw;omega) | (cases hw;done))
   . unfold Pm.fin at h;split at h
     . rename_i hp;injection h with h;subst h;exact Ql _ _ _ _ hp
     . cases h
theorem YX {fs:List Rq.Fl}{c:Nat}(h:part fs=.inl c):c<=20:=by
 unfold part qh at h;split at h
 . injection h with h;subst h;unfold one;split <;> (first | exact aA _ | decide)
 . split at h
   . rename_i hm;injection h with h;subst h;exact VH hm
   . repeat' split at h
     all_goals (first | (injection h with h;omega) | (cases h;done))
theorem Good.line {m:av}{s:St}(h:Good m s)(hm:3<=m.length)(h5:s.place=5)(hl:s.ln=Ln.start){t:av}(ht:t.length<=200):Good m (line s t).1:=by
 unfold Fm.line;split
 . split
   . exact Good.failed (by omega)
   . split
     . exact Good.failed (YW t)
     . rename_i h16 hf;have:=Fd.AP t;refine⟨h.place,h.held,h.idle,h.ln,h.lc,?_,fun f hf=>?_,fun e=>absurd h5 e,h.parts,h.code⟩
       . have:=h.many;show(s.fields++[_]).length<=16;rw[aW];simp;omega
       . rcases bB.1 hf with hf | hf
         . exact h.short f hf
         . rw[bC.1 hf];exact⟨by show(Fd.of t).name.length<=_;omega,by show(Fd.of t).value.length<=_;omega⟩
 . split
   . rename_i hp;exact Good.failed (YX hp)
   . split
     . exact Good.failed (by omega)
     . rename_i hp;have:=h.parts;exact⟨aA _,by show 2<=_;omega,fun e=>absurd rfl e,h.ln,h.lc,aA _,(fun f hf=>by cases hf),fun _=>⟨hl,rfl⟩,by show s.parts+1<=12;omega,h.code⟩
theorem Good.next {m:av}{s:St}(h:Good m s)(hm:3<=m.length)(c:UInt8):Good m (next m s c).1:=by
 unfold Fm.next;split
 . exact h
 . split
   . rename_i h0;refine⟨?_,VF m _ c (by omega),fun e=>?_,h.ln,h.lc,h.many,h.short,fun _=>h.bare (by omega),h.parts,h.code⟩
     . show(if _ then 1 else 0)<=6;split <;> omega
     . show Sk.after m s.held c=0;unfold Sk.after;cases hf:Sk.found m s.held c
       . exfalso;exact e (by show(if Sk.found m s.held c then 1 else 0)=0;rw[hf];rfl)
       . rfl
   . rename_i h0;split
     . rename_i h5;split
       . exact Good.failed (by have:=Rx c h.lc;omega)
       . rename_i hn;have hg:Good m { s with ln:=Ln.next s.ln c }:=⟨h.place,h.held,h.idle,Ln.tT h.ln,by show(Ln.next s.ln c).code=0;omega,h.many,h.short,fun e=>absurd h5 e,h.parts,h.code⟩;split
         . rename_i he;exact hg.line hm h5 (DT he) (Rq.uK h.ln).1
         . exact hg
     . rename_i h5;split
       . exact Good.failed (Qk _ _).2
       . split
         . exact Good.done
         . rename_i ht h6;exact⟨(Qk _ _).1,h.held,fun _=>h.idle h0,h.ln,h.lc,h.many,h.short,fun _=>h.bare h5,h.parts,h.code⟩
theorem Good.fold {m:av}(hm:3<=m.length):∀(l:av) {s:St},Good m s->Good m (fold m s l)
 | [],_,h=>h
 | c::t,_,h=>Good.fold hm t (h.next hm c)
theorem yO (m:av)(h:Nat)(c:UInt8)(hh:h<=m.length-1):(Sk.out m h c).length+Sk.after m h c<=h+1:=by
 cases hf:Sk.found m h c
 . have h2:=Sk.CZ m h c;unfold Sk.after Sk.out;rw[hf,if_neg (by simp),bY];simp;omega
 . rw[Sk.He hf hh];unfold Sk.after;rw[hf];simp
theorem Hq (l:av):lJ (nT l)=l.length:=by
 unfold nT;split
 . rename_i h;subst h;rfl
 . simp[lJ,jY]
theorem VI (s:St)(t:av):lJ (line s t).2=0∧(line s t).2.length<=1:=by
 unfold line;split
 . split
   . exact⟨rfl,aM _⟩
   . split
     . exact⟨rfl,aM _⟩
     . exact⟨rfl,aA _⟩
 . split
   . exact⟨rfl,aM _⟩
   . split
     . exact⟨rfl,aM _⟩
     . exact⟨rfl,aM _⟩
theorem Ry {s:St}(t:av)(hi:s.held=0):(line s t).1.held<=2:=by
 unfold line;split
 . split
   . exact aA _
   . split
     . exact aA _
     . show s.held<=2;omega
 . split
   . exact aA _
   . split
     . exact aA _
     . exact aM _
theorem VJ {m:av}{s:St}(h:Good m s)(c:UInt8):lJ (next m s c).2+(next m s c).1.held<=s.held+2∧(next m s c).2.length<=2:=by
 unfold next;split
 . exact⟨by show 0+s.held<=_;omega,aA _⟩
 . split
   . have h1:=yO m s.held c h.held;have e1:lJ (if Sk.found m s.held c then [KH] else [])=0:=by split <;> rfl
     have e2:(if Sk.found m s.held c then [KH] else []).length<=1:=by split <;> simp
     have e3:(nT ((Sk.out m s.held c).drop s.ahead)).length<=1:=by unfold nT;split <;> simp
     have e4:((Sk.out m s.held c).drop s.ahead).length<=(Sk.out m s.held c).length:=by rw[bV];omega
     show lJ (if 0<s.parts then _ else _)+Sk.after m s.held c<=_∧(if 0<s.parts then _ else _:List iN).length<=2;split
     . rw[mK,e1,Hq,aW];exact⟨by omega,by omega⟩
     . exact⟨by show 0+_<=_;omega,aA _⟩
   . split
     . rename_i h0 h5;have hi:=h.idle h0;split
       . exact⟨by show 0+0<=_;omega,by show 1<=2;omega⟩
       . split
         . have h1:=VI { s with ln:=Ln.next s.ln c } (Ln.text s.ln c);have h2:=Ry (s:={ s with ln:=Ln.next s.ln c }) (Ln.text s.ln c) hi;exact⟨by omega,by omega⟩
         . exact⟨by show 0+s.held<=_;omega,aA _⟩
     . split
       . exact⟨by show 0+0<=_;omega,by show 1<=2;omega⟩
       . split
         . exact⟨by show 0+0<=_;omega,by show 1<=2;omega⟩
         . exact⟨by show 0+s.held<=_;omega,aA _⟩
theorem nI {m:av}(hm:3<=m.length):∀(l:av) {s:St},Good m s->lJ (outs m s l)+(fold m s l).held<=s.held+2*l.length∧(outs m s l).length<=2*l.length
 | [],_,_=>⟨by show 0+_<=_;simp[fold],aA _⟩
 | c :: t, s, h => by
   have h1:=VJ h c;have h2:=nI hm t (h.next hm c);show lJ ((next m s c).2++outs m (next m s c).1 t)+(fold m (next m s c).1 t).held<=_∧((next m s c).2++outs m (next m s c).1 t).length<=_;rw[mK,aW,aX];exact⟨by omega,by omega⟩
end Go.Proofs.YtjmndjmhjleabaaGreatDoor.Fm
namespace Go.Proofs.YtjmndjmhjleabaaGreatDoor
namespace Fm
structure uJ (e:iN):Prop where
 method:e.method.size=0
 target:e.target.size=0
 fields:e.fields=[]
 iw:e.iw=[]
 kW:e.kW.size<=200
 kJ:e.kJ.size<=200
 ptype:e.ptype.size<=200
theorem Hr (b:av):uJ (jY b):=⟨rfl,rfl,rfl,rfl,aA _,aA _,aA _⟩
theorem qV (c:Nat):uJ (VB c):=⟨rfl,rfl,rfl,rfl,aA _,aA _,aA _⟩
theorem KR (l:av):(safe l).length<=40:=by
 unfold safe named;split
 . decide
 . rw[bY];omega
theorem get_mem {n:av}{ps:List Pm.tL}{v:av}(h:get n ps=some v):∃p∈ps,p.2=v:=by
 unfold get at h;obtain⟨p,hp,rfl⟩:=fG.1 h;exact⟨p,List.mem_of_find?_eq_some hp,rfl⟩
theorem VK {ps:List Pm.tL}{f:av}(h:file ps=some f):f.length<=40:=by
 unfold file at h;split at h
 . obtain⟨x,_,rfl⟩:=fG.1 h;exact KR x
 . split at h
   . injection h with h;subst h;exact KR _
   . injection h with h;subst h;exact aA _
theorem Qn {vs:List (av)}{N:Nat}(h:∀v∈vs,v.length<=N):(one vs).1.length<=N:=by
 unfold one;split
 . exact aA _
 . exact h _ (by simp)
 . exact aA _
theorem KS {fs:List Rq.Fl}{n:av}{N:Nat}(h:∀f∈fs,f.2.length<=N):∀v∈Rq.vals fs n,v.length<=N:=fun v hv=>by
 unfold Rq.vals at hv;obtain⟨f,hf,rfl⟩:=aN.1 hv;exact h f (List.mem_filter.1 hf).1
theorem VL {fs:List Rq.Fl}{p:YU}{N:Nat}(h:part fs=.inr p)(hf:∀f∈fs,f.2.length<=N):p.name.length<=N∧p.file.length<=40∧p.type.length<=N:=by
 have hd:=Qn (KS (n:=VA) hf);have ht:=Qn (KS (n:=nType) hf);unfold part qh at h;split at h
 . cases h
 . split at h
   . cases h
   . rename_i x hm;split at h
     . cases h
     . split at h
       . cases h
       . rename_i nm hn;split at h
         . cases h
         . rename_i f hfl;split at h
           . cases h
           . injection h with h;subst h;obtain⟨q,hq,e⟩:=get_mem hn;have:=(Pm.AQ hm).2 q hq;exact⟨by show nm.length<=N;rw[<-e];omega,VK hfl,ht⟩
theorem Rz {m:av}{s:St}(h:Good m s)(t:av):∀e∈(line s t).2,uJ e:=by
 unfold line;split
 . split
   . intro e he;rw[bC.1 he];exact qV 8
   . split
     . intro e he;rw[bC.1 he];exact qV _
     . intro e he;cases he
 . split
   . intro e he;rw[bC.1 he];exact qV _
   . split
     . intro e he;rw[bC.1 he];exact qV 8
     . rename_i p hp _;have:=VL hp (fun f hf=>(h.short f hf).2);intro e he;rw[bC.1 he];refine⟨rfl,rfl,rfl,rfl,?_,?_,?_⟩
       . show p.name.toArray.size<=_;rw[bM];omega
       . show p.file.toArray.size<=_;rw[bM];omega
       . show p.type.toArray.size<=_;rw[bM];omega
theorem RA {m:av}{s:St}(h:Good m s)(c:UInt8):∀e∈(next m s c).2,uJ e:=by
 unfold next;split
 . intro e he;cases he
 . split
   . show ∀e∈(if 0<s.parts then _ else _),uJ e;split
     . intro e he;rcases bB.1 he with he | he
       . unfold nT at he;split at he
         . cases he
         . rw[bC.1 he];exact Hr _
       . split at he
         . rw[bC.1 he];exact⟨rfl,rfl,rfl,rfl,aA _,aA _,aA _⟩
         . cases he
     . intro e he;cases he
   . split
     . rename_i h5;split
       . intro e he;rw[bC.1 he];exact qV _
       . rename_i hn;split
         . exact Rz (m:=m) (s:={ s with ln:=Ln.next s.ln c }) ⟨h.place,h.held,h.idle,Ln.tT h.ln,by show(Ln.next s.ln c).code=0;omega,h.many,h.short,fun e=>absurd h5 e,h.parts,h.code⟩ _
         . intro e he;cases he
     . split
       . intro e he;rw[bC.1 he];exact qV _
       . split
         . intro e he;rw[bC.1 he];exact⟨rfl,rfl,rfl,rfl,aA _,aA _,aA _⟩
         . intro e he;cases he
theorem qU {m:av}(hm:3<=m.length):∀(l:av) {s:St},Good m s->∀e∈outs m s l,uJ e
 | [],_,_=>fun e he=>by cases he
 | c :: t, s, h => fun e he => by
   rcases bB.1 he with he | he
   . exact RA h c e he
   . exact qU hm t (h.next hm c) e he
theorem oM {l:List iN}(h:∀e∈l,uJ e):∀e∈lY l,uJ e:=Ru Hr l h
end Fm
end Go.Proofs.YtjmndjmhjleabaaGreatDoor
namespace Go.Proofs.YtjmndjmhjleabaaGreatDoor.Fm
theorem RB (m:av){s:St}(hp:s.place=5)(hc:s.code=0)(c:UInt8):next m s c=if (Ln.next s.ln c).code≠0 then fails (Ln.next s.ln c).code else if Ln.ends s.ln c then line { s with ln:=Ln.next s.ln c } (Ln.text s.ln c) else ({ s with ln:=Ln.next s.ln c },[]):=by
 unfold next;rw[if_neg (fun h=>h ⟨hc,by omega⟩),if_neg (by omega),if_pos hp]
theorem KT {c:Nat}(h:c≠0):¬live (failed c):=fun k=>h k.1
theorem RD:¬live done:=fun k=>k.2 rfl
theorem BI (t:Td)(l:av):tells t (nT l)=⟨t.es,t.bs++l⟩:=by
 unfold nT;split
 . rename_i h;subst h;rw[bW];rfl
 . show tell t (jY l)=_;unfold tell;rw[if_pos (show(jY l).kind=2 from rfl)];rfl
theorem RF (m:av){s:St}(hp:s.place=1∨s.place=2∨s.place=3∨s.place=4)(hc:s.code=0)(c:UInt8):next m s c=if (turn s.place c).2≠0 then fails (turn s.place c).2 else if (turn s.place c).1=6 then (done,[ad5]) else ({ s with place:=(turn s.place c).1 },[]):=by
 unfold next;rw[if_neg (fun h=>h ⟨hc,by omega⟩),if_neg (by omega),if_neg (by omega)]
theorem RG (p:Nat)(c:UInt8):(turn p c).1=6->(turn p c).2=0:=by
 unfold turn;repeat' split
 all_goals (intro h;first | rfl | (cases h;done))
theorem RH {s:St}{fs:List Rq.Fl}{p:YU}(hp:part fs=.inr p)(h12:s.parts≠12):line { s with fields:=fs } []=({ s with fields:=[],parts:=s.parts+1,place:=0,held:=2,ahead:=2 },[Qh p]):=by
 unfold line;rw[if_neg (fun h=>h rfl)];simp only[hp];rw[if_neg h12]
theorem VN {r:av}{c:Nat}(h:Pm.val r=.inl c):c≠0:=by
 unfold Pm.val at h;repeat' split at h
 all_goals (first | cases h;done | (injection h with h;omega))
theorem VO {r:av}{c:Nat}(h:Pm.par r=.inl c):c≠0:=by
 unfold Pm.par at h;split at h
 . simp only[] at h;split at h
   . injection h with h;omega
   . split at h
     . split at h
       . rename_i hv;injection h with h;subst h;exact VN hv
       . cases h
     . injection h with h;omega
 . injection h with h;omega
theorem Ht:∀(n:Nat) (r:av) (acc:List Pm.tL) (c:Nat),Pm.uG n r acc=.inl c->c≠0
 | 0,r,acc,c,h=>by rw[Pm.uG] at h;cases h
 | n + 1, r, acc, c, h => by
   rw[Pm.uG] at h;split at h
   . cases h
   . split at h
     . rename_i hp;injection h with h;subst h;exact VO hp
     . split at h
       . injection h with h;omega
       . split at h
         . injection h with h;omega
         . exact Ht n _ _ c h
theorem DU {l:av}{c:Nat}(h:Pm.ku l=.inl c):c≠0:=by
 unfold Pm.ku at h;split at h
 . injection h with h;omega
 . split at h
   . rename_i hw;injection h with h;subst h;unfold Pm.wrd at hw;simp only[] at hw;repeat' split at hw
     all_goals (first | (injection hw with hw;omega) | (cases hw;done))
   . unfold Pm.fin at h;split at h
     . rename_i hp;injection h with h;subst h;exact Ht _ _ _ _ hp
     . cases h
theorem RI {fs:List Rq.Fl}{c:Nat}(h:part fs=.inl c):c≠0:=by
 unfold part qh at h;split at h
 . rename_i hd;injection h with h;subst h;exact hd
 . split at h
   . rename_i hm;injection h with h;subst h;exact DU hm
   . repeat' split at h
     all_goals (first | (injection h with h;omega) | (cases h;done))
theorem Ny (s:St)(t:av)(h:s.ahead<=2):(line s t).1.ahead<=2:=by
 unfold line;split
 . split
   . exact aA _
   . split
     . exact aA _
     . exact h
 . split
   . exact aA _
   . split
     . exact aA _
     . exact aM _
theorem Nz (m:av)(s:St)(c:UInt8)(h:s.ahead<=2):(next m s c).1.ahead<=2:=by
 unfold next;split
 . exact h
 . split
   . show s.ahead-_<=2;omega
   . split
     . split
       . exact aA _
       . split
         . exact Ny _ _ h
         . exact h
     . split
       . exact aA _
       . split
         . exact aA _
         . exact h
theorem DV (m:av):∀(l:av) (s:St),s.ahead<=2->(fold m s l).ahead<=2
 | [],_,h=>h
 | c::t,s,h=>DV m t _ (Nz m s c h)
theorem RJ {m:av}(hm:3<=m.length){s:St}(h:Good m s)(l:av):(tells FV (outs m s l)).es.length<=2*l.length∧(tells FV (outs m s l)).bs.length<=s.held+2*l.length:=by
 obtain⟨h1,h2⟩:=nI hm l h;have h3:=(BF _ (yN m l s)).1;have h4:=uH (outs m s l);have h5:=Hf (outs m s l);rw[<-h3] at h4 h5;generalize tells FV (outs m s l)=t at *;obtain⟨es,bs⟩:=t;unfold flush at h4 h5;simp only at *;rw[aW] at h4;rw[mK,Hq] at h5;exact⟨by omega,by omega⟩
theorem DW (b:av)(h:b≠[])(hb:b.length<=70):(mark b).take 2=[13,10]∧5<=(mark b).length∧(mark b).length<=74:=by
 refine⟨rfl,?_,?_⟩
 . have:=fE.2 h;show 5<=b.length+1+1+1+1;omega
 . show b.length+1+1+1+1<=74;omega
def kN (l:List iN):Prop:=∃x∈l,x.kind=5
def zH (l:List iN):Prop:=∀q e r,l=q++e::r->e.kind=2->kN q
theorem kN.left {a b:List iN}(h:kN a):kN (a++b):=by obtain⟨x,hx,hk⟩:=h;exact⟨x,bJ _ hx,hk⟩
theorem zH.nil:zH []:=fun q e r h=>by
 have:=bE List.length h;rw[aW,aX,cu] at this;omega
theorem zH.snoc {q:List iN}{e:iN}(h:zH q)(he:e.kind=2->kN q):zH (q++[e]):=by
 intro q2 e2 r h2 hk;rcases bD r with rfl | ⟨r',x,rfl⟩
 . obtain⟨h3,h4⟩:=bH h2 rfl;subst h3;injection h4 with h4;subst h4;exact he hk
 . rw[bF,<-dZ,<-dU] at h2;obtain⟨h3,_⟩:=bH h2 rfl;exact h q2 e2 r' h3 hk
theorem zH.front {a b:List iN}(h:zH (a++b)):zH a:=fun q e r h2 hk=>h q e (r++b) (by rw[h2];simp) hk
theorem KU {l:List iN}{e:iN}(h:kN l∨e.kind=5):kN (vM l e):=by
 by_cases hm:e.kind=2∧tailD l=true
 . obtain⟨q,x,rfl,hx⟩:=pK hm.2;rw[nN q x e hx hm.1];rcases h with ⟨y,hy,hk⟩ | h
   . rcases bB.1 hy with hy | hy
     . exact⟨y,bJ _ hy,hk⟩
     . rw[bC.1 hy,hx] at hk;cases hk
   . rw[hm.1] at h;cases h
 . rw[mJ l e (fun k=>by
    cases ht:tailD l
    . rfl
    . exact absurd ⟨k,ht⟩ hm)]
   rcases h with h | h
   . exact h.left
   . exact⟨e,by simp,h⟩
theorem KV:∀(n:Nat) (l:List iN),l.length=n->zH l->zH (lY l)∧(kN l->kN (lY l))
 | 0,l,hn,_=>by rw[dw hn];exact⟨zH.nil,fun h=>h⟩
 | n + 1, l, hn, h => by
   rcases bD l with rfl | ⟨q,x,rfl⟩
   . exact⟨zH.nil,fun h=>h⟩
   . rw[bF] at hn h ⊢;obtain⟨i1,i2⟩:=KV n q (by simpa using hn) h.front;have hx:x.kind=2->kN q:=fun hk=>h q x [] rfl hk;rw[DJ];refine⟨?_,fun hp=>KU ?_⟩
     . by_cases hm:x.kind=2∧tailD (lY q)=true
       . obtain⟨p,y,hpy,hy⟩:=pK hm.2;rw[hpy] at i1 ⊢;rw[nN p y x hy hm.1];exact i1.front.snoc (fun _=>i1 p y [] rfl hy)
       . rw[mJ _ x (fun k=>by
          cases ht:tailD (lY q)
          . rfl
          . exact absurd ⟨k,ht⟩ hm)]
         exact i1.snoc (fun hk=>i2 (hx hk))
     . obtain⟨y,hy,hk⟩:=hp;rcases bB.1 hy with hy | hy
       . exact Or.inl (i2 ⟨y,hy,hk⟩)
       . rw[bC.1 hy] at hk;exact Or.inr hk
theorem zH.none_ {a b:List iN}(h:zH a)(hb:∀e∈b,e.kind≠2):zH (a++b):=by
 induction b generalizing a with
 | nil=>rw[bW];exact h
 | cons e r ih =>
   have:=ih (h.snoc (e:=e) (fun k=>absurd k (hb e (cK ..)))) (fun x hx=>hb x (cO _ hx));rw[dU] at this;exact this
theorem zH.some_ {a b:List iN}(h:zH a)(hp:kN a):zH (a++b):=by
 induction b generalizing a with
 | nil=>rw[bW];exact h
 | cons e r ih =>
   have:=ih (h.snoc (e:=e) (fun _=>hp)) hp.left;rw[dU] at this;exact this
theorem NA (s:St)(t:av):(∀e∈(line s t).2,e.kind≠2)∧(0<(line s t).1.parts->0<s.parts∨kN (line s t).2):=by
 unfold line;split
 . split
   . exact⟨fun e he=>by rw[bC.1 he];show(4:Int)≠2;decide,fun h=>absurd h (by decide)⟩
   . split
     . exact⟨fun e he=>by rw[bC.1 he];show(4:Int)≠2;decide,fun h=>absurd h (Nat.lt_irrefl 0)⟩
     . exact⟨(fun e he=>by cases he),fun h=>Or.inl h⟩
 . split
   . exact⟨fun e he=>by rw[bC.1 he];show(4:Int)≠2;decide,fun h=>absurd h (Nat.lt_irrefl 0)⟩
   . split
     . exact⟨fun e he=>by rw[bC.1 he];show(4:Int)≠2;decide,fun h=>absurd h (by decide)⟩
     . rename_i p _ _;exact⟨fun e he=>by rw[bC.1 he];show(5:Int)≠2;decide,fun _=>Or.inr ⟨Qh p,by simp,rfl⟩⟩
theorem VP {m:av}{s:St}(c:UInt8){o:List iN}(h:zH o)(hp:0<s.parts->kN o):zH (o++(next m s c).2)∧(0<(next m s c).1.parts->kN (o++(next m s c).2)):=by
 unfold next;split
 . exact⟨by rw[bW];exact h,fun k=>(hp k).left⟩
 . split
   . show zH (o++if 0<s.parts then _ else _)∧(0<s.parts->_);by_cases hq:0<s.parts
     . rw[if_pos hq];exact⟨h.some_ (hp hq),fun _=>(hp hq).left⟩
     . rw[if_neg hq];exact⟨by rw[bW];exact h,fun k=>absurd k hq⟩
   . split
     . split
       . exact⟨h.none_ (fun e he=>by rw[bC.1 he];show(4:Int)≠2;decide),fun k=>absurd k (Nat.lt_irrefl 0)⟩
       . split
         . obtain⟨k1,k2⟩:=NA { s with ln:=Ln.next s.ln c } (Ln.text s.ln c);refine⟨h.none_ k1,fun k=>?_⟩;rcases k2 k with k | ⟨x,hx,hk⟩
           . exact(hp k).left
           . exact⟨x,dS _ hx,hk⟩
         . exact⟨by rw[bW];exact h,fun k=>(hp k).left⟩
     . split
       . exact⟨h.none_ (fun e he=>by rw[bC.1 he];show(4:Int)≠2;decide),fun k=>absurd k (Nat.lt_irrefl 0)⟩
       . split
         . exact⟨h.none_ (fun e he=>by rw[bC.1 he];show(3:Int)≠2;decide),fun k=>absurd k (Nat.lt_irrefl 0)⟩
         . exact⟨by rw[bW];exact h,fun k=>(hp k).left⟩
theorem KW (m:av):∀(l:av) (s:St) (o:List iN),zH o->(0<s.parts->kN o)->zH (o++outs m s l)
 | [],_,o,h,_=>by show zH (o++[]);rw[bW];exact h
 | c :: t, s, o, h, hp => by
   obtain⟨h1,h2⟩:=VP (m:=m) c h hp;have:=KW m t (next m s c).1 (o++(next m s c).2) h1 h2;rw[dU] at this;exact this
theorem VQ (m l:av):zH (lY (outs m start l)):=(KV _ _ rfl (by have:=KW m l start [] zH.nil (fun h=>absurd h (by decide));simpa using this)).1
theorem zH.at_ {l:List iN}(h:zH l){k:Nat}(hk:k<l.length)(h2:l[k].kind=2):kN (l.take k):=h (l.take k) l[k] (l.drop (k+1)) (by rw[<-aD hk,bX]) h2
structure Pt where
 name:ay
 file:ay
 type:ay
 bytes:av
def laid (acc:List Pt)(e:iN):List Pt:=if e.kind=5 then acc++[⟨e.kW,e.kJ,e.ptype,e.iw⟩] else if e.kind=2 then acc.dropLast++(acc.getLast?.map fun p=>{ p with bytes:=e.bytes }).toList else acc
def pR (l:List iN):List Pt:=l.foldl laid []
theorem Hu (l:List iN)(e:iN):pR (l++[e])=laid (pR l) e:=by unfold pR;rw[fA];rfl
theorem BJ (acc:List Pt)(e:iN):acc.length<=(laid acc e).length∧(laid acc e).length<=acc.length+1:=by
 unfold laid;split
 . simp
 . split
   . rcases bD acc with rfl | ⟨q,x,rfl⟩
     . simp
     . rw[bF,fu,fq];simp
   . simp
theorem Hw:∀(n:Nat) (l:List iN),l.length=n->kN l->0<(pR l).length
 | 0,l,hn,⟨x,hx,_⟩=>by rw[dw hn] at hx;cases hx
 | n + 1, l, hn, h => by
   rcases bD l with rfl | ⟨q,x,rfl⟩
   . obtain⟨_,hx,_⟩:=h;cases hx
   . rw[bF] at hn h ⊢;rw[Hu];obtain⟨y,hy,hk⟩:=h;rcases bB.1 hy with hy | hy
     . have:=Hw n q (by simpa using hn) ⟨y,hy,hk⟩;have:=(BJ (pR q) x).1;omega
     . rw[bC.1 hy] at hk;unfold laid;rw[if_pos hk];simp
theorem BK (l:List iN):(pR l).length<=l.length:=by
 have:∀(m:List iN) (o:List Pt),(m.foldl laid o).length<=o.length+m.length:=by
  intro m;induction m with
  | nil=>intro o;simp
  | cons e r ih=>intro o;rw[dQ];have h1:=ih (laid o e);have h2:=(BJ o e).2;simp only[aX];omega
 have h:=this l [];simpa[pR] using h
end Go.Proofs.YtjmndjmhjleabaaGreatDoor.Fm
namespace Go.Proofs.YtjmndjmhjleabaaGreatDoor.Gt
open Sr
def txt (l:av):ay:=⟨l.toArray⟩
def ny (l:List Rq.Fl):au:=l.map fun p=>(txt p.1,txt p.2)
abbrev zk:=Nat×au×av
def NC:av:=[98,111,117,110,100,97,114,121]
def Qo:av:=[109,117,108,116,105,112,97,114,116,47,102,111,114,109,45,100,97,116,97]
def aaE:ay:=⟨#[47,102,111,114,109]⟩
def GV:ay:=⟨#[80,79,83,84]⟩
def ND:ay:=⟨#[80,65,84,67,72]⟩
def BD:av:=[102,105,108,101,110,97,109,101,32]
def Jf (t:ay):Bool:=decide (7<=t.size)&&decide (t.data.toList.take 7=Tu.lI.data.toList)
def ours (t:ay):Bool:=decide (t=Tu.sZ)||Jf t
def bound (l:au):Option (av) :=
 if (Tu.one (Tu.vals Tu.MV l)).2≠0 then none
 else match Pm.ku (Tu.one (Tu.vals Tu.MV l)).1 with
  | .inl _=>none
  | .inr x=>if x.1≠Qo then none else Fm.get NC x.2
def parts (b body:av):Option (List Fm.Pt) :=
 if Fm.lK b=true∧Fm.close (Fm.fold (Fm.mark b) Fm.start body)=0 then some (Fm.pR (lY (Fm.outs (Fm.mark b) Fm.start body))) else none
def room (ps:List Fm.Pt):Nat:=(ps.map fun p=>p.bytes.length+200).sum
def pq (s:Sh)(ids:List Int):Sh:=ids.foldl (fun s i=>(Sr.drop s i).1) s
def stat (c:Nat):Nat:=if c=4 then 413 else 507
def toldOf (id:Int)(f:ay):av:=Ch.jH 8 id.toNat++[32]++f.data.toList++[10]
def jf (p:Fm.Pt):ay:=txt (BD++p.file.data.toList)
def lands (s:Sh)(made:List Int)(told:av):List Fm.Pt->Sh×zk
 | []=>(Sr.sync s,(201,[],told))
 | p :: r =>
   if p.file.size=0 then lands s made told r
   else if (Sr.create s p.bytes.length (jf p)).2≠0 then (Sr.sync (pq s made),(stat (Sr.create s p.bytes.length (jf p)).2,[],[]))
   else if (Sr.append (Sr.create s p.bytes.length (jf p)).1 (s.h.last+1) 0 p.bytes).2≠0 then
    (Sr.sync (pq (Sr.drop (Sr.create s p.bytes.length (jf p)).1 (s.h.last+1)).1 made),(stat (Sr.append (Sr.create s p.bytes.length (jf p)).1 (s.h.last+1) 0 p.bytes).2,[],[]))
   else lands (Sr.append (Sr.create s p.bytes.length (jf p)).1 (s.h.last+1) 0 p.bytes).1 (made++[s.h.last+1]) (told++toldOf (s.h.last+1) p.file) r
def land (s:Sh)(l:au)(body:av):Sh×zk:=match bound l with
 | none=>(s,(415,[],[]))
 | some b => match parts b body with
   | none=>(s,(400,[],[]))
   | some ps=>if 100000<s.log.length+room ps then (s,(507,[],[])) else lands s [] [] ps
abbrev abF:=Sh->ay->ay->au->av->Sh×Tu.zk
section
variable (T:abF)
def answer (s:Sh)(m t:ay)(l:au)(body:av):Sh×zk :=
 if ours t=true then ((T s m t l body).1,((T s m t l body).2.1,(T s m t l body).2.2,[]))
 else if t≠aaE then (s,(404,[],[]))
 else if m≠GV then (s,(405,[],[]))
 else land s l body
def over (s:Sh)(h:Rq.Hd)(body:av):Sh×zk:=answer T s (txt h.method) (txt h.target) (ny h.fields) body
def textOf (r:zk):av:=(Rp.text (r.1:Int) r.2.1 (Tu.vals ⟨#[99,111,110,116,101,110,116,45,108,101,110,103,116,104]⟩ r.2.1).length r.2.2).1
def sK (c:Nat):zk:=(if c=4 then 413 else 400,[],[])
/-! ### events -/
structure Gs where
 s:Sh
 hd:Rq.Hd
 body:av
 out:av
def ev (g:Gs):Rq.Ev->Gs
 | .head h=>{ g with hd:=h }
 | .body b=>{ g with body:=g.body++b }
 | .fin=>{ s:=(over T g.s g.hd g.body).1,hd:=Rq.hd0,body:=[],out:=g.out++textOf (over T g.s g.hd g.body).2 }
 | .fail c=>{ s:=g.s,hd:=Rq.hd0,body:=[],out:=g.out++textOf (sK c) }
def evs (g:Gs)(l:List Rq.Ev):Gs:=l.foldl (ev T) g
theorem pU (g:Gs)(e:Rq.Ev)(l:List Rq.Ev):evs T g (e::l)=evs T (ev T g e) l:=rfl
theorem DX (g:Gs)(a b:List Rq.Ev):evs T g (a++b)=evs T (evs T g a) b:=by unfold evs;rw[fA]
theorem abG (g:Gs)(a b:av):ev T (ev T g (.body a)) (.body b)=ev T g (.body (a++b)):=by
 show(⟨g.s,g.hd,(g.body++a)++b,g.out⟩:Gs)=⟨g.s,g.hd,g.body++(a++b),g.out⟩;rw[dU]
theorem vZ:∀(l:List Rq.Ev) (g:Gs),evs T g (Rq.join l)=evs T g l
 | [],_=>rfl
 | .head h::r,g=>vZ r (ev T g (.head h))
 | .fin::r,g=>vZ r (ev T g .fin)
 | .fail c::r,g=>vZ r (ev T g (.fail c))
 | .body a :: r, g => by
   have ih:=vZ r (ev T g (.body a));rw[pU T g (.body a) r,<-ih];show evs T g (match Rq.join r with
    | .body b::q=>.body (a++b)::q
    | q=>.body a::q)=_
   cases hq:Rq.join r with
   | nil=>rfl
   | cons e q =>
     cases e with
     | body b=>rw[pU,pU,abG]
     | head _=>rfl
     | fin=>rfl
     | fail _=>rfl
theorem VR (g:Gs)(o:av)(e:Rq.Ev):ev T { g with out:=o++g.out } e={ ev T g e with out:=o++(ev T g e).out }:=by
 cases e with
 | head h=>rfl
 | body b=>rfl
 | fin=>simp only[ev,dU]
 | fail c=>simp only[ev,dU]
theorem Qp:∀(l:List Rq.Ev) (g:Gs) (o:av),evs T { g with out:=o++g.out } l={ evs T g l with out:=o++(evs T g l).out }
 | [],_,_=>rfl
 | e :: r, g, o => by
   rw[pU,pU,VR];exact Qp r (ev T g e) o
/-! ### a connection -/
structure Cn where
 rq:Rq.St
 hd:Rq.Hd
 body:av
def qD:Cn:=⟨Rq.start,Rq.hd0,[]⟩
def at_ (s:Sh)(c:Cn):Gs:=⟨s,c.hd,c.body,[]⟩
def DY (s:Sh)(c:Cn)(b:av):Gs:=evs T (at_ s c) (Rq.outs c.rq b)
def feed (s:Sh)(c:Cn)(b:av):Sh×Cn×av:=((DY T s c b).s,⟨Rq.fold c.rq b,(DY T s c b).hd,(DY T s c b).body⟩,(DY T s c b).out)
theorem VT (s:Sh)(c:Cn):feed T s c []=(s,c,[]):=rfl
theorem BL (s:Sh)(c:Cn)(a b:av):feed T s c (a++b)=((feed T (feed T s c a).1 (feed T s c a).2.1 b).1,(feed T (feed T s c a).1 (feed T s c a).2.1 b).2.1,(feed T s c a).2.2++(feed T (feed T s c a).1 (feed T s c a).2.1 b).2.2):=by
 have hg:DY T s c (a++b)={ DY T (feed T s c a).1 (feed T s c a).2.1 b with out:=(DY T s c a).out++(DY T (feed T s c a).1 (feed T s c a).2.1 b).out }:=by
  unfold DY;rw[Rq.jF,DX];have:=Qp T (Rq.outs (Rq.fold c.rq a) b) (at_ (feed T s c a).1 (feed T s c a).2.1) (evs T (at_ s c) (Rq.outs c.rq a)).out;rw[show({ at_ (feed T s c a).1 (feed T s c a).2.1 with out:=(evs T (at_ s c) (Rq.outs c.rq a)).out++(at_ (feed T s c a).1 (feed T s c a).2.1).out }:Gs)=evs T (at_ s c) (Rq.outs c.rq a) from by
   show(⟨_,_,_,_++[]⟩:Gs)=_;rw[bW];rfl] at this
  exact this
 unfold feed;rw[hg,Rq.jM];rfl
def feeds (s:Sh)(c:Cn):List (av)->Sh×Cn×av
 | []=>(s,c,[])
 | b::r=>((feeds (feed T s c b).1 (feed T s c b).2.1 r).1,(feeds (feed T s c b).1 (feed T s c b).2.1 r).2.1,(feed T s c b).2.2++(feeds (feed T s c b).1 (feed T s c b).2.1 r).2.2)
theorem rP:∀(l:List (av)) (s:Sh) (c:Cn),feeds T s c l=feed T s c l.flatten
 | [],s,c=>(VT T s c).symm
 | b :: r, s, c => by
   rw[List.flatten_cons,BL];unfold feeds;rw[rP r]
/-! ### what holds of it -/
theorem uL:∀(ids:List Int) {s:Sh},Sr.Ok s->Sr.Ok (pq s ids)
 | [],_,h=>h
 | i::r,_,h=>uL r (h.drop i)
theorem DZ:∀(ps:List Fm.Pt) {s:Sh} (made:List Int) (told:av),Sr.Ok s->Sr.Ok (lands s made told ps).1
 | [],_,_,_,h=>h.sync
 | p :: r, s, made, told, h => by
   unfold lands;split
   . exact DZ r made told h
   . split
     . exact(uL made h).sync
     . split
       . exact(uL made ((h.create _ _).drop _)).sync
       . exact DZ r _ _ ((h.create _ _).append _ _ _)
theorem Y2 {s:Sh}(h:Sr.Ok s)(l:au)(body:av):Sr.Ok (land s l body).1:=by
 unfold land;split
 . exact h
 . split
   . exact h
   . split
     . exact h
     . exact DZ _ _ _ h
theorem RL (hT:∀{s:Sh},Sr.Ok s->∀m t l body,Sr.Ok (T s m t l body).1){s:Sh}(h:Sr.Ok s)(m t:ay)(l:au)(body:av):Sr.Ok (answer T s m t l body).1:=by
 unfold answer;split
 . exact hT h _ _ _ _
 . split
   . exact h
   . split
     . exact h
     . exact Y2 h l body
theorem VU (hT:∀{s:Sh},Sr.Ok s->∀m t l body,Sr.Ok (T s m t l body).1){g:Gs}(h:Sr.Ok g.s)(e:Rq.Ev):Sr.Ok (ev T g e).s:=by
 cases e with
 | head _=>exact h
 | body _=>exact h
 | fin=>exact RL T hT h _ _ _ _
 | fail _=>exact h
theorem VW (hT:∀{s:Sh},Sr.Ok s->∀m t l body,Sr.Ok (T s m t l body).1):∀(l:List Rq.Ev) {g:Gs},Sr.Ok g.s->Sr.Ok (evs T g l).s
 | [],_,h=>h
 | e::r,_,h=>VW hT r (VU T hT h e)
theorem Y3 (hT:∀{s:Sh},Sr.Ok s->∀m t l body,Sr.Ok (T s m t l body).1){s:Sh}(h:Sr.Ok s)(c:Cn)(b:av):Sr.Ok (feed T s c b).1:=VW T hT (g:=at_ s c) _ h
end
section
variable (T:abF)
def Quiet (l:List Rq.Ev):Prop:=∀e∈l,e≠.fin
theorem Quiet.left {a b:List Rq.Ev}(h:Quiet (a++b)):Quiet a:=fun e he=>h e (bJ _ he)
theorem Quiet.right {a b:List Rq.Ev}(h:Quiet (a++b)):Quiet b:=fun e he=>h e (dS _ he)
theorem uM:∀(l:List Rq.Ev),Quiet (Rq.join l)->Quiet l
 | [],_=>fun e he=>by cases he
 | .head h :: r, hq => fun e he => by
   rcases fB.1 he with rfl | he
   . simp
   . exact uM r (fun e he=>hq e (cO _ he)) e he
 | .fin::r,hq=>absurd rfl (hq .fin (cK ..))
 | .fail c :: r, hq => fun e he => by
   rcases fB.1 he with rfl | he
   . simp
   . exact uM r (fun e he=>hq e (cO _ he)) e he
 | .body a :: r, hq => fun e he => by
   rcases fB.1 he with rfl | he
   . simp
   . refine uM r (fun x hx=>?_) e he;have hj:Rq.join (.body a::r)=(match Rq.join r with
      | .body b::q=>.body (a++b)::q
      | q=>.body a::q):=rfl
     rw[hj] at hq;cases hr:Rq.join r with
     | nil=>rw[hr] at hx;cases hx
     | cons y q =>
       rw[hr] at hx hq;cases y with
       | body b =>
         rcases fB.1 hx with rfl | hx
         . simp
         . exact hq x (cO _ hx)
       | head h=>exact hq x (cO _ hx)
       | fin=>exact hq x (cO _ hx)
       | fail c=>exact hq x (cO _ hx)
theorem Hy:∀(l:List Rq.Ev) (g:Gs),Quiet l->(evs T g l).s=g.s
 | [],_,_=>rfl
 | e :: r, g, h => by
   rw[pU,Hy r _ (fun x hx=>h x (cO _ hx))];cases e with
   | head _=>rfl
   | body _=>rfl
   | fin=>exact absurd rfl (h .fin (cK ..))
   | fail _=>rfl
theorem NG (s:Sh)(c:Cn)(b:av)(h:Quiet (Rq.outs c.rq b)):(feed T s c b).1=s:=Hy T _ (at_ s c) h
end
structure Small (r:zk):Prop where
 few:r.2.1.length<=5
 fields:∀p∈r.2.1,p.1.size<=2000∧p.2.size<=2000
 body:r.2.2.length<=2000
theorem Small.bare (st:Nat):Small (st,[],[]):=⟨aA _,fun p hp=>by simp at hp,aA _⟩
def FS (r:Tu.zk):Prop:=r.2.length<=5∧∀p∈r.2,p.1.size<=2000∧p.2.size<=2000
theorem zP (n:Nat):(Tu.dec n).size<=9:=by
 unfold Tu.dec;show(Ch.jH 8 n).toArray.size<=_;rw[bM];exact(Ch.jX 8 n).1
theorem Da (st:Nat)(l:au)(hl:l.length<=4)(h:∀p∈l,p.1.size<=2000∧p.2.size<=2000):FS (Tu.said st l):=by
 refine⟨by show l.length+1<=5;omega,fun p hp=>?_⟩;rcases fB.1 hp with rfl | hp
 . exact⟨by decide,by decide⟩
 . exact h p hp
theorem ng (st:Nat):FS (Tu.said st []):=Da st [] (aA _) (fun p hp=>by cases hp)
theorem NU (st:Nat)(a b:ay)(ha:a.size<=2000)(hb:b.size<=2000):FS (Tu.said st [(a,b)]):=Da st _ (by show(1:Nat)<=4;omega) (fun p hp=>by
 rw[bC.1 hp];exact⟨ha,hb⟩)
theorem Zm (s:Sh)(m:ay)(l:au):FS (Tu.post s m l).2:=by
 unfold Tu.post;repeat' split
 all_goals first
  | exact ng _
  | exact NU _ _ _ (by decide) (by rw[bN];have:=zP (s.h.last+1).toNat;have:Tu.lI.size=7:=rfl;omega)
theorem Wi (s:Sh)(u:Sp.Up)(l:au)(body:av):FS (Tu.patch s u l body).2:=by
 unfold Tu.patch;split
 . exact ng _
 . split
   . exact ng _
   . split
     . exact ng _
     . split
       . exact ng _
       . split
         . exact ng _
         . split
           . exact ng _
           . split
             . exact ng _
             . split
               . exact ng _
               . exact NU _ _ _ (by decide) (by have:=zP (u.bytes.length+body.length);omega)
theorem Zn (u:Sp.Up)(h:u.note.size<=100):FS (Tu.head u):=by
 unfold Tu.head;refine Da 200 _ ?_ (fun p hp=>?_)
 . simp only[aX];split <;> simp
 . rcases fB.1 hp with rfl | hp
   . exact⟨show Tu.vE.size<=2000 by decide,by have:=zP u.bytes.length;show(Tu.dec u.bytes.length).size<=_;omega⟩
   . rcases fB.1 hp with rfl | hp
     . split
       . exact⟨by decide,by decide⟩
       . exact⟨show Tu.Dw.size<=2000 by decide,by have:=zP u.size.toNat;show(Tu.dec u.size.toNat).size<=_;omega⟩
     . rcases fB.1 hp with rfl | hp
       . exact⟨by decide,by decide⟩
       . split at hp
         . cases hp
         . rw[bC.1 hp];exact⟨show Tu.MW.size<=2000 by decide,by show u.note.size<=_;omega⟩
theorem Wj {s:Sh}(ok:Sr.Ok s)(m t:ay)(l:au)(body:av):FS (Tu.iG s m t l body).2:=by
 unfold Tu.iG;split
 . exact Da _ _ (by decide) (by decide)
 . split
   . exact ng _
   . split
     . exact NU _ _ _ (by decide) (by decide)
     . split
       . exact Zm s m l
       . split
         . exact ng _
         . rename_i u hu;unfold Tu.R9;split
           . exact Zn u (ok.h.all u (Tu.Dz hu).1).note
           . split
             . exact ng _
             . split
               . exact Wi s u l body
               . exact ng _
theorem El {s:Sh}{z:Int}{m:ay}(h:(Sr.create s z m).2=0):(Sr.create s z m).1.h.l.length=s.h.l.length+1∧m.size<=100:=by
 unfold Sr.create Sr.write at h ⊢;split
 . rename_i h1;rw[if_pos h1] at h;exact absurd h h1
 . rename_i h1;rw[if_neg h1] at h;split
   . rename_i h2;rw[if_pos h2] at h;exact absurd h (by simp)
   . rename_i h2;rw[if_neg h2] at h;split
     . rename_i h3;rw[if_pos h3] at h;exact absurd h (by simp)
     . clear h h2;show(Sr.made s.h z m).1.l.length=_∧_;unfold Sr.made Sp.create at h1 ⊢;split
       . rename_i h3;rw[if_pos h3] at h1;exact absurd (by simp) h1
       . rename_i h3;rw[if_neg h3] at h1;split
         . rename_i h4;rw[if_pos h4] at h1;exact absurd (by simp) h1
         . rename_i h4;rw[if_neg h4] at h1;split
           . rename_i h5;rw[if_pos h5] at h1;exact absurd (by simp) h1
           . rename_i h5;rw[if_neg h5] at h1;split
             . rename_i h6;rw[if_pos h6] at h1;exact absurd (by simp) h1
             . exact⟨by simp,by omega⟩
theorem Le (s:Sh)(id off:Int)(b:av):(Sr.append s id off b).1.h.l.length=s.h.l.length:=by
 have h0:(Sp.append s.h id off b).1.l.length=s.h.l.length:=by
  unfold Sp.append Sp.nZ;split
  . rfl
  . split
    . rfl
    . simp only[];repeat' split
      all_goals first
       | rfl
       | (show(List.set _ _ _).length=_;rw[aP])
 unfold Sr.append Sr.write;repeat' split
 all_goals first
  | rfl
  | exact h0
theorem Em (id:Int)(f:ay):(toldOf id f).length<=11+f.size:=by
 unfold toldOf;have:=(Ch.jX 8 id.toNat).1;have hf:f.data.toList.length=f.size:=by rw[aO];rfl
 simp only[aW,aX,cu];omega
theorem wI:∀(ps:List Fm.Pt) {s:Sh} (made:List Int) (told:av),Sr.Ok s->told.length<=120*s.h.l.length->Small (lands s made told ps).2
 | [],s,_,told,ok,h=>⟨aA _,(fun p hp=>by cases hp),(by have:=ok.h.few;show told.length<=_;omega)⟩
 | p :: r, s, made, told, ok, h => by
   unfold lands;split
   . exact wI r made told ok h
   . split
     . exact Small.bare _
     . rename_i h2;split
       . exact Small.bare _
       . have hc:(Sr.create s p.bytes.length (jf p)).2=0:=by
          rcases fF (Sr.create s p.bytes.length (jf p)).2 with e | e
          . exact e
          . exact absurd (by omega) h2
         obtain⟨c1,c2⟩:=El hc;refine wI r _ _ ((ok.create _ _).append _ _ _) ?_;rw[Le,c1,aW];have hz:(jf p).size=9+p.file.size:=by
          show(BD++p.file.data.toList).toArray.size=_;rw[bM,aW,aO];rfl
         have:=Em (s.h.last+1) p.file;omega
theorem NV {s:Sh}(ok:Sr.Ok s)(l:au)(body:av):Small (land s l body).2:=by
 unfold land;split
 . exact Small.bare _
 . split
   . exact Small.bare _
   . split
     . exact Small.bare _
     . exact wI _ _ _ ok (aA _)
theorem zQ {s:Sh}(ok:Sr.Ok s)(m t:ay)(l:au)(body:av):Small (answer Tu.iG s m t l body).2:=by
 unfold answer;split
 . exact⟨(Wj ok m t l body).1,(Wj ok m t l body).2,aA _⟩
 . split
   . exact Small.bare _
   . split
     . exact Small.bare _
     . exact NV ok l body
/-! ### texts -/
theorem Wm (p:ay×ay):(Rp.pI p).length<=202:=by
 unfold Rp.pI;rw[aW];have:(Fd.text p.1.data.toList p.2.data.toList).1.length<=200:=by
  unfold Fd.text;repeat' split
  all_goals first
   | exact aA _
   | (simp only[aW,aX,cu];omega)
 simp only[aX,cu];omega
theorem Ig:∀l:au,(l.flatMap Rp.pI).length<=202*l.length
 | []=>aA _
 | p :: r => by
   rw[aV,aW,aX];have:=Wm p;have:=Ig r;omega
theorem Wn (st:Int)(l:au)(nv:Nat)(body:av):(Rp.text st l nv body).1.length<=4000+body.length:=by
 unfold Rp.text;split
 . exact aA _
 . split
   . exact aA _
   . split
     . exact aA _
     . split
       . exact aA _
       . have h1:=Ig l;have h2:=Rp.Kv st;have h3:=(Ch.jX 8 st.toNat).1;have h4:=(Ch.jX 8 body.length).1;have h5:Rp.h11.length=9:=rfl;have h6:Rp.cl.length=16:=rfl;simp only[Rp.first,aW,aX,cu];omega
theorem En {r:zk}(h:Small r):(textOf r).length<=6000:=by
 unfold textOf;have:=Wn (r.1:Int) r.2.1 (Tu.vals ⟨#[99,111,110,116,101,110,116,45,108,101,110,103,116,104]⟩ r.2.1).length r.2.2;have:=h.body;omega
theorem yx (c:Nat):Small (sK c):=Small.bare _
/-! ### a connection -/
structure yh (c:Cn):Prop where
 rq:Rq.Good c.rq
 hd:Rq.nH c.hd
theorem Eo:Rq.nH Rq.hd0:=⟨aA _,aA _,aA _,aA _,fun f hf=>by cases hf⟩
theorem yh.new:yh qD:=⟨Rq.Good.start,Eo⟩
section
variable (T:abF)
theorem aaH {g:Gs}{e:Rq.Ev}(h:Rq.nH g.hd)(he:e.uJ):Rq.nH (ev T g e).hd:=by
 cases e with
 | head x=>exact he
 | body b=>exact h
 | fin=>exact Eo
 | fail c=>exact Eo
theorem Wo:∀(l:List Rq.Ev) {g:Gs},Rq.nH g.hd->(∀e∈l,e.uJ)->Rq.nH (evs T g l).hd
 | [],_,h,_=>h
 | e::r,_,h,he=>Wo r (aaH T h (he e (by simp))) (fun x hx=>he x (by simp[hx]))
theorem Ep:∀(l:List Rq.Ev) (g:Gs),(evs T g l).body.length<=g.body.length+Rq.jE l
 | [],_=>aM _
 | e :: r, g => by
   have h:=Ep r (ev T g e);rw[pU];cases e with
   | head x=>exact h
   | body b =>
     have h1:(ev T g (.body b)).body.length=g.body.length+b.length:=aW;show _<=_+(b.length+Rq.jE r);omega
   | fin =>
     have h1:(ev T g .fin).body.length=0:=rfl;show _<=_+Rq.jE r;omega
   | fail c =>
     have h1:(ev T g (.fail c)).body.length=0:=rfl;show _<=_+Rq.jE r;omega
theorem Qx {c:Cn}(h:yh c)(s:Sh)(b:av):yh (feed T s c b).2.1:=⟨h.rq.fold b,Wo T _ (g:=at_ s c) h.hd (Rq.qU b h.rq)⟩
theorem Ih (s:Sh)(c:Cn)(b:av):(feed T s c b).2.1.body.length<=c.body.length+b.length:=by
 have h1:=Ep T (Rq.outs c.rq b) (at_ s c);have h2:=(Rq.nI b c.rq).2.1;show(evs T (at_ s c) (Rq.outs c.rq b)).body.length<=_;have h3:(at_ s c).body=c.body:=rfl;rw[h3] at h1;omega
end
theorem NW {g:Gs}(ok:Sr.Ok g.s)(e:Rq.Ev):(ev Tu.iG g e).out.length<=g.out.length+6000:=by
 cases e with
 | head x=>exact dJ _ _
 | body b=>exact dJ _ _
 | fin =>
   show(g.out++textOf _).length<=_;rw[aW];have:=En (zQ ok (txt g.hd.method) (txt g.hd.target) (ny g.hd.fields) g.body);unfold over;omega
 | fail c =>
   show(g.out++textOf _).length<=_;rw[aW];have:=En (yx c);omega
theorem wJ:∀(l:List Rq.Ev) {g:Gs},Sr.Ok g.s->(evs Tu.iG g l).out.length<=g.out.length+6000*l.length
 | [],_,_=>by simp[evs]
 | e :: r, g, ok => by
   have h1:=NW ok e;have h2:=wJ r (VU Tu.iG (fun h m t l b=>Tu.Qv h m t l b) ok e);rw[pU,aX];omega
end Go.Proofs.YtjmndjmhjleabaaGreatDoor.Gt
namespace Go.Proofs.YtjmndjmhjleabaaGreatDoor.Fm
theorem tail_at {l:av}{p:Nat}(hp:p<=l.length)(h1:∀j (hj:j<l.length),p<=j->stroke l[j]=false)(h2:p=0∨∃h:p-1<l.length,0<p∧stroke l[p-1]=true):tail l=l.drop p:=by
 have e:l.reverse=(l.drop p).reverse++(l.take p).reverse:=by rw[<-dX,bX]
 have ha:∀c∈(l.drop p).reverse,(!stroke c)=true:=by
  intro c hc;rw[List.mem_reverse] at hc;obtain⟨j,hj,rfl⟩:=List.getElem_of_mem hc;rw[bV] at hj;rw[List.getElem_drop,h1 (p+j) (by omega) (by omega)];rfl
 have hb:(l.take p).reverse.takeWhile (fun c=>!stroke c)=[]:=by
  rcases h2 with rfl | ⟨h,h0,hs⟩
  . rfl
  . obtain⟨q,rfl⟩:∃q,p=q+1:=⟨p-1,by omega⟩;have hq:q<l.length:=by simpa using h
    have hs':stroke l[q]=true:=by simpa using hs
    rw[bO hq,dX];show(l[q]::(l.take q).reverse).takeWhile _=[];rw[eX,hs'];rfl
 unfold tail;rw[e,List.takeWhile_append_of_pos ha,hb,bW,List.reverse_reverse]
theorem Ox {c:UInt8}(h:dirty c=false):zD c=c:=by unfold zD;rw[h];rfl
def nP (k:Nat)(l:av):av:=(l.take k).map zD++l.drop k
theorem tJ (k:Nat)(l:av):(nP k l).length=l.length:=by
 unfold nP;rw[aW,aF,<-aW,bX]
theorem LG (l:av):nP 0 l=l:=rfl
theorem Oy (l:av):nP l.length l=l.map zD:=by unfold nP;rw[bP,dY,bW]
theorem SH {k:Nat}{l:av}(h:k<l.length):(nP k l)[k]'(by rw[tJ];exact h)=l[k]:=by
 unfold nP;rw[List.getElem_append_right (by rw[aF,bY];omega)];simp[List.getElem_drop,dV (Nat.le_of_lt h)]
theorem LH {k:Nat}{l:av}(h:k<l.length):nP (k+1) l=(nP k l).set k (zD l[k]):=by
 unfold nP;rw[bO h,bG,aD h,bI _ _ (by rw[aF,bY];omega)];rw[aF,bY,dV (Nat.le_of_lt h),Nat.sub_self];simp;rw[aD h];rfl
theorem LJ {k:Nat}{l:av}(h:k<l.length)(hd:dirty l[k]=false):nP (k+1) l=nP k l:=by
 unfold nP;rw[bO h,bG,aD h];simp[Ox hd]
theorem LM {c:UInt8}{t:av}(h:c≠37):dec (c::t)=(dec t).map (c::·):=by rw[dec.eq_def];simp only[];rw[if_neg h]
theorem QI {a b:UInt8}{r:av}(ha:0<=Ch.hex a.toNat)(hb:0<=Ch.hex b.toNat):dec (37::a::b::r)=(dec r).map ((16*Ch.hex a.toNat+Ch.hex b.toNat).toNat.toUInt8::·):=by
 rw[dec.eq_def];simp only[];rw[if_pos trivial,if_pos ⟨ha,hb⟩]
theorem QJ {a b:UInt8}{r:av}(h:¬(0<=Ch.hex a.toNat∧0<=Ch.hex b.toNat)):dec (37::a::b::r)=none:=by
 rw[dec.eq_def];simp only[];rw[if_pos trivial,if_neg h]
theorem Bc {t:av}(h:t.length<2):dec (37::t)=none:=by
 match t,h with
 | [],_=>rw[dec.eq_def];simp only[];rw[if_pos trivial]
 | [_],_=>rw[dec.eq_def];simp only[];rw[if_pos trivial]
 | _::_::_,h=>simp at h;omega
def decs (bs r:av):Option (av):=(dec r).map (bs++·)
theorem WH (bs:av):decs bs []=some bs:=by unfold decs;rw[dec];simp
theorem SK {bs:av}{c:UInt8}{t:av}(h:c≠37):decs bs (c::t)=decs (bs++[c]) t:=by
 unfold decs;rw[LM h,Option.map_map];congr 1;funext x;simp
theorem WI {bs:av}{a b:UInt8}{r:av}(ha:0<=Ch.hex a.toNat)(hb:0<=Ch.hex b.toNat):decs bs (37::a::b::r)=decs (bs++[(16*Ch.hex a.toNat+Ch.hex b.toNat).toNat.toUInt8]) r:=by
 unfold decs;rw[QI ha hb,Option.map_map];congr 1;funext x;simp
theorem WJ {bs:av}{a b:UInt8}{r:av}(h:¬(0<=Ch.hex a.toNat∧0<=Ch.hex b.toNat)):decs bs (37::a::b::r)=none:=by unfold decs;rw[QJ h];rfl
theorem Oz {bs t:av}(h:t.length<2):decs bs (37::t)=none:=by unfold decs;rw[Bc h];rfl
theorem OA (r:av):decs [] r=dec r:=by unfold decs;simp
theorem OB (a b:UInt8):Ch.number 16 6 [a,b]=if 0<=Ch.hex a.toNat∧0<=Ch.hex b.toNat then (16*Ch.hex a.toNat+Ch.hex b.toNat,true) else (0,false):=by
 have h6:¬(6:Int)<(([a,b]:av).length:Int):=by simp
 by_cases h:0<=Ch.hex a.toNat∧0<=Ch.hex b.toNat
 . rw[if_pos h,Ch.rG 16 6 _ (by simp) h6 (by rw[dP,dP,Ch.Gy,Ch.Gy,aI h.1,aI h.2];rfl)];unfold Ch.numOf;simp only[dQ,List.foldl_nil];rw[show(0:Int)*16+Ch.hex a.toNat=Ch.hex a.toNat by omega,show Ch.hex a.toNat*16+Ch.hex b.toNat=16*Ch.hex a.toNat+Ch.hex b.toNat by omega]
 . rw[if_neg h,Ch.tQ 16 6 _ (by
    rw[dP,dP,Ch.Gy,Ch.Gy];simp only[List.all_nil,Bool.and_true];rw[dx,bQ,bQ];rcases Decidable.not_and_iff_not_or_not.1 h with h | h
    . exact Or.inl h
    . exact Or.inr h)]
theorem WK {a b:UInt8}(ha:0<=Ch.hex a.toNat)(hb:0<=Ch.hex b.toNat):((16*Ch.hex a.toNat+Ch.hex b.toNat).toNat.toUInt8.toNat:Int)=16*Ch.hex a.toNat+Ch.hex b.toNat∧16*Ch.hex a.toNat+Ch.hex b.toNat<=255:=by
 have h1:=(Ch.rE a).2;have h2:=(Ch.rE b).2;generalize Ch.hex (a.toNat:Int)=x at *;generalize Ch.hex (b.toNat:Int)=y at *;refine⟨?_,by omega⟩;have:(16*x+y).toNat<256:=by omega
 have e:(16*x+y).toNat.toUInt8.toNat=(16*x+y).toNat:=by simp[Nat.toUInt8];omega
 rw[e];omega
def zY (d:av×Nat):Nat ⊕ List Pm.tL :=
 if d.2≠0 then .inl d.2
 else match Pm.ku d.1 with
  | .inl c=>.inl c
  | .inr x=>if x.1≠Hl then .inl 11 else .inr x.2
def partOf (ps:List Pm.tL)(t:av×Nat):Nat ⊕ YU :=
 match get KG ps with
 | none=>.inl 6
 | some nm => match file ps with
   | none=>.inl 5
   | some f=>if t.2=9 then .inl 9 else .inr ⟨nm,f,t.1⟩
theorem LU (d t:av×Nat):qh d t=match zY d with
 | .inl c=>.inl c
 | .inr ps=>partOf ps t:=by
 unfold qh zY partOf;by_cases h:d.2≠0
 . rw[if_pos h,if_pos h]
 . rw[if_neg h,if_neg h];cases Pm.ku d.1 with
   | inl c=>rfl
   | inr x =>
     simp only;by_cases h2:x.1≠Hl
     . rw[if_pos h2,if_pos h2]
     . rw[if_neg h2,if_neg h2];all_goals
        simp only;cases get KG x.2 with
        | none=>rfl
        | some nm=>cases file x.2 <;> rfl
theorem WL {d:av×Nat}{c:Nat}(h:d.2=0)(hm:Pm.ku d.1=.inl c):zY d=.inl c:=by unfold zY;rw[if_neg (fun e=>e h),hm]
theorem SL {d:av×Nat}{x:av×List Pm.tL}(h:d.2=0)(hm:Pm.ku d.1=.inr x)(hx:x.1≠Hl):zY d=.inl 11:=by unfold zY;rw[if_neg (fun e=>e h),hm];exact if_pos hx
theorem ZB {d:av×Nat}{x:av×List Pm.tL}(h:d.2=0)(hm:Pm.ku d.1=.inr x)(hx:x.1=Hl):zY d=.inr x.2:=by unfold zY;rw[if_neg (fun e=>e h),hm];exact if_neg (fun e=>e hx)
theorem Jw:∀(n:Nat) (l y:av),l.length<=n->dec l=some y->y.length<=l.length
 | _,[],y,_,h=>by rw[dec] at h;injection h with h;subst h;exact aM _
 | 0,_::_,_,hn,_=>by simp at hn
 | n + 1, c :: t, y, hn, h => by
   simp only[aX] at hn;by_cases hc:c=37
   . subst hc;match t,hn,h with
     | [],_,h=>rw[Bc (by simp)] at h;cases h
     | [_],_,h=>rw[Bc (by simp)] at h;cases h
     | a :: b :: r, hn, h =>
       by_cases hab:0<=Ch.hex a.toNat∧0<=Ch.hex b.toNat
       . rw[QI hab.1 hab.2] at h;obtain⟨z,hz,rfl⟩:=fG.1 h;have:=Jw n r z (by simp only[aX] at hn;omega) hz;simp only[aX];omega
       . rw[QJ hab] at h;cases h
   . rw[LM hc] at h;obtain⟨z,hz,rfl⟩:=fG.1 h;have:=Jw n t z (by omega) hz;simp only[aX];omega
theorem SN {l y:av}(h:coded l=some y):y.length<=l.length:=by
 unfold coded at h;split at h
 . cases h
 . have:=Jw _ _ _ (aM _) h;rw[bV] at this;omega
theorem LV:∀(n:Nat) (r:av) (acc ps:List Pm.tL),acc.length<=8->Pm.uG n r acc=.inr ps->ps.length<=8
 | 0,r,acc,ps,h8,h=>by rw[Pm.uG] at h;injection h with h;subst h;exact h8
 | n + 1, r, acc, ps, h8, h => by
   rw[Pm.uG] at h;split at h
   . injection h with h;subst h;exact h8
   . split at h
     . cases h
     . split at h
       . cases h
       . split at h
         . cases h
         . rename_i hne;exact LV n _ _ ps (by rw[aW];simp;omega) h
theorem Iu {l wd:av}{ps:List Pm.tL}(h:Pm.ku l=.inr (wd,ps)):ps.length<=8:=by
 unfold Pm.ku at h;split at h
 . cases h
 . split at h
   . cases h
   . unfold Pm.fin at h;split at h
     . cases h
     . rename_i hp;injection h with h;injection h with _ h;subst h;exact LV _ _ _ _ (aA _) hp
theorem WM {d:av×Nat}{ps:List Pm.tL}(h:zY d=.inr ps):ps.length<=8∧∀p∈ps,p.2.length<=d.1.length:=by
 unfold zY at h;split at h
 . cases h
 . split at h
   . cases h
   . rename_i x hm;split at h
     . cases h
     . injection h with h;subst h;exact⟨Iu hm,fun p hp=>((Pm.AQ hm).2 p hp).2⟩
end Go.Proofs.YtjmndjmhjleabaaGreatDoor.Fm
namespace Go.Proofs.YtjmndjmhjleabaaGreatDoor.Gt
open Sr
structure Ld where
 s:Sh
 ids:List Int
 told:av
 code:Nat
def oQ (r:Ld)(p:Fm.Pt):Ld :=
 if (Sr.create r.s p.bytes.length (jf p)).2≠0 then { r with code:=(Sr.create r.s p.bytes.length (jf p)).2 }
 else if (Sr.append (Sr.create r.s p.bytes.length (jf p)).1 (r.s.h.last+1) 0 p.bytes).2≠0 then
  { r with s:=(Sr.drop (Sr.append (Sr.create r.s p.bytes.length (jf p)).1 (r.s.h.last+1) 0 p.bytes).1 (r.s.h.last+1)).1,code:=(Sr.append (Sr.create r.s p.bytes.length (jf p)).1 (r.s.h.last+1) 0 p.bytes).2 }
 else ⟨(Sr.append (Sr.create r.s p.bytes.length (jf p)).1 (r.s.h.last+1) 0 p.bytes).1,r.ids++[r.s.h.last+1],r.told++toldOf (r.s.h.last+1) p.file,0⟩
def adds (r:Ld):List Fm.Pt->Ld
 | []=>r
 | p::t=>if p.file.size=0 then adds r t else if (oQ r p).code≠0 then oQ r p else adds (oQ r p) t
def ends (r:Ld):Sh×zk:=if r.code=0 then (Sr.sync r.s,(201,[],r.told)) else (Sr.sync (pq r.s r.ids),(stat r.code,[],[]))
theorem LX {s:Sh}{id off:Int}{b:av}(h:(Sr.append s id off b).2≠0):(Sr.append s id off b).1=s:=Tu.oK h
theorem LZ {s:Sh}{z:Int}{m:ay}(h:(Sr.create s z m).2≠0):(Sr.create s z m).1=s:=Tu.oK h
theorem yV:∀(ps:List Fm.Pt) (r:Ld),r.code=0->lands r.s r.ids r.told ps=ends (adds r ps)
 | [],r,h=>by unfold lands adds ends;rw[if_pos h]
 | p :: t, r, h => by
   unfold lands adds;by_cases h0:p.file.size=0
   . rw[if_pos h0,if_pos h0];exact yV t r h
   . rw[if_neg h0,if_neg h0];by_cases h1:(Sr.create r.s p.bytes.length (jf p)).2=0
     . by_cases h2:(Sr.append (Sr.create r.s p.bytes.length (jf p)).1 (r.s.h.last+1) 0 p.bytes).2=0
       . have ha:oQ r p=⟨(Sr.append (Sr.create r.s p.bytes.length (jf p)).1 (r.s.h.last+1) 0 p.bytes).1,r.ids++[r.s.h.last+1],r.told++toldOf (r.s.h.last+1) p.file,0⟩:=by
          unfold oQ;rw[if_neg (by rw[h1];simp),if_neg (by rw[h2];simp)]
         rw[if_neg (by show ¬(Sr.create r.s p.bytes.length (jf p)).2≠0;rw[h1];simp),if_neg (by show ¬(Sr.append (Sr.create r.s p.bytes.length (jf p)).1 (r.s.h.last+1) 0 p.bytes).2≠0;rw[h2];simp),ha,if_neg (by simp)];exact yV t ⟨(Sr.append (Sr.create r.s p.bytes.length (jf p)).1 (r.s.h.last+1) 0 p.bytes).1,r.ids++[r.s.h.last+1],r.told++toldOf (r.s.h.last+1) p.file,0⟩ rfl
       . have ha:oQ r p={ r with s:=(Sr.drop (Sr.append (Sr.create r.s p.bytes.length (jf p)).1 (r.s.h.last+1) 0 p.bytes).1 (r.s.h.last+1)).1,code:=(Sr.append (Sr.create r.s p.bytes.length (jf p)).1 (r.s.h.last+1) 0 p.bytes).2 }:=by
          unfold oQ;rw[if_neg (by rw[h1];simp),if_pos h2]
         rw[if_neg (by show ¬(Sr.create r.s p.bytes.length (jf p)).2≠0;rw[h1];simp),if_pos (show(Sr.append (Sr.create r.s p.bytes.length (jf p)).1 (r.s.h.last+1) 0 p.bytes).2≠0 from h2),ha,if_pos h2];unfold ends;rw[if_neg h2,LX h2]
     . have ha:oQ r p={ r with code:=(Sr.create r.s p.bytes.length (jf p)).2 }:=by unfold oQ;rw[if_pos h1]
       rw[if_pos (show(Sr.create r.s p.bytes.length (jf p)).2≠0 from h1),ha,if_pos h1];unfold ends;rw[if_neg h1]
theorem JA {r:Ld}(h:Sr.Ok r.s)(p:Fm.Pt):Sr.Ok (oQ r p).s:=by
 unfold oQ;split
 . exact h
 . split
   . exact((h.create _ _).append _ _ _).drop _
   . exact(h.create _ _).append _ _ _
theorem JB:∀(ps:List Fm.Pt) {r:Ld},Sr.Ok r.s->Sr.Ok (adds r ps).s
 | [],_,h=>h
 | p :: t, r, h => by
   unfold adds;split
   . exact JB t h
   . split
     . exact JA h p
     . exact JB t (JA h p)
structure WS (r:Ld):Prop where
 ok:Sr.Ok r.s
 told:r.told.length<=120*r.ids.length
 few:r.ids.length<=r.s.h.l.length∨r.code≠0
theorem SY {r:Ld}(h:WS r)(h0:r.code=0)(p:Fm.Pt):WS (oQ r p):=by
 refine⟨JA h.ok p,?_,?_⟩
 . unfold oQ;split
   . exact h.told
   . rename_i h1;split
     . exact h.told
     . have hc:(Sr.create r.s p.bytes.length (jf p)).2=0:=eZ h1;have hz:(jf p).size=9+p.file.size:=by
        show(BD++p.file.data.toList).toArray.size=_;rw[bM,aW,aO];rfl
       have h2:=(El hc).2;have h3:=Em (r.s.h.last+1) p.file;have h4:=h.told;simp only[aW,aX,cu];omega
 . unfold oQ;split
   . rename_i h1;exact Or.inr h1
   . rename_i h1;split
     . rename_i h2;exact Or.inr h2
     . have hc:(Sr.create r.s p.bytes.length (jf p)).2=0:=eZ h1;refine Or.inl ?_;show(r.ids++[r.s.h.last+1]).length<=(Sr.append _ _ _ _).1.h.l.length;rw[Le,(El hc).1,aW];rcases h.few with h | h
       . simp;omega
       . exact absurd h0 h
def bs (o:List Fm.Pt):Nat:=(o.map fun p=>p.bytes.length).sum
theorem Bj (a b:List Fm.Pt):bs (a++b)=bs a+bs b:=by unfold bs;rw[bG,List.sum_append]
theorem XC:∀{o:List Fm.Pt} {q:Fm.Pt},q∈o->q.bytes.length<=bs o
 | p :: t, q, h => by
   show _<=p.bytes.length+bs t;rcases fB.1 h with rfl | h
   . omega
   . have:=XC h;omega
theorem ZY (o:List Fm.Pt)(e:iN)(h:e.iw=[]):bs (Fm.laid o e)<=bs o+e.bytes.length:=by
 unfold Fm.laid;split
 . rw[Bj];show _+(e.iw.length+0)<=_;rw[h];show bs o+0<=_;omega
 . split
   . rcases bD o with rfl | ⟨q,p,rfl⟩
     . exact aA _
     . rw[bF,fu,fq,Bj,Bj];show bs q+(e.bytes.length+0)<=bs q+bs [p]+e.bytes.length;omega
   . omega
theorem TQ (o:List Fm.Pt)(e:iN)(h:e.kJ.size<=200)(ho:∀q∈o,q.file.size<=200):∀q∈Fm.laid o e,q.file.size<=200:=by
 unfold Fm.laid;split
 . intro q hq;rcases bB.1 hq with hq | hq
   . exact ho q hq
   . rw[bC.1 hq];exact h
 . split
   . rcases bD o with rfl | ⟨r,p,rfl⟩
     . intro q hq;cases hq
     . rw[bF] at ho ⊢;rw[fu,fq];intro q hq;rcases bB.1 hq with hq | hq
       . exact ho q (bJ _ hq)
       . have:q={ p with bytes:=e.bytes }:=bC.1 hq;rw[this];exact ho p (dS _ (by simp))
   . exact ho
theorem Z0 (es:List iN)(h:∀e∈es,Fm.uJ e):bs (Fm.pR es)<=lJ es∧∀q∈Fm.pR es,q.file.size<=200:=by
 have key:∀(m:List iN) (o:List Fm.Pt),(∀e∈m,Fm.uJ e)->(∀q∈o,q.file.size<=200)->bs (m.foldl Fm.laid o)<=bs o+lJ m∧∀q∈m.foldl Fm.laid o,q.file.size<=200:=by
  intro m;induction m with
  | nil=>intro o _ ho;exact⟨aM _,ho⟩
  | cons e t ih =>
    intro o hm ho;have he:=hm e (by simp);have h1:=ZY o e he.iw;have h2:=ih (Fm.laid o e) (fun x hx=>hm x (by simp[hx])) (TQ o e he.kJ ho);refine⟨?_,h2.2⟩;show bs (t.foldl Fm.laid (Fm.laid o e))<=bs o+(e.bytes.length+lJ t);have:=h2.1;omega
 have:=key es [] h (fun q hq=>by cases hq);refine⟨?_,this.2⟩;have h1:bs (Fm.pR es)<=0+lJ es:=this.1;omega
theorem QW:∀o:List Fm.Pt,room o=bs o+200*o.length
 | []=>rfl
 | p :: t => by
   have:=QW t;unfold room bs at *;simp only[List.map_cons,List.sum_cons,aX];omega
theorem Mx {b body:av}{ps:List Fm.Pt}(h:parts b body=some ps)(hm:3<=(Fm.mark b).length)(hg:Fm.Good (Fm.mark b) Fm.start)(hh:Fm.start.held<=1000)(hl:body.length<=20000):room ps<=1000000000∧ps.length<=1000000∧∀q∈ps,q.bytes.length<=1000000∧q.file.size<=900000:=by
 unfold parts at h;split at h
 . injection h with h;subst h;have h1:=Fm.nI hm body hg;have h2:=uH (Fm.outs (Fm.mark b) Fm.start body);have h3:=Hf (Fm.outs (Fm.mark b) Fm.start body);have h4:=Z0 _ (Fm.oM (Fm.qU hm body hg));have h5:=Fm.BK (lY (Fm.outs (Fm.mark b) Fm.start body));have h6:=QW (Fm.pR (lY (Fm.outs (Fm.mark b) Fm.start body)));refine⟨by omega,by omega,fun q hq=>⟨?_,by have:=h4.2 q hq;omega⟩⟩;have:q.bytes.length<=bs (Fm.pR (lY (Fm.outs (Fm.mark b) Fm.start body))):=XC hq;omega
 . cases h
theorem XD (r:Ld)(p:Fm.Pt):(oQ r p).ids.length<=r.ids.length+1:=by
 unfold oQ;split
 . exact Nat.le_succ _
 . split
   . exact Nat.le_succ _
   . simp
theorem E8:∀(ps:List Fm.Pt) (r:Ld),(adds r ps).ids.length<=r.ids.length+ps.length
 | [],_=>aM _
 | p :: t, r => by
   unfold adds;rw[aX];split
   . have:=E8 t r;omega
   . have h1:=XD r p;split
     . omega
     . have:=E8 t (oQ r p);omega
/-! ### a form, by its ways -/
section
variable {s:Sh} {l:au} {body b:av} {ps:List Fm.Pt}
theorem TR (h:bound l=none):land s l body=(s,(415,[],[])):=by unfold land;rw[h]
theorem XE (h:bound l=some b)(h2:parts b body=none):land s l body=(s,(400,[],[])):=by
 unfold land;rw[h];show(match parts b body with | none=>_ | some ps=>_)=_;rw[h2]
theorem TS (h:bound l=some b)(h2:parts b body=some ps)(h3:100000<s.log.length+room ps):land s l body=(s,(507,[],[])):=by
 unfold land;rw[h];show(match parts b body with | none=>_ | some ps=>_)=_;rw[h2];show(if 100000<s.log.length+room ps then _ else _)=_;rw[if_pos h3]
theorem TU (h:bound l=some b)(h2:parts b body=some ps)(h3:¬100000<s.log.length+room ps):land s l body=ends (adds ⟨s,[],[],0⟩ ps):=by
 unfold land;rw[h];show(match parts b body with | none=>_ | some ps=>_)=_;rw[h2];show(if 100000<s.log.length+room ps then _ else _)=_;rw[if_neg h3];exact yV ps ⟨s,[],[],0⟩ rfl
end
end Go.Proofs.YtjmndjmhjleabaaGreatDoor.Gt