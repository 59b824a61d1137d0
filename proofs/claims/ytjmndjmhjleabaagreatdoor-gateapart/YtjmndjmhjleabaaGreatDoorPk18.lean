/- Small texts, one behind the other: PlainHA, PlainHB, PlainHF, PlainHC, PlainHD, PlainHE, PlainHV, PlainHW, PlainGA, PlainGB, PlainGC, PlainHS, PlainHT, PlainHU, PlainGD, PlainGE. -/
import Derived.Test.YtjmndjmhjleabaaGreatDoorPlainRA
import Derived.Test.YtjmndjmhjleabaaGreatDoorPk4
import Derived.Test.YtjmndjmhjleabaaGreatDoorPk9
import Derived.Test.YtjmndjmhjleabaaGreatDoorPk1
import Derived.Test.YtjmndjmhjleabaaGreatDoorPk8
import Derived.Test.YtjmndjmhjleabaaGreatDoorPk14
namespace Go.Proofs.YtjmndjmhjleabaaGreatDoor.Fm
def stroke (c:UInt8):Bool:=c==47 || c==92
def tail (l:List UInt8):List UInt8:=(l.reverse.takeWhile fun c=>!stroke c).reverse
def dirty (c:UInt8):Bool:=c==9 || c==34 || c==58 || !Ch.visible c.toNat
def uO (c:UInt8):UInt8:=if dirty c then 95 else c
def DL (l:List UInt8):List UInt8:=l.dropWhile (·==46)
def xK:List UInt8:=[102,105,108,101]
def named (l:List UInt8):List UInt8:=if l=[] then xK else l
def safe (l:List UInt8):List UInt8:=named ((DL ((tail l).map uO)).take 40)
def dec:List UInt8→Option (List UInt8)
 | []=>some []
 | c :: t => if c = 37 then (match t with
     | a::b::r=>if 0≤Ch.hex a.toNat∧0≤Ch.hex b.toNat then (dec r).map ((16*Ch.hex a.toNat+Ch.hex b.toNat).toNat.toUInt8::·) else none
     | _=>none)
  else (dec t).map (c::·)
def abw:List UInt8:=[117,116,102,45,56,39,39]
def coded (l:List UInt8):Option (List UInt8):=if l.length<7∨Ch.lower (l.take 7)≠abw then none else dec (l.drop 7)
def get (n:List UInt8) (ps:List Pm.nS):Option (List UInt8):=(ps.find? fun p=>p.1==n).map (·.2)
def GL:List UInt8:=[110,97,109,101]
def Kc:List UInt8:=[102,105,108,101,110,97,109,101]
def ER:List UInt8:=[102,105,108,101,110,97,109,101,42]
def DN:List UInt8:=[102,111,114,109,45,100,97,116,97]
def Sb:List UInt8:=[99,111,110,116,101,110,116,45,100,105,115,112,111,115,105,116,105,111,110]
def nType:List UInt8:=[99,111,110,116,101,110,116,45,116,121,112,101]
def file (ps:List Pm.nS):Option (List UInt8) :=
 match get ER ps with
 | some x=>(coded x).map safe
 | none => match get Kc ps with
   | some x=>some (safe x)
   | none=>some []
structure V6 where
 name:List UInt8
 file:List UInt8
 type:List UInt8
def one:List (List UInt8)→List UInt8×Nat
 | []=>([],10)
 | [v]=>(v,0)
 | _=>([],9)
def kN (d t:List UInt8×Nat):Nat ⊕ V6 :=
 if d.2≠0 then .inl d.2
 else match Pm.dS d.1 with
  | .inl c=>.inl c
  | .inr x => if x.1 ≠ DN then .inl 11
    else match get GL x.2 with
     | none=>.inl 6
     | some nm => match file x.2 with
       | none=>.inl 5
       | some f=>if t.2=9 then .inl 9 else .inr ⟨nm,f,t.1⟩
def part (fs:List Rq.Fl):Nat ⊕ V6:=kN (one (Rq.vals fs Sb)) (one (Rq.vals fs nType))
def MS (p:V6):aZ:=⟨5,⟨#[]⟩,⟨#[]⟩,0,[],0,[],⟨p.name.toArray⟩,⟨p.file.toArray⟩,⟨p.type.toArray⟩,[],0⟩
def GN:aZ:=⟨6,⟨#[]⟩,⟨#[]⟩,0,[],0,[],⟨#[]⟩,⟨#[]⟩,⟨#[]⟩,[],0⟩
def abx:aZ:=⟨3,⟨#[]⟩,⟨#[]⟩,0,[],0,[],⟨#[]⟩,⟨#[]⟩,⟨#[]⟩,[],0⟩
def Sc (c:Nat):aZ:=⟨4,⟨#[]⟩,⟨#[]⟩,0,[],0,[],⟨#[]⟩,⟨#[]⟩,⟨#[]⟩,[],(c:Int)⟩
def jk (l:List UInt8):List aZ:=if l=[] then [] else [dO l]
structure St where
 place:Nat
 held:Nat
 ahead:Nat
 ln:Ln.St
 fields:List Rq.Fl
 parts:Nat
 code:Nat
def zero:St:=⟨0,0,0,Ln.start,[],0,0⟩
def start:St:=⟨0,2,2,Ln.start,[],0,0⟩
def failed (c:Nat):St:={ zero with code:=c }
def done:St:={ zero with place:=6 }
def live (s:St):Prop:=s.code=0∧s.place≠6
instance (s:St):Decidable (live s):=by unfold live;infer_instance
def turn (p:Nat) (c:UInt8):Nat×Nat :=
 if p=4 then (if c=10 then (5,0) else (0,2))
 else if p=2 then (if c=45 then (6,0) else (0,5))
 else if p=1∧c=45 then (2,0)
 else if c=32∨c=9 then (3,0)
 else if c=13 then (4,0)
 else (0,5)
def fails (c:Nat):St×List aZ:=(failed c,[Sc c])
def line (s:St) (t:List UInt8):St×List aZ :=
 if t≠[] then
  if s.fields.length=16 then fails 8
  else if (Fd.of t).code≠0 then fails (Fd.of t).code
  else ({ s with fields:=s.fields++[((Fd.of t).name,(Fd.of t).value)] },[])
 else match part s.fields with
  | .inl c=>fails c
  | .inr p=>if s.parts=12 then fails 8 else ({ s with fields:=[],parts:=s.parts+1,place:=0,held:=2,ahead:=2 },[MS p])
def next (m:List UInt8) (s:St) (c:UInt8):St×List aZ :=
 if ¬ live s then (s,[])
 else if s.place=0 then
  ({ s with held := Sk.after m s.held c, ahead := s.ahead - (Sk.out m s.held c).length, place := if Sk.found m s.held c then 1 else 0 },
   if 0<s.parts then jk ((Sk.out m s.held c).drop s.ahead)++(if Sk.found m s.held c then [GN] else []) else [])
 else if s.place=5 then
  if (Ln.next s.ln c).code≠0 then fails (Ln.next s.ln c).code
  else if Ln.ends s.ln c then line { s with ln:=Ln.next s.ln c } (Ln.text s.ln c)
  else ({ s with ln:=Ln.next s.ln c },[])
 else if (turn s.place c).2≠0 then fails (turn s.place c).2
 else if (turn s.place c).1=6 then (done,[abx])
 else ({ s with place:=(turn s.place c).1 },[])
def fold (m:List UInt8):St→List UInt8→St
 | s,[]=>s
 | s,c::t=>fold m (next m s c).1 t
def outs (m:List UInt8):St→List UInt8→List aZ
 | _,[]=>[]
 | s,c::t=>(next m s c).2++outs m (next m s c).1 t
def close (s:St):Nat:=if s.code=0∧s.place≠6 then 14 else s.code
def mark (b:List UInt8):List UInt8:=13::10::45::45::b
def gy (b:List UInt8):Bool:=!b.isEmpty&&decide (b.length≤70)&&Ch.aM b&&decide (Lib.trimS b Ch.ws=b)
theorem dA (m:List UInt8):∀ (a b:List UInt8) (s:St),fold m s (a++b)=fold m (fold m s a) b
 | [],_,_=>rfl
 | _::t,b,_=>dA m t b _
theorem cO (m:List UInt8):∀ (a b:List UInt8) (s:St),outs m s (a++b)=outs m s a++outs m (fold m s a) b
 | [],_,_=>rfl
 | c :: t, b, s => by
   show (next m s c).2++outs m (next m s c).1 (t++b)=_;rw [cO m t b];show _=((next m s c).2++outs m (next m s c).1 t)++_;rw [List.append_assoc];rfl
theorem jM (m:List UInt8) (s:St) (l:List UInt8) (c:UInt8):fold m s (l++[c])=(next m (fold m s l) c).1:=by rw [dA];rfl
theorem wJ (m:List UInt8) (s:St) (l:List UInt8) (c:UInt8):outs m s (l++[c])=outs m s l++(next m (fold m s l) c).2:=by
 rw [cO];show _++(_++[])=_;rw [List.append_nil]
theorem Oh {m:List UInt8} {s:St} (h:¬ live s) (c:UInt8):next m s c=(s,[]):=by unfold next;rw [if_pos h]
theorem gH {m:List UInt8}:∀ (l:List UInt8) {s:St},¬ live s→outs m s l=[]∧fold m s l=s
 | [],_,_=>⟨rfl,rfl⟩
 | c :: t, s, h => by
   have ih:=gH (m:=m) t h;show (next m s c).2++outs m (next m s c).1 t=[]∧fold m (next m s c).1 t=s;rw [Oh h];exact ih
structure Td where
 es:List aZ
 bs:List UInt8
def flush (t:Td):List aZ:=t.es++jk t.bs
def tell (t:Td) (e:aZ):Td:=if e.kind=2 then ⟨t.es,t.bs++e.bytes⟩ else ⟨flush t++[e],[]⟩
def tells (t:Td) (l:List aZ):Td:=l.foldl tell t
def Cq:Td:=⟨[],[]⟩
def Clean (l:List aZ):Prop:=∀ e∈l,e.kind=2→e=dO e.bytes∧e.bytes≠[]
theorem Clean.append {a b:List aZ} (h:Clean a) (k:Clean b):Clean (a++b):=fun e he=>by
 rcases List.mem_append.1 he with he | he
 · exact h e he
 · exact k e he
theorem clean_nil:Clean []:=fun e he=>by cases he
theorem GQ (l:List UInt8):Clean (jk l):=by
 unfold jk;split
 · exact clean_nil
 · rename_i h;intro e he _;rw [List.mem_singleton.1 he];exact ⟨rfl,h⟩
theorem rE {e:aZ} (h:e.kind≠2):Clean [e]:=fun x hx k=>by rw [List.mem_singleton.1 hx] at k;exact absurd k h
theorem jm (c:Nat):Clean (fails c).2:=rE (by show (4:Int)≠2;decide)
theorem Ke (s:St) (t:List UInt8):Clean (line s t).2:=by
 unfold line;split
 · split
   · exact jm _
   · split
     · exact jm _
     · exact clean_nil
 · split
   · exact jm _
   · split
     · exact jm _
     · exact rE (by show (5:Int)≠2;decide)
theorem Kg (m:List UInt8) (s:St) (c:UInt8):Clean (next m s c).2:=by
 unfold next;split
 · exact clean_nil
 · split
   · show Clean (if 0<s.parts then _ else _);split
     · refine Clean.append (GQ _) ?_;split
       · exact rE (by decide)
       · exact clean_nil
     · exact clean_nil
   · split
     · split
       · exact jm _
       · split
         · exact Ke _ _
         · exact clean_nil
     · split
       · exact jm _
       · split
         · exact rE (by decide)
         · exact clean_nil
theorem tK (m:List UInt8):∀ (l:List UInt8) (s:St),Clean (outs m s l)
 | [],_=>clean_nil
 | c::t,s=>(Kg m s c).append (tK m t _)
theorem Kh (t:Td) (l:List aZ) (e:aZ):tells t (l++[e])=tell (tells t l) e:=by unfold tells;rw [List.foldl_append];rfl
theorem uP (t:Td) (a b:List aZ):tells t (a++b)=tells (tells t a) b:=by unfold tells;rw [List.foldl_append]
theorem xL (l:List aZ) (h:Clean l):flush (tells Cq l)=gM l∧tailD (tells Cq l).es=false:=by
 have:∀ n (l:List aZ),l.length=n→Clean l→flush (tells Cq l)=gM l∧tailD (tells Cq l).es=false:=by
  intro n;induction n with
  | zero=>intro l hl _;rw [List.eq_nil_of_length_eq_zero hl];exact ⟨rfl,rfl⟩
  | succ n ih =>
    intro l hl hc;rcases List.eq_nil_or_concat l with rfl | ⟨q,x,rfl⟩
    · simp at hl
    · rw [List.concat_eq_append] at hl hc ⊢;obtain ⟨i1,i2⟩:=ih q (by simpa using hl) (fun e he=>hc e (List.mem_append_left _ he));rw [Kh,zS,←i1];generalize tells Cq q=t at i1 i2;obtain ⟨es,bs⟩:=t;simp only at i2;by_cases hk:x.kind=2
      · obtain ⟨hx,hx2⟩:=hc x (by simp) hk;unfold tell;rw [if_pos hk];refine ⟨?_,i2⟩;unfold flush jk;simp only;rw [if_neg (by simp [hx2])];by_cases hb:bs=[]
        · subst hb;rw [if_pos rfl,List.append_nil,ig _ _ (fun _=>i2),List.nil_append,←hx]
        · rw [if_neg hb,jd _ _ _ rfl hk];rfl
      · unfold tell;rw [if_neg hk];refine ⟨?_,?_⟩
        · rw [ig _ _ (fun e=>absurd e hk)];show (_++[x])++jk []=_;simp [jk]
        · show tailD (_++[x])=false;rw [mE,decide_eq_false hk]
 exact this _ l rfl h
structure Good (m:List UInt8) (s:St):Prop where
 place:s.place≤6
 held:s.held≤m.length - 1
 idle:s.place≠0→s.held=0
 ln:Ln.Good s.ln
 lc:s.ln.code=0
 many:s.fields.length≤16
 short:∀ f∈s.fields,f.1.length≤200∧f.2.length≤200
 bare:s.place≠5→s.ln=Ln.start∧s.fields=[]
 parts:s.parts≤12
 code:s.code≤20
theorem Good.start {m:List UInt8} (hm:3≤m.length):Good m start:=⟨Nat.zero_le _,by show 2≤_;omega,fun h=>absurd rfl h,Ln.Good.start,rfl,Nat.zero_le _,(fun f hf=>by cases hf),fun _=>⟨rfl,rfl⟩,Nat.zero_le _,Nat.zero_le _⟩
theorem Good.failed {m:List UInt8} {c:Nat} (hc:c≤20):Good m (failed c):=⟨Nat.zero_le _,Nat.zero_le _,fun _=>rfl,Ln.Good.start,rfl,Nat.zero_le _,(fun f hf=>by cases hf),fun _=>⟨rfl,rfl⟩,Nat.zero_le _,hc⟩
theorem Good.done {m:List UInt8}:Good m done:=⟨Nat.le_refl _,Nat.zero_le _,fun _=>rfl,Ln.Good.start,rfl,Nat.zero_le _,(fun f hf=>by cases hf),fun _=>⟨rfl,rfl⟩,Nat.zero_le _,Nat.zero_le _⟩
theorem Si (m:List UInt8) (h:Nat) (c:UInt8) (hm:0<m.length):Sk.after m h c≤m.length - 1:=by
 unfold Sk.after;split
 · exact Nat.zero_le _
 · rename_i hf;have h1:=Sk.Ka m h c;unfold Sk.found at hf;rw [decide_eq_true hm,Bool.true_and,decide_eq_true_eq] at hf;omega
theorem zX {s:Ln.St} {c:UInt8} (h:Ln.ends s c=true):Ln.next s c=Ln.start:=by
 unfold Ln.ends at h;rw [decide_eq_true_eq] at h;obtain ⟨h1,h2,h3⟩:=h;unfold Ln.next;rw [if_neg (by omega),if_neg (by omega),if_pos h3];rfl
theorem Sj (s:Ln.St) (c:UInt8):Ln.fault s c≤4:=by
 unfold Ln.fault;split
 · split
   · omega
   · split
     · omega
     · split <;> omega
 · omega
theorem Oj {s:Ln.St} (c:UInt8) (h:s.code=0):(Ln.next s c).code≤4:=by
 unfold Ln.next;rw [if_neg (by omega)];split
 · exact Sj s c
 · split
   · exact Nat.zero_le _
   · split
     · show s.code≤4;omega
     · show s.code≤4;omega
theorem V8 (t:List UInt8):(Fd.of t).code≤20:=by
 unfold Fd.of Fd.bad;repeat' split
 all_goals (first | exact Nat.zero_le _ | (simp only;omega) | decide)
theorem MW (p:Nat) (c:UInt8):(turn p c).1≤6∧(turn p c).2≤20:=by
 unfold turn;repeat' split
 all_goals decide
theorem Y5 {r:List UInt8} {c:Nat} (h:Pm.val r=.inl c):c≤20:=by
 unfold Pm.val at h;repeat' split at h
 all_goals (first | cases h;done | (injection h with h;omega))
theorem Y6 {r:List UInt8} {c:Nat} (h:Pm.par r=.inl c):c≤20:=by
 unfold Pm.par at h;split at h
 · simp only [] at h;split at h
   · injection h with h;omega
   · split at h
     · split at h
       · rename_i hv;injection h with h;subst h;exact Y5 hv
       · cases h
     · injection h with h;omega
 · injection h with h;omega
theorem MX:∀ (n:Nat) (r:List UInt8) (acc:List Pm.nS) (c:Nat),Pm.oH n r acc=.inl c→c≤20
 | 0,r,acc,c,h=>by rw [Pm.oH] at h;cases h
 | n + 1, r, acc, c, h => by
   rw [Pm.oH] at h;split at h
   · cases h
   · split at h
     · rename_i hp;injection h with h;subst h;exact Y6 hp
     · split at h
       · injection h with h;omega
       · split at h
         · injection h with h;omega
         · exact MX n _ _ c h
theorem Sm {l:List UInt8} {c:Nat} (h:Pm.dS l=.inl c):c≤20:=by
 unfold Pm.dS at h;split at h
 · injection h with h;omega
 · split at h
   · rename_i hw;injection h with h;subst h;unfold Pm.YX at hw;simp only [] at hw;repeat' split at hw
     all_goals (first | (injection hw with hw;omega) | (cases hw;done))
   · unfold Pm.fin at h;split at h
     · rename_i hp;injection h with h;subst h;exact MX _ _ _ _ hp
     · cases h
theorem V9 {fs:List Rq.Fl} {c:Nat} (h:part fs=.inl c):c≤20:=by
 unfold part kN at h;split at h
 · injection h with h;subst h;unfold one;split <;> (first | exact Nat.zero_le _ | decide)
 · split at h
   · rename_i hm;injection h with h;subst h;exact Sm hm
   · repeat' split at h
     all_goals (first | (injection h with h;omega) | (cases h;done))
theorem Good.line {m:List UInt8} {s:St} (h:Good m s) (hm:3≤m.length) (h5:s.place=5) (hl:s.ln=Ln.start) {t:List UInt8} (ht:t.length≤200):Good m (line s t).1:=by
 unfold Fm.line;split
 · split
   · exact Good.failed (by omega)
   · split
     · exact Good.failed (V8 t)
     · rename_i h16 hf;have:=Fd.wK t;refine ⟨h.place,h.held,h.idle,h.ln,h.lc,?_,fun f hf=>?_,fun e=>absurd h5 e,h.parts,h.code⟩
       · have:=h.many;show (s.fields++[_]).length≤16;rw [List.length_append];simp;omega
       · rcases List.mem_append.1 hf with hf | hf
         · exact h.short f hf
         · rw [List.mem_singleton.1 hf];exact ⟨by show (Fd.of t).name.length≤_;omega,by show (Fd.of t).value.length≤_;omega⟩
 · split
   · rename_i hp;exact Good.failed (V9 hp)
   · split
     · exact Good.failed (by omega)
     · rename_i hp;have:=h.parts;exact ⟨Nat.zero_le _,by show 2≤_;omega,fun e=>absurd rfl e,h.ln,h.lc,Nat.zero_le _,(fun f hf=>by cases hf),fun _=>⟨hl,rfl⟩,by show s.parts+1≤12;omega,h.code⟩
theorem Good.next {m:List UInt8} {s:St} (h:Good m s) (hm:3≤m.length) (c:UInt8):Good m (next m s c).1:=by
 unfold Fm.next;split
 · exact h
 · split
   · rename_i h0;refine ⟨?_,Si m _ c (by omega),fun e=>?_,h.ln,h.lc,h.many,h.short,fun _=>h.bare (by omega),h.parts,h.code⟩
     · show (if _ then 1 else 0)≤6;split <;> omega
     · show Sk.after m s.held c=0;unfold Sk.after;cases hf:Sk.found m s.held c
       · exfalso;exact e (by show (if Sk.found m s.held c then 1 else 0)=0;rw [hf];rfl)
       · rfl
   · rename_i h0;split
     · rename_i h5;split
       · exact Good.failed (by have:=Oj c h.lc;omega)
       · rename_i hn;have hg:Good m { s with ln:=Ln.next s.ln c }:=⟨h.place,h.held,h.idle,Ln.nV h.ln,by show (Ln.next s.ln c).code=0;omega,h.many,h.short,fun e=>absurd h5 e,h.parts,h.code⟩;split
         · rename_i he;exact hg.line hm h5 (zX he) (Rq.oL h.ln).1
         · exact hg
     · rename_i h5;split
       · exact Good.failed (MW _ _).2
       · split
         · exact Good.done
         · rename_i ht h6;exact ⟨(MW _ _).1,h.held,fun _=>h.idle h0,h.ln,h.lc,h.many,h.short,fun _=>h.bare h5,h.parts,h.code⟩
theorem Good.fold {m:List UInt8} (hm:3≤m.length):∀ (l:List UInt8) {s:St},Good m s→Good m (fold m s l)
 | [],_,h=>h
 | c::t,_,h=>Good.fold hm t (h.next hm c)
theorem tL (m:List UInt8) (h:Nat) (c:UInt8) (hh:h≤m.length - 1):(Sk.out m h c).length+Sk.after m h c≤h+1:=by
 cases hf:Sk.found m h c
 · have h2:=Sk.zf m h c;unfold Sk.after Sk.out;rw [hf,if_neg (by simp),List.length_take];simp;omega
 · rw [Sk.DJ hf hh];unfold Sk.after;rw [hf];simp
theorem DT (l:List UInt8):gq (jk l)=l.length:=by
 unfold jk;split
 · rename_i h;subst h;rfl
 · simp [gq,dO]
theorem Sn (s:St) (t:List UInt8):gq (line s t).2=0∧(line s t).2.length≤1:=by
 unfold line;split
 · split
   · exact ⟨rfl,Nat.le_refl _⟩
   · split
     · exact ⟨rfl,Nat.le_refl _⟩
     · exact ⟨rfl,Nat.zero_le _⟩
 · split
   · exact ⟨rfl,Nat.le_refl _⟩
   · split
     · exact ⟨rfl,Nat.le_refl _⟩
     · exact ⟨rfl,Nat.le_refl _⟩
theorem Ol {s:St} (t:List UInt8) (hi:s.held=0):(line s t).1.held≤2:=by
 unfold line;split
 · split
   · exact Nat.zero_le _
   · split
     · exact Nat.zero_le _
     · show s.held≤2;omega
 · split
   · exact Nat.zero_le _
   · split
     · exact Nat.zero_le _
     · exact Nat.le_refl _
theorem Sq {m:List UInt8} {s:St} (h:Good m s) (c:UInt8):gq (next m s c).2+(next m s c).1.held≤s.held+2∧(next m s c).2.length≤2:=by
 unfold next;split
 · exact ⟨by show 0+s.held≤_;omega,Nat.zero_le _⟩
 · split
   · have h1:=tL m s.held c h.held;have e1:gq (if Sk.found m s.held c then [GN] else [])=0:=by split <;> rfl
     have e2:(if Sk.found m s.held c then [GN] else []).length≤1:=by split <;> simp
     have e3:(jk ((Sk.out m s.held c).drop s.ahead)).length≤1:=by unfold jk;split <;> simp
     have e4:((Sk.out m s.held c).drop s.ahead).length≤(Sk.out m s.held c).length:=by rw [List.length_drop];omega
     show gq (if 0<s.parts then _ else _)+Sk.after m s.held c≤_∧(if 0<s.parts then _ else _:List aZ).length≤2;split
     · rw [iq,e1,DT,List.length_append];exact ⟨by omega,by omega⟩
     · exact ⟨by show 0+_≤_;omega,Nat.zero_le _⟩
   · split
     · rename_i h0 h5;have hi:=h.idle h0;split
       · exact ⟨by show 0+0≤_;omega,by show 1≤2;omega⟩
       · split
         · have h1:=Sn { s with ln:=Ln.next s.ln c } (Ln.text s.ln c);have h2:=Ol (s:={ s with ln:=Ln.next s.ln c }) (Ln.text s.ln c) hi;exact ⟨by omega,by omega⟩
         · exact ⟨by show 0+s.held≤_;omega,Nat.zero_le _⟩
     · split
       · exact ⟨by show 0+0≤_;omega,by show 1≤2;omega⟩
       · split
         · exact ⟨by show 0+0≤_;omega,by show 1≤2;omega⟩
         · exact ⟨by show 0+s.held≤_;omega,Nat.zero_le _⟩
theorem iW {m:List UInt8} (hm:3≤m.length):∀ (l:List UInt8) {s:St},Good m s→gq (outs m s l)+(fold m s l).held≤s.held+2*l.length∧(outs m s l).length≤2*l.length
 | [],_,_=>⟨by show 0+_≤_;simp [fold],Nat.zero_le _⟩
 | c :: t, s, h => by
   have h1:=Sq h c;have h2:=iW hm t (h.next hm c);show gq ((next m s c).2++outs m (next m s c).1 t)+(fold m (next m s c).1 t).held≤_∧((next m s c).2++outs m (next m s c).1 t).length≤_;rw [iq,List.length_append,List.length_cons];exact ⟨by omega,by omega⟩
end Go.Proofs.YtjmndjmhjleabaaGreatDoor.Fm
namespace Go.Proofs.YtjmndjmhjleabaaGreatDoor
namespace Fm
structure oK (e:aZ):Prop where
 method:e.method.size=0
 target:e.target.size=0
 fields:e.fields=[]
 aL:e.aL=[]
 fG:e.fG.size≤200
 eG:e.eG.size≤200
 ptype:e.ptype.size≤200
theorem DU (b:List UInt8):oK (dO b):=⟨rfl,rfl,rfl,rfl,Nat.zero_le _,Nat.zero_le _,Nat.zero_le _⟩
theorem lU (c:Nat):oK (Sc c):=⟨rfl,rfl,rfl,rfl,Nat.zero_le _,Nat.zero_le _,Nat.zero_le _⟩
theorem G6 (l:List UInt8):(safe l).length≤40:=by
 unfold safe named;split
 · decide
 · rw [List.length_take];omega
theorem get_mem {n:List UInt8} {ps:List Pm.nS} {v:List UInt8} (h:get n ps=some v):∃ p∈ps,p.2=v:=by
 unfold get at h;obtain ⟨p,hp,rfl⟩:=Option.map_eq_some_iff.1 h;exact ⟨p,List.mem_of_find?_eq_some hp,rfl⟩
theorem Sv {ps:List Pm.nS} {f:List UInt8} (h:file ps=some f):f.length≤40:=by
 unfold file at h;split at h
 · obtain ⟨x,_,rfl⟩:=Option.map_eq_some_iff.1 h;exact G6 x
 · split at h
   · injection h with h;subst h;exact G6 _
   · injection h with h;subst h;exact Nat.zero_le _
theorem M0 {vs:List (List UInt8)} {N:Nat} (h:∀ v∈vs,v.length≤N):(one vs).1.length≤N:=by
 unfold one;split
 · exact Nat.zero_le _
 · exact h _ (by simp)
 · exact Nat.zero_le _
theorem G7 {fs:List Rq.Fl} {n:List UInt8} {N:Nat} (h:∀ f∈fs,f.2.length≤N):∀ v∈Rq.vals fs n,v.length≤N:=fun v hv=>by
 unfold Rq.vals at hv;obtain ⟨f,hf,rfl⟩:=List.mem_map.1 hv;exact h f (List.mem_filter.1 hf).1
theorem Sw {fs:List Rq.Fl} {p:V6} {N:Nat} (h:part fs=.inr p) (hf:∀ f∈fs,f.2.length≤N):p.name.length≤N∧p.file.length≤40∧p.type.length≤N:=by
 have hd:=M0 (G7 (n:=Sb) hf);have ht:=M0 (G7 (n:=nType) hf);unfold part kN at h;split at h
 · cases h
 · split at h
   · cases h
   · rename_i x hm;split at h
     · cases h
     · split at h
       · cases h
       · rename_i nm hn;split at h
         · cases h
         · rename_i f hfl;split at h
           · cases h
           · injection h with h;subst h;obtain ⟨q,hq,e⟩:=get_mem hn;have:=(Pm.wL hm).2 q hq;exact ⟨by show nm.length≤N;rw [←e];omega,Sv hfl,ht⟩
theorem Om {m:List UInt8} {s:St} (h:Good m s) (t:List UInt8):∀ e∈(line s t).2,oK e:=by
 unfold line;split
 · split
   · intro e he;rw [List.mem_singleton.1 he];exact lU 8
   · split
     · intro e he;rw [List.mem_singleton.1 he];exact lU _
     · intro e he;cases he
 · split
   · intro e he;rw [List.mem_singleton.1 he];exact lU _
   · split
     · intro e he;rw [List.mem_singleton.1 he];exact lU 8
     · rename_i p hp _;have:=Sw hp (fun f hf=>(h.short f hf).2);intro e he;rw [List.mem_singleton.1 he];refine ⟨rfl,rfl,rfl,rfl,?_,?_,?_⟩
       · show p.name.toArray.size≤_;rw [List.size_toArray];omega
       · show p.file.toArray.size≤_;rw [List.size_toArray];omega
       · show p.type.toArray.size≤_;rw [List.size_toArray];omega
theorem Oo {m:List UInt8} {s:St} (h:Good m s) (c:UInt8):∀ e∈(next m s c).2,oK e:=by
 unfold next;split
 · intro e he;cases he
 · split
   · show ∀ e∈(if 0<s.parts then _ else _),oK e;split
     · intro e he;rcases List.mem_append.1 he with he | he
       · unfold jk at he;split at he
         · cases he
         · rw [List.mem_singleton.1 he];exact DU _
       · split at he
         · rw [List.mem_singleton.1 he];exact ⟨rfl,rfl,rfl,rfl,Nat.zero_le _,Nat.zero_le _,Nat.zero_le _⟩
         · cases he
     · intro e he;cases he
   · split
     · rename_i h5;split
       · intro e he;rw [List.mem_singleton.1 he];exact lU _
       · rename_i hn;split
         · exact Om (m:=m) (s:={ s with ln:=Ln.next s.ln c }) ⟨h.place,h.held,h.idle,Ln.nV h.ln,by show (Ln.next s.ln c).code=0;omega,h.many,h.short,fun e=>absurd h5 e,h.parts,h.code⟩ _
         · intro e he;cases he
     · split
       · intro e he;rw [List.mem_singleton.1 he];exact lU _
       · split
         · intro e he;rw [List.mem_singleton.1 he];exact ⟨rfl,rfl,rfl,rfl,Nat.zero_le _,Nat.zero_le _,Nat.zero_le _⟩
         · intro e he;cases he
theorem lT {m:List UInt8} (hm:3≤m.length):∀ (l:List UInt8) {s:St},Good m s→∀ e∈outs m s l,oK e
 | [],_,_=>fun e he=>by cases he
 | c :: t, s, h => fun e he => by
   rcases List.mem_append.1 he with he | he
   · exact Oo h c e he
   · exact lT hm t (h.next hm c) e he
theorem jP {l:List aZ} (h:∀ e∈l,oK e):∀ e∈gM l,oK e:=Og DU l h
end Fm
end Go.Proofs.YtjmndjmhjleabaaGreatDoor
namespace Go.Proofs.YtjmndjmhjleabaaGreatDoor.Fm
theorem Oq (m:List UInt8) {s:St} (hp:s.place=5) (hc:s.code=0) (c:UInt8):next m s c=if (Ln.next s.ln c).code≠0 then fails (Ln.next s.ln c).code else if Ln.ends s.ln c then line { s with ln:=Ln.next s.ln c } (Ln.text s.ln c) else ({ s with ln:=Ln.next s.ln c },[]):=by
 unfold next;rw [if_neg (fun h=>h ⟨hc,by omega⟩),if_neg (by omega),if_pos hp]
theorem G8 {c:Nat} (h:c≠0):¬ live (failed c):=fun k=>h k.1
theorem Ot:¬ live done:=fun k=>k.2 rfl
theorem xP (t:Td) (l:List UInt8):tells t (jk l)=⟨t.es,t.bs++l⟩:=by
 unfold jk;split
 · rename_i h;subst h;rw [List.append_nil];rfl
 · show tell t (dO l)=_;unfold tell;rw [if_pos (show (dO l).kind=2 from rfl)];rfl
theorem Ou (m:List UInt8) {s:St} (hp:s.place=1∨s.place=2∨s.place=3∨s.place=4) (hc:s.code=0) (c:UInt8):next m s c=if (turn s.place c).2≠0 then fails (turn s.place c).2 else if (turn s.place c).1=6 then (done,[abx]) else ({ s with place:=(turn s.place c).1 },[]):=by
 unfold next;rw [if_neg (fun h=>h ⟨hc,by omega⟩),if_neg (by omega),if_neg (by omega)]
theorem Ov (p:Nat) (c:UInt8):(turn p c).1=6→(turn p c).2=0:=by
 unfold turn;repeat' split
 all_goals (intro h;first | rfl | (cases h;done))
theorem Ow {s:St} {fs:List Rq.Fl} {p:V6} (hp:part fs=.inr p) (h12:s.parts≠12):line { s with fields:=fs } []=({ s with fields:=[],parts:=s.parts+1,place:=0,held:=2,ahead:=2 },[MS p]):=by
 unfold line;rw [if_neg (fun h=>h rfl)];simp only [hp];rw [if_neg h12]
theorem Sy {r:List UInt8} {c:Nat} (h:Pm.val r=.inl c):c≠0:=by
 unfold Pm.val at h;repeat' split at h
 all_goals (first | cases h;done | (injection h with h;omega))
theorem Sz {r:List UInt8} {c:Nat} (h:Pm.par r=.inl c):c≠0:=by
 unfold Pm.par at h;split at h
 · simp only [] at h;split at h
   · injection h with h;omega
   · split at h
     · split at h
       · rename_i hv;injection h with h;subst h;exact Sy hv
       · cases h
     · injection h with h;omega
 · injection h with h;omega
theorem DV:∀ (n:Nat) (r:List UInt8) (acc:List Pm.nS) (c:Nat),Pm.oH n r acc=.inl c→c≠0
 | 0,r,acc,c,h=>by rw [Pm.oH] at h;cases h
 | n + 1, r, acc, c, h => by
   rw [Pm.oH] at h;split at h
   · cases h
   · split at h
     · rename_i hp;injection h with h;subst h;exact Sz hp
     · split at h
       · injection h with h;omega
       · split at h
         · injection h with h;omega
         · exact DV n _ _ c h
theorem zY {l:List UInt8} {c:Nat} (h:Pm.dS l=.inl c):c≠0:=by
 unfold Pm.dS at h;split at h
 · injection h with h;omega
 · split at h
   · rename_i hw;injection h with h;subst h;unfold Pm.YX at hw;simp only [] at hw;repeat' split at hw
     all_goals (first | (injection hw with hw;omega) | (cases hw;done))
   · unfold Pm.fin at h;split at h
     · rename_i hp;injection h with h;subst h;exact DV _ _ _ _ hp
     · cases h
theorem Ox {fs:List Rq.Fl} {c:Nat} (h:part fs=.inl c):c≠0:=by
 unfold part kN at h;split at h
 · rename_i hd;injection h with h;subst h;exact hd
 · split at h
   · rename_i hm;injection h with h;subst h;exact zY hm
   · repeat' split at h
     all_goals (first | (injection h with h;omega) | (cases h;done))
theorem Kj (s:St) (t:List UInt8) (h:s.ahead≤2):(line s t).1.ahead≤2:=by
 unfold line;split
 · split
   · exact Nat.zero_le _
   · split
     · exact Nat.zero_le _
     · exact h
 · split
   · exact Nat.zero_le _
   · split
     · exact Nat.zero_le _
     · exact Nat.le_refl _
theorem Kk (m:List UInt8) (s:St) (c:UInt8) (h:s.ahead≤2):(next m s c).1.ahead≤2:=by
 unfold next;split
 · exact h
 · split
   · show s.ahead - _≤2;omega
   · split
     · split
       · exact Nat.zero_le _
       · split
         · exact Kj _ _ h
         · exact h
     · split
       · exact Nat.zero_le _
       · split
         · exact Nat.zero_le _
         · exact h
theorem zZ (m:List UInt8):∀ (l:List UInt8) (s:St),s.ahead≤2→(fold m s l).ahead≤2
 | [],_,h=>h
 | c::t,s,h=>zZ m t _ (Kk m s c h)
theorem Oy {m:List UInt8} (hm:3≤m.length) {s:St} (h:Good m s) (l:List UInt8):(tells Cq (outs m s l)).es.length≤2*l.length∧(tells Cq (outs m s l)).bs.length≤s.held+2*l.length:=by
 obtain ⟨h1,h2⟩:=iW hm l h;have h3:=(xL _ (tK m l s)).1;have h4:=oI (outs m s l);have h5:=DK (outs m s l);rw [←h3] at h4 h5;generalize tells Cq (outs m s l)=t at *;obtain ⟨es,bs⟩:=t;unfold flush at h4 h5;simp only at *;rw [List.length_append] at h4;rw [iq,DT] at h5;exact ⟨by omega,by omega⟩
theorem z8 (b:List UInt8) (h:b≠[]) (hb:b.length≤70):(mark b).take 2=[13,10]∧5≤(mark b).length∧(mark b).length≤74:=by
 refine ⟨rfl,?_,?_⟩
 · have:=List.length_pos_iff.2 h;show 5≤b.length+1+1+1+1;omega
 · show b.length+1+1+1+1≤74;omega
def eZ (l:List aZ):Prop:=∃ x∈l,x.kind=5
def uR (l:List aZ):Prop:=∀ q e r,l=q++e::r→e.kind=2→eZ q
theorem eZ.left {a b:List aZ} (h:eZ a):eZ (a++b):=by obtain ⟨x,hx,hk⟩:=h;exact ⟨x,List.mem_append_left _ hx,hk⟩
theorem uR.nil:uR []:=fun q e r h=>by
 have:=congrArg List.length h;rw [List.length_append,List.length_cons,List.length_nil] at this;omega
theorem uR.snoc {q:List aZ} {e:aZ} (h:uR q) (he:e.kind=2→eZ q):uR (q++[e]):=by
 intro q2 e2 r h2 hk;rcases List.eq_nil_or_concat r with rfl | ⟨r',x,rfl⟩
 · obtain ⟨h3,h4⟩:=List.append_inj' h2 rfl;subst h3;injection h4 with h4;subst h4;exact he hk
 · rw [List.concat_eq_append,←List.cons_append,←List.append_assoc] at h2;obtain ⟨h3,_⟩:=List.append_inj' h2 rfl;exact h q2 e2 r' h3 hk
theorem uR.front {a b:List aZ} (h:uR (a++b)):uR a:=fun q e r h2 hk=>h q e (r++b) (by rw [h2];simp) hk
theorem G9 {l:List aZ} {e:aZ} (h:eZ l∨e.kind=5):eZ (pY l e):=by
 by_cases hm:e.kind=2∧tailD l=true
 · obtain ⟨q,x,rfl,hx⟩:=ku hm.2;rw [jd q x e hx hm.1];rcases h with ⟨y,hy,hk⟩ | h
   · rcases List.mem_append.1 hy with hy | hy
     · exact ⟨y,List.mem_append_left _ hy,hk⟩
     · rw [List.mem_singleton.1 hy,hx] at hk;cases hk
   · rw [hm.1] at h;cases h
 · rw [ig l e (fun k=>by
    cases ht:tailD l
    · rfl
    · exact absurd ⟨k,ht⟩ hm)]
   rcases h with h | h
   · exact h.left
   · exact ⟨e,by simp,h⟩
theorem He:∀ (n:Nat) (l:List aZ),l.length=n→uR l→uR (gM l)∧(eZ l→eZ (gM l))
 | 0,l,hn,_=>by rw [List.eq_nil_of_length_eq_zero hn];exact ⟨uR.nil,fun h=>h⟩
 | n + 1, l, hn, h => by
   rcases List.eq_nil_or_concat l with rfl | ⟨q,x,rfl⟩
   · exact ⟨uR.nil,fun h=>h⟩
   · rw [List.concat_eq_append] at hn h ⊢;obtain ⟨i1,i2⟩:=He n q (by simpa using hn) h.front;have hx:x.kind=2→eZ q:=fun hk=>h q x [] rfl hk;rw [zS];refine ⟨?_,fun hp=>G9 ?_⟩
     · by_cases hm:x.kind=2∧tailD (gM q)=true
       · obtain ⟨p,y,hpy,hy⟩:=ku hm.2;rw [hpy] at i1 ⊢;rw [jd p y x hy hm.1];exact i1.front.snoc (fun _=>i1 p y [] rfl hy)
       · rw [ig _ x (fun k=>by
          cases ht:tailD (gM q)
          · rfl
          · exact absurd ⟨k,ht⟩ hm)]
         exact i1.snoc (fun hk=>i2 (hx hk))
     · obtain ⟨y,hy,hk⟩:=hp;rcases List.mem_append.1 hy with hy | hy
       · exact Or.inl (i2 ⟨y,hy,hk⟩)
       · rw [List.mem_singleton.1 hy] at hk;exact Or.inr hk
theorem uR.none_ {a b:List aZ} (h:uR a) (hb:∀ e∈b,e.kind≠2):uR (a++b):=by
 induction b generalizing a with
 | nil=>rw [List.append_nil];exact h
 | cons e r ih =>
   have:=ih (h.snoc (e:=e) (fun k=>absurd k (hb e (List.mem_cons_self ..)))) (fun x hx=>hb x (List.mem_cons_of_mem _ hx));rw [List.append_assoc] at this;exact this
theorem uR.some_ {a b:List aZ} (h:uR a) (hp:eZ a):uR (a++b):=by
 induction b generalizing a with
 | nil=>rw [List.append_nil];exact h
 | cons e r ih =>
   have:=ih (h.snoc (e:=e) (fun _=>hp)) hp.left;rw [List.append_assoc] at this;exact this
theorem Kl (s:St) (t:List UInt8):(∀ e∈(line s t).2,e.kind≠2)∧(0<(line s t).1.parts→0<s.parts∨eZ (line s t).2):=by
 unfold line;split
 · split
   · exact ⟨fun e he=>by rw [List.mem_singleton.1 he];show (4:Int)≠2;decide,fun h=>absurd h (by decide)⟩
   · split
     · exact ⟨fun e he=>by rw [List.mem_singleton.1 he];show (4:Int)≠2;decide,fun h=>absurd h (Nat.lt_irrefl 0)⟩
     · exact ⟨(fun e he=>by cases he),fun h=>Or.inl h⟩
 · split
   · exact ⟨fun e he=>by rw [List.mem_singleton.1 he];show (4:Int)≠2;decide,fun h=>absurd h (Nat.lt_irrefl 0)⟩
   · split
     · exact ⟨fun e he=>by rw [List.mem_singleton.1 he];show (4:Int)≠2;decide,fun h=>absurd h (by decide)⟩
     · rename_i p _ _;exact ⟨fun e he=>by rw [List.mem_singleton.1 he];show (5:Int)≠2;decide,fun _=>Or.inr ⟨MS p,by simp,rfl⟩⟩
theorem SA {m:List UInt8} {s:St} (c:UInt8) {o:List aZ} (h:uR o) (hp:0<s.parts→eZ o):uR (o++(next m s c).2)∧(0<(next m s c).1.parts→eZ (o++(next m s c).2)):=by
 unfold next;split
 · exact ⟨by rw [List.append_nil];exact h,fun k=>(hp k).left⟩
 · split
   · show uR (o++if 0<s.parts then _ else _)∧(0<s.parts→_);by_cases hq:0<s.parts
     · rw [if_pos hq];exact ⟨h.some_ (hp hq),fun _=>(hp hq).left⟩
     · rw [if_neg hq];exact ⟨by rw [List.append_nil];exact h,fun k=>absurd k hq⟩
   · split
     · split
       · exact ⟨h.none_ (fun e he=>by rw [List.mem_singleton.1 he];show (4:Int)≠2;decide),fun k=>absurd k (Nat.lt_irrefl 0)⟩
       · split
         · obtain ⟨k1,k2⟩:=Kl { s with ln:=Ln.next s.ln c } (Ln.text s.ln c);refine ⟨h.none_ k1,fun k=>?_⟩;rcases k2 k with k | ⟨x,hx,hk⟩
           · exact (hp k).left
           · exact ⟨x,List.mem_append_right _ hx,hk⟩
         · exact ⟨by rw [List.append_nil];exact h,fun k=>(hp k).left⟩
     · split
       · exact ⟨h.none_ (fun e he=>by rw [List.mem_singleton.1 he];show (4:Int)≠2;decide),fun k=>absurd k (Nat.lt_irrefl 0)⟩
       · split
         · exact ⟨h.none_ (fun e he=>by rw [List.mem_singleton.1 he];show (3:Int)≠2;decide),fun k=>absurd k (Nat.lt_irrefl 0)⟩
         · exact ⟨by rw [List.append_nil];exact h,fun k=>(hp k).left⟩
theorem Hf (m:List UInt8):∀ (l:List UInt8) (s:St) (o:List aZ),uR o→(0<s.parts→eZ o)→uR (o++outs m s l)
 | [],_,o,h,_=>by show uR (o++[]);rw [List.append_nil];exact h
 | c :: t, s, o, h, hp => by
   obtain ⟨h1,h2⟩:=SA (m:=m) c h hp;have:=Hf m t (next m s c).1 (o++(next m s c).2) h1 h2;rw [List.append_assoc] at this;exact this
theorem SB (m l:List UInt8):uR (gM (outs m start l)):=(He _ _ rfl (by have:=Hf m l start [] uR.nil (fun h=>absurd h (by decide));simpa using this)).1
theorem uR.at_ {l:List aZ} (h:uR l) {k:Nat} (hk:k<l.length) (h2:l[k].kind=2):eZ (l.take k):=h (l.take k) l[k] (l.drop (k+1)) (by rw [←List.drop_eq_getElem_cons hk,List.take_append_drop]) h2
structure Pt where
 name:ByteArray
 file:ByteArray
 type:ByteArray
 bytes:List UInt8
def laid (acc:List Pt) (e:aZ):List Pt:=if e.kind=5 then acc++[⟨e.fG,e.eG,e.ptype,e.aL⟩] else if e.kind=2 then acc.dropLast++(acc.getLast?.map fun p=>{ p with bytes:=e.bytes }).toList else acc
def kE (l:List aZ):List Pt:=l.foldl laid []
theorem DW (l:List aZ) (e:aZ):kE (l++[e])=laid (kE l) e:=by unfold kE;rw [List.foldl_append];rfl
theorem xQ (acc:List Pt) (e:aZ):acc.length≤(laid acc e).length∧(laid acc e).length≤acc.length+1:=by
 unfold laid;split
 · simp
 · split
   · rcases List.eq_nil_or_concat acc with rfl | ⟨q,x,rfl⟩
     · simp
     · rw [List.concat_eq_append,List.dropLast_concat,List.getLast?_append];simp
   · simp
theorem DX:∀ (n:Nat) (l:List aZ),l.length=n→eZ l→0<(kE l).length
 | 0,l,hn,⟨x,hx,_⟩=>by rw [List.eq_nil_of_length_eq_zero hn] at hx;cases hx
 | n + 1, l, hn, h => by
   rcases List.eq_nil_or_concat l with rfl | ⟨q,x,rfl⟩
   · obtain ⟨_,hx,_⟩:=h;cases hx
   · rw [List.concat_eq_append] at hn h ⊢;rw [DW];obtain ⟨y,hy,hk⟩:=h;rcases List.mem_append.1 hy with hy | hy
     · have:=DX n q (by simpa using hn) ⟨y,hy,hk⟩;have:=(xQ (kE q) x).1;omega
     · rw [List.mem_singleton.1 hy] at hk;unfold laid;rw [if_pos hk];simp
theorem xR (l:List aZ):(kE l).length≤l.length:=by
 have:∀ (m:List aZ) (o:List Pt),(m.foldl laid o).length≤o.length+m.length:=by
  intro m;induction m with
  | nil=>intro o;simp
  | cons e r ih=>intro o;rw [List.foldl_cons];have h1:=ih (laid o e);have h2:=(xQ o e).2;simp only [List.length_cons];omega
 have h:=this l [];simpa [kE] using h
end Go.Proofs.YtjmndjmhjleabaaGreatDoor.Fm
namespace Go.Proofs.YtjmndjmhjleabaaGreatDoor.Gt
open Sr
def txt (l:List UInt8):ByteArray:=⟨l.toArray⟩
def iN (l:List Rq.Fl):List (ByteArray×ByteArray):=l.map fun p=>(txt p.1,txt p.2)
abbrev uD:=Nat×List (ByteArray×ByteArray)×List UInt8
def Km:List UInt8:=[98,111,117,110,100,97,114,121]
def M4:List UInt8:=[109,117,108,116,105,112,97,114,116,47,102,111,114,109,45,100,97,116,97]
def X8:ByteArray:=⟨#[47,102,111,114,109]⟩
def Du:ByteArray:=⟨#[80,79,83,84]⟩
def Kn:ByteArray:=⟨#[80,65,84,67,72]⟩
def xK:List UInt8:=[102,105,108,101,110,97,109,101,32]
def EU (t:ByteArray):Bool:=decide (7≤t.size)&&decide (t.data.toList.take 7=Tu.fZ.data.toList)
def ours (t:ByteArray):Bool:=decide (t=Tu.nL) || EU t
def bound (l:List (ByteArray×ByteArray)):Option (List UInt8) :=
 if (Tu.one (Tu.vals Tu.JH l)).2≠0 then none
 else match Pm.dS (Tu.one (Tu.vals Tu.JH l)).1 with
  | .inl _=>none
  | .inr x=>if x.1≠M4 then none else Fm.get Km x.2
def parts (b body:List UInt8):Option (List Fm.Pt) :=
 if Fm.gy b=true∧Fm.close (Fm.fold (Fm.mark b) Fm.start body)=0 then some (Fm.kE (gM (Fm.outs (Fm.mark b) Fm.start body))) else none
def room (ps:List Fm.Pt):Nat:=(ps.map fun p=>p.bytes.length+200).sum
def jY (s:Sh) (ids:List Int):Sh:=ids.foldl (fun s i=>(Sr.drop s i).1) s
def stat (c:Nat):Nat:=if c=4 then 413 else 507
def toldOf (id:Int) (f:ByteArray):List UInt8:=Ch.dh 8 id.toNat++[32]++f.data.toList++[10]
def bM (p:Fm.Pt):ByteArray:=txt (xK++p.file.data.toList)
def lands (s:Sh) (made:List Int) (told:List UInt8):List Fm.Pt→Sh×uD
 | []=>(Sr.sync s,(201,[],told))
 | p :: r =>
   if p.file.size=0 then lands s made told r
   else if (Sr.create s p.bytes.length (bM p)).2≠0 then (Sr.sync (jY s made),(stat (Sr.create s p.bytes.length (bM p)).2,[],[]))
   else if (Sr.append (Sr.create s p.bytes.length (bM p)).1 (s.h.last+1) 0 p.bytes).2≠0 then
    (Sr.sync (jY (Sr.drop (Sr.create s p.bytes.length (bM p)).1 (s.h.last+1)).1 made),(stat (Sr.append (Sr.create s p.bytes.length (bM p)).1 (s.h.last+1) 0 p.bytes).2,[],[]))
   else lands (Sr.append (Sr.create s p.bytes.length (bM p)).1 (s.h.last+1) 0 p.bytes).1 (made++[s.h.last+1]) (told++toldOf (s.h.last+1) p.file) r
def land (s:Sh) (l:List (ByteArray×ByteArray)) (body:List UInt8):Sh×uD:=match bound l with
 | none=>(s,(415,[],[]))
 | some b => match parts b body with
   | none=>(s,(400,[],[]))
   | some ps=>if 100000<s.log.length+room ps then (s,(507,[],[])) else lands s [] [] ps
abbrev Y7:=Sh→ByteArray→ByteArray→List (ByteArray×ByteArray)→List UInt8→Sh×Tu.uD
section
variable (T:Y7)
def answer (s:Sh) (m t:ByteArray) (l:List (ByteArray×ByteArray)) (body:List UInt8):Sh×uD :=
 if ours t=true then ((T s m t l body).1,((T s m t l body).2.1,(T s m t l body).2.2,[]))
 else if t≠X8 then (s,(404,[],[]))
 else if m≠Du then (s,(405,[],[]))
 else land s l body
def over (s:Sh) (h:Rq.Hd) (body:List UInt8):Sh×uD:=answer T s (txt h.method) (txt h.target) (iN h.fields) body
def textOf (r:uD):List UInt8:=(Rp.text (r.1:Int) r.2.1 (Tu.vals ⟨#[99,111,110,116,101,110,116,45,108,101,110,103,116,104]⟩ r.2.1).length r.2.2).1
def ny (c:Nat):uD:=(if c=4 then 413 else 400,[],[])
/-! ### events -/
structure Gs where
 s:Sh
 hd:Rq.Hd
 body:List UInt8
 out:List UInt8
def ev (g:Gs):Rq.Ev→Gs
 | .head h=>{ g with hd:=h }
 | .body b=>{ g with body:=g.body++b }
 | .fin=>{ s:=(over T g.s g.hd g.body).1,hd:=Rq.hd0,body:=[],out:=g.out++textOf (over T g.s g.hd g.body).2 }
 | .fail c=>{ s:=g.s,hd:=Rq.hd0,body:=[],out:=g.out++textOf (ny c) }
def evs (g:Gs) (l:List Rq.Ev):Gs:=l.foldl (ev T) g
theorem kF (g:Gs) (e:Rq.Ev) (l:List Rq.Ev):evs T g (e::l)=evs T (ev T g e) l:=rfl
theorem Aa (g:Gs) (a b:List Rq.Ev):evs T g (a++b)=evs T (evs T g a) b:=by unfold evs;rw [List.foldl_append]
theorem Y8 (g:Gs) (a b:List UInt8):ev T (ev T g (.body a)) (.body b)=ev T g (.body (a++b)):=by
 show (⟨g.s,g.hd,(g.body++a)++b,g.out⟩:Gs)=⟨g.s,g.hd,g.body++(a++b),g.out⟩;rw [List.append_assoc]
theorem qy:∀ (l:List Rq.Ev) (g:Gs),evs T g (Rq.join l)=evs T g l
 | [],_=>rfl
 | .head h::r,g=>qy r (ev T g (.head h))
 | .fin::r,g=>qy r (ev T g .fin)
 | .fail c::r,g=>qy r (ev T g (.fail c))
 | .body a :: r, g => by
   have ih:=qy r (ev T g (.body a));rw [kF T g (.body a) r,←ih];show evs T g (match Rq.join r with
    | .body b::q=>.body (a++b)::q
    | q=>.body a::q)=_
   cases hq:Rq.join r with
   | nil=>rfl
   | cons e q =>
     cases e with
     | body b=>rw [kF,kF,Y8]
     | head _=>rfl
     | fin=>rfl
     | fail _=>rfl
theorem SC (g:Gs) (o:List UInt8) (e:Rq.Ev):ev T { g with out:=o++g.out } e={ ev T g e with out:=o++(ev T g e).out }:=by
 cases e with
 | head h=>rfl
 | body b=>rfl
 | fin=>simp only [ev,List.append_assoc]
 | fail c=>simp only [ev,List.append_assoc]
theorem M5:∀ (l:List Rq.Ev) (g:Gs) (o:List UInt8),evs T { g with out:=o++g.out } l={ evs T g l with out:=o++(evs T g l).out }
 | [],_,_=>rfl
 | e :: r, g, o => by
   rw [kF,kF,SC];exact M5 r (ev T g e) o
/-! ### a connection -/
structure Cn where
 rq:Rq.St
 hd:Rq.Hd
 body:List UInt8
def lg:Cn:=⟨Rq.start,Rq.hd0,[]⟩
def at_ (s:Sh) (c:Cn):Gs:=⟨s,c.hd,c.body,[]⟩
def Ab (s:Sh) (c:Cn) (b:List UInt8):Gs:=evs T (at_ s c) (Rq.outs c.rq b)
def feed (s:Sh) (c:Cn) (b:List UInt8):Sh×Cn×List UInt8:=((Ab T s c b).s,⟨Rq.fold c.rq b,(Ab T s c b).hd,(Ab T s c b).body⟩,(Ab T s c b).out)
theorem SE (s:Sh) (c:Cn):feed T s c []=(s,c,[]):=rfl
theorem xS (s:Sh) (c:Cn) (a b:List UInt8):feed T s c (a++b)=((feed T (feed T s c a).1 (feed T s c a).2.1 b).1,(feed T (feed T s c a).1 (feed T s c a).2.1 b).2.1,(feed T s c a).2.2++(feed T (feed T s c a).1 (feed T s c a).2.1 b).2.2):=by
 have hg:Ab T s c (a++b)={ Ab T (feed T s c a).1 (feed T s c a).2.1 b with out:=(Ab T s c a).out++(Ab T (feed T s c a).1 (feed T s c a).2.1 b).out }:=by
  unfold Ab;rw [Rq.cO,Aa];have:=M5 T (Rq.outs (Rq.fold c.rq a) b) (at_ (feed T s c a).1 (feed T s c a).2.1) (evs T (at_ s c) (Rq.outs c.rq a)).out;rw [show ({ at_ (feed T s c a).1 (feed T s c a).2.1 with out:=(evs T (at_ s c) (Rq.outs c.rq a)).out++(at_ (feed T s c a).1 (feed T s c a).2.1).out }:Gs)=evs T (at_ s c) (Rq.outs c.rq a) from by
   show (⟨_,_,_,_++[]⟩:Gs)=_;rw [List.append_nil];rfl] at this
  exact this
 unfold feed;rw [hg,Rq.dA];rfl
def feeds (s:Sh) (c:Cn):List (List UInt8)→Sh×Cn×List UInt8
 | []=>(s,c,[])
 | b::r=>((feeds (feed T s c b).1 (feed T s c b).2.1 r).1,(feeds (feed T s c b).1 (feed T s c b).2.1 r).2.1,(feed T s c b).2.2++(feeds (feed T s c b).1 (feed T s c b).2.1 r).2.2)
theorem mG:∀ (l:List (List UInt8)) (s:Sh) (c:Cn),feeds T s c l=feed T s c l.flatten
 | [],s,c=>(SE T s c).symm
 | b :: r, s, c => by
   rw [List.flatten_cons,xS];unfold feeds;rw [mG r]
/-! ### what holds of it -/
theorem oM:∀ (ids:List Int) {s:Sh},Sr.Ok s→Sr.Ok (jY s ids)
 | [],_,h=>h
 | i::r,_,h=>oM r (h.drop i)
theorem Ac:∀ (ps:List Fm.Pt) {s:Sh} (made:List Int) (told:List UInt8),Sr.Ok s→Sr.Ok (lands s made told ps).1
 | [],_,_,_,h=>h.sync
 | p :: r, s, made, told, h => by
   unfold lands;split
   · exact Ac r made told h
   · split
     · exact (oM made h).sync
     · split
       · exact (oM made ((h.create _ _).drop _)).sync
       · exact Ac r _ _ ((h.create _ _).append _ _ _)
theorem Wj {s:Sh} (h:Sr.Ok s) (l:List (ByteArray×ByteArray)) (body:List UInt8):Sr.Ok (land s l body).1:=by
 unfold land;split
 · exact h
 · split
   · exact h
   · split
     · exact h
     · exact Ac _ _ _ h
theorem Oz (hT:∀ {s:Sh},Sr.Ok s→∀ m t l body,Sr.Ok (T s m t l body).1) {s:Sh} (h:Sr.Ok s) (m t:ByteArray) (l:List (ByteArray×ByteArray)) (body:List UInt8):Sr.Ok (answer T s m t l body).1:=by
 unfold answer;split
 · exact hT h _ _ _ _
 · split
   · exact h
   · split
     · exact h
     · exact Wj h l body
theorem SF (hT:∀ {s:Sh},Sr.Ok s→∀ m t l body,Sr.Ok (T s m t l body).1) {g:Gs} (h:Sr.Ok g.s) (e:Rq.Ev):Sr.Ok (ev T g e).s:=by
 cases e with
 | head _=>exact h
 | body _=>exact h
 | fin=>exact Oz T hT h _ _ _ _
 | fail _=>exact h
theorem SG (hT:∀ {s:Sh},Sr.Ok s→∀ m t l body,Sr.Ok (T s m t l body).1):∀ (l:List Rq.Ev) {g:Gs},Sr.Ok g.s→Sr.Ok (evs T g l).s
 | [],_,h=>h
 | e::r,_,h=>SG hT r (SF T hT h e)
theorem Wm (hT:∀ {s:Sh},Sr.Ok s→∀ m t l body,Sr.Ok (T s m t l body).1) {s:Sh} (h:Sr.Ok s) (c:Cn) (b:List UInt8):Sr.Ok (feed T s c b).1:=SG T hT (g:=at_ s c) _ h
end
section
variable (T:Y7)
def Quiet (l:List Rq.Ev):Prop:=∀ e∈l,e≠.fin
theorem Quiet.left {a b:List Rq.Ev} (h:Quiet (a++b)):Quiet a:=fun e he=>h e (List.mem_append_left _ he)
theorem Quiet.right {a b:List Rq.Ev} (h:Quiet (a++b)):Quiet b:=fun e he=>h e (List.mem_append_right _ he)
theorem oN:∀ (l:List Rq.Ev),Quiet (Rq.join l)→Quiet l
 | [],_=>fun e he=>by cases he
 | .head h :: r, hq => fun e he => by
   rcases List.mem_cons.1 he with rfl | he
   · simp
   · exact oN r (fun e he=>hq e (List.mem_cons_of_mem _ he)) e he
 | .fin::r,hq=>absurd rfl (hq .fin (List.mem_cons_self ..))
 | .fail c :: r, hq => fun e he => by
   rcases List.mem_cons.1 he with rfl | he
   · simp
   · exact oN r (fun e he=>hq e (List.mem_cons_of_mem _ he)) e he
 | .body a :: r, hq => fun e he => by
   rcases List.mem_cons.1 he with rfl | he
   · simp
   · refine oN r (fun x hx=>?_) e he;have hj:Rq.join (.body a::r)=(match Rq.join r with
      | .body b::q=>.body (a++b)::q
      | q=>.body a::q):=rfl
     rw [hj] at hq;cases hr:Rq.join r with
     | nil=>rw [hr] at hx;cases hx
     | cons y q =>
       rw [hr] at hx hq;cases y with
       | body b =>
         rcases List.mem_cons.1 hx with rfl | hx
         · simp
         · exact hq x (List.mem_cons_of_mem _ hx)
       | head h=>exact hq x (List.mem_cons_of_mem _ hx)
       | fin=>exact hq x (List.mem_cons_of_mem _ hx)
       | fail c=>exact hq x (List.mem_cons_of_mem _ hx)
theorem DY:∀ (l:List Rq.Ev) (g:Gs),Quiet l→(evs T g l).s=g.s
 | [],_,_=>rfl
 | e :: r, g, h => by
   rw [kF,DY r _ (fun x hx=>h x (List.mem_cons_of_mem _ hx))];cases e with
   | head _=>rfl
   | body _=>rfl
   | fin=>exact absurd rfl (h .fin (List.mem_cons_self ..))
   | fail _=>rfl
theorem Ko (s:Sh) (c:Cn) (b:List UInt8) (h:Quiet (Rq.outs c.rq b)):(feed T s c b).1=s:=DY T _ (at_ s c) h
end
structure Small (r:uD):Prop where
 few:r.2.1.length≤5
 fields:∀ p∈r.2.1,p.1.size≤2000∧p.2.size≤2000
 body:r.2.2.length≤2000
theorem Small.bare (st:Nat):Small (st,[],[]):=⟨Nat.zero_le _,fun p hp=>by simp at hp,Nat.zero_le _⟩
def FS (r:Tu.uD):Prop:=r.2.length≤5∧∀ p∈r.2,p.1.size≤2000∧p.2.size≤2000
theorem uZ (n:Nat):(Tu.dec n).size≤9:=by
 unfold Tu.dec;show (Ch.dh 8 n).toArray.size≤_;rw [List.size_toArray];exact (Ch.dN 8 n).1
theorem zk (st:Nat) (l:List (ByteArray×ByteArray)) (hl:l.length≤4) (h:∀ p∈l,p.1.size≤2000∧p.2.size≤2000):FS (Tu.said st l):=by
 refine ⟨by show l.length+1≤5;omega,fun p hp=>?_⟩;rcases List.mem_cons.1 hp with rfl | hp
 · exact ⟨by decide,by decide⟩
 · exact h p hp
theorem iK (st:Nat):FS (Tu.said st []):=zk st [] (Nat.zero_le _) (fun p hp=>by cases hp)
theorem KE (st:Nat) (a b:ByteArray) (ha:a.size≤2000) (hb:b.size≤2000):FS (Tu.said st [(a,b)]):=zk st _ (by show (1:Nat)≤4;omega) (fun p hp=>by
 rw [List.mem_singleton.1 hp];exact ⟨ha,hb⟩)
theorem WI (s:Sh) (m:ByteArray) (l:List (ByteArray×ByteArray)):FS (Tu.post s m l).2:=by
 unfold Tu.post;repeat' split
 all_goals first
  | exact iK _
  | exact KE _ _ _ (by decide) (by rw [ByteArray.size_append];have:=uZ (s.h.last+1).toNat;have:Tu.fZ.size=7:=rfl;omega)
theorem Tc (s:Sh) (u:Sp.Up) (l:List (ByteArray×ByteArray)) (body:List UInt8):FS (Tu.patch s u l body).2:=by
 unfold Tu.patch;split
 · exact iK _
 · split
   · exact iK _
   · split
     · exact iK _
     · split
       · exact iK _
       · split
         · exact iK _
         · split
           · exact iK _
           · split
             · exact iK _
             · split
               · exact iK _
               · exact KE _ _ _ (by decide) (by have:=uZ (u.bytes.length+body.length);omega)
theorem WJ (u:Sp.Up) (h:u.note.size≤100):FS (Tu.head u):=by
 unfold Tu.head;refine zk 200 _ ?_ (fun p hp=>?_)
 · simp only [List.length_cons];split <;> simp
 · rcases List.mem_cons.1 hp with rfl | hp
   · exact ⟨show Tu.pK.size≤2000 by decide,by have:=uZ u.bytes.length;show (Tu.dec u.bytes.length).size≤_;omega⟩
   · rcases List.mem_cons.1 hp with rfl | hp
     · split
       · exact ⟨by decide,by decide⟩
       · exact ⟨show Tu.zL.size≤2000 by decide,by have:=uZ u.size.toNat;show (Tu.dec u.size.toNat).size≤_;omega⟩
     · rcases List.mem_cons.1 hp with rfl | hp
       · exact ⟨by decide,by decide⟩
       · split at hp
         · cases hp
         · rw [List.mem_singleton.1 hp];exact ⟨show Tu.JI.size≤2000 by decide,by show u.note.size≤_;omega⟩
theorem Te {s:Sh} (ok:Sr.Ok s) (m t:ByteArray) (l:List (ByteArray×ByteArray)) (body:List UInt8):FS (Tu.aS s m t l body).2:=by
 unfold Tu.aS;split
 · exact zk _ _ (by decide) (by decide)
 · split
   · exact iK _
   · split
     · exact KE _ _ _ (by decide) (by decide)
     · split
       · exact WI s m l
       · split
         · exact iK _
         · rename_i u hu;unfold Tu.OT;split
           · exact WJ u (ok.h.all u (Tu.zO hu).1).note
           · split
             · exact iK _
             · split
               · exact Tc s u l body
               · exact iK _
theorem Au {s:Sh} {z:Int} {m:ByteArray} (h:(Sr.create s z m).2=0):(Sr.create s z m).1.h.l.length=s.h.l.length+1∧m.size≤100:=by
 unfold Sr.create Sr.write at h ⊢;split
 · rename_i h1;rw [if_pos h1] at h;exact absurd h h1
 · rename_i h1;rw [if_neg h1] at h;split
   · rename_i h2;rw [if_pos h2] at h;exact absurd h (by simp)
   · rename_i h2;rw [if_neg h2] at h;split
     · rename_i h3;rw [if_pos h3] at h;exact absurd h (by simp)
     · clear h h2;show (Sr.made s.h z m).1.l.length=_∧_;unfold Sr.made Sp.create at h1 ⊢;split
       · rename_i h3;rw [if_pos h3] at h1;exact absurd (by simp) h1
       · rename_i h3;rw [if_neg h3] at h1;split
         · rename_i h4;rw [if_pos h4] at h1;exact absurd (by simp) h1
         · rename_i h4;rw [if_neg h4] at h1;split
           · rename_i h5;rw [if_pos h5] at h1;exact absurd (by simp) h1
           · rename_i h5;rw [if_neg h5] at h1;split
             · rename_i h6;rw [if_pos h6] at h1;exact absurd (by simp) h1
             · exact ⟨by simp,by omega⟩
theorem Ig (s:Sh) (id off:Int) (b:List UInt8):(Sr.append s id off b).1.h.l.length=s.h.l.length:=by
 have h0:(Sp.append s.h id off b).1.l.length=s.h.l.length:=by
  unfold Sp.append Sp.jw;split
  · rfl
  · split
    · rfl
    · simp only [];repeat' split
      all_goals first
       | rfl
       | (show (List.set _ _ _).length=_;rw [List.length_set])
 unfold Sr.append Sr.write;repeat' split
 all_goals first
  | rfl
  | exact h0
theorem Av (id:Int) (f:ByteArray):(toldOf id f).length≤11+f.size:=by
 unfold toldOf;have:=(Ch.dN 8 id.toNat).1;have hf:f.data.toList.length=f.size:=by rw [Array.length_toList];rfl
 simp only [List.length_append,List.length_cons,List.length_nil];omega
theorem qG:∀ (ps:List Fm.Pt) {s:Sh} (made:List Int) (told:List UInt8),Sr.Ok s→told.length≤120*s.h.l.length→Small (lands s made told ps).2
 | [],s,_,told,ok,h=>⟨Nat.zero_le _,(fun p hp=>by cases hp),(by have:=ok.h.few;show told.length≤_;omega)⟩
 | p :: r, s, made, told, ok, h => by
   unfold lands;split
   · exact qG r made told ok h
   · split
     · exact Small.bare _
     · rename_i h2;split
       · exact Small.bare _
       · have hc:(Sr.create s p.bytes.length (bM p)).2=0:=by
          rcases Nat.eq_zero_or_pos (Sr.create s p.bytes.length (bM p)).2 with e | e
          · exact e
          · exact absurd (by omega) h2
         obtain ⟨c1,c2⟩:=Au hc;refine qG r _ _ ((ok.create _ _).append _ _ _) ?_;rw [Ig,c1,List.length_append];have hz:(bM p).size=9+p.file.size:=by
          show (xK++p.file.data.toList).toArray.size=_;rw [List.size_toArray,List.length_append,Array.length_toList];rfl
         have:=Av (s.h.last+1) p.file;omega
theorem KF {s:Sh} (ok:Sr.Ok s) (l:List (ByteArray×ByteArray)) (body:List UInt8):Small (land s l body).2:=by
 unfold land;split
 · exact Small.bare _
 · split
   · exact Small.bare _
   · split
     · exact Small.bare _
     · exact qG _ _ _ ok (Nat.zero_le _)
theorem u6 {s:Sh} (ok:Sr.Ok s) (m t:ByteArray) (l:List (ByteArray×ByteArray)) (body:List UInt8):Small (answer Tu.aS s m t l body).2:=by
 unfold answer;split
 · exact ⟨(Te ok m t l body).1,(Te ok m t l body).2,Nat.zero_le _⟩
 · split
   · exact Small.bare _
   · split
     · exact Small.bare _
     · exact KF ok l body
/-! ### texts -/
theorem Tf (p:ByteArray×ByteArray):(Rp.ko p).length≤202:=by
 unfold Rp.ko;rw [List.length_append];have:(Fd.text p.1.data.toList p.2.data.toList).1.length≤200:=by
  unfold Fd.text;repeat' split
  all_goals first
   | exact Nat.zero_le _
   | (simp only [List.length_append,List.length_cons,List.length_nil];omega)
 simp only [List.length_cons,List.length_nil];omega
theorem D8:∀ l:List (ByteArray×ByteArray),(l.flatMap Rp.ko).length≤202*l.length
 | []=>Nat.zero_le _
 | p :: r => by
   rw [List.flatMap_cons,List.length_append,List.length_cons];have:=Tf p;have:=D8 r;omega
theorem Tg (st:Int) (l:List (ByteArray×ByteArray)) (nv:Nat) (body:List UInt8):(Rp.text st l nv body).1.length≤4000+body.length:=by
 unfold Rp.text;split
 · exact Nat.zero_le _
 · split
   · exact Nat.zero_le _
   · split
     · exact Nat.zero_le _
     · split
       · exact Nat.zero_le _
       · have h1:=D8 l;have h2:=Rp.Gx st;have h3:=(Ch.dN 8 st.toNat).1;have h4:=(Ch.dN 8 body.length).1;have h5:Rp.h11.length=9:=rfl;have h6:Rp.cl.length=16:=rfl;simp only [Rp.first,List.length_append,List.length_cons,List.length_nil];omega
theorem Aw {r:uD} (h:Small r):(textOf r).length≤6000:=by
 unfold textOf;have:=Tg (r.1:Int) r.2.1 (Tu.vals ⟨#[99,111,110,116,101,110,116,45,108,101,110,103,116,104]⟩ r.2.1).length r.2.2;have:=h.body;omega
theorem sN (c:Nat):Small (ny c):=Small.bare _
/-! ### a connection -/
structure sH (c:Cn):Prop where
 rq:Rq.Good c.rq
 hd:Rq.iV c.hd
theorem Ay:Rq.iV Rq.hd0:=⟨Nat.zero_le _,Nat.zero_le _,Nat.zero_le _,Nat.zero_le _,fun f hf=>by cases hf⟩
theorem sH.new:sH lg:=⟨Rq.Good.start,Ay⟩
section
variable (T:Y7)
theorem Yb {g:Gs} {e:Rq.Ev} (h:Rq.iV g.hd) (he:e.oK):Rq.iV (ev T g e).hd:=by
 cases e with
 | head x=>exact he
 | body b=>exact h
 | fin=>exact Ay
 | fail c=>exact Ay
theorem Ti:∀ (l:List Rq.Ev) {g:Gs},Rq.iV g.hd→(∀ e∈l,e.oK)→Rq.iV (evs T g l).hd
 | [],_,h,_=>h
 | e::r,_,h,he=>Ti r (Yb T h (he e (by simp))) (fun x hx=>he x (by simp [hx]))
theorem Az:∀ (l:List Rq.Ev) (g:Gs),(evs T g l).body.length≤g.body.length+Rq.cK l
 | [],_=>Nat.le_refl _
 | e :: r, g => by
   have h:=Az r (ev T g e);rw [kF];cases e with
   | head x=>exact h
   | body b =>
     have h1:(ev T g (.body b)).body.length=g.body.length+b.length:=List.length_append;show _≤_+(b.length+Rq.cK r);omega
   | fin =>
     have h1:(ev T g .fin).body.length=0:=rfl;show _≤_+Rq.cK r;omega
   | fail c =>
     have h1:(ev T g (.fail c)).body.length=0:=rfl;show _≤_+Rq.cK r;omega
theorem Nf {c:Cn} (h:sH c) (s:Sh) (b:List UInt8):sH (feed T s c b).2.1:=⟨h.rq.fold b,Ti T _ (g:=at_ s c) h.hd (Rq.lT b h.rq)⟩
theorem D9 (s:Sh) (c:Cn) (b:List UInt8):(feed T s c b).2.1.body.length≤c.body.length+b.length:=by
 have h1:=Az T (Rq.outs c.rq b) (at_ s c);have h2:=(Rq.iW b c.rq).2.1;show (evs T (at_ s c) (Rq.outs c.rq b)).body.length≤_;have h3:(at_ s c).body=c.body:=rfl;rw [h3] at h1;omega
end
theorem KG {g:Gs} (ok:Sr.Ok g.s) (e:Rq.Ev):(ev Tu.aS g e).out.length≤g.out.length+6000:=by
 cases e with
 | head x=>exact Nat.le_add_right _ _
 | body b=>exact Nat.le_add_right _ _
 | fin =>
   show (g.out++textOf _).length≤_;rw [List.length_append];have:=Aw (u6 ok (txt g.hd.method) (txt g.hd.target) (iN g.hd.fields) g.body);unfold over;omega
 | fail c =>
   show (g.out++textOf _).length≤_;rw [List.length_append];have:=Aw (sN c);omega
theorem qH:∀ (l:List Rq.Ev) {g:Gs},Sr.Ok g.s→(evs Tu.aS g l).out.length≤g.out.length+6000*l.length
 | [],_,_=>by simp [evs]
 | e :: r, g, ok => by
   have h1:=KG ok e;have h2:=qH r (SF Tu.aS (fun h m t l b=>Tu.Nb h m t l b) ok e);rw [kF,List.length_cons];omega
end Go.Proofs.YtjmndjmhjleabaaGreatDoor.Gt
namespace Go.Proofs.YtjmndjmhjleabaaGreatDoor.Fm
theorem tail_at {l:List UInt8} {p:Nat} (hp:p≤l.length) (h1:∀ j (hj:j<l.length),p≤j→stroke l[j]=false) (h2:p=0∨∃ h:p - 1<l.length,0<p∧stroke l[p - 1]=true):tail l=l.drop p:=by
 have e:l.reverse=(l.drop p).reverse++(l.take p).reverse:=by rw [←List.reverse_append,List.take_append_drop]
 have ha:∀ c∈(l.drop p).reverse,(!stroke c)=true:=by
  intro c hc;rw [List.mem_reverse] at hc;obtain ⟨j,hj,rfl⟩:=List.getElem_of_mem hc;rw [List.length_drop] at hj;rw [List.getElem_drop,h1 (p+j) (by omega) (by omega)];rfl
 have hb:(l.take p).reverse.takeWhile (fun c=>!stroke c)=[]:=by
  rcases h2 with rfl | ⟨h,h0,hs⟩
  · rfl
  · obtain ⟨q,rfl⟩:∃ q,p=q+1:=⟨p - 1,by omega⟩;have hq:q<l.length:=by simpa using h
    have hs':stroke l[q]=true:=by simpa using hs
    rw [List.take_succ_eq_append_getElem hq,List.reverse_append];show (l[q]::(l.take q).reverse).takeWhile _=[];rw [List.takeWhile_cons,hs'];rfl
 unfold tail;rw [e,List.takeWhile_append_of_pos ha,hb,List.append_nil,List.reverse_reverse]
theorem K6 {c:UInt8} (h:dirty c=false):uO c=c:=by unfold uO;rw [h];rfl
def jf (k:Nat) (l:List UInt8):List UInt8:=(l.take k).map uO++l.drop k
theorem nQ (k:Nat) (l:List UInt8):(jf k l).length=l.length:=by
 unfold jf;rw [List.length_append,List.length_map,←List.length_append,List.take_append_drop]
theorem IG (l:List UInt8):jf 0 l=l:=rfl
theorem K7 (l:List UInt8):jf l.length l=l.map uO:=by unfold jf;rw [List.take_length,List.drop_length,List.append_nil]
theorem Pk {k:Nat} {l:List UInt8} (h:k<l.length):(jf k l)[k]'(by rw [nQ];exact h)=l[k]:=by
 unfold jf;rw [List.getElem_append_right (by rw [List.length_map,List.length_take];omega)];simp [List.getElem_drop,Nat.min_eq_left (Nat.le_of_lt h)]
theorem II {k:Nat} {l:List UInt8} (h:k<l.length):jf (k+1) l=(jf k l).set k (uO l[k]):=by
 unfold jf;rw [List.take_succ_eq_append_getElem h,List.map_append,List.drop_eq_getElem_cons h,List.set_append_right _ _ (by rw [List.length_map,List.length_take];omega)];rw [List.length_map,List.length_take,Nat.min_eq_left (Nat.le_of_lt h),Nat.sub_self];simp;rw [List.drop_eq_getElem_cons h];rfl
theorem IJ {k:Nat} {l:List UInt8} (h:k<l.length) (hd:dirty l[k]=false):jf (k+1) l=jf k l:=by
 unfold jf;rw [List.take_succ_eq_append_getElem h,List.map_append,List.drop_eq_getElem_cons h];simp [K6 hd]
theorem IL {c:UInt8} {t:List UInt8} (h:c≠37):dec (c::t)=(dec t).map (c::·):=by rw [dec.eq_def];simp only [];rw [if_neg h]
theorem Ns {a b:UInt8} {r:List UInt8} (ha:0≤Ch.hex a.toNat) (hb:0≤Ch.hex b.toNat):dec (37::a::b::r)=(dec r).map ((16*Ch.hex a.toNat+Ch.hex b.toNat).toNat.toUInt8::·):=by
 rw [dec.eq_def];simp only [];rw [if_pos trivial,if_pos ⟨ha,hb⟩]
theorem Nt {a b:UInt8} {r:List UInt8} (h:¬ (0≤Ch.hex a.toNat∧0≤Ch.hex b.toNat)):dec (37::a::b::r)=none:=by
 rw [dec.eq_def];simp only [];rw [if_pos trivial,if_neg h]
theorem wW {t:List UInt8} (h:t.length<2):dec (37::t)=none:=by
 match t,h with
 | [],_=>rw [dec.eq_def];simp only [];rw [if_pos trivial]
 | [_],_=>rw [dec.eq_def];simp only [];rw [if_pos trivial]
 | _::_::_,h=>simp at h;omega
def decs (bs r:List UInt8):Option (List UInt8):=(dec r).map (bs++·)
theorem TH (bs:List UInt8):decs bs []=some bs:=by unfold decs;rw [dec];simp
theorem Po {bs:List UInt8} {c:UInt8} {t:List UInt8} (h:c≠37):decs bs (c::t)=decs (bs++[c]) t:=by
 unfold decs;rw [IL h,Option.map_map];congr 1;funext x;simp
theorem TI {bs:List UInt8} {a b:UInt8} {r:List UInt8} (ha:0≤Ch.hex a.toNat) (hb:0≤Ch.hex b.toNat):decs bs (37::a::b::r)=decs (bs++[(16*Ch.hex a.toNat+Ch.hex b.toNat).toNat.toUInt8]) r:=by
 unfold decs;rw [Ns ha hb,Option.map_map];congr 1;funext x;simp
theorem TJ {bs:List UInt8} {a b:UInt8} {r:List UInt8} (h:¬ (0≤Ch.hex a.toNat∧0≤Ch.hex b.toNat)):decs bs (37::a::b::r)=none:=by unfold decs;rw [Nt h];rfl
theorem K8 {bs t:List UInt8} (h:t.length<2):decs bs (37::t)=none:=by unfold decs;rw [wW h];rfl
theorem K9 (r:List UInt8):decs [] r=dec r:=by unfold decs;simp
theorem La (a b:UInt8):Ch.number 16 6 [a,b]=if 0≤Ch.hex a.toNat∧0≤Ch.hex b.toNat then (16*Ch.hex a.toNat+Ch.hex b.toNat,true) else (0,false):=by
 have h6:¬ (6:Int)<(([a,b]:List UInt8).length:Int):=by simp
 by_cases h:0≤Ch.hex a.toNat∧0≤Ch.hex b.toNat
 · rw [if_pos h,Ch.mh 16 6 _ (by simp) h6 (by rw [List.all_cons,List.all_cons,Ch.Df,Ch.Df,decide_eq_true h.1,decide_eq_true h.2];rfl)];unfold Ch.numOf;simp only [List.foldl_cons,List.foldl_nil];rw [show (0:Int)*16+Ch.hex a.toNat=Ch.hex a.toNat by omega,show Ch.hex a.toNat*16+Ch.hex b.toNat=16*Ch.hex a.toNat+Ch.hex b.toNat by omega]
 · rw [if_neg h,Ch.nU 16 6 _ (by
    rw [List.all_cons,List.all_cons,Ch.Df,Ch.Df];simp only [List.all_nil,Bool.and_true];rw [Bool.and_eq_false_iff,decide_eq_false_iff_not,decide_eq_false_iff_not];rcases Decidable.not_and_iff_not_or_not.1 h with h | h
    · exact Or.inl h
    · exact Or.inr h)]
theorem TK {a b:UInt8} (ha:0≤Ch.hex a.toNat) (hb:0≤Ch.hex b.toNat):((16*Ch.hex a.toNat+Ch.hex b.toNat).toNat.toUInt8.toNat:Int)=16*Ch.hex a.toNat+Ch.hex b.toNat∧16*Ch.hex a.toNat+Ch.hex b.toNat≤255:=by
 have h1:=(Ch.l9 a).2;have h2:=(Ch.l9 b).2;generalize Ch.hex (a.toNat:Int)=x at *;generalize Ch.hex (b.toNat:Int)=y at *;refine ⟨?_,by omega⟩;have:(16*x+y).toNat<256:=by omega
 have e:(16*x+y).toNat.toUInt8.toNat=(16*x+y).toNat:=by simp [Nat.toUInt8];omega
 rw [e];omega
def vG (d:List UInt8×Nat):Nat ⊕ List Pm.nS :=
 if d.2≠0 then .inl d.2
 else match Pm.dS d.1 with
  | .inl c=>.inl c
  | .inr x=>if x.1≠DN then .inl 11 else .inr x.2
def partOf (ps:List Pm.nS) (t:List UInt8×Nat):Nat ⊕ V6 :=
 match get GL ps with
 | none=>.inl 6
 | some nm => match file ps with
   | none=>.inl 5
   | some f=>if t.2=9 then .inl 9 else .inr ⟨nm,f,t.1⟩
theorem IU (d t:List UInt8×Nat):kN d t=match vG d with
 | .inl c=>.inl c
 | .inr ps=>partOf ps t:=by
 unfold kN vG partOf;by_cases h:d.2≠0
 · rw [if_pos h,if_pos h]
 · rw [if_neg h,if_neg h];cases Pm.dS d.1 with
   | inl c=>rfl
   | inr x =>
     simp only;by_cases h2:x.1≠DN
     · rw [if_pos h2,if_pos h2]
     · rw [if_neg h2,if_neg h2];all_goals
        simp only;cases get GL x.2 with
        | none=>rfl
        | some nm=>cases file x.2 <;> rfl
theorem TL {d:List UInt8×Nat} {c:Nat} (h:d.2=0) (hm:Pm.dS d.1=.inl c):vG d=.inl c:=by unfold vG;rw [if_neg (fun e=>e h),hm]
theorem Pp {d:List UInt8×Nat} {x:List UInt8×List Pm.nS} (h:d.2=0) (hm:Pm.dS d.1=.inr x) (hx:x.1≠DN):vG d=.inl 11:=by unfold vG;rw [if_neg (fun e=>e h),hm];exact if_pos hx
theorem WY {d:List UInt8×Nat} {x:List UInt8×List Pm.nS} (h:d.2=0) (hm:Pm.dS d.1=.inr x) (hx:x.1=DN):vG d=.inr x.2:=by unfold vG;rw [if_neg (fun e=>e h),hm];exact if_neg (fun e=>e hx)
theorem Fv:∀ (n:Nat) (l y:List UInt8),l.length≤n→dec l=some y→y.length≤l.length
 | _,[],y,_,h=>by rw [dec] at h;injection h with h;subst h;exact Nat.le_refl _
 | 0,_::_,_,hn,_=>by simp at hn
 | n + 1, c :: t, y, hn, h => by
   simp only [List.length_cons] at hn;by_cases hc:c=37
   · subst hc;match t,hn,h with
     | [],_,h=>rw [wW (by simp)] at h;cases h
     | [_],_,h=>rw [wW (by simp)] at h;cases h
     | a :: b :: r, hn, h =>
       by_cases hab:0≤Ch.hex a.toNat∧0≤Ch.hex b.toNat
       · rw [Ns hab.1 hab.2] at h;obtain ⟨z,hz,rfl⟩:=Option.map_eq_some_iff.1 h;have:=Fv n r z (by simp only [List.length_cons] at hn;omega) hz;simp only [List.length_cons];omega
       · rw [Nt hab] at h;cases h
   · rw [IL hc] at h;obtain ⟨z,hz,rfl⟩:=Option.map_eq_some_iff.1 h;have:=Fv n t z (by omega) hz;simp only [List.length_cons];omega
theorem Pq {l y:List UInt8} (h:coded l=some y):y.length≤l.length:=by
 unfold coded at h;split at h
 · cases h
 · have:=Fv _ _ _ (Nat.le_refl _) h;rw [List.length_drop] at this;omega
theorem IV:∀ (n:Nat) (r:List UInt8) (acc ps:List Pm.nS),acc.length≤8→Pm.oH n r acc=.inr ps→ps.length≤8
 | 0,r,acc,ps,h8,h=>by rw [Pm.oH] at h;injection h with h;subst h;exact h8
 | n + 1, r, acc, ps, h8, h => by
   rw [Pm.oH] at h;split at h
   · injection h with h;subst h;exact h8
   · split at h
     · cases h
     · split at h
       · cases h
       · split at h
         · cases h
         · rename_i hne;exact IV n _ _ ps (by rw [List.length_append];simp;omega) h
theorem El {l wd:List UInt8} {ps:List Pm.nS} (h:Pm.dS l=.inr (wd,ps)):ps.length≤8:=by
 unfold Pm.dS at h;split at h
 · cases h
 · split at h
   · cases h
   · unfold Pm.fin at h;split at h
     · cases h
     · rename_i hp;injection h with h;injection h with _ h;subst h;exact IV _ _ _ _ (Nat.zero_le _) hp
theorem TM {d:List UInt8×Nat} {ps:List Pm.nS} (h:vG d=.inr ps):ps.length≤8∧∀ p∈ps,p.2.length≤d.1.length:=by
 unfold vG at h;split at h
 · cases h
 · split at h
   · cases h
   · rename_i x hm;split at h
     · cases h
     · injection h with h;subst h;exact ⟨El hm,fun p hp=>((Pm.wL hm).2 p hp).2⟩
end Go.Proofs.YtjmndjmhjleabaaGreatDoor.Fm
namespace Go.Proofs.YtjmndjmhjleabaaGreatDoor.Gt
open Sr
structure Ld where
 s:Sh
 ids:List Int
 told:List UInt8
 code:Nat
def jT (r:Ld) (p:Fm.Pt):Ld :=
 if (Sr.create r.s p.bytes.length (bM p)).2≠0 then { r with code:=(Sr.create r.s p.bytes.length (bM p)).2 }
 else if (Sr.append (Sr.create r.s p.bytes.length (bM p)).1 (r.s.h.last+1) 0 p.bytes).2≠0 then
  { r with s:=(Sr.drop (Sr.append (Sr.create r.s p.bytes.length (bM p)).1 (r.s.h.last+1) 0 p.bytes).1 (r.s.h.last+1)).1,code:=(Sr.append (Sr.create r.s p.bytes.length (bM p)).1 (r.s.h.last+1) 0 p.bytes).2 }
 else ⟨(Sr.append (Sr.create r.s p.bytes.length (bM p)).1 (r.s.h.last+1) 0 p.bytes).1,r.ids++[r.s.h.last+1],r.told++toldOf (r.s.h.last+1) p.file,0⟩
def adds (r:Ld):List Fm.Pt→Ld
 | []=>r
 | p::t=>if p.file.size=0 then adds r t else if (jT r p).code≠0 then jT r p else adds (jT r p) t
def ends (r:Ld):Sh×uD:=if r.code=0 then (Sr.sync r.s,(201,[],r.told)) else (Sr.sync (jY r.s r.ids),(stat r.code,[],[]))
theorem IX {s:Sh} {id off:Int} {b:List UInt8} (h:(Sr.append s id off b).2≠0):(Sr.append s id off b).1=s:=Tu.jN h
theorem IY {s:Sh} {z:Int} {m:ByteArray} (h:(Sr.create s z m).2≠0):(Sr.create s z m).1=s:=Tu.jN h
theorem tZ:∀ (ps:List Fm.Pt) (r:Ld),r.code=0→lands r.s r.ids r.told ps=ends (adds r ps)
 | [],r,h=>by unfold lands adds ends;rw [if_pos h]
 | p :: t, r, h => by
   unfold lands adds;by_cases h0:p.file.size=0
   · rw [if_pos h0,if_pos h0];exact tZ t r h
   · rw [if_neg h0,if_neg h0];by_cases h1:(Sr.create r.s p.bytes.length (bM p)).2=0
     · by_cases h2:(Sr.append (Sr.create r.s p.bytes.length (bM p)).1 (r.s.h.last+1) 0 p.bytes).2=0
       · have ha:jT r p=⟨(Sr.append (Sr.create r.s p.bytes.length (bM p)).1 (r.s.h.last+1) 0 p.bytes).1,r.ids++[r.s.h.last+1],r.told++toldOf (r.s.h.last+1) p.file,0⟩:=by
          unfold jT;rw [if_neg (by rw [h1];simp),if_neg (by rw [h2];simp)]
         rw [if_neg (by show ¬ (Sr.create r.s p.bytes.length (bM p)).2≠0;rw [h1];simp),if_neg (by show ¬ (Sr.append (Sr.create r.s p.bytes.length (bM p)).1 (r.s.h.last+1) 0 p.bytes).2≠0;rw [h2];simp),ha,if_neg (by simp)];exact tZ t ⟨(Sr.append (Sr.create r.s p.bytes.length (bM p)).1 (r.s.h.last+1) 0 p.bytes).1,r.ids++[r.s.h.last+1],r.told++toldOf (r.s.h.last+1) p.file,0⟩ rfl
       · have ha:jT r p={ r with s:=(Sr.drop (Sr.append (Sr.create r.s p.bytes.length (bM p)).1 (r.s.h.last+1) 0 p.bytes).1 (r.s.h.last+1)).1,code:=(Sr.append (Sr.create r.s p.bytes.length (bM p)).1 (r.s.h.last+1) 0 p.bytes).2 }:=by
          unfold jT;rw [if_neg (by rw [h1];simp),if_pos h2]
         rw [if_neg (by show ¬ (Sr.create r.s p.bytes.length (bM p)).2≠0;rw [h1];simp),if_pos (show (Sr.append (Sr.create r.s p.bytes.length (bM p)).1 (r.s.h.last+1) 0 p.bytes).2≠0 from h2),ha,if_pos h2];unfold ends;rw [if_neg h2,IX h2]
     · have ha:jT r p={ r with code:=(Sr.create r.s p.bytes.length (bM p)).2 }:=by unfold jT;rw [if_pos h1]
       rw [if_pos (show (Sr.create r.s p.bytes.length (bM p)).2≠0 from h1),ha,if_pos h1];unfold ends;rw [if_neg h1]
theorem Fy {r:Ld} (h:Sr.Ok r.s) (p:Fm.Pt):Sr.Ok (jT r p).s:=by
 unfold jT;split
 · exact h
 · split
   · exact ((h.create _ _).append _ _ _).drop _
   · exact (h.create _ _).append _ _ _
theorem Fz:∀ (ps:List Fm.Pt) {r:Ld},Sr.Ok r.s→Sr.Ok (adds r ps).s
 | [],_,h=>h
 | p :: t, r, h => by
   unfold adds;split
   · exact Fz t h
   · split
     · exact Fy h p
     · exact Fz t (Fy h p)
structure TR (r:Ld):Prop where
 ok:Sr.Ok r.s
 told:r.told.length≤120*r.ids.length
 few:r.ids.length≤r.s.h.l.length∨r.code≠0
theorem Pz {r:Ld} (h:TR r) (h0:r.code=0) (p:Fm.Pt):TR (jT r p):=by
 refine ⟨Fy h.ok p,?_,?_⟩
 · unfold jT;split
   · exact h.told
   · rename_i h1;split
     · exact h.told
     · have hc:(Sr.create r.s p.bytes.length (bM p)).2=0:=Classical.byContradiction h1;have hz:(bM p).size=9+p.file.size:=by
        show (xK++p.file.data.toList).toArray.size=_;rw [List.size_toArray,List.length_append,Array.length_toList];rfl
       have h2:=(Au hc).2;have h3:=Av (r.s.h.last+1) p.file;have h4:=h.told;simp only [List.length_append,List.length_cons,List.length_nil];omega
 · unfold jT;split
   · rename_i h1;exact Or.inr h1
   · rename_i h1;split
     · rename_i h2;exact Or.inr h2
     · have hc:(Sr.create r.s p.bytes.length (bM p)).2=0:=Classical.byContradiction h1;refine Or.inl ?_;show (r.ids++[r.s.h.last+1]).length≤(Sr.append _ _ _ _).1.h.l.length;rw [Ig,(Au hc).1,List.length_append];rcases h.few with h | h
       · simp;omega
       · exact absurd h0 h
def bs (o:List Fm.Pt):Nat:=(o.map fun p=>p.bytes.length).sum
theorem xk (a b:List Fm.Pt):bs (a++b)=bs a+bs b:=by unfold bs;rw [List.map_append,List.sum_append]
theorem UG:∀ {o:List Fm.Pt} {q:Fm.Pt},q∈o→q.bytes.length≤bs o
 | p :: t, q, h => by
   show _≤p.bytes.length+bs t;rcases List.mem_cons.1 h with rfl | h
   · omega
   · have:=UG h;omega
theorem Xt (o:List Fm.Pt) (e:aZ) (h:e.aL=[]):bs (Fm.laid o e)≤bs o+e.bytes.length:=by
 unfold Fm.laid;split
 · rw [xk];show _+(e.aL.length+0)≤_;rw [h];show bs o+0≤_;omega
 · split
   · rcases List.eq_nil_or_concat o with rfl | ⟨q,p,rfl⟩
     · exact Nat.zero_le _
     · rw [List.concat_eq_append,List.dropLast_concat,List.getLast?_append,xk,xk];show bs q+(e.bytes.length+0)≤bs q+bs [p]+e.bytes.length;omega
   · omega
theorem Qm (o:List Fm.Pt) (e:aZ) (h:e.eG.size≤200) (ho:∀ q∈o,q.file.size≤200):∀ q∈Fm.laid o e,q.file.size≤200:=by
 unfold Fm.laid;split
 · intro q hq;rcases List.mem_append.1 hq with hq | hq
   · exact ho q hq
   · rw [List.mem_singleton.1 hq];exact h
 · split
   · rcases List.eq_nil_or_concat o with rfl | ⟨r,p,rfl⟩
     · intro q hq;cases hq
     · rw [List.concat_eq_append] at ho ⊢;rw [List.dropLast_concat,List.getLast?_append];intro q hq;rcases List.mem_append.1 hq with hq | hq
       · exact ho q (List.mem_append_left _ hq)
       · have:q={ p with bytes:=e.bytes }:=List.mem_singleton.1 hq;rw [this];exact ho p (List.mem_append_right _ (by simp))
   · exact ho
theorem Xu (es:List aZ) (h:∀ e∈es,Fm.oK e):bs (Fm.kE es)≤gq es∧∀ q∈Fm.kE es,q.file.size≤200:=by
 have key:∀ (m:List aZ) (o:List Fm.Pt),(∀ e∈m,Fm.oK e)→(∀ q∈o,q.file.size≤200)→bs (m.foldl Fm.laid o)≤bs o+gq m∧∀ q∈m.foldl Fm.laid o,q.file.size≤200:=by
  intro m;induction m with
  | nil=>intro o _ ho;exact ⟨Nat.le_refl _,ho⟩
  | cons e t ih =>
    intro o hm ho;have he:=hm e (by simp);have h1:=Xt o e he.aL;have h2:=ih (Fm.laid o e) (fun x hx=>hm x (by simp [hx])) (Qm o e he.eG ho);refine ⟨?_,h2.2⟩;show bs (t.foldl Fm.laid (Fm.laid o e))≤bs o+(e.bytes.length+gq t);have:=h2.1;omega
 have:=key es [] h (fun q hq=>by cases hq);refine ⟨?_,this.2⟩;have h1:bs (Fm.kE es)≤0+gq es:=this.1;omega
theorem NH:∀ o:List Fm.Pt,room o=bs o+200*o.length
 | []=>rfl
 | p :: t => by
   have:=NH t;unfold room bs at *;simp only [List.map_cons,List.sum_cons,List.length_cons];omega
theorem Jo {b body:List UInt8} {ps:List Fm.Pt} (h:parts b body=some ps) (hm:3≤(Fm.mark b).length) (hg:Fm.Good (Fm.mark b) Fm.start) (hh:Fm.start.held≤1000) (hl:body.length≤20000):room ps≤1000000000∧ps.length≤1000000∧∀ q∈ps,q.bytes.length≤1000000∧q.file.size≤900000:=by
 unfold parts at h;split at h
 · injection h with h;subst h;have h1:=Fm.iW hm body hg;have h2:=oI (Fm.outs (Fm.mark b) Fm.start body);have h3:=DK (Fm.outs (Fm.mark b) Fm.start body);have h4:=Xu _ (Fm.jP (Fm.lT hm body hg));have h5:=Fm.xR (gM (Fm.outs (Fm.mark b) Fm.start body));have h6:=NH (Fm.kE (gM (Fm.outs (Fm.mark b) Fm.start body)));refine ⟨by omega,by omega,fun q hq=>⟨?_,by have:=h4.2 q hq;omega⟩⟩;have:q.bytes.length≤bs (Fm.kE (gM (Fm.outs (Fm.mark b) Fm.start body))):=UG hq;omega
 · cases h
theorem UH (r:Ld) (p:Fm.Pt):(jT r p).ids.length≤r.ids.length+1:=by
 unfold jT;split
 · exact Nat.le_succ _
 · split
   · exact Nat.le_succ _
   · simp
theorem Bv:∀ (ps:List Fm.Pt) (r:Ld),(adds r ps).ids.length≤r.ids.length+ps.length
 | [],_=>Nat.le_refl _
 | p :: t, r => by
   unfold adds;rw [List.length_cons];split
   · have:=Bv t r;omega
   · have h1:=UH r p;split
     · omega
     · have:=Bv t (jT r p);omega
/-! ### a form, by its ways -/
section
variable {s:Sh} {l:List (ByteArray×ByteArray)} {body b:List UInt8} {ps:List Fm.Pt}
theorem Qn (h:bound l=none):land s l body=(s,(415,[],[])):=by unfold land;rw [h]
theorem UJ (h:bound l=some b) (h2:parts b body=none):land s l body=(s,(400,[],[])):=by
 unfold land;rw [h];show (match parts b body with | none=>_ | some ps=>_)=_;rw [h2]
theorem Qo (h:bound l=some b) (h2:parts b body=some ps) (h3:100000<s.log.length+room ps):land s l body=(s,(507,[],[])):=by
 unfold land;rw [h];show (match parts b body with | none=>_ | some ps=>_)=_;rw [h2];show (if 100000<s.log.length+room ps then _ else _)=_;rw [if_pos h3]
theorem Qp (h:bound l=some b) (h2:parts b body=some ps) (h3:¬ 100000<s.log.length+room ps):land s l body=ends (adds ⟨s,[],[],0⟩ ps):=by
 unfold land;rw [h];show (match parts b body with | none=>_ | some ps=>_)=_;rw [h2];show (if 100000<s.log.length+room ps then _ else _)=_;rw [if_neg h3];exact tZ ps ⟨s,[],[],0⟩ rfl
end
end Go.Proofs.YtjmndjmhjleabaaGreatDoor.Gt