import Derived.Test.YtodmelffkfbalaaGreatDoorPk7
import Derived.Test.YtodmelffkfbalaaGreatDoorPk1
import Derived.Test.YtodmelffkfbalaaGreatDoorPk6
open Go.Value renaming int->I,string->V,slice->Z
open Go.IntKind renaming i64->J
open Go.Ending renaming returned->Y
open Option renaming none->U,some->M
open Bool renaming false->F
open Go renaming World->X
set_option maxHeartbeats 1600000
set_option maxRecDepth 100000
open Go.Proofs.Tryz
namespace Go.Proofs.YtodmelffkfbalaaGreatDoor
open Go.RowKit
theorem gm:(prog.info? 5).map (fun i=>(i.zero,i.size,i.bytes))=M (M (I .u8 0),1,1):=by kernel_rfl
theorem zh:(prog.info? 3).map (fun i=>(i.zero,i.size,i.bytes))=M (M (I J 0),1,8):=by kernel_rfl
theorem RF:(prog.info? 9).map (fun i=>(i.zero,i.size,i.bytes))=M (M (V ⟨#[]⟩),1,16):=by kernel_rfl
def aH (name:ae)(l:aC):List ae:=(l.filter fun p=>decide (aY p.1.data.toList=aY name.data.toList)).map (·.2)
theorem Jw (a:ae)(l:aC)(p:ae×ae):
 aH a (l++[p])=if aY p.1.data.toList=aY a.data.toList then aH a l++[p.2] else aH a l:=by grind [aH,aY]
theorem wD (a:ae)(l:aC):(aH a l).length<=l.length:=by grind [aH]
def iI (vs:List ae):ab×Nat :=
 match vs with
 | []=>([],10)
 | [v]=>(v.data.toList,0)
 | _=>([],9)
def tZ (t:zu):Value:=.tuple #[.agg #[V ⟨t.b.toArray⟩,V ⟨t.c.toArray⟩],I J (t.a:Int)]
theorem BD (s:ae):Lib.strCells s=bA s.data.toList:=rfl
theorem BB {P:Program}{w:X}{j:Array Oper}{rest:List Oper}{o:Oper}{a:Act}{aaw:Exit->Act->X->Prop}(q:o.guard=U)(s x:Operand)(t u:TypeId)
 (z:o.op=.call { callee:=.builtin .append,args:=#[s,x],argTypes:=#[t,u] })
 (c:Nat) (e:TypeId) (i:TypeInfo) (B:P.underlying t=M (.slice e)) (C:P.underlying u=M .string) (D:P.info? e=M i) (G:i.zero=M (I .u8 0)) (r:i.size=1) (v:i.bytes=1)
 {ao:ag} {cap n:Nat} {l:ab} (H:a.eval s=Z ao n cap) (L:l.length=n) (k:bl w c e ao cap l) (b:ae) (N:a.eval x=V b)
 (m:n+b.size<=140737488355328) (g:c<=w.heap.size)
 (h:∀gL d w',bl w' c e gL d (l++b.data.toList)->w.grownBy w' (aw ao)->wpList P j aaw rest (a.put o.dst (Z gL (n+b.size) d)) w'):wpList P j aaw (o::rest) a w:=by
 subst L;refine Lib.wpList_append_own_string w q s x t u z c e i B C D G r v _ l.length (bA l) H k b N (by unfold maxLen;omega) m g ?_;intro T w' f y _;rw[BD,<-oY] at f;have p:b.data.toList.length=b.size:=by rw[cI];rfl
 obtain⟨gL,d,rfl,S⟩:=bl.B (by rw[aD,p]) f;rw[dp] at y;have:=h gL d w' S y;rw[aD,p];exact this
theorem kv {w w':X}{b t:Nat}{ao:ag}{cap:Nat}{l:ab}(c:bl w b t ao cap l)(d:w.grownBy w' (aw ao))(f:b<=w.heap.size):Below b w w' :=
 ⟨d.os, d.tape, d.output, d.size, fun k g => d.block k (by omega) (fun e => by
  cases ao with
  | none=>cases e
  | some a=>injection e with e;have:=(c.e a rfl).1;omega)⟩
theorem pX:(prog.info? 148).map (fun i=>(i.zero,i.size,i.bytes))=M (M (.agg #[V ⟨#[]⟩,V ⟨#[]⟩]),2,32):=by kernel_rfl
theorem Iq (l:aC)(fo:ag)(fZ n:Nat)(w:X)(f:bx w fo fZ n (aJ l))(s:l.length=n)(N:n*32<=140737488355328):
 Calls prog 228 #[Z fo n fZ] w fun e w'=>∃ao cap,e=Y (Z ao n cap)∧aL w' w.heap.size 148 2 ao cap n (aJ l)∧Below w.heap.size w w':=by
 have S:∀(w:X) (a:ag) (n c g i:Nat),(binOp .eql 80 (Z a n c) (Z U g i)).run prog w=.ok (.bool a.isNone) w:=fun w a n c g i=>Lib.run_eql_slice_nil w _ _ a n c g i underlying80;cases fo with
 | none =>
   have T:=f.2.1 rfl;have j:n=0:=by have:=f.1;omega
   subst j;obtain rfl:l=[]:=iz s;go_enter func228,ntmps228;go_wp2;go_ret;exact⟨U,0,rfl,aL.q _ _ _ _,ar _ _⟩
 | some a =>
   have t:=sS l;obtain⟨u,k,m,p,r⟩:=info_parts pX;have v:=k;have x:=aa m;have y:=aa p;have z:=aa r
   have B:(aJ l).length=n*2:=by rw[s] at t;exact t
   go_enter func228,ntmps228;go_wp2_with (at_builtin;refine lP rfl (.tmp 5) (.tmp 6) 80 rfl w.heap.size 148 u (.agg #[V ⟨#[]⟩,V ⟨#[]⟩]) 2 32 underlying80 v x.o y.o z.o rfl (by decide) (n:=0) (xs:=[]) rfl (vx _ #[] 0 (by simp) (by decide) rfl) rfl (f.E _) B (Eg l) (by omega) (by omega) (by simp) ?_;intro C D W b d G;have H:=aa b;have L:=aa d;clear b d G)
   go_ret;refine⟨C,D,by simp,?_,?_⟩
   . have:=H.o;rw[lc,eh] at this;exact this
   . exact((ar _ _).alloc (am _) _).grown L.o (by simp) (fun q e=>by simp[aw] at e;omega)
theorem Hw (l:aC)(fo:ag)(fZ n:Nat)(w:X)(a:bx w fo fZ n (aJ l))(b:l.length=n)(c:n<=1000000):
 Calls prog 228 #[Z fo n fZ] w fun e w'=>∃ao cap,e=Y (Z ao n cap)∧aL w' w.heap.size 148 2 ao cap n (aJ l)∧Below w.heap.size w w':=Iq l fo fZ n w a b (by omega)
def rG (c:UInt8)(l:ab)(r:Int):Prop:=(r=-1∧∀j (hj:j<l.length),l[j]≠c)∨∃i:Nat,∃hi:i<l.length,r=i∧l[i]=c∧∀j (hj:j<l.length),i<j->l[j]≠c
theorem ol (s:ae)(i:Nat)(h:i<s.size):s.data.toList[i]'(by rw[cA];exact h)=s[i]:=by
 rw[Array.getElem_toList];rfl
theorem QX (s:ae)(c:UInt8)(w:World)(hs:s.size<=maxLen):
 Calls prog 388 #[.string s,.int .u8 c.toNat] w fun e w'=>∃r:Int,e=.returned (.int .i64 r)∧rG c s.data.toList r∧w'=w:=by
 have hl:=cA s;have hsM:(s.size:Int)<=9223372036854775807:=by unfold maxLen at hs;omega
 go_enter func388,ntmps388;go_wp2;go_loopw [5] (fun t wr=>wr=w∧∃k:Nat,k<=s.size∧t=.int .i64 ((k:Int)-1)∧∀j (hj:j<s.data.toList.length),k<=j->s.data.toList[j]≠c) (fun t _=>((intOf t)+1).toNat)
 case atStart=>exact⟨rfl,s.size,am _,rfl,fun j hj h=>by omega⟩
 case round =>
  obtain⟨rfl,k,hk,rfl,hno⟩:=hrel;cases k with
  | zero =>
    have HR:rG c s.data.toList (-1):=Or.inl ⟨rfl,fun j hj=>hno j hj (ax _)⟩;go_wp2;go_ret;exact⟨-1,rfl,HR,rfl⟩
  | succ i =>
    have hi:i<s.size:=by omega
    have e1:((i+1:Nat):Int)-1=(i:Int):=by omega
    rw[e1];have hge:(i:Int)≥0:=by omega
    have hilt:(i:Int)<s.size:=by omega
    by_cases hc:s[i]=c
    . have t0:((s[i].toNat:Int)==(c.toNat:Int))=true:=by rw[hc];exact beq_self_eq_true _
      have HR:rG c s.data.toList (i:Int):=Or.inr ⟨i,by rw[hl];exact hi,rfl,by rw[ol s i hi];exact hc,fun j hj h=>hno j hj h⟩;go_wp2;go_ret;exact⟨i,rfl,HR,rfl⟩
    . have t0:((s[i].toNat:Int)==(c.toNat:Int))=false:=by rw[aO];intro e;exact hc (iO.1 (by omega))
      have ahX:∀j (hj:j<s.data.toList.length),i<=j->s.data.toList[j]≠c:=fun j hj h=>by
       rcases Nat.lt_or_eq_of_le h with h | h
       . exact hno j hj h
       . subst h;rw[ol s i hi];exact hc
      go_wp2;go_roundw
      case rel=>exact⟨trivial,i,by omega,by go_num,ahX⟩
      case measure=>simp[intOf]
theorem EG (s:ae)(c:UInt8)(w:World)(hs:s.size<=maxLen):
 Calls prog 386 #[.string s,.int .u8 c.toNat] w fun e w'=>∃r:Int,e=.returned (.int .i64 r)∧rG c s.data.toList r∧w'=w:=by
 have H:=aa (QX s c w hs);go_enter func386,ntmps386;go_wp2_with fail;refine H.o.mono ?_;rintro e w' ⟨r,rfl,hr,hw⟩;subst hw;go_wp2;go_ret;exact⟨r,rfl,hr,rfl⟩
theorem QY (w:X)(ao:ag)(cap n:Nat)(l:ab)(c:UInt8)(h:az w ao cap l)(D:l.length=n):
 Calls prog 389 #[Z ao n cap,I .u8 c.toNat] w fun e w'=>∃gL a d,e=Y (Z gL d a)∧d=(l.dropWhile (·==c)).length∧az w gL a (l.dropWhile (·==c))∧w'=w:=by
 go_enter func389,ntmps389;go_wp2;go_loopw [0] (fun t wr=>wr=w∧∃(gL:ag) (a d:Nat) (r:ab),t=Z gL d a∧d=r.length∧az w gL a r∧r.dropWhile (·==c)=l.dropWhile (·==c)) (fun t _=>match t with | Z _ k _=>k | _=>0)
 case atStart=>exact⟨rfl,ao,cap,n,l,rfl,D.symm,h,rfl⟩
 case round =>
  obtain⟨rfl,gL,a,d,r,rfl,b,G,H⟩:=hrel;have j:=aa G;have p:=aa H
  cases r with
  | nil =>
    obtain rfl:d=0:=b;have g:Hid (l.dropWhile (·==c)=[]):=by unfold Hid;rw[<-p.o];rfl
    go_wp2;go_ret;exact⟨U,0,0,rfl,by rw[g.o];rfl,by rw[g.o];exact az.e _,rfl⟩
  | cons x t =>
    obtain⟨v,y,rfl,q⟩:=j.o.q (by simp);have z:=q 0 (by simp);have z:wr.cell? ⟨v,y,U⟩=M (I .u8 (x.toNat:Int)):=by simpa using z
    have B:d<=a:=by rw[b];exact j.o.1
    have C:0<d:=by rw[b];simp
    have s:=aa b;by_cases f:x=c
    . have L:((x.toNat:Int)==(c.toNat:Int))=true:=by rw[f];exact beq_self_eq_true _
      have i:t.dropWhile (·==c)=l.dropWhile (·==c):=by rw[<-p.o,vq,if_pos (by simpa using f)]
      have hcut:∀m,(a≠1->m=M ⟨v,y+1,U⟩)->az wr m (a-1) t:=fun m N=>by
       have:=j.o.y (gL:=m) 1 (x::t).length (by simp) (am _) (fun e=>by rw[N e];rfl);simpa using this
      clear  f b;by_cases u:a=1
      . subst u;obtain rfl:d=1:=by omega
        go_wp2;go_roundw
        case rel=>exact⟨trivial,_,_,_,t,rfl,by have:=s.o;rw[bF] at this;omega,by simpa using hcut _ (fun e=>absurd rfl e),i⟩
        case measure=>simp
      . go_wp2;go_roundw
        case rel=>exact⟨trivial,_,_,_,t,rfl,by have:=s.o;rw[bF] at this;omega,hcut _ (fun _=>rfl),i⟩
        case measure=>simp;omega
    . have L:((x.toNat:Int)==(c.toNat:Int))=F:=by rw[aO];intro e;exact f (iO.1 (by omega))
      have g:Hid (l.dropWhile (·==c)=x::t):=by unfold Hid;rw[<-p.o,vq,if_neg (by simpa using f)]
      have S:((d:Int)==0)=F:=by rw[aO];omega
      clear f b;go_wp2;go_ret;exact⟨_,_,d,rfl,by rw[g.o];exact s.o,by rw[g.o];exact j.o,rfl⟩
theorem NI (w:X)(ao:ag)(cap n:Nat)(l:ab)(h:az w ao cap l)(c:l.length=n):
 Calls prog 387 #[Z ao n cap,V ⟨#[46]⟩] w fun e w'=>∃gL a b,e=Y (Z gL b a)∧b=(l.dropWhile (·==46)).length∧az w gL a (l.dropWhile (·==46))∧w'=w:=by
 by_cases f:n=0
 . subst f;obtain rfl:l=[]:=iz c;go_enter func387,ntmps387;go_wp2;go_ret;exact⟨U,0,0,rfl,rfl,az.e _,rfl⟩
 . have k:((n:Int)==0)=F:=by rw[aO];omega
   go_enter func387,ntmps387;go_wp2_with fail;refine(QY w ao cap n l 46 h c).mono ?_;rintro e w' ⟨gL,a,b,rfl,d,g,i⟩;subst i;have j:=aa d;clear d;go_wp2;go_ret;exact⟨gL,a,b,rfl,j.o,g,rfl⟩
def iD (name:ae):aC->Option ae
 | []=>U
 | p::t=>if p.1.data.toList=name.data.toList then M p.2 else iD name t
theorem MO {a:ae}{l:aC}(h:∀p∈l,p.1.data.toList≠a.data.toList):iD a l=U:=by
 induction l with
 | nil=>rfl
 | cons p t b =>
   unfold iD;rw[if_neg (h p (lO ..))];exact b (fun q c=>h q (iN _ c))
theorem Q0 {a:ae}{l:aC}{k:Nat}(b:k<l.length)(h:∀p∈l.take k,p.1.data.toList≠a.data.toList)(c:l[k].1.data.toList=a.data.toList):iD a l=M l[k].2:=by
 induction l generalizing k with
 | nil=>simp at b
 | cons p t d =>
   cases k with
   | zero=>unfold iD;rw[if_pos (show p.1.data.toList=a.data.toList from c)];rfl
   | succ k =>
     unfold iD;rw[if_neg (h p (by simp))];have:=d (k:=k) (by simpa using b) (fun q e=>h q (by simp[e])) (by simpa using c);simpa using this
theorem Eo {x:Nat}(h:x<256):IntKind.u8.wrap (x:Int)=((UInt8.ofNat x).toNat:Int):=by
 rw[IntKind.wrap_u8,rV h];omega
structure wU (w:X)(base:Nat)(p:ab)(r:Nat)(ao:ag)(cap k:Nat)(done:ab)(wr:X):Prop where
 b:bl wr base 5 ao cap p
 a:p.length=k
 below:Below base w wr
 c:p++bQ r=done
theorem wU.e {w:X}{a:Nat}{p:ab}{r:Nat}{ao:ag}{cap k:Nat}{done:ab}{wr:X}(h:wU w a p r ao cap k done wr)(j:a<=w.heap.size)(e:¬r<128){c:UInt8}(f:UInt8.ofNat (r % 128+128)=c)(o:Obj)(gL:ag)(b:Nat)(w':X)(g:bl w' a 5 gL b (p++[c]))(i:(wr.alloc o).grownBy w' (aw ao)):wU w a (p++[c]) (r / 128) gL b (k+1) done w':=by
 have d:=h.below.alloc (by have:=h.below.size;omega) o;refine⟨g,by rw[aD,h.a];rfl,d.trans (kv (h.b.a o) i (by have:=d.size;omega)),?_⟩;have:=h.c;rw[xa e,f] at this;rw[<-this];simp
theorem xV (x:Nat)(hx:x<=1000000000000)(a:Nat)(ao:ag)(cap n:Nat)(l:ab)(w:X)(hO:bl w a 5 ao cap l)(S:l.length=n)(hN:n<=1000000000)(hb:a<=w.heap.size)(v:Int)(hv:v+1=x):
 Calls prog 292 #[Z ao n cap,I J v] w fun e w'=>∃gL g,e=Y (Z gL (n+(bQ x).length) g)∧bl w' a 5 gL g (l++bQ x)∧Below a w w':=by
 have H0:wU w a l x ao cap n (l++bQ x) w:=⟨hO,S,ar _ _,rfl⟩;have T:∀k r p,p++bQ r=l++bQ x->p.length=k->k+(bQ r).length=n+(bQ x).length:=fun k r p e W=>by
  have:=lL List.length e;rw[aD,aD,S] at this;omega
 have hlx:=wY 5 x (by omega);have hw:IntKind.i64.wrap (v+1)=x:=by rw[hv];exact gF (by omega) (by omega)
 obtain⟨i0,y,z,B,C⟩:=info_parts gm;have Hi:=y;have kS:=aa z;have kM:=aa B;have kT:=aa C
 generalize hd:l++bQ x=done at *;generalize hq:n+(bQ x).length=m at *;have hm:m<=1000000006:=by omega
 go_enter func292,ntmps292;go_wp2;go_loopw [0,5] (fun va D wr=>∃(r k:Nat) (p:ab) (gL:ag) (u:Nat),r<=x∧va=Z gL k u∧D=I J r∧wU w a p r gL u k done wr) (fun _ D _=>(intOf D).toNat)
 case atStart=>exact⟨x,n,l,ao,cap,am _,rfl,by first | rfl | rw[hw],H0⟩
 case round =>
  obtain⟨r,k,p,gL,u,hr,rfl,rfl,b⟩:=hrel;have hk:=T k r p b.c b.a;have hpo:=Ao r;have hkm:k<=1000000006:=by omega
  by_cases j:r<128
  . have t0:decide ((r:Int)≥128)=F:=by rw[cz];omega
    have q:=Eo (x:=r) (by omega);have HN:=ur j;generalize UInt8.ofNat r=c at *;have s:¬(128:Int)<=r:=by omega
    go_wp2_with (at_builtin;refine ld rfl (.tmp 19) (.tmp 22) 31 rfl a 5 i0 underlying31 Hi kS.o kM.o kT.o (l:=p) (l2:=[c]) rfl b.a (b.b.a _) rfl rfl (az.f _ _ _ _) (by omega) (by rw[bu];have:=b.below.size;omega) ?_;intro G H w3 d f;have L:=aa d;have N:=aa f;clear d f)
    go_ret;have h1:=b.below.alloc (by have:=b.below.size;omega) (.cells #[I .u8 (c.toNat:Int)] 5);have i:=b.c;have t:=T k r p i b.a;rw[HN] at i t;refine⟨G,H,by rw[<-t];rfl,by rw[<-i];exact L.o,h1.trans (kv (b.b.a _) N.o (by have:=h1.size;omega))⟩
  . have t0:decide ((r:Int)≥128)=true:=by rw[bN];omega
    have q:=Eo (x:=r % 128+128) (by omega);have e1:(((r % 128+128:Nat)):Int)=(r:Int) % 128+128:=by omega
    rw[e1] at q;have HM:=@wU.e w a p r gL u k done wr b hb j _ rfl;generalize UInt8.ofNat (r % 128+128)=c at *;have s:(128:Int)<=r:=by omega
    have W:((r / 128:Nat):Int)=(r:Int) / 128:=by omega
    go_wp2_with (at_builtin;refine ld rfl (.tmp 10) (.tmp 15) 31 rfl a 5 i0 underlying31 Hi kS.o kM.o kT.o (l:=p) (l2:=[c]) rfl b.a (b.b.a _) rfl rfl (az.f _ _ _ _) (by omega) (by rw[bu];have:=b.below.size;omega) ?_;intro G H w3 d f;have L:=aa d;have N:=aa f;clear d f)
    go_roundw
    case rel=>exact⟨r / 128,k+1,p++[c],G,H,by omega,rfl,by rw[W],HM _ _ _ _ L.o N.o⟩
    case measure=>simp[intOf];omega
theorem R6 (g:Nat)(a:ag)(cap:Nat)(c:UInt8)(w:X)(b:w.cell? ⟨g,0,U⟩=M (Z a 0 cap)):
 Calls prog 352 #[.pointer (M ⟨g,0,U⟩),I J 0,I .u8 c.toNat] w fun e w'=>e=Y (I J 0)∧w'=w:=by
 go_enter func352,ntmps352;go_wp2;go_loop [1] (fun t=>t=I J 0) (fun _=>0)
 case atStart=>rfl
 case round =>
  subst hrel;go_wp2;go_ret;exact⟨rfl,rfl⟩
theorem FL (m:ab)(n:Nat)(c:UInt8)(g s u cap:Nat)(w:X)(v:n<m.length)(L:m.length<=140737488355328)
 (N:w.cell? ⟨g,0,U⟩=M (Z (M ⟨s,0,U⟩) m.length cap))
 (S:w.cell? ⟨g,1,U⟩=M (Z (M ⟨u,0,U⟩) m.length m.length))
 (x:∀j (T:j<m.length),w.cell? ⟨s,j,U⟩=M (I .u8 (m[j].toNat:Int)))
 (y:∀j,0<j->j<=n->w.cell? ⟨u,j,U⟩=M (I J (iW m j))) :
 Calls prog 352 #[.pointer (M ⟨g,0,U⟩),I J n,I .u8 c.toNat] w fun e w'=>e=Y (I J (eE m n c))∧w'=w:=by
 have z:=aa x;have B:=aa y;go_enter func352,ntmps352;go_wp2;go_loop [1] (fun t=>∃k:Nat,sq m n c k∧t=I J k) (fun t=>(intOf t).toNat)
 case atStart=>exact⟨n,O7 m n c,rfl⟩
 case round =>
  obtain⟨k,f,rfl⟩:=hrel;have l:=f.1;have a:k<m.length:=by omega
  have C:=z.o k a;have p:=aa f;by_cases d:m[k]=c
  . have q:=FP d;have r:((m[k].toNat:Int)==c.toNat)=true:=by rw[d];simp
    have i:Hid (eE m n c=k+1):=(Ph p.o v a d).a;by_cases b:0<k
    . go_wp2;go_ret;exact⟨jQ (by rw[i.o];omega),rfl⟩
    . obtain rfl:k=0:=by omega
      go_wp2;go_ret;exact⟨jQ (by rw[i.o];omega),rfl⟩
  . have q:=FO d;have r:=ot d;by_cases b:0<k
    . have D:=B.o k b l;have G:=Pa p.o a b d;have H:=A8 m k b;go_wp2;go_round
      case rel=>exact⟨iW m k,G,rfl⟩
      case measure=>simp[intOf];omega
    . obtain rfl:k=0:=by omega
      have i:Hid (eE m n c=0):=(Pj p.o v a d).a;go_wp2;go_ret;exact⟨jQ (by rw[i.o];rfl),rfl⟩
theorem Ep (l:ab)(ao:ag)(cap:Nat)(w:X)(h:az w ao cap l)(m:l.length<=140737488355328):
 Calls prog 351 #[Z ao l.length cap] w fun e w'=>∃gL b,e=Y (Z gL l.length b)∧bl w' w.heap.size 5 gL b l∧Below w.heap.size w w':=by
 have z:∀(w:X) (a:ag) (n c d f:Nat),(binOp .eql 31 (Z a n c) (Z U d f)).run prog w=.ok (.bool a.isNone) w:=fun w a n c d f=>Lib.run_eql_slice_nil w _ _ a n c d f underlying31;obtain⟨p,q,g,i,j⟩:=info_parts gm;cases ao with
 | none =>
   obtain⟨rfl,rfl⟩:=h.E;go_enter func351,ntmps351;go_wp2;go_ret;exact⟨U,0,rfl,bl.q _ _ _,ar _ _⟩
 | some a =>
   have r:=q;have s:=aa g;have t:=aa i;have u:=aa j
   have v:bl (w.alloc (.cells #[] 5)) w.heap.size 5 (M ⟨w.heap.size,0,U⟩) 0 []:=World.ownsRow_made w #[] 0 (am _) (by decide) rfl;go_enter func351,ntmps351;go_wp2_with (at_builtin;refine ld rfl (.tmp 5) (.tmp 6) 31 rfl w.heap.size 5 p underlying31 r s.o t.o u.o (l:=[]) (l2:=l) rfl rfl v rfl rfl (h.G _) (by simpa using m) (by simp) ?_;intro gL b B x y)
   go_ret;refine⟨gL,b,?_,x,?_⟩
   . simp
   . exact((ar _ _).alloc (am _) _).grown y (by simp) (fun k e=>by cases e;exact am _)
theorem FM (l:ab)(n:Nat)(ao:ag)(cap:Nat)(w:X)(b:l.length=n)(h:az w ao cap l)(c:n<=140737488355328):
 Calls prog 351 #[Z ao n cap] w fun e w'=>∃gL a,e=Y (Z gL n a)∧bl w' w.heap.size 5 gL a l∧Below w.heap.size w w':=by
 subst b;exact Ep l ao cap w h c
theorem Oh (a b:ab):((⟨a.toArray⟩:ae).toList==(⟨b.toArray⟩:ae).toList)=decide (a=b):=by
 rw[Lib.toList_data,Lib.toList_data,ix];simp
theorem Ie (w:X)(g i:ag)(j a k l:Nat)(b l2:ab)(c:b.length=k)(d:l2.length=l)(m:az w g j b)(n:az w i a l2):
 Calls prog 18 #[Z g k j,Z i l a] w fun e w'=>e=Y (.bool (decide (b=l2)))∧w'=w:=by
 subst c;subst d;have p:=m.B (P:=prog) 31 9 5 underlying31 underlying5 underlying9;have q:=n.B (P:=prog) 31 9 5 underlying31 underlying5 underlying9;have f:=aa (Oh b l2);generalize (⟨b.toArray⟩:ae)=r at p f;generalize (⟨l2.toArray⟩:ae)=s at q f;go_enter func18,ntmps18;go_wp2;go_ret;exact⟨fy f.o,rfl⟩
def wt (p:UInt8×Nat):Value:=.tuple #[I .u8 (p.1.toNat:Int),I J (p.2:Int)]
theorem wu (s:ae){l:ab}(h:s.data.toList=l)(i:Nat)(a:i<s.size)(b:i<l.length):s[i]=l[i]:=by
 subst h;exact(ol s i a).symm
theorem Ja (p q:Int)(a:0<=p)(c:p<16)(b:0<=q)(d:q<16):bits .or J (p*16) q % 256=((p*16+q).toNat.toUInt8.toNat:Int):=by
 have:=(show ∀i j:Fin 16,bits .or J ((i.val:Int)*16) (j.val:Int) % 256=(((i.val:Int)*16+(j.val:Int)).toNat.toUInt8.toNat:Int) by decide +kernel) ⟨p.toNat,by omega⟩ ⟨q.toNat,by omega⟩;simpa[Int.toNat_of_nonneg a,Int.toNat_of_nonneg b] using this
theorem Q9 (s:ae)(r:ab)(w:World)(h:s.data.toList=92::120::r)(hs:s.size<=maxLen):
 Calls prog 146 #[.string s] w fun e w'=>e=.returned (wt (dR s.data.toList))∧∃n,w'=w.drewN n:=by
 have hl:=cA s;unfold maxLen at hs;rw[h] at hl;simp only[bF] at hl;by_cases h4:s.size<4
 . have HR:Hid (dR s.data.toList=(0,0)):=by
    rw[h];match r,hl with
    | [],_=>rfl
    | [x],_=>rfl
    | x::y::t,hl=>simp only[bF] at hl;omega
   have h4':(s.size:Int)<4:=by omega
   go_enter func146,ntmps146;go_wp2;go_ret2;exact⟨by rw[HR.o];rfl,0,rfl⟩
 . obtain⟨x,y,t,rfl⟩:∃x y t,r=x::y::t:=by
    match r,hl with
    | [],hl=>simp only[iy] at hl;omega
    | [x],hl=>simp only[bF,iy] at hl;omega
    | x::y::t,_=>exact⟨x,y,t,rfl⟩
   have h2:2<s.size:=by omega
   have h3:3<s.size:=by omega
   have h2:2<s.size:=by omega
   have h3:3<s.size:=by omega
   have hx:s[2]=x:=wu s h 2 (by omega) (by simp);have hy:s[3]=y:=wu s h 3 (by omega) (by simp);have h4':¬(s.size:Int)<4:=by omega
   have HX:=fun(c:UInt8) W=>Aw (c.toNat:Int) W (by omega) (by have:=c.toNat_lt;omega);have rx:=oJ x;have ry:=oJ y
   have HR:Hid (dR s.data.toList=if 0<=aF x.toNat∧0<=aF y.toNat then ((aF x.toNat*16+aF y.toNat).toNat.toUInt8,4) else (0,0)):=by rw[h];rfl
   have h2':(2:Int)<s.size:=by omega
   have h3':(3:Int)<s.size:=by omega
   have Hx:=aa hx;have Hy:=aa hy
   clear h hl h4 hx hy;go_enter func146,ntmps146;go_wp2;go_quiet ((go_at_call 204;exact Calls.quiet_of_same (HX _ _)))
   rw[Hx.o,Hy.o];generalize aF (x.toNat:Int)=p at *;generalize aF (y.toNat:Int)=q at *;clear HX Hx Hy h2' h3' h2 h3;by_cases hp:p<0
   . rw[if_neg (by omega)] at HR;go_wp2;go_ret2;exact⟨by rw[HR.o];rfl,nq,rfl⟩
   . by_cases hq:q<0
     . rw[if_neg (by omega)] at HR;go_wp2;go_ret2;exact⟨by rw[HR.o];rfl,nq,rfl⟩
     . rw[if_pos (by omega)] at HR;go_wp2;have e:=Ja p q (by omega) (by omega) (by omega) (by omega);go_ret2;exact⟨by rw[HR.o];show Ending.returned (.tuple #[.int .u8 (bits .or .i64 (p*16) q % 256),.int .i64 4])=_;rw[e];rfl,nq,rfl⟩
theorem Oi (s:ae)(w:World)(h0:0<s.size)(hs:s.size<=maxLen):
 Calls prog 91 #[.string s] w fun e w'=>e=.returned (wt (dR s.data.toList))∧∃n,w'=w.drewN n:=by
 have HC:=fun r h=>Q9 s r w h hs;have hl:=cA s;unfold maxLen at hs;have h0':(0:Int)<s.size:=by omega
 cases h:s.data.toList with
 | nil=>rw[h] at hl;simp only[iy] at hl;omega
 | cons c r =>
   have hc:s[0]=c:=wu s h 0 h0 (by simp);rw[h] at HC hl;obtain⟨q,hq⟩:∃q,dR (c::r)=q:=⟨_,rfl⟩;rw[hq] at HC ⊢;by_cases OQ:c=92
   . subst OQ;have t0:((s[0].toNat:Int) != 92)=false:=by rw[hc];rfl
     cases r with
     | nil =>
       have h1:(s.size:Int)<2:=by simp only[bF,iy] at hl;omega
       obtain rfl:(0,0)=q:=hq;clear hc HC hl h;go_enter func91,ntmps91;go_wp2;go_ret2;exact⟨rfl,0,rfl⟩
     | cons d r =>
       simp only[bF] at hl;have h1:1<s.size:=by omega
       have h1':(1:Int)<s.size:=by omega
       have h2:¬(s.size:Int)<2:=by omega
       have hd:s[1]=d:=wu s h 1 h1 (by simp);have HQ:Hid (q=if d=114 then (13,2) else if d=110 then (10,2) else if d=92 then (92,2) else if d=120 then q else (0,0)):=by
        unfold Hid;by_cases a:d=114
        . subst a;rw[if_pos rfl,<-hq];rfl
        by_cases b:d=110
        . subst b;rw[if_neg (by decide),if_pos rfl,<-hq];rfl
        by_cases c:d=92
        . subst c;rw[if_neg (by decide),if_neg (by decide),if_pos rfl,<-hq];rfl
        by_cases e:d=120
        . rw[if_neg a,if_neg b,if_neg c,if_pos e]
        . rw[if_neg a,if_neg b,if_neg c,if_neg e,<-hq];simp[dR,a,b,c,e]
       have dk:∀k:UInt8,d≠k->((s[1].toNat:Int)==(k.toNat:Int))=false:=fun k e=>by
        rw[hd,aO];intro e2;exact e (iO.1 (by omega))
       have Hd:=aa hd;have HH:=aa h
       clear hc hl h hd hq;by_cases e1:d=114
       . subst e1;have u1:((s[1].toNat:Int)==114)=true:=by rw[Hd.o];rfl
         obtain rfl:q=(13,2):=HQ.o;clear HC dk;go_enter func91,ntmps91;go_wp2;go_ret2;exact⟨rfl,0,rfl⟩
       rw[if_neg e1] at HQ;have u1:((s[1].toNat:Int)==114)=false:=dk 114 e1;by_cases e2:d=110
       . subst e2;have u2:((s[1].toNat:Int)==110)=true:=by rw[Hd.o];rfl
         obtain rfl:q=(10,2):=HQ.o;clear HC dk;go_enter func91,ntmps91;go_wp2;go_ret2;exact⟨rfl,0,rfl⟩
       rw[if_neg e2] at HQ;have u2:((s[1].toNat:Int)==110)=false:=dk 110 e2;by_cases e3:d=92
       . subst e3;have u3:((s[1].toNat:Int)==92)=true:=by rw[Hd.o];rfl
         obtain rfl:q=(92,2):=HQ.o;clear HC dk;go_enter func91,ntmps91;go_wp2;go_ret2;exact⟨rfl,0,rfl⟩
       rw[if_neg e3] at HQ;have u3:((s[1].toNat:Int)==92)=false:=dk 92 e3;by_cases e4:d=120
       . subst e4;have u4:((s[1].toNat:Int)==120)=true:=by rw[Hd.o];rfl
         have HC:=aa (HC r rfl);clear dk;go_enter func91,ntmps91;go_wp2_with fail;refine HC.o.mono ?_;rintro e w1 ⟨rfl,n,hw⟩;subst hw;unfold wt;go_wp2;go_ret2;exact⟨rfl,n,rfl⟩
       . rw[if_neg e4] at HQ;obtain rfl:q=(0,0):=HQ.o;have u4:((s[1].toNat:Int)==120)=false:=dk 120 e4;clear HC dk;go_enter func91,ntmps91;go_wp2;go_ret2;exact⟨rfl,0,rfl⟩
   . have t0:((s[0].toNat:Int) != 92)=true:=by rw[hc,dh];intro e;exact OQ (iO.1 (by show c.toNat=92;omega))
     obtain rfl:(c,1)=q:=by rw[<-hq];simp[dR,OQ]
     have Hc:=aa hc;clear hc HC hl h;go_enter func91,ntmps91;go_wp2;go_ret2;exact⟨by show Ending.returned (.tuple #[.int .u8 (s[0].toNat:Int),.int .i64 1])=_;rw[Hc.o];rfl,0,rfl⟩
inductive tS (w:X)(l:ab):Ending->X->Prop
 | no {w'}:fD l=U->Below w.heap.size w w'->tS w l (Y (.tuple #[Z U 0 0,.bool F])) w'
 | yes {w'} (b:ab) (ao:ag) (cap m:Nat):fD l=M b->m=b.length->bl w' w.heap.size 5 ao cap b->Below w.heap.size w w'->tS w l (Y (.tuple #[Z ao m cap,.bool true])) w'
theorem zd (s:ae)(n:Nat):(s.extract n s.size).data.toList=s.data.toList.drop n:=by
 rw[Lib.extract_data,hZ];rw[cQ,cA];omega
theorem zm (s:ae)(w:X)(hs:s.size<=1000000):
 Calls prog 42 #[V s] w fun e w'=>tS w s.data.toList e w':=by
 obtain⟨i0,g,i,j,k⟩:=info_parts gm;have Hi:=aa g;have kS:=aa i;have kM:=aa j;have kT:=aa k
 clear g i j k;go_enter func42,ntmps42;go_wp2;go_loopw [0,4] (fun C v4 wr=>∃(x:ae) (b:ab) (z:ag) (d m:Nat),C=V x∧v4=Z z m d∧b.length=m∧m+x.size<=s.size∧bl wr w.heap.size 5 z d b∧Hid (fD s.data.toList=(fD x.data.toList).map (b++·))∧Below w.heap.size w wr) (fun C _ _=>Tc C)
 case atStart=>exact⟨s,[],U,0,0,rfl,rfl,rfl,by omega,bl.q _ _ _,by unfold Hid;cases fD s.data.toList <;> rfl,ar _ _⟩
 case round =>
  obtain⟨x,b,z,d,m,rfl,rfl,D,hz,G,q,H⟩:=hrel;have r:=cA x;by_cases h0:x.size=0
  . obtain rfl:=ql x h0;rw[show(⟨#[]⟩:ae).data.toList=[] from rfl,Cx] at q;simp only[Option.map_some,fx] at q;go_wp2;go_ret2;exact .yes b z d m q D.symm G H
  . have hne:=qm x (by omega);have f:=yP x (by omega);have t:=CE x.data.toList;have HF:=fun W=>Oi x W (by omega) (by unfold maxLen;omega);have B:=aa (fun h=>ww (l:=x.data.toList) f h);have L:=aa (fun h=>yW (l:=x.data.toList) f h);generalize dR x.data.toList=p at *;obtain⟨c,n⟩:=p;simp only at B L t;rw[r] at t;have HO:=aa G;have N:=aa H;have HM:=aa D
    clear G H f r D;go_wp2_with fail;refine(HF _).mono ?_;rintro e w1 ⟨rfl,nd,S⟩;have a:=aa (N.o.trans (iP ⟨nd,S⟩ |>.mono N.o.size));have yT:=aa (HO.o.r (iP ⟨nd,S⟩));clear HO N S HF;unfold wt;by_cases hn:n=0
    . subst hn;have T:=L.o rfl;clear B;go_wp2;go_ret2;exact .no (by rw[q.out,T];rfl) a.o
    . have hn':((n:Int)==0)=F:=aO.2 (by omega);have hn2:(n:Int)<=x.size:=by omega
      have T:=aa (B.o hn);clear B L;go_wp2_with (at_builtin;refine ld rfl (.tmp 16) (.tmp 18) 31 rfl w.heap.size 5 i0 underlying31 Hi.o kS.o kM.o kT.o (l2:=[c]) rfl HM.o (yT.o.a _) rfl rfl (az.f _ _ _ _) (by omega) (by rw[bu];have:=a.o.size;omega) ?_;intro rH bc2 w2 u v)
      have xG:=aa u;have HB2:=aa ((a.o.alloc (co (am _) a.o.size) _).trans (kv (yT.o.a _) v (by rw[bu];have:=a.o.size;omega)))
      clear u v;go_wp2;have hsz:(x.extract n x.size).size=x.size-n:=by rw[qo (zd x n),cQ,cA]
      go_roundw
      case rel=>exact⟨x.extract n x.size,b++[c],rH,bc2,m+1,rfl,rfl,by rw[aD,HM.o];rfl,by rw[hsz];omega,xG.o,by unfold Hid;rw[q.out,T.o,zd,Option.map_map];congr 1;funext y;simp,HB2.o⟩
      case measure=>show(x.extract n x.size).size<x.size;omega
