import Derived.Test.YtodmelffkfbalaaGreatDoorPk7
import Derived.Test.YtodmelffkfbalaaGreatDoorPk1
import Derived.Test.YtodmelffkfbalaaGreatDoorPk6
open Go.Value renaming int->I,string->V,slice->Z
open Go.IntKind renaming i64->J
open Go.Ending renaming returned->Y
open Option renaming none->U,some->M
open Bool renaming false->F
open Go renaming World->X
set_option maxHeartbeats 1600000
set_option maxRecDepth 100000
open Go.Proofs.Tryz
namespace Go.Proofs.YtodmelffkfbalaaGreatDoor
open Go.RowKit
theorem gG:(prog.info? 5).map (fun i=>(i.zero,i.size,i.bytes))=M (M (I .u8 0),1,1):=by kernel_rfl
theorem zq:(prog.info? 3).map (fun i=>(i.zero,i.size,i.bytes))=M (M (I J 0),1,8):=by kernel_rfl
theorem RB:(prog.info? 9).map (fun i=>(i.zero,i.size,i.bytes))=M (M (V ⟨#[]⟩),1,16):=by kernel_rfl
def aG (name:ae)(l:aC):List ae:=(l.filter fun p=>decide (be p.1.data.toList=be name.data.toList)).map (·.2)
theorem Jg (a:ae)(l:aC)(p:ae×ae):
 aG a (l++[p])=if be p.1.data.toList=be a.data.toList then aG a l++[p.2] else aG a l:=by grind [aG,be]
theorem wK (a:ae)(l:aC):(aG a l).length<=l.length:=by grind [aG]
def iH (vs:List ae):ab×Nat :=
 match vs with
 | []=>([],10)
 | [v]=>(v.data.toList,0)
 | _=>([],9)
def tV (t:zx):Value:=.tuple #[.agg #[V ⟨t.b.toArray⟩,V ⟨t.c.toArray⟩],I J (t.a:Int)]
theorem BD (s:ae):Lib.strCells s=bA s.data.toList:=rfl
theorem BB {P:Program}{w:X}{j:Array Oper}{rest:List Oper}{o:Oper}{a:Act}{aam:Exit->Act->X->Prop}(q:o.guard=U)(s x:Operand)(t u:TypeId)
 (z:o.op=.call { callee:=.builtin .append,args:=#[s,x],argTypes:=#[t,u] })
 (c:Nat) (e:TypeId) (i:TypeInfo) (B:P.underlying t=M (.slice e)) (C:P.underlying u=M .string) (D:P.info? e=M i) (G:i.zero=M (I .u8 0)) (r:i.size=1) (v:i.bytes=1)
 {ao:ag} {cap n:Nat} {l:ab} (H:a.eval s=Z ao n cap) (L:l.length=n) (k:bl w c e ao cap l) (b:ae) (N:a.eval x=V b)
 (m:n+b.size<=140737488355328) (g:c<=w.heap.size)
 (h:∀gL d w',bl w' c e gL d (l++b.data.toList)->w.grownBy w' (aw ao)->wpList P j aam rest (a.put o.dst (Z gL (n+b.size) d)) w'):wpList P j aam (o::rest) a w:=by
 subst L;refine Lib.wpList_append_own_string w q s x t u z c e i B C D G r v _ l.length (bA l) H k b N (by unfold maxLen;omega) m g ?_;intro T w' f y _;rw[BD,<-oQ] at f;have p:b.data.toList.length=b.size:=by rw[cJ];rfl
 obtain⟨gL,d,rfl,S⟩:=bl.H (by rw[aD,p]) f;rw[dq] at y;have:=h gL d w' S y;rw[aD,p];exact this
theorem oi {w w':X}{b t:Nat}{ao:ag}{cap:Nat}{l:ab}(c:bl w b t ao cap l)(d:w.grownBy w' (aw ao))(f:b<=w.heap.size):Below b w w' :=
 ⟨d.os, d.tape, d.output, d.size, fun k g => d.block k (by omega) (fun e => by
  cases ao with
  | none=>cases e
  | some a=>injection e with e;have:=(c.a a rfl).1;omega)⟩
theorem pS:(prog.info? 148).map (fun i=>(i.zero,i.size,i.bytes))=M (M (.agg #[V ⟨#[]⟩,V ⟨#[]⟩]),2,32):=by kernel_rfl
theorem T6 (l:aC)(fo:ag)(gy n:Nat)(w:X)(f:bq w fo gy n (aI l))(s:l.length=n)(N:n*32<=140737488355328):
 Calls prog 228 #[Z fo n gy] w fun e w'=>∃ao cap,e=Y (Z ao n cap)∧aK w' w.heap.size 148 2 ao cap n (aI l)∧Below w.heap.size w w':=by
 have S:∀(w:X) (a:ag) (n c g i:Nat),(binOp .eql 80 (Z a n c) (Z U g i)).run prog w=.ok (.bool a.isNone) w:=fun w a n c g i=>Lib.run_eql_slice_nil w _ _ a n c g i underlying80;cases fo with
 | none =>
   have T:=f.2.1 rfl;have j:n=0:=by have:=f.1;omega
   subst j;obtain rfl:l=[]:=ix s;go_enter func228,ntmps228;go_wp2;go_ret;exact⟨U,0,rfl,aK.y _ _ _ _,ar _ _⟩
 | some a =>
   have t:=sO l;obtain⟨u,k,m,p,r⟩:=info_parts pS;have v:=k;have x:=aa m;have y:=aa p;have z:=aa r
   have B:(aI l).length=n*2:=by rw[s] at t;exact t
   go_enter func228,ntmps228;go_wp2_with (at_builtin;refine lO rfl (.tmp 5) (.tmp 6) 80 rfl w.heap.size 148 u (.agg #[V ⟨#[]⟩,V ⟨#[]⟩]) 2 32 underlying80 v x.o y.o z.o rfl (by decide) (n:=0) (xs:=[]) rfl (vu _ #[] 0 (by simp) (by decide) rfl) rfl (f.jY _) B (D9 l) (by omega) (by omega) (by simp) ?_;intro C D W b d G;have H:=aa b;have L:=aa d;clear b d G)
   go_ret;refine⟨C,D,by simp,?_,?_⟩
   . have:=H.o;rw[kX,ee] at this;exact this
   . exact((ar _ _).alloc (ak _) _).grown L.o (by simp) (fun q e=>by simp[aw] at e;omega)
theorem Hr (l:aC)(fo:ag)(gy n:Nat)(w:X)(a:bq w fo gy n (aI l))(b:l.length=n)(c:n<=1000000):
 Calls prog 228 #[Z fo n gy] w fun e w'=>∃ao cap,e=Y (Z ao n cap)∧aK w' w.heap.size 148 2 ao cap n (aI l)∧Below w.heap.size w w':=T6 l fo gy n w a b (by omega)
def rC (c:UInt8)(l:ab)(r:Int):Prop:=(r=-1∧∀j (hj:j<l.length),l[j]≠c)∨∃i:Nat,∃hi:i<l.length,r=i∧l[i]=c∧∀j (hj:j<l.length),i<j->l[j]≠c
theorem vj (s:ae)(i:Nat)(h:i<s.size):s.data.toList[i]'(by rw[cH];exact h)=s[i]:=by
 rw[Array.getElem_toList];rfl
theorem QQ (s:ae)(c:UInt8)(w:World)(hs:s.size<=maxLen):
 Calls prog 388 #[.string s,.int .u8 c.toNat] w fun e w'=>∃r:Int,e=.returned (.int .i64 r)∧rC c s.data.toList r∧w'=w:=by
 have hl:=cH s;have hsM:(s.size:Int)<=9223372036854775807:=by unfold maxLen at hs;omega
 go_enter func388,ntmps388;go_wp2;go_loopw [5] (fun t wr=>wr=w∧∃k:Nat,k<=s.size∧t=.int .i64 ((k:Int)-1)∧∀j (hj:j<s.data.toList.length),k<=j->s.data.toList[j]≠c) (fun t _=>((intOf t)+1).toNat)
 case atStart=>exact⟨rfl,s.size,ak _,rfl,fun j hj h=>by omega⟩
 case round =>
  obtain⟨rfl,k,hk,rfl,hno⟩:=hrel;cases k with
  | zero =>
    have HR:rC c s.data.toList (-1):=Or.inl ⟨rfl,fun j hj=>hno j hj (ax _)⟩;go_wp2;go_ret;exact⟨-1,rfl,HR,rfl⟩
  | succ i =>
    have hi:i<s.size:=by omega
    have e1:((i+1:Nat):Int)-1=(i:Int):=by omega
    rw[e1];have hge:(i:Int)≥0:=by omega
    have hilt:(i:Int)<s.size:=by omega
    by_cases hc:s[i]=c
    . have t0:((s[i].toNat:Int)==(c.toNat:Int))=true:=by rw[hc];exact beq_self_eq_true _
      have HR:rC c s.data.toList (i:Int):=Or.inr ⟨i,by rw[hl];exact hi,rfl,by rw[vj s i hi];exact hc,fun j hj h=>hno j hj h⟩;go_wp2;go_ret;exact⟨i,rfl,HR,rfl⟩
    . have t0:((s[i].toNat:Int)==(c.toNat:Int))=false:=by rw[aQ];intro e;exact hc (lN.1 (by omega))
      have ahZ:∀j (hj:j<s.data.toList.length),i<=j->s.data.toList[j]≠c:=fun j hj h=>by
       rcases Nat.lt_or_eq_of_le h with h | h
       . exact hno j hj h
       . subst h;rw[vj s i hi];exact hc
      go_wp2;go_roundw
      case rel=>exact⟨trivial,i,by omega,by go_num,ahZ⟩
      case measure=>simp[intOf]
theorem Ez (s:ae)(c:UInt8)(w:World)(hs:s.size<=maxLen):
 Calls prog 386 #[.string s,.int .u8 c.toNat] w fun e w'=>∃r:Int,e=.returned (.int .i64 r)∧rC c s.data.toList r∧w'=w:=by
 have H:=aa (QQ s c w hs);go_enter func386,ntmps386;go_wp2_with fail;refine H.o.mono ?_;rintro e w' ⟨r,rfl,hr,hw⟩;subst hw;go_wp2;go_ret;exact⟨r,rfl,hr,rfl⟩
theorem QR (w:X)(ao:ag)(cap n:Nat)(l:ab)(c:UInt8)(h:aB w ao cap l)(D:l.length=n):
 Calls prog 389 #[Z ao n cap,I .u8 c.toNat] w fun e w'=>∃gL a d,e=Y (Z gL d a)∧d=(l.dropWhile (·==c)).length∧aB w gL a (l.dropWhile (·==c))∧w'=w:=by
 go_enter func389,ntmps389;go_wp2;go_loopw [0] (fun t wr=>wr=w∧∃(gL:ag) (a d:Nat) (r:ab),t=Z gL d a∧d=r.length∧aB w gL a r∧r.dropWhile (·==c)=l.dropWhile (·==c)) (fun t _=>match t with | Z _ k _=>k | _=>0)
 case atStart=>exact⟨rfl,ao,cap,n,l,rfl,D.symm,h,rfl⟩
 case round =>
  obtain⟨rfl,gL,a,d,r,rfl,b,G,H⟩:=hrel;have j:=aa G;have p:=aa H
  cases r with
  | nil =>
    obtain rfl:d=0:=b;have g:Hid (l.dropWhile (·==c)=[]):=by unfold Hid;rw[<-p.o];rfl
    go_wp2;go_ret;exact⟨U,0,0,rfl,by rw[g.o];rfl,by rw[g.o];exact aB.f _,rfl⟩
  | cons x t =>
    obtain⟨v,y,rfl,q⟩:=j.o.r (by simp);have z:=q 0 (by simp);have z:wr.cell? ⟨v,y,U⟩=M (I .u8 (x.toNat:Int)):=by simpa using z
    have B:d<=a:=by rw[b];exact j.o.1
    have C:0<d:=by rw[b];simp
    have s:=aa b;by_cases f:x=c
    . have L:((x.toNat:Int)==(c.toNat:Int))=true:=by rw[f];exact beq_self_eq_true _
      have i:t.dropWhile (·==c)=l.dropWhile (·==c):=by rw[<-p.o,vm,if_pos (by simpa using f)]
      have hcut:∀m,(a≠1->m=M ⟨v,y+1,U⟩)->aB wr m (a-1) t:=fun m N=>by
       have:=j.o.G (gL:=m) 1 (x::t).length (by simp) (ak _) (fun e=>by rw[N e];rfl);simpa using this
      clear  f b;by_cases u:a=1
      . subst u;obtain rfl:d=1:=by omega
        go_wp2;go_roundw
        case rel=>exact⟨trivial,_,_,_,t,rfl,by have:=s.o;rw[bG] at this;omega,by simpa using hcut _ (fun e=>absurd rfl e),i⟩
        case measure=>simp
      . go_wp2;go_roundw
        case rel=>exact⟨trivial,_,_,_,t,rfl,by have:=s.o;rw[bG] at this;omega,hcut _ (fun _=>rfl),i⟩
        case measure=>simp;omega
    . have L:((x.toNat:Int)==(c.toNat:Int))=F:=by rw[aQ];intro e;exact f (lN.1 (by omega))
      have g:Hid (l.dropWhile (·==c)=x::t):=by unfold Hid;rw[<-p.o,vm,if_neg (by simpa using f)]
      have S:((d:Int)==0)=F:=by rw[aQ];omega
      clear f b;go_wp2;go_ret;exact⟨_,_,d,rfl,by rw[g.o];exact s.o,by rw[g.o];exact j.o,rfl⟩
theorem Ns (w:X)(ao:ag)(cap n:Nat)(l:ab)(h:aB w ao cap l)(c:l.length=n):
 Calls prog 387 #[Z ao n cap,V ⟨#[46]⟩] w fun e w'=>∃gL a b,e=Y (Z gL b a)∧b=(l.dropWhile (·==46)).length∧aB w gL a (l.dropWhile (·==46))∧w'=w:=by
 by_cases f:n=0
 . subst f;obtain rfl:l=[]:=ix c;go_enter func387,ntmps387;go_wp2;go_ret;exact⟨U,0,0,rfl,rfl,aB.f _,rfl⟩
 . have k:((n:Int)==0)=F:=by rw[aQ];omega
   go_enter func387,ntmps387;go_wp2_with fail;refine(QR w ao cap n l 46 h c).mono ?_;rintro e w' ⟨gL,a,b,rfl,d,g,i⟩;subst i;have j:=aa d;clear d;go_wp2;go_ret;exact⟨gL,a,b,rfl,j.o,g,rfl⟩
def iB (name:ae):aC->Option ae
 | []=>U
 | p::t=>if p.1.data.toList=name.data.toList then M p.2 else iB name t
theorem Mx {a:ae}{l:aC}(h:∀p∈l,p.1.data.toList≠a.data.toList):iB a l=U:=by
 induction l with
 | nil=>rfl
 | cons p t b =>
   unfold iB;rw[if_neg (h p (lM ..))];exact b (fun q c=>h q (iw _ c))
theorem QT {a:ae}{l:aC}{k:Nat}(b:k<l.length)(h:∀p∈l.take k,p.1.data.toList≠a.data.toList)(c:l[k].1.data.toList=a.data.toList):iB a l=M l[k].2:=by
 induction l generalizing k with
 | nil=>simp at b
 | cons p t d =>
   cases k with
   | zero=>unfold iB;rw[if_pos (show p.1.data.toList=a.data.toList from c)];rfl
   | succ k =>
     unfold iB;rw[if_neg (h p (by simp))];have:=d (k:=k) (by simpa using b) (fun q e=>h q (by simp[e])) (by simpa using c);simpa using this
theorem Eg {x:Nat}(h:x<256):IntKind.u8.wrap (x:Int)=((UInt8.ofNat x).toNat:Int):=by
 rw[IntKind.wrap_u8,rR h];omega
structure wY (w:X)(base:Nat)(p:ab)(r:Nat)(ao:ag)(cap k:Nat)(done:ab)(wr:X):Prop where
 b:bl wr base 5 ao cap p
 a:p.length=k
 below:Below base w wr
 c:p++bS r=done
theorem wY.f {w:X}{a:Nat}{p:ab}{r:Nat}{ao:ag}{cap k:Nat}{done:ab}{wr:X}(h:wY w a p r ao cap k done wr)(j:a<=w.heap.size)(e:¬r<128){c:UInt8}(f:UInt8.ofNat (r % 128+128)=c)(o:Obj)(gL:ag)(b:Nat)(w':X)(g:bl w' a 5 gL b (p++[c]))(i:(wr.alloc o).grownBy w' (aw ao)):wY w a (p++[c]) (r / 128) gL b (k+1) done w':=by
 have d:=h.below.alloc (by have:=h.below.size;omega) o;refine⟨g,by rw[aD,h.a];rfl,d.trans (oi (h.b.r o) i (by have:=d.size;omega)),?_⟩;have:=h.c;rw[xe e,f] at this;rw[<-this];simp
theorem xY (x:Nat)(hx:x<=1000000000000)(a:Nat)(ao:ag)(cap n:Nat)(l:ab)(w:X)(hO:bl w a 5 ao cap l)(S:l.length=n)(hN:n<=1000000000)(hb:a<=w.heap.size)(v:Int)(hv:v+1=x):
 Calls prog 292 #[Z ao n cap,I J v] w fun e w'=>∃gL g,e=Y (Z gL (n+(bS x).length) g)∧bl w' a 5 gL g (l++bS x)∧Below a w w':=by
 have H0:wY w a l x ao cap n (l++bS x) w:=⟨hO,S,ar _ _,rfl⟩;have T:∀k r p,p++bS r=l++bS x->p.length=k->k+(bS r).length=n+(bS x).length:=fun k r p e W=>by
  have:=lL List.length e;rw[aD,aD,S] at this;omega
 have hlx:=xc 5 x (by omega);have hw:IntKind.i64.wrap (v+1)=x:=by rw[hv];exact ja (by omega) (by omega)
 obtain⟨i0,y,z,B,C⟩:=info_parts gG;have Hi:=y;have lg:=aa z;have kZ:=aa B;have lq:=aa C
 generalize hd:l++bS x=done at *;generalize hq:n+(bS x).length=m at *;have hm:m<=1000000006:=by omega
 go_enter func292,ntmps292;go_wp2;go_loopw [0,5] (fun va D wr=>∃(r k:Nat) (p:ab) (gL:ag) (u:Nat),r<=x∧va=Z gL k u∧D=I J r∧wY w a p r gL u k done wr) (fun _ D _=>(intOf D).toNat)
 case atStart=>exact⟨x,n,l,ao,cap,ak _,rfl,by first | rfl | rw[hw],H0⟩
 case round =>
  obtain⟨r,k,p,gL,u,hr,rfl,rfl,b⟩:=hrel;have hk:=T k r p b.c b.a;have hpo:=As r;have hkm:k<=1000000006:=by omega
  by_cases j:r<128
  . have t0:decide ((r:Int)≥128)=F:=by rw[cC];omega
    have q:=Eg (x:=r) (by omega);have HN:=up j;generalize UInt8.ofNat r=c at *;have s:¬(128:Int)<=r:=by omega
    go_wp2_with (at_builtin;refine oe rfl (.tmp 19) (.tmp 22) 31 rfl a 5 i0 underlying31 Hi lg.o kZ.o lq.o (l:=p) (l2:=[c]) rfl b.a (b.b.r _) rfl rfl (aB.B _ _ _ _) (by omega) (by rw[bF];have:=b.below.size;omega) ?_;intro G H w3 d f;have L:=aa d;have N:=aa f;clear d f)
    go_ret;have h1:=b.below.alloc (by have:=b.below.size;omega) (.cells #[I .u8 (c.toNat:Int)] 5);have i:=b.c;have t:=T k r p i b.a;rw[HN] at i t;refine⟨G,H,by rw[<-t];rfl,by rw[<-i];exact L.o,h1.trans (oi (b.b.r _) N.o (by have:=h1.size;omega))⟩
  . have t0:decide ((r:Int)≥128)=true:=by rw[bR];omega
    have q:=Eg (x:=r % 128+128) (by omega);have e1:(((r % 128+128:Nat)):Int)=(r:Int) % 128+128:=by omega
    rw[e1] at q;have HM:=@wY.f w a p r gL u k done wr b hb j _ rfl;generalize UInt8.ofNat (r % 128+128)=c at *;have s:(128:Int)<=r:=by omega
    have W:((r / 128:Nat):Int)=(r:Int) / 128:=by omega
    go_wp2_with (at_builtin;refine oe rfl (.tmp 10) (.tmp 15) 31 rfl a 5 i0 underlying31 Hi lg.o kZ.o lq.o (l:=p) (l2:=[c]) rfl b.a (b.b.r _) rfl rfl (aB.B _ _ _ _) (by omega) (by rw[bF];have:=b.below.size;omega) ?_;intro G H w3 d f;have L:=aa d;have N:=aa f;clear d f)
    go_roundw
    case rel=>exact⟨r / 128,k+1,p++[c],G,H,by omega,rfl,by rw[W],HM _ _ _ _ L.o N.o⟩
    case measure=>simp[intOf];omega
theorem Sm (g:Nat)(a:ag)(cap:Nat)(c:UInt8)(w:X)(b:w.cell? ⟨g,0,U⟩=M (Z a 0 cap)):
 Calls prog 352 #[.pointer (M ⟨g,0,U⟩),I J 0,I .u8 c.toNat] w fun e w'=>e=Y (I J 0)∧w'=w:=by
 go_enter func352,ntmps352;go_wp2;go_loop [1] (fun t=>t=I J 0) (fun _=>0)
 case atStart=>rfl
 case round =>
  subst hrel;go_wp2;go_ret;exact⟨rfl,rfl⟩
theorem FF (m:ab)(n:Nat)(c:UInt8)(g s u cap:Nat)(w:X)(v:n<m.length)(L:m.length<=140737488355328)
 (N:w.cell? ⟨g,0,U⟩=M (Z (M ⟨s,0,U⟩) m.length cap))
 (S:w.cell? ⟨g,1,U⟩=M (Z (M ⟨u,0,U⟩) m.length m.length))
 (x:∀j (T:j<m.length),w.cell? ⟨s,j,U⟩=M (I .u8 (m[j].toNat:Int)))
 (y:∀j,0<j->j<=n->w.cell? ⟨u,j,U⟩=M (I J (iV m j))) :
 Calls prog 352 #[.pointer (M ⟨g,0,U⟩),I J n,I .u8 c.toNat] w fun e w'=>e=Y (I J (ez m n c))∧w'=w:=by
 have z:=aa x;have B:=aa y;go_enter func352,ntmps352;go_wp2;go_loop [1] (fun t=>∃k:Nat,sg m n c k∧t=I J k) (fun t=>(intOf t).toNat)
 case atStart=>exact⟨n,OW m n c,rfl⟩
 case round =>
  obtain⟨k,f,rfl⟩:=hrel;have l:=f.1;have a:k<m.length:=by omega
  have C:=z.o k a;have p:=aa f;by_cases d:m[k]=c
  . have q:=FJ d;have r:((m[k].toNat:Int)==c.toNat)=true:=by rw[d];simp
    have i:Hid (ez m n c=k+1):=(OZ p.o v a d).a;by_cases b:0<k
    . go_wp2;go_ret;exact⟨ld (by rw[i.o];omega),rfl⟩
    . obtain rfl:k=0:=by omega
      go_wp2;go_ret;exact⟨ld (by rw[i.o];omega),rfl⟩
  . have q:=FI d;have r:=op d;by_cases b:0<k
    . have D:=B.o k b l;have G:=OX p.o a b d;have H:=Bb m k b;go_wp2;go_round
      case rel=>exact⟨iV m k,G,rfl⟩
      case measure=>simp[intOf];omega
    . obtain rfl:k=0:=by omega
      have i:Hid (ez m n c=0):=(O2 p.o v a d).a;go_wp2;go_ret;exact⟨ld (by rw[i.o];rfl),rfl⟩
theorem Eh (l:ab)(ao:ag)(cap:Nat)(w:X)(h:aB w ao cap l)(m:l.length<=140737488355328):
 Calls prog 351 #[Z ao l.length cap] w fun e w'=>∃gL b,e=Y (Z gL l.length b)∧bl w' w.heap.size 5 gL b l∧Below w.heap.size w w':=by
 have z:∀(w:X) (a:ag) (n c d f:Nat),(binOp .eql 31 (Z a n c) (Z U d f)).run prog w=.ok (.bool a.isNone) w:=fun w a n c d f=>Lib.run_eql_slice_nil w _ _ a n c d f underlying31;obtain⟨p,q,g,i,j⟩:=info_parts gG;cases ao with
 | none =>
   obtain⟨rfl,rfl⟩:=h.jK;go_enter func351,ntmps351;go_wp2;go_ret;exact⟨U,0,rfl,bl.y _ _ _,ar _ _⟩
 | some a =>
   have r:=q;have s:=aa g;have t:=aa i;have u:=aa j
   have v:bl (w.alloc (.cells #[] 5)) w.heap.size 5 (M ⟨w.heap.size,0,U⟩) 0 []:=World.ownsRow_made w #[] 0 (ak _) (by decide) rfl;go_enter func351,ntmps351;go_wp2_with (at_builtin;refine oe rfl (.tmp 5) (.tmp 6) 31 rfl w.heap.size 5 p underlying31 r s.o t.o u.o (l:=[]) (l2:=l) rfl rfl v rfl rfl (h.jY _) (by simpa using m) (by simp) ?_;intro gL b B x y)
   go_ret;refine⟨gL,b,?_,x,?_⟩
   . simp
   . exact((ar _ _).alloc (ak _) _).grown y (by simp) (fun k e=>by cases e;exact ak _)
theorem FG (l:ab)(n:Nat)(ao:ag)(cap:Nat)(w:X)(b:l.length=n)(h:aB w ao cap l)(c:n<=140737488355328):
 Calls prog 351 #[Z ao n cap] w fun e w'=>∃gL a,e=Y (Z gL n a)∧bl w' w.heap.size 5 gL a l∧Below w.heap.size w w':=by
 subst b;exact Eh l ao cap w h c
def wu (p:UInt8×Nat):Value:=.tuple #[I .u8 (p.1.toNat:Int),I J (p.2:Int)]
theorem ww (s:ae){l:ab}(h:s.data.toList=l)(i:Nat)(a:i<s.size)(b:i<l.length):s[i]=l[i]:=by
 subst h;exact(vj s i a).symm
theorem IW (p q:Int)(a:0<=p)(c:p<16)(b:0<=q)(d:q<16):bits .or J (p*16) q % 256=((p*16+q).toNat.toUInt8.toNat:Int):=by
 have:=(show ∀i j:Fin 16,bits .or J ((i.val:Int)*16) (j.val:Int) % 256=(((i.val:Int)*16+(j.val:Int)).toNat.toUInt8.toNat:Int) by decide +kernel) ⟨p.toNat,by omega⟩ ⟨q.toNat,by omega⟩;simpa[Int.toNat_of_nonneg a,Int.toNat_of_nonneg b] using this
theorem Q4 (s:ae)(r:ab)(w:World)(h:s.data.toList=92::120::r)(hs:s.size<=maxLen):
 Calls prog 146 #[.string s] w fun e w'=>e=.returned (wu (fL s.data.toList))∧∃n,w'=w.drewN n:=by
 have hl:=cH s;unfold maxLen at hs;rw[h] at hl;simp only[bG] at hl;by_cases h4:s.size<4
 . have HR:Hid (fL s.data.toList=(0,0)):=by
    rw[h];match r,hl with
    | [],_=>rfl
    | [x],_=>rfl
    | x::y::t,hl=>simp only[bG] at hl;omega
   have h4':(s.size:Int)<4:=by omega
   go_enter func146,ntmps146;go_wp2;go_ret2;exact⟨by rw[HR.o];rfl,0,rfl⟩
 . obtain⟨x,y,t,rfl⟩:∃x y t,r=x::y::t:=by
    match r,hl with
    | [],hl=>simp only[iv] at hl;omega
    | [x],hl=>simp only[bG,iv] at hl;omega
    | x::y::t,_=>exact⟨x,y,t,rfl⟩
   have h2:2<s.size:=by omega
   have h3:3<s.size:=by omega
   have h2:2<s.size:=by omega
   have h3:3<s.size:=by omega
   have hx:s[2]=x:=ww s h 2 (by omega) (by simp);have hy:s[3]=y:=ww s h 3 (by omega) (by simp);have h4':¬(s.size:Int)<4:=by omega
   have HX:=fun(c:UInt8) W=>Az (c.toNat:Int) W (by omega) (by have:=c.toNat_lt;omega);have rx:=qi x;have ry:=qi y
   have HR:Hid (fL s.data.toList=if 0<=aT x.toNat∧0<=aT y.toNat then ((aT x.toNat*16+aT y.toNat).toNat.toUInt8,4) else (0,0)):=by rw[h];rfl
   have h2':(2:Int)<s.size:=by omega
   have h3':(3:Int)<s.size:=by omega
   have Hx:=aa hx;have Hy:=aa hy
   clear h hl h4 hx hy;go_enter func146,ntmps146;go_wp2;go_quiet ((go_at_call 204;exact Calls.quiet_of_same (HX _ _)))
   rw[Hx.o,Hy.o];generalize aT (x.toNat:Int)=p at *;generalize aT (y.toNat:Int)=q at *;clear HX Hx Hy h2' h3' h2 h3;by_cases hp:p<0
   . rw[if_neg (by omega)] at HR;go_wp2;go_ret2;exact⟨by rw[HR.o];rfl,nq,rfl⟩
   . by_cases hq:q<0
     . rw[if_neg (by omega)] at HR;go_wp2;go_ret2;exact⟨by rw[HR.o];rfl,nq,rfl⟩
     . rw[if_pos (by omega)] at HR;go_wp2;have e:=IW p q (by omega) (by omega) (by omega) (by omega);go_ret2;exact⟨by rw[HR.o];show Ending.returned (.tuple #[.int .u8 (bits .or .i64 (p*16) q % 256),.int .i64 4])=_;rw[e];rfl,nq,rfl⟩
theorem N8 (s:ae)(w:World)(h0:0<s.size)(hs:s.size<=maxLen):
 Calls prog 91 #[.string s] w fun e w'=>e=.returned (wu (fL s.data.toList))∧∃n,w'=w.drewN n:=by
 have HC:=fun r h=>Q4 s r w h hs;have hl:=cH s;unfold maxLen at hs;have h0':(0:Int)<s.size:=by omega
 cases h:s.data.toList with
 | nil=>rw[h] at hl;simp only[iv] at hl;omega
 | cons c r =>
   have hc:s[0]=c:=ww s h 0 h0 (by simp);rw[h] at HC hl;obtain⟨q,hq⟩:∃q,fL (c::r)=q:=⟨_,rfl⟩;rw[hq] at HC ⊢;by_cases h92:c=92
   . subst h92;have t0:((s[0].toNat:Int) != 92)=false:=by rw[hc];rfl
     cases r with
     | nil =>
       have h1:(s.size:Int)<2:=by simp only[bG,iv] at hl;omega
       obtain rfl:(0,0)=q:=hq;clear hc HC hl h;go_enter func91,ntmps91;go_wp2;go_ret2;exact⟨rfl,0,rfl⟩
     | cons d r =>
       simp only[bG] at hl;have h1:1<s.size:=by omega
       have h1':(1:Int)<s.size:=by omega
       have h2:¬(s.size:Int)<2:=by omega
       have hd:s[1]=d:=ww s h 1 h1 (by simp);have HQ:Hid (q=if d=114 then (13,2) else if d=110 then (10,2) else if d=92 then (92,2) else if d=120 then q else (0,0)):=by
        unfold Hid;by_cases a:d=114
        . subst a;rw[if_pos rfl,<-hq];rfl
        by_cases b:d=110
        . subst b;rw[if_neg (by decide),if_pos rfl,<-hq];rfl
        by_cases c:d=92
        . subst c;rw[if_neg (by decide),if_neg (by decide),if_pos rfl,<-hq];rfl
        by_cases e:d=120
        . rw[if_neg a,if_neg b,if_neg c,if_pos e]
        . rw[if_neg a,if_neg b,if_neg c,if_neg e,<-hq];simp[fL,a,b,c,e]
       have dk:∀k:UInt8,d≠k->((s[1].toNat:Int)==(k.toNat:Int))=false:=fun k e=>by
        rw[hd,aQ];intro e2;exact e (lN.1 (by omega))
       have Hd:=aa hd;have HH:=aa h
       clear hc hl h hd hq;by_cases e1:d=114
       . subst e1;have u1:((s[1].toNat:Int)==114)=true:=by rw[Hd.o];rfl
         obtain rfl:q=(13,2):=HQ.o;clear HC dk;go_enter func91,ntmps91;go_wp2;go_ret2;exact⟨rfl,0,rfl⟩
       rw[if_neg e1] at HQ;have u1:((s[1].toNat:Int)==114)=false:=dk 114 e1;by_cases e2:d=110
       . subst e2;have u2:((s[1].toNat:Int)==110)=true:=by rw[Hd.o];rfl
         obtain rfl:q=(10,2):=HQ.o;clear HC dk;go_enter func91,ntmps91;go_wp2;go_ret2;exact⟨rfl,0,rfl⟩
       rw[if_neg e2] at HQ;have u2:((s[1].toNat:Int)==110)=false:=dk 110 e2;by_cases e3:d=92
       . subst e3;have u3:((s[1].toNat:Int)==92)=true:=by rw[Hd.o];rfl
         obtain rfl:q=(92,2):=HQ.o;clear HC dk;go_enter func91,ntmps91;go_wp2;go_ret2;exact⟨rfl,0,rfl⟩
       rw[if_neg e3] at HQ;have u3:((s[1].toNat:Int)==92)=false:=dk 92 e3;by_cases e4:d=120
       . subst e4;have u4:((s[1].toNat:Int)==120)=true:=by rw[Hd.o];rfl
         have HC:=aa (HC r rfl);clear dk;go_enter func91,ntmps91;go_wp2_with fail;refine HC.o.mono ?_;rintro e w1 ⟨rfl,n,hw⟩;subst hw;unfold wu;go_wp2;go_ret2;exact⟨rfl,n,rfl⟩
       . rw[if_neg e4] at HQ;obtain rfl:q=(0,0):=HQ.o;have u4:((s[1].toNat:Int)==120)=false:=dk 120 e4;clear HC dk;go_enter func91,ntmps91;go_wp2;go_ret2;exact⟨rfl,0,rfl⟩
   . have t0:((s[0].toNat:Int) != 92)=true:=by rw[hc,di];intro e;exact h92 (lN.1 (by show c.toNat=92;omega))
     obtain rfl:(c,1)=q:=by rw[<-hq];simp[fL,h92]
     have Hc:=aa hc;clear hc HC hl h;go_enter func91,ntmps91;go_wp2;go_ret2;exact⟨by show Ending.returned (.tuple #[.int .u8 (s[0].toNat:Int),.int .i64 1])=_;rw[Hc.o];rfl,0,rfl⟩
inductive ze (w:X)(l:ab):Ending->X->Prop
 | no {w'}:je l=U->Below w.heap.size w w'->ze w l (Y (.tuple #[Z U 0 0,.bool F])) w'
 | yes {w'} (b:ab) (ao:ag) (cap m:Nat):je l=M b->m=b.length->bl w' w.heap.size 5 ao cap b->Below w.heap.size w w'->ze w l (Y (.tuple #[Z ao m cap,.bool true])) w'
theorem zj (s:ae)(n:Nat):(s.extract n s.size).data.toList=s.data.toList.drop n:=by
 rw[Lib.extract_data,gF];rw[cO,cH];omega
theorem SF (s:ae)(w:X)(hs:s.size<=1000000):
 Calls prog 42 #[V s] w fun e w'=>ze w s.data.toList e w':=by
 obtain⟨i0,g,i,j,k⟩:=info_parts gG;have Hi:=aa g;have lg:=aa i;have kZ:=aa j;have lq:=aa k
 clear g i j k;go_enter func42,ntmps42;go_wp2;go_loopw [0,4] (fun C v4 wr=>∃(x:ae) (b:ab) (z:ag) (d m:Nat),C=V x∧v4=Z z m d∧b.length=m∧m+x.size<=s.size∧bl wr w.heap.size 5 z d b∧Hid (je s.data.toList=(je x.data.toList).map (b++·))∧Below w.heap.size w wr) (fun C _ _=>Tc C)
 case atStart=>exact⟨s,[],U,0,0,rfl,rfl,rfl,by omega,bl.y _ _ _,by unfold Hid;cases je s.data.toList <;> rfl,ar _ _⟩
 case round =>
  obtain⟨x,b,z,d,m,rfl,rfl,D,hz,G,q,H⟩:=hrel;have r:=cH x;by_cases h0:x.size=0
  . obtain rfl:=qe x h0;rw[show(⟨#[]⟩:ae).data.toList=[] from rfl,IB] at q;simp only[Option.map_some,fK] at q;go_wp2;go_ret2;exact .yes b z d m q D.symm G H
  . have hne:=qh x (by omega);have f:=yS x (by omega);have t:=CC x.data.toList;have HF:=fun W=>N8 x W (by omega) (by unfold maxLen;omega);have B:=aa (fun h=>zb (l:=x.data.toList) f h);have L:=aa (fun h=>Cs (l:=x.data.toList) f h);generalize fL x.data.toList=p at *;obtain⟨c,n⟩:=p;simp only at B L t;rw[r] at t;have HO:=aa G;have N:=aa H;have HM:=aa D
    clear G H f r D;go_wp2_with fail;refine(HF _).mono ?_;rintro e w1 ⟨rfl,nd,S⟩;have a:=aa (N.o.trans (iZ ⟨nd,S⟩ |>.mono N.o.size));have Ap:=aa (HO.o.G (iZ ⟨nd,S⟩));clear HO N S HF;unfold wu;by_cases hn:n=0
    . subst hn;have T:=L.o rfl;clear B;go_wp2;go_ret2;exact .no (by rw[q.out,T];rfl) a.o
    . have hn':((n:Int)==0)=F:=aQ.2 (by omega);have hn2:(n:Int)<=x.size:=by omega
      have T:=aa (B.o hn);clear B L;go_wp2_with (at_builtin;refine oe rfl (.tmp 16) (.tmp 18) 31 rfl w.heap.size 5 i0 underlying31 Hi.o lg.o kZ.o lq.o (l2:=[c]) rfl HM.o (Ap.o.r _) rfl rfl (aB.B _ _ _ _) (by omega) (by rw[bF];have:=a.o.size;omega) ?_;intro vG bc2 w2 u v)
      have EP:=aa u;have HB2:=aa ((a.o.alloc (cq (ak _) a.o.size) _).trans (oi (Ap.o.r _) v (by rw[bF];have:=a.o.size;omega)))
      clear u v;go_wp2;have hsz:(x.extract n x.size).size=x.size-n:=by rw[tQ (zj x n),cO,cH]
      go_roundw
      case rel=>exact⟨x.extract n x.size,b++[c],vG,bc2,m+1,rfl,rfl,by rw[aD,HM.o];rfl,by rw[hsz];omega,EP.o,by unfold Hid;rw[q.out,T.o,zj,Option.map_map];congr 1;funext y;simp,HB2.o⟩
      case measure=>show(x.extract n x.size).size<x.size;omega
