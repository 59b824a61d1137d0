import Derived.Test.YtmbghcpcbdjfoaaGreatDoorPk7
import Derived.Test.YtmbghcpcbdjfoaaGreatDoorPk1
import Derived.Test.YtmbghcpcbdjfoaaGreatDoorPk6
open Go.Value renaming int->I,string->V,slice->Z
open Go.IntKind renaming i64->J
open Go.Ending renaming returned->Y
open Option renaming none->U,some->M
open Bool renaming false->F
open Go renaming World->X
set_option maxHeartbeats 1600000
set_option maxRecDepth 100000
open Go.Proofs.Tryz
namespace Go.Proofs.YtmbghcpcbdjfoaaGreatDoor
open Go.RowKit
theorem il:(prog.info? 5).map (fun i=>(i.zero,i.size,i.bytes))=M (M (I .u8 0),1,1):=by kernel_rfl
theorem wT:(prog.info? 3).map (fun i=>(i.zero,i.size,i.bytes))=M (M (I J 0),1,8):=by kernel_rfl
theorem zZ:(prog.info? 9).map (fun i=>(i.zero,i.size,i.bytes))=M (M (V ⟨#[]⟩),1,16):=by kernel_rfl
def aE (name:ag)(l:aC):List ag:=(l.filter fun p=>decide (aU p.1.data.toList=aU name.data.toList)).map (·.2)
theorem Dz (a:ag)(l:aC)(p:ag×ag):
 aE a (l++[p])=if aU p.1.data.toList=aU a.data.toList then aE a l++[p.2] else aE a l:=by grind [aE,aU]
theorem oT (a:ag)(l:aC):(aE a l).length<=l.length:=by grind [aE]
def fw (vs:List ag):ae×Nat :=
 match vs with
 | []=>([],10)
 | [v]=>(v.data.toList,0)
 | _=>([],9)
def qT (t:zW):Value:=.tuple #[.agg #[V ⟨t.b.toArray⟩,V ⟨t.c.toArray⟩],I J (t.a:Int)]
theorem ze {w w':X}{b t:Nat}{ao:ai}{cap:Nat}{l:ae}(c:bC w b t ao cap l)(d:w.grownBy w' (au ao))(f:b<=w.heap.size):Below b w w' :=
 ⟨d.os, d.tape, d.output, d.size, fun k g => d.block k (by omega) (fun e => by
  cases ao with
  | none=>cases e
  | some a=>injection e with e;have:=(c.d a rfl).1;omega)⟩
theorem pv:(prog.info? 128).map (fun i=>(i.zero,i.size,i.bytes))=M (M (.agg #[V ⟨#[]⟩,V ⟨#[]⟩]),2,32):=by kernel_rfl
theorem CJ (l:aC)(a:ag)(ao:ai)(cap n:Nat)(w:X)(hl:bx w ao cap n (aI l))(hn:l.length=n)(hN:n<=1000000)(hs:∀p∈l,p.1.size<=2000)(N:a.size<=2000):
 Calls prog 87 #[Z ao n cap,V a] w fun e w'=>∃gQ b,e=Y (Z gQ (aE a l).length b)∧aG w' w.heap.size 9 1 gQ b (aE a l).length (fH (aE a l))∧Below w.heap.size w w':=by
 subst hn;obtain⟨i0,S,T,hz1,hz2⟩:=info_parts zZ;have Hi:=S;have kT:=aa T;have kL:=aa hz1;have kU:=aa hz2
 have i:=fun W=>zh a W N;go_enter func87,ntmps87;go_wp2;go_loopw [5,6] (fun v t wr=>∃(k:Nat) (gQ:ai) (b:Nat),k<=l.length∧t=I J k∧v=Z gQ (aE a (l.take k)).length b∧aG wr w.heap.size 9 1 gQ b (aE a (l.take k)).length (fH (aE a (l.take k)))∧Below w.heap.size w wr) (fun _ t _=>l.length-(intOf t).toNat)
 case atStart=>exact⟨0,U,0,ax _,rfl,rfl,aG.f _ _ _ _,aq _ _⟩
 case round =>
  obtain⟨k,gQ,b,hk,rfl,rfl,hO,hB⟩:=hrel;have B:=hO;have C:=aa hB
  have hvl:=oT a (l.take k);have hvk:(l.take k).length<=k:=wu _ _;by_cases f:k<l.length
  . have hpl:0<(aI l).length:=by rw[rI];omega
    obtain⟨bb,oo,rfl,s⟩:=hl.e hpl;have HC:∀W,Below w.heap.size w W->W.cell? ⟨bb,oo+k*2,U⟩=M (V l[k].1)∧W.cell? ⟨bb,oo+k*2+1,U⟩=M (V l[k].2):=fun W hW=>by
     have x:=s _ _ (mU l k f).1;have h2:=s _ _ (mU l k f).2;rw[<-fC] at h2;exact⟨(hW.cell (bI w _ x)).trans x,(hW.cell (bI w _ h2)).trans h2⟩
    have HT:l.take (k+1)=l.take k++[l[k]]:=go f;have hp1:=hs l[k] (dG f);have j:=fun W=>zh l[k].1 W hp1;have z:=(HC wr C.o).1;have hlt':(k:Int)<l.length:=by omega
    have D:=aa (Dz a (l.take k) l[k]);rw[<-HT] at D;generalize l[k]=p at *;have G:Hid (((⟨(aU p.1.data.toList).toArray⟩:ag).toList==(⟨(aU a.data.toList).toArray⟩:ag).toList)=decide (aU p.1.data.toList=aU a.data.toList)):=by
     unfold Hid;rw[Lib.toList_data,Lib.toList_data,ik];simp
    generalize (⟨(aU p.1.data.toList).toArray⟩:ag)=sp at j G;generalize (⟨(aU a.data.toList).toArray⟩:ag)=sn at i G;generalize aE a (l.take k)=m at B D hvl;by_cases g:aU p.1.data.toList=aU a.data.toList
    . have hx:=G.o;rw[aV g] at hx;have H:aE a (l.take (k+1))=m++[p.2]:=by have:=D.o;rw[if_pos g] at this;exact this
      go_wp2_with fail;refine(j _).mono ?_;rintro e w1 ⟨rfl,n1,d⟩;subst d;go_wp2_with fail;refine(i _).mono ?_;rintro e r ⟨rfl,n2,d⟩;have c:Below w.heap.size w r:=by rw[d];exact C.o.trans ⟨rfl,rfl,rfl,ak _,fun _ _=>rfl⟩
      have L:aG r w.heap.size 9 1 gQ b m.length (fH m):=by rw[d];exact B
      clear d z;have hc1:=(HC r c).2;go_wp2_with (at_builtin;refine fE rfl (.tmp 22) (.tmp 28) 155 rfl w.heap.size 9 i0 (V ⟨#[]⟩) 1 16 underlying155 Hi kT.o kL.o kU.o rfl (by decide) rfl (L.q _) rfl (bx.d _ _ 1 _ _) rfl (fun u hu=>by simp at hu;subst hu;rfl) (by omega) (by omega) (by have:=c.size;simp;omega) ?_;intro lu iq w3 hO3 hG3 _)
      go_roundw
      case rel =>
       have e1:=H;refine⟨k+1,lu,iq,by omega,by go_num,by rw[e1,aF];rfl,?_,?_⟩
       . rw[e1,aF,Cv];exact hO3
       . exact(c.alloc c.size _).grown hG3 (by have:=c.size;simp;omega) (fun q e=>by
          cases gQ with
          | none=>simp[au] at e
          | some y=>simp only[au,iV] at e;have:=(L.d y rfl).1;omega)
      case measure=>simp[intOf];omega
    . have hx:=G.o;rw[aW g] at hx;have H:aE a (l.take (k+1))=m:=by have:=D.o;rw[if_neg g] at this;exact this
      go_wp2_with fail;refine(j _).mono ?_;rintro e w1 ⟨rfl,n1,d⟩;subst d;go_wp2_with fail;refine(i _).mono ?_;rintro e r ⟨rfl,n2,d⟩;have c:Below w.heap.size w r:=by rw[d];exact C.o.trans ⟨rfl,rfl,rfl,ak _,fun _ _=>rfl⟩
      have L:aG r w.heap.size 9 1 gQ b m.length (fH m):=by rw[d];exact B
      clear d z;go_wp2;go_roundw
      case rel=>exact⟨k+1,gQ,b,by omega,by go_num,by rw[H],by rw[H];exact L,c⟩
      case measure=>simp[intOf];omega
  . obtain rfl:k=l.length:=by omega
    go_wp2;go_ret;have e:l.take l.length=l:=fD;have x:=B;rw[e] at x;exact⟨gQ,b,by rw[e];rfl,x,C.o⟩
theorem Ry (l:aC)(a:ag)(ao:ai)(cap n:Nat)(w:X)(y:bx w ao cap n (aI l))(r:l.length=n)(z:n<=1000000)(B:∀p∈l,p.1.size<=2000)(j:a.size<=2000):
 Calls prog 74 #[Z ao n cap,V a] w fun e w'=>e=Y (jX (fw (aE a l)))∧Below w.heap.size w w':=by
 have g:=CJ l a ao cap n w y r z B j;have b:=oT a l;rw[r] at b;generalize aE a l=k at g b;rcases k with _ | ⟨v,_ | ⟨i,t⟩⟩
 . go_enter func74,ntmps74;go_wp2_with fail;refine g.mono ?_;rintro e s ⟨u,x,rfl,c,d⟩;have m:=c;have f:=aa d
   go_wp2;go_ret2;exact⟨mW (p:=([],10)) rfl rfl,f.o⟩
 . go_enter func74,ntmps74;go_wp2_with fail;refine g.mono ?_;rintro e s ⟨u,x,rfl,c,d⟩;have m:=c;have f:=aa d
   obtain⟨G,H,rfl,q⟩:=m.a.e (by simp[fH]);have C:=q 0 (V v) rfl;rw[lC] at C;go_wp2;go_ret2;exact⟨mW (p:=(v.data.toList,0)) rfl rfl,f.o⟩
 . have N:(((v::i::t).length:Int)==0)=F:=by rw[aO,bO,bO];omega
   have S:decide (((v::i::t).length:Int) > 1)=true:=by rw[bS,bO,bO];omega
   have D:fw (v::i::t)=([],9):=rfl;generalize v::i::t=k at *;generalize k.length=L at *;go_enter func74,ntmps74;go_wp2_with fail;refine g.mono ?_;rintro e s ⟨u,x,rfl,c,d⟩;have m:=c;have f:=aa d
   go_wp2;go_ret2;exact⟨mW (p:=([],9)) D rfl,f.o⟩
theorem IY (l:aC)(fo:ai)(gG n:Nat)(w:X)(f:bx w fo gG n (aI l))(s:l.length=n)(N:n*32<=140737488355328):
 Calls prog 188 #[Z fo n gG] w fun e w'=>∃ao cap,e=Y (Z ao n cap)∧aG w' w.heap.size 128 2 ao cap n (aI l)∧Below w.heap.size w w':=by
 have S:∀(w:X) (a:ai) (n c g i:Nat),(binOp .eql 80 (Z a n c) (Z U g i)).run prog w=.ok (.bool a.isNone) w:=fun w a n c g i=>Lib.run_eql_slice_nil w _ _ a n c g i underlying80;cases fo with
 | none =>
   have T:=f.2.1 rfl;have j:n=0:=by have:=f.1;omega
   subst j;obtain rfl:l=[]:=gW s;go_enter func188,ntmps188;go_wp2;go_ret;exact⟨U,0,rfl,aG.f _ _ _ _,aq _ _⟩
 | some a =>
   have t:=rI l;obtain⟨u,k,m,p,r⟩:=info_parts pv;have v:=k;have x:=aa m;have y:=aa p;have z:=aa r
   have B:(aI l).length=n*2:=by rw[s] at t;exact t
   go_enter func188,ntmps188;go_wp2_with (at_builtin;refine fE rfl (.tmp 5) (.tmp 6) 80 rfl w.heap.size 128 u (.agg #[V ⟨#[]⟩,V ⟨#[]⟩]) 2 32 underlying80 v x.o y.o z.o rfl (by decide) (n:=0) (xs:=[]) rfl (tN _ #[] 0 (by simp) (by decide) rfl) rfl (f.y _) B (EL l) (by omega) (by omega) (by simp) ?_;intro C D W b d G;have H:=aa b;have L:=aa d;clear b d G)
   go_ret;refine⟨C,D,by simp,?_,?_⟩
   . have:=H.o;rw[jo,dV] at this;exact this
   . exact((aq _ _).alloc (ak _) _).grown L.o (by simp) (fun q e=>by simp[au] at e;omega)
theorem IN (l:aC)(fo:ai)(gG n:Nat)(w:X)(a:bx w fo gG n (aI l))(b:l.length=n)(c:n<=1000000):
 Calls prog 188 #[Z fo n gG] w fun e w'=>∃ao cap,e=Y (Z ao n cap)∧aG w' w.heap.size 128 2 ao cap n (aI l)∧Below w.heap.size w w':=IY l fo gG n w a b (by omega)
def se (c:UInt8)(l:ae)(r:Int):Prop:=(r=-1∧∀j (hj:j<l.length),l[j]≠c)∨∃i:Nat,∃hi:i<l.length,r=i∧l[i]=c∧∀j (hj:j<l.length),i<j->l[j]≠c
theorem yD (s:ag)(i:Nat)(h:i<s.size):s.data.toList[i]'(by rw[ep];exact h)=s[i]:=by
 rw[Array.getElem_toList];rfl
theorem Re (s:ag)(c:UInt8)(w:World)(hs:s.size<=maxLen):
 Calls prog 359 #[.string s,.int .u8 c.toNat] w fun e w'=>∃r:Int,e=.returned (.int .i64 r)∧se c s.data.toList r∧w'=w:=by
 have hl:=ep s;have hsM:(s.size:Int)<=9223372036854775807:=by unfold maxLen at hs;omega
 go_enter func359,ntmps359;go_wp2;go_loopw [5] (fun t wr=>wr=w∧∃k:Nat,k<=s.size∧t=.int .i64 ((k:Int)-1)∧∀j (hj:j<s.data.toList.length),k<=j->s.data.toList[j]≠c) (fun t _=>((intOf t)+1).toNat)
 case atStart=>exact⟨rfl,s.size,ak _,rfl,fun j hj h=>by omega⟩
 case round =>
  obtain⟨rfl,k,hk,rfl,hno⟩:=hrel;cases k with
  | zero =>
    have HR:se c s.data.toList (-1):=Or.inl ⟨rfl,fun j hj=>hno j hj (ax _)⟩;go_wp2;go_ret;exact⟨-1,rfl,HR,rfl⟩
  | succ i =>
    have hi:i<s.size:=by omega
    have e1:((i+1:Nat):Int)-1=(i:Int):=by omega
    rw[e1];have hge:(i:Int)≥0:=by omega
    have hilt:(i:Int)<s.size:=by omega
    by_cases hc:s[i]=c
    . have t0:((s[i].toNat:Int)==(c.toNat:Int))=true:=by rw[hc];exact beq_self_eq_true _
      have HR:se c s.data.toList (i:Int):=Or.inr ⟨i,by rw[hl];exact hi,rfl,by rw[yD s i hi];exact hc,fun j hj h=>hno j hj h⟩;go_wp2;go_ret;exact⟨i,rfl,HR,rfl⟩
    . have t0:((s[i].toNat:Int)==(c.toNat:Int))=false:=by rw[aO];intro e;exact hc (pq.1 (by omega))
      have akT:∀j (hj:j<s.data.toList.length),i<=j->s.data.toList[j]≠c:=fun j hj h=>by
       rcases Nat.lt_or_eq_of_le h with h | h
       . exact hno j hj h
       . subst h;rw[yD s i hi];exact hc
      go_wp2;go_roundw
      case rel=>exact⟨trivial,i,by omega,by go_num,akT⟩
      case measure=>simp[intOf]
theorem E9 (s:ag)(c:UInt8)(w:World)(hs:s.size<=maxLen):
 Calls prog 357 #[.string s,.int .u8 c.toNat] w fun e w'=>∃r:Int,e=.returned (.int .i64 r)∧se c s.data.toList r∧w'=w:=by
 have H:=aa (Re s c w hs);go_enter func357,ntmps357;go_wp2_with fail;refine H.o.mono ?_;rintro e w' ⟨r,rfl,hr,hw⟩;subst hw;go_wp2;go_ret;exact⟨r,rfl,hr,rfl⟩
theorem Rf (w:X)(ao:ai)(cap n:Nat)(l:ae)(c:UInt8)(h:ay w ao cap l)(D:l.length=n):
 Calls prog 360 #[Z ao n cap,I .u8 c.toNat] w fun e w'=>∃gQ a d,e=Y (Z gQ d a)∧d=(l.dropWhile (·==c)).length∧ay w gQ a (l.dropWhile (·==c))∧w'=w:=by
 go_enter func360,ntmps360;go_wp2;go_loopw [0] (fun t wr=>wr=w∧∃(gQ:ai) (a d:Nat) (r:ae),t=Z gQ d a∧d=r.length∧ay w gQ a r∧r.dropWhile (·==c)=l.dropWhile (·==c)) (fun t _=>match t with | Z _ k _=>k | _=>0)
 case atStart=>exact⟨rfl,ao,cap,n,l,rfl,D.symm,h,rfl⟩
 case round =>
  obtain⟨rfl,gQ,a,d,r,rfl,b,G,H⟩:=hrel;have j:=aa G;have p:=aa H
  cases r with
  | nil =>
    obtain rfl:d=0:=b;have g:Hid (l.dropWhile (·==c)=[]):=by unfold Hid;rw[<-p.o];rfl
    go_wp2;go_ret;exact⟨U,0,0,rfl,by rw[g.o];rfl,by rw[g.o];exact ay.d _,rfl⟩
  | cons x t =>
    obtain⟨v,y,rfl,q⟩:=j.o.j (by simp);have z:=q 0 (by simp);have z:wr.cell? ⟨v,y,U⟩=M (I .u8 (x.toNat:Int)):=by simpa using z
    have B:d<=a:=by rw[b];exact j.o.1
    have C:0<d:=by rw[b];simp
    have s:=aa b;by_cases f:x=c
    . have L:((x.toNat:Int)==(c.toNat:Int))=true:=by rw[f];exact beq_self_eq_true _
      have i:t.dropWhile (·==c)=l.dropWhile (·==c):=by rw[<-p.o,mT,if_pos (by simpa using f)]
      have hcut:∀m,(a≠1->m=M ⟨v,y+1,U⟩)->ay wr m (a-1) t:=fun m N=>by
       have:=j.o.f (gQ:=m) 1 (x::t).length (by simp) (ak _) (fun e=>by rw[N e];rfl);simpa using this
      clear  f b;by_cases u:a=1
      . subst u;obtain rfl:d=1:=by omega
        go_wp2;go_roundw
        case rel=>exact⟨trivial,_,_,_,t,rfl,by have:=s.o;rw[bO] at this;omega,by simpa using hcut _ (fun e=>absurd rfl e),i⟩
        case measure=>simp
      . go_wp2;go_roundw
        case rel=>exact⟨trivial,_,_,_,t,rfl,by have:=s.o;rw[bO] at this;omega,hcut _ (fun _=>rfl),i⟩
        case measure=>simp;omega
    . have L:((x.toNat:Int)==(c.toNat:Int))=F:=by rw[aO];intro e;exact f (pq.1 (by omega))
      have g:Hid (l.dropWhile (·==c)=x::t):=by unfold Hid;rw[<-p.o,mT,if_neg (by simpa using f)]
      have S:((d:Int)==0)=F:=by rw[aO];omega
      clear f b;go_wp2;go_ret;exact⟨_,_,d,rfl,by rw[g.o];exact s.o,by rw[g.o];exact j.o,rfl⟩
theorem Og (w:X)(ao:ai)(cap n:Nat)(l:ae)(h:ay w ao cap l)(c:l.length=n):
 Calls prog 358 #[Z ao n cap,V ⟨#[46]⟩] w fun e w'=>∃gQ a b,e=Y (Z gQ b a)∧b=(l.dropWhile (·==46)).length∧ay w gQ a (l.dropWhile (·==46))∧w'=w:=by
 by_cases f:n=0
 . subst f;obtain rfl:l=[]:=gW c;go_enter func358,ntmps358;go_wp2;go_ret;exact⟨U,0,0,rfl,rfl,ay.d _,rfl⟩
 . have k:((n:Int)==0)=F:=by rw[aO];omega
   go_enter func358,ntmps358;go_wp2_with fail;refine(Rf w ao cap n l 46 h c).mono ?_;rintro e w' ⟨gQ,a,b,rfl,d,g,i⟩;subst i;have j:=aa d;clear d;go_wp2;go_ret;exact⟨gQ,a,b,rfl,j.o,g,rfl⟩
def iL (name:ag):aC->Option ag
 | []=>U
 | p::t=>if p.1.data.toList=name.data.toList then M p.2 else iL name t
theorem M7 {a:ag}{l:aC}(h:∀p∈l,p.1.data.toList≠a.data.toList):iL a l=U:=by
 induction l with
 | nil=>rfl
 | cons p t b =>
   unfold iL;rw[if_neg (h p (mR ..))];exact b (fun q c=>h q (iW _ c))
theorem Rh {a:ag}{l:aC}{k:Nat}(b:k<l.length)(h:∀p∈l.take k,p.1.data.toList≠a.data.toList)(c:l[k].1.data.toList=a.data.toList):iL a l=M l[k].2:=by
 induction l generalizing k with
 | nil=>simp at b
 | cons p t d =>
   cases k with
   | zero=>unfold iL;rw[if_pos (show p.1.data.toList=a.data.toList from c)];rfl
   | succ k =>
     unfold iL;rw[if_neg (h p (by simp))];have:=d (k:=k) (by simpa using b) (fun q e=>h q (by simp[e])) (by simpa using c);simpa using this
theorem Fc {x:Nat}(h:x<256):IntKind.u8.wrap (x:Int)=((UInt8.ofNat x).toNat:Int):=by
 rw[IntKind.wrap_u8,sL h];omega
structure xO (w:X)(base:Nat)(p:ae)(r:Nat)(ao:ai)(cap k:Nat)(done:ae)(wr:X):Prop where
 b:bC wr base 5 ao cap p
 a:p.length=k
 below:Below base w wr
 c:p++bX r=done
theorem xO.d {w:X}{a:Nat}{p:ae}{r:Nat}{ao:ai}{cap k:Nat}{done:ae}{wr:X}(h:xO w a p r ao cap k done wr)(j:a<=w.heap.size)(e:¬r<128){c:UInt8}(f:UInt8.ofNat (r % 128+128)=c)(o:Obj)(gQ:ai)(b:Nat)(w':X)(g:bC w' a 5 gQ b (p++[c]))(i:(wr.alloc o).grownBy w' (au ao)):xO w a (p++[c]) (r / 128) gQ b (k+1) done w':=by
 have d:=h.below.alloc (by have:=h.below.size;omega) o;refine⟨g,by rw[aF,h.a];rfl,d.trans (ze (h.b.j o) i (by have:=d.size;omega)),?_⟩;have:=h.c;rw[xN e,f] at this;rw[<-this];simp
theorem yI (x:Nat)(hx:x<=1000000000000)(a:Nat)(ao:ai)(cap n:Nat)(l:ae)(w:X)(hO:bC w a 5 ao cap l)(S:l.length=n)(hN:n<=1000000000)(hb:a<=w.heap.size)(v:Int)(hv:v+1=x):
 Calls prog 248 #[Z ao n cap,I J v] w fun e w'=>∃gQ g,e=Y (Z gQ (n+(bX x).length) g)∧bC w' a 5 gQ g (l++bX x)∧Below a w w':=by
 have H0:xO w a l x ao cap n (l++bX x) w:=⟨hO,S,aq _ _,rfl⟩;have T:∀k r p,p++bX r=l++bX x->p.length=k->k+(bX r).length=n+(bX x).length:=fun k r p e W=>by
  have:=mg List.length e;rw[aF,aF,S] at this;omega
 have hlx:=xH 5 x (by omega);have hw:IntKind.i64.wrap (v+1)=x:=by rw[hv];exact iY (by omega) (by omega)
 obtain⟨i0,y,z,B,C⟩:=info_parts il;have Hi:=y;have kT:=aa z;have kL:=aa B;have kU:=aa C
 generalize hd:l++bX x=done at *;generalize hq:n+(bX x).length=m at *;have hm:m<=1000000006:=by omega
 go_enter func248,ntmps248;go_wp2;go_loopw [0,5] (fun va D wr=>∃(r k:Nat) (p:ae) (gQ:ai) (u:Nat),r<=x∧va=Z gQ k u∧D=I J r∧xO w a p r gQ u k done wr) (fun _ D _=>(intOf D).toNat)
 case atStart=>exact⟨x,n,l,ao,cap,ak _,rfl,by first | rfl | rw[hw],H0⟩
 case round =>
  obtain⟨r,k,p,gQ,u,hr,rfl,rfl,b⟩:=hrel;have hk:=T k r p b.c b.a;have hpo:=AM r;have hkm:k<=1000000006:=by omega
  by_cases j:r<128
  . have t0:decide ((r:Int)≥128)=F:=by rw[cz];omega
    have q:=Fc (x:=r) (by omega);have HN:=vd j;generalize UInt8.ofNat r=c at *;have s:¬(128:Int)<=r:=by omega
    go_wp2_with (at_builtin;refine nQ rfl (.tmp 19) (.tmp 22) 31 rfl a 5 i0 underlying31 Hi kT.o kL.o kU.o (l:=p) (l2:=[c]) rfl b.a (b.b.j _) rfl rfl (ay.y _ _ _ _) (by omega) (by rw[ch];have:=b.below.size;omega) ?_;intro G H w3 d f;have L:=aa d;have N:=aa f;clear d f)
    go_ret;have h1:=b.below.alloc (by have:=b.below.size;omega) (.cells #[I .u8 (c.toNat:Int)] 5);have i:=b.c;have t:=T k r p i b.a;rw[HN] at i t;refine⟨G,H,by rw[<-t];rfl,by rw[<-i];exact L.o,h1.trans (ze (b.b.j _) N.o (by have:=h1.size;omega))⟩
  . have t0:decide ((r:Int)≥128)=true:=by rw[bS];omega
    have q:=Fc (x:=r % 128+128) (by omega);have e1:(((r % 128+128:Nat)):Int)=(r:Int) % 128+128:=by omega
    rw[e1] at q;have HM:=@xO.d w a p r gQ u k done wr b hb j _ rfl;generalize UInt8.ofNat (r % 128+128)=c at *;have s:(128:Int)<=r:=by omega
    have W:((r / 128:Nat):Int)=(r:Int) / 128:=by omega
    go_wp2_with (at_builtin;refine nQ rfl (.tmp 10) (.tmp 15) 31 rfl a 5 i0 underlying31 Hi kT.o kL.o kU.o (l:=p) (l2:=[c]) rfl b.a (b.b.j _) rfl rfl (ay.y _ _ _ _) (by omega) (by rw[ch];have:=b.below.size;omega) ?_;intro G H w3 d f;have L:=aa d;have N:=aa f;clear d f)
    go_roundw
    case rel=>exact⟨r / 128,k+1,p++[c],G,H,by omega,rfl,by rw[W],HM _ _ _ _ L.o N.o⟩
    case measure=>simp[intOf];omega
theorem ST (g:Nat)(a:ai)(cap:Nat)(c:UInt8)(w:X)(b:w.cell? ⟨g,0,U⟩=M (Z a 0 cap)):
 Calls prog 310 #[.pointer (M ⟨g,0,U⟩),I J 0,I .u8 c.toNat] w fun e w'=>e=Y (I J 0)∧w'=w:=by
 go_enter func310,ntmps310;go_wp2;go_loop [1] (fun t=>t=I J 0) (fun _=>0)
 case atStart=>rfl
 case round =>
  subst hrel;go_wp2;go_ret;exact⟨rfl,rfl⟩
theorem Hr (m:ae)(n:Nat)(c:UInt8)(g s u cap:Nat)(w:X)(v:n<m.length)(L:m.length<=140737488355328)
 (N:w.cell? ⟨g,0,U⟩=M (Z (M ⟨s,0,U⟩) m.length cap))
 (S:w.cell? ⟨g,1,U⟩=M (Z (M ⟨u,0,U⟩) m.length m.length))
 (x:∀j (T:j<m.length),w.cell? ⟨s,j,U⟩=M (I .u8 (m[j].toNat:Int)))
 (y:∀j,0<j->j<=n->w.cell? ⟨u,j,U⟩=M (I J (ji m j))) :
 Calls prog 310 #[.pointer (M ⟨g,0,U⟩),I J n,I .u8 c.toNat] w fun e w'=>e=Y (I J (fa m n c))∧w'=w:=by
 have z:=aa x;have B:=aa y;go_enter func310,ntmps310;go_wp2;go_loop [1] (fun t=>∃k:Nat,th m n c k∧t=I J k) (fun t=>(intOf t).toNat)
 case atStart=>exact⟨n,Qc m n c,rfl⟩
 case round =>
  obtain⟨k,f,rfl⟩:=hrel;have l:=f.1;have a:k<m.length:=by omega
  have C:=z.o k a;have p:=aa f;by_cases d:m[k]=c
  . have q:=GS d;have r:((m[k].toNat:Int)==c.toNat)=true:=by rw[d];simp
    have i:Hid (fa m n c=k+1):=(Qf p.o v a d).a;by_cases b:0<k
    . go_wp2;go_ret;exact⟨jV (by rw[i.o];omega),rfl⟩
    . obtain rfl:k=0:=by omega
      go_wp2;go_ret;exact⟨jV (by rw[i.o];omega),rfl⟩
  . have q:=xk d;have r:=mn d;by_cases b:0<k
    . have D:=B.o k b l;have G:=Qd p.o a b d;have H:=BS m k b;go_wp2;go_round
      case rel=>exact⟨ji m k,G,rfl⟩
      case measure=>simp[intOf];omega
    . obtain rfl:k=0:=by omega
      have i:Hid (fa m n c=0):=(Qh p.o v a d).a;go_wp2;go_ret;exact⟨jV (by rw[i.o];rfl),rfl⟩
theorem Fd (l:ae)(ao:ai)(cap:Nat)(w:X)(h:ay w ao cap l)(m:l.length<=140737488355328):
 Calls prog 309 #[Z ao l.length cap] w fun e w'=>∃gQ b,e=Y (Z gQ l.length b)∧bC w' w.heap.size 5 gQ b l∧Below w.heap.size w w':=by
 have z:∀(w:X) (a:ai) (n c d f:Nat),(binOp .eql 31 (Z a n c) (Z U d f)).run prog w=.ok (.bool a.isNone) w:=fun w a n c d f=>Lib.run_eql_slice_nil w _ _ a n c d f underlying31;obtain⟨p,q,g,i,j⟩:=info_parts il;cases ao with
 | none =>
   obtain⟨rfl,rfl⟩:=h.E;go_enter func309,ntmps309;go_wp2;go_ret;exact⟨U,0,rfl,bC.e _ _ _,aq _ _⟩
 | some a =>
   have r:=q;have s:=aa g;have t:=aa i;have u:=aa j
   have v:bC (w.alloc (.cells #[] 5)) w.heap.size 5 (M ⟨w.heap.size,0,U⟩) 0 []:=World.ownsRow_made w #[] 0 (ak _) (by decide) rfl;go_enter func309,ntmps309;go_wp2_with (at_builtin;refine nQ rfl (.tmp 5) (.tmp 6) 31 rfl w.heap.size 5 p underlying31 r s.o t.o u.o (l:=[]) (l2:=l) rfl rfl v rfl rfl (h.jK _) (by simpa using m) (by simp) ?_;intro gQ b B x y)
   go_ret;refine⟨gQ,b,?_,x,?_⟩
   . simp
   . exact((aq _ _).alloc (ak _) _).grown y (by simp) (fun k e=>by cases e;exact ak _)
theorem Hs (l:ae)(n:Nat)(ao:ai)(cap:Nat)(w:X)(b:l.length=n)(h:ay w ao cap l)(c:n<=140737488355328):
 Calls prog 309 #[Z ao n cap] w fun e w'=>∃gQ a,e=Y (Z gQ n a)∧bC w' w.heap.size 5 gQ a l∧Below w.heap.size w w':=by
 subst b;exact Fd l ao cap w h c
theorem OM (a b:ae):((⟨a.toArray⟩:ag).toList==(⟨b.toArray⟩:ag).toList)=decide (a=b):=by
 rw[Lib.toList_data,Lib.toList_data,ik];simp
theorem LP (w:X)(g i:ai)(j a k l:Nat)(b l2:ae)(c:b.length=k)(d:l2.length=l)(m:ay w g j b)(n:ay w i a l2):
 Calls prog 15 #[Z g k j,Z i l a] w fun e w'=>e=Y (.bool (decide (b=l2)))∧w'=w:=by
 subst c;subst d;have p:=m.r (P:=prog) 31 9 5 underlying31 underlying5 underlying9;have q:=n.r (P:=prog) 31 9 5 underlying31 underlying5 underlying9;have f:=aa (OM b l2);generalize (⟨b.toArray⟩:ag)=r at p f;generalize (⟨l2.toArray⟩:ag)=s at q f;go_enter func15,ntmps15;go_wp2;go_ret;exact⟨dS f.o,rfl⟩
def A6 (t:sP):Value:=.tuple #[V ⟨t.b.toArray⟩,I J (t.a:Int),.bool t.d,I J (t.c:Int)]
theorem rU {v:Value}{t u:sP}(a:u=t)(h:v=A6 t):Ending.returned v=Y (A6 u):=by rw[h,a]
theorem Eo (l:ae)(ao:ai)(cap n:Nat)(w:X)(z:ay w ao cap l)(G:l.length=n)(T:n<=1000000):
 Calls prog 51 #[Z ao n cap] w fun e w'=>e=Y (A6 (aw l))∧w'=w:=by
 subst G;have H:=aa z;have B:=z.1;go_enter func51,ntmps51;go_wp2;go_loop [6] (fun t=>∃i:Nat,i<=l.length∧t=I J i∧aw l=km l i (l.drop i)) (fun t=>l.length-(intOf t).toNat)
 case atStart=>exact⟨0,ax _,rfl,rfl⟩
 case round =>
  obtain⟨i,W,rfl,a⟩:=hrel;by_cases m:i<l.length
  . obtain⟨bb,oo,rfl,p⟩:=H.o.j (by omega);have C:=aa p;clear p;have v:=C.o i m;have D:(i:Int)<l.length:=by omega
    rw[xT l i m] at a;have hb:=l[i].toNat_lt;by_cases g:l[i]=13
    . rw[if_pos g] at a;have x:((l[i].toNat:Int)==13)=true:=by rw[g];rfl
      by_cases y:i+1<l.length
      . rw[dif_pos y] at a;have L:((i:Int)+1==l.length)=F:=by rw[aO];omega
        have u:=C.o (i+1) y;have b1:(i:Int)+1<l.length:=by omega
        by_cases b:l[i+1]=10
        . rw[if_pos b] at a;have j:((l[i+1].toNat:Int) != 10)=F:=by rw[b];rfl
          have N:=(H.o.G i (by omega)).r (P:=prog) 31 9 5 underlying31 underlying5 underlying9;rw[bP,oC (by omega)] at N;have b2:(i:Int)<=cap:=by omega
          have f:=aa a;clear a g b;generalize l[i]=c at *;generalize l[i+1]=d at *;go_wp2;(try simp only[Exit.inBlock,Exit.then]);refine aR (rJ rfl _ _ _) rfl ?_;exact⟨rU f.o rfl,rfl⟩
        . rw[if_neg b] at a;have j:((l[i+1].toNat:Int) != 10)=true:=xk b;have f:=aa a;clear a g b;generalize l[i]=c at *;generalize l[i+1]=d at *;go_wp2;(try simp only[Exit.inBlock,Exit.then]);refine aR (rJ rfl _ _ _) rfl ?_;exact⟨rU f.o rfl,rfl⟩
      . rw[dif_neg y] at a;have L:((i:Int)+1==l.length)=true:=by rw[cM];omega
        have f:=aa a;clear a g;generalize l[i]=c at *;go_wp2;(try simp only[Exit.inBlock,Exit.then]);refine aR (rJ rfl _ _ _) rfl ?_;exact⟨rU f.o rfl,rfl⟩
    . rw[if_neg g] at a;have x:((l[i].toNat:Int)==13)=F:=mn g;by_cases b:l[i]=10
      . rw[if_pos b] at a;have j:((l[i].toNat:Int)==10)=true:=by rw[b];rfl
        have f:=aa a;clear a g b;generalize l[i]=c at *;go_wp2;(try simp only[Exit.inBlock,Exit.then]);refine aR (rJ rfl _ _ _) rfl ?_;exact⟨rU f.o rfl,rfl⟩
      . rw[if_neg b] at a;have j:((l[i].toNat:Int)==10)=F:=mn b;have q:=aa (CB (l[i].toNat:Int) w);cases r:cG l[i].toNat
        . rw[r] at q;rw[if_pos r] at a;have f:=aa a;generalize l[i]=c at *;go_wp2_with fail;refine q.o.mono ?_;rintro e w' ⟨rfl,s⟩;subst s;go_wp2;(try simp only[Exit.inBlock,Exit.then]);refine aR (rJ rfl _ _ _) rfl ?_;exact⟨rU f.o rfl,rfl⟩
        . rw[r] at q;rw[if_neg (by rw[r];simp)] at a;by_cases k:i=200
          . rw[if_pos k] at a;subst k;have f:=aa a;generalize l[200]=c at *;go_wp2_with fail;refine q.o.mono ?_;rintro e w' ⟨rfl,s⟩;subst s;go_wp2;(try simp only[Exit.inBlock,Exit.then]);refine aR (rJ rfl _ _ _) rfl ?_;exact⟨rU f.o rfl,rfl⟩
          . rw[if_neg k] at a;have S:((i:Int)==200)=F:=by rw[aO];omega
            have f:=aa a;clear a g b r;generalize l[i]=c at *;go_wp2_with fail;refine q.o.mono ?_;rintro e w' ⟨rfl,s⟩;subst s;go_wp2;go_round
            case rel=>exact⟨i+1,by omega,by go_num,f.o⟩
            case measure=>simp[intOf];omega
  . rw[Fo l i (by omega)] at a;have f:=aa a;clear a;obtain rfl:i=l.length:=by omega
    go_wp2;(try simp only[Exit.inBlock,Exit.then]);refine aR (rJ rfl _ _ _) rfl ?_;exact⟨rU f.o rfl,rfl⟩
def qD (m x:ae)(i:Nat):Prop:=i+m.length<=x.length∧(x.drop i).take m.length=m
def Bt (m x:ae)(r:Int):Prop:=(r=-1∧∀j,¬qD m x j)∨∃k:Nat,r=k∧qD m x k∧∀j,j<k->¬qD m x j
theorem Sx (w:X)(ao:ai)(cap:Nat)(x:ae)(s:ag)(a:ay w ao cap x)(c:s.size=0):
 Calls prog 92 #[Z ao x.length cap,V s] w fun e w'=>e=Y (I J 0)∧w'=w:=by
 have d:(s.size:Int)=0:=by omega
 have b:=a.1;have g:s.toList=[]:=by
  rw[Lib.toList_data];exact gW (by rw[cy];exact c)
 have f:=(a.G 0 (ax _)).r (P:=prog) 31 9 5 underlying31 underlying5 underlying9;simp only[List.take_zero,lD] at f;go_enter func92,ntmps92;go_wp2;go_loop [5] (fun t=>t=I J 0) (fun _=>0)
 case atStart=>rfl
 case round =>
  subst hrel;go_wp2;go_ret;exact⟨rfl,rfl⟩
theorem Sy (w:X)(ao:ai)(cap:Nat)(x:ae)(s:ag)(g:ay w ao cap x)(q:s.size<=1000000)(u:0<s.size)(v:x.length<=1000000):
 Calls prog 92 #[Z ao x.length cap,V s] w fun e w'=>∃r,e=Y (I J r)∧Bt s.data.toList x r∧w'=w:=by
 have n:=g.1;have d:s.data.toList.length=s.size:=by rw[cy];rfl
 go_enter func92,ntmps92;go_wp2;go_loop [5] (fun t=>∃k:Nat,k<=x.length∧t=I J k∧∀j,j<k->¬qD s.data.toList x j) (fun t=>x.length+1-(intOf t).toNat)
 case atStart=>exact⟨0,ax _,rfl,fun j h=>by omega⟩
 case round =>
  obtain⟨k,y,rfl,b⟩:=hrel;by_cases c:k+s.size<=x.length
  . obtain⟨a,rfl⟩:=g.mq (by omega);have z:(k:Int)+s.size<=x.length:=by omega
    have B:(k:Int)+s.size<=cap:=by omega
    have C:((k:Int)+s.size).toNat=k+s.size:=by omega
    have D:¬cap=k:=by omega
    have p:k+s.size-k=s.size:=by omega
    have G:(convert 31 9 (Z (M (a.add k)) s.size (cap-k))).run prog w=.ok (V ⟨((x.drop k).take s.size).toArray⟩) w:=by
     have h:=g.f (gQ:=M (a.add k)) k (k+s.size) (by omega) c (fun _=>rfl);rw[p] at h;have o:=h.r (P:=prog) 31 9 5 underlying31 underlying5 underlying9;rw[bP,bV,oC (by omega)] at o;exact o
    by_cases f:(x.drop k).take s.size=s.data.toList
    . have i:qD s.data.toList x k:=⟨by rw[d];exact c,by rw[d];exact f⟩;have l:((x.drop k).take s.size==s.toList)=true:=by rw[Lib.toList_data,f];exact beq_self_eq_true _
      go_wp2;go_ret;exact⟨k,rfl,Or.inr ⟨k,rfl,i,b⟩,rfl⟩
    . have i:¬qD s.data.toList x k:=fun h=>f (by have:=h.2;rwa[d] at this);have l:((x.drop k).take s.size==s.toList)=F:=by rw[Lib.toList_data,aO];exact f
      go_wp2;go_round
      case rel =>
       refine⟨k+1,by omega,by go_num,fun j m=>?_⟩;by_cases e:j=k
       . subst e;exact i
       . exact b j (by omega)
      case measure=>simp[intOf];omega
  . have H:decide ((k:Int)+s.size<=x.length)=F:=by rw[cz];omega
    go_wp2;go_ret;refine⟨-1,rfl,Or.inl ⟨rfl,fun j m=>?_⟩,rfl⟩;by_cases e:j<k
    . exact b j e m
    . have:=m.1;rw[d] at this;omega
theorem FI (w:X)(ao:ai)(cap n:Nat)(x:ae)(s:ag)(a:ay w ao cap x)(b:x.length=n)(c:s.size<=1000000)(d:n<=1000000):
 Calls prog 92 #[Z ao n cap,V s] w fun e w'=>∃r,e=Y (I J r)∧Bt s.data.toList x r∧w'=w:=by
 subst b;by_cases h:s.size=0
 . refine(Sx w ao cap x s a h).mono ?_;rintro e w' ⟨rfl,f⟩;have e:s.data.toList=[]:=by
    exact gW (by rw[cy];exact h)
   exact⟨0,rfl,Or.inr ⟨0,rfl,⟨by rw[e];simp,by rw[e];rfl⟩,fun j g=>by omega⟩,f⟩
 . exact Sy w ao cap x s a c (by omega) d
theorem FJ {c:UInt8}{l:ae}{r:Int}(h:Bt [c] l r):(r=-1∧bg c l=l.length)∨(r=(bg c l:Int)∧bg c l<l.length):=by
 have a:∀j (b:j<l.length),qD [c] l j<->l[j]=c:=fun j b=>by
  unfold qD;rw[gS b];constructor
  . rintro ⟨_,h⟩;exact(List.cons.inj (show l[j]::List.take 0 _=c::[] from h)).1
  . intro e;exact⟨by simp;omega,by rw[e];rfl⟩
 rcases h with ⟨f,d⟩ | ⟨k,f,d,i⟩
 . exact Or.inl ⟨f,DD (fun j b e=>d j ((a j b).2 e))⟩
 . have g:k<l.length:=by have:=d.1;simp at this;omega
   have e:=zX g ((a k g).1 d) (fun j b e=>i j b ((a j (by omega)).2 e));exact Or.inr ⟨by rw[e];exact f,by omega⟩
