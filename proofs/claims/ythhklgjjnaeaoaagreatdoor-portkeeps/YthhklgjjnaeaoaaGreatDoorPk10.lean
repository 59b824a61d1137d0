/- Small texts, one behind the other: BtInfo, MemS, MemBS, FdInfo, StPair, LwGreat, LwAsk, SlCloneF, RfPrm, JrA, SeekA, BtClone, RfSame, FbTz. -/
import Derived.Test.YthhklgjjnaeaoaaGreatDoorProg
import Derived.Test.YthhklgjjnaeaoaaGreatDoorBase
import Derived.Test.YthhklgjjnaeaoaaGreatDoorPk1
import Derived.Test.YthhklgjjnaeaoaaGreatDoorPk9
open Go.Value renaming int->I,string->V,slice->Z
open Go.IntKind renaming i64->J
open Go.Ending renaming returned->Y
open Option renaming none->U,some->M
open Go renaming World->X
set_option maxHeartbeats 1000000
open Go.Proofs.Tryz
namespace Go.Proofs.YthhklgjjnaeaoaaGreatDoor
open Go.RowKit
theorem jJ:(prog.info? 5).map (fun i=>(i.zero,i.size,i.bytes))=M (M (I .u8 0),1,1):=by kernel_rfl
theorem yV:(prog.info? 3).map (fun i=>(i.zero,i.size,i.bytes))=M (M (I J 0),1,8):=by kernel_rfl
theorem uw {w w':X}{b t:Nat}{ao:ak}{cap:Nat}{l:av}(c:iA w b t ao cap l)(d:w.grownBy w' (fV ao))(f:b<=w.heap.size):Below b w w' :=
 ⟨d.os, d.tape, d.output, d.size, fun k g => d.block k (by omega) (fun e => by
  cases ao with
  | none=>cases e
  | some a=>injection e with e;have:=(c.block a rfl).1;omega)⟩
section
end
theorem pq:(prog.info? 131).map (fun i=>(i.zero,i.size,i.bytes))=M (M (.agg #[V ⟨#[]⟩,V ⟨#[]⟩]),2,32):=by kernel_rfl
theorem zy (l:au)(fo:ak)(fZ n:Nat)(w:X)(f:ji w fo fZ n (gG l))(s:l.length=n)(N:n*32<=140737488355328):
 Calls prog 190 #[Z fo n fZ] w fun e w'=>∃ao cap,e=Y (Z ao n cap)∧gH w' w.heap.size 131 2 ao cap n (gG l)∧Below w.heap.size w w':=by
 have S:∀(w:X) (a:ak) (n c g i:Nat),(binOp .eql 80 (Z a n c) (Z U g i)).run prog w=.ok (.bool a.isNone) w:=fun w a n c g i=>Lib.run_eql_slice_nil w _ _ a n c g i underlying80;cases fo with
 | none =>
   have T:=f.2.1 rfl;have j:n=0:=by have:=f.1;omega
   subst j;obtain rfl:l=[]:=dh s;go_enter func190,ntmps190;go_wp2;go_ret;exact⟨U,0,rfl,gH.nil _ _ _ _,eY _ _⟩
 | some a =>
   have t:=mF l;obtain⟨u,k,m,p,r⟩:=info_parts pq;have v:=k;have x:=H9 m;have y:=H9 p;have z:=H9 r
   have B:(gG l).length=n*2:=by rw[s] at t;exact t
   go_enter func190,ntmps190;go_wp2_with (at_builtin;refine gP rfl (.tmp 5) (.tmp 6) 80 rfl w.heap.size 131 u (.agg #[V ⟨#[]⟩,V ⟨#[]⟩]) 2 32 underlying80 v x.o y.o z.o rfl (by decide) (n:=0) (xs:=[]) rfl (fM _ #[] 0 (by simp) (by decide) rfl) rfl (f.alloc _) B (F3 l) (by omega) (by omega) (by simp) ?_;intro C D W b d G;have H:=H9 b;have L:=H9 d;clear b d G)
   go_ret;refine⟨C,D,by simp,?_,?_⟩
   . have:=H.o;rw[dx,aZ] at this;exact this
   . exact((eY _ _).alloc (aM _) _).grown L.o (by simp) (fun q e=>by simp[fV] at e;omega)
theorem uO (l:au)(fo:ak)(fZ n:Nat)(w:X)(a:ji w fo fZ n (gG l))(b:l.length=n)(c:n<=1000000):
 Calls prog 190 #[Z fo n fZ] w fun e w'=>∃ao cap,e=Y (Z ao n cap)∧gH w' w.heap.size 131 2 ao cap n (gG l)∧Below w.heap.size w w':=zy l fo fZ n w a b (by omega)
def kR (name:ay):au->Option ay
 | []=>U
 | p::t=>if p.1.data.toList=name.data.toList then M p.2 else kR name t
theorem K9 {a:ay}{l:au}(h:∀p∈l,p.1.data.toList≠a.data.toList):kR a l=U:=by
 induction l with
 | nil=>rfl
 | cons p t b =>
   unfold kR;rw[if_neg (h p (cu ..))];exact b (fun q c=>h q (cB _ c))
theorem SG {a:ay}{l:au}{k:Nat}(b:k<l.length)(h:∀p∈l.take k,p.1.data.toList≠a.data.toList)(c:l[k].1.data.toList=a.data.toList):kR a l=M l[k].2:=by
 induction l generalizing k with
 | nil=>simp at b
 | cons p t d =>
   cases k with
   | zero=>unfold kR;rw[if_pos (show p.1.data.toList=a.data.toList from c)];rfl
   | succ k =>
     unfold kR;rw[if_neg (h p (by simp))];have:=d (k:=k) (by simpa using b) (fun q e=>h q (by simp[e])) (by simpa using c);simpa using this
theorem GL {x:Nat}(h:x<256):IntKind.u8.wrap (x:Int)=((UInt8.ofNat x).toNat:Int):=by
 rw[IntKind.wrap_u8,Jn.sD h];omega
structure GN (w:X)(base:Nat)(p:av)(r:Nat)(ao:ak)(cap k:Nat)(done:av)(wr:X):Prop where
 own:iA wr base 5 ao cap p
 len:p.length=k
 below:Below base w wr
 all:p++Jn.num r=done
theorem GN.more {w:X}{a:Nat}{p:av}{r:Nat}{ao:ak}{cap k:Nat}{done:av}{wr:X}(h:GN w a p r ao cap k done wr)(j:a<=w.heap.size)(e:¬r<128){c:UInt8}(f:UInt8.ofNat (r % 128+128)=c)(o:Obj)(gJ:ak)(b:Nat)(w':X)(g:iA w' a 5 gJ b (p++[c]))(i:(wr.alloc o).grownBy w' (fV ao)):GN w a (p++[c]) (r / 128) gJ b (k+1) done w':=by
 have d:=h.below.alloc (by have:=h.below.size;omega) o;refine⟨g,by rw[aV,h.len];rfl,d.trans (uw (h.own.alloc o) i (by have:=d.size;omega)),?_⟩;have:=h.all;rw[Jn.wI e,f] at this;rw[<-this];simp
theorem mI (x:Nat)(hx:x<=1000000000000)(a:Nat)(ao:ak)(cap n:Nat)(l:av)(w:X)(hO:iA w a 5 ao cap l)(S:l.length=n)(hN:n<=1000000000)(hb:a<=w.heap.size)(v:Int)(hv:v+1=x):
 Calls prog 250 #[Z ao n cap,I J v] w fun e w'=>∃gJ g,e=Y (Z gJ (n+(Jn.num x).length) g)∧iA w' a 5 gJ g (l++Jn.num x)∧Below a w w':=by
 have H0:GN w a l x ao cap n (l++Jn.num x) w:=⟨hO,S,eY _ _,rfl⟩;have T:∀k r p,p++Jn.num r=l++Jn.num x->p.length=k->k+(Jn.num r).length=n+(Jn.num x).length:=fun k r p e W=>by
  have:=bC List.length e;rw[aV,aV,S] at this;omega
 have hlx:=Jn.Ce 5 x (by omega);have hw:IntKind.i64.wrap (v+1)=x:=by rw[hv];exact ko (by omega) (by omega)
 obtain⟨i0,y,z,B,C⟩:=info_parts jJ;have Hi:=y;have kY:=H9 z;have kT:=H9 B;have kZ:=H9 C
 generalize hd:l++Jn.num x=done at *;generalize hq:n+(Jn.num x).length=m at *;have hm:m<=1000000006:=by omega
 go_enter func250,ntmps250;go_wp2;go_loopw [0,5] (fun va D wr=>∃(r k:Nat) (p:av) (gJ:ak) (u:Nat),r<=x∧va=Z gJ k u∧D=I J r∧GN w a p r gJ u k done wr) (fun _ D _=>(intOf D).toNat)
 case atStart=>exact⟨x,n,l,ao,cap,aM _,rfl,by first | rfl | rw[hw],H0⟩
 case round =>
  obtain⟨r,k,p,gJ,u,hr,rfl,rfl,b⟩:=hrel;have hk:=T k r p b.all b.len;have hpo:=Jn.Hu r;have hkm:k<=1000000006:=by omega
  by_cases j:r<128
  . have t0:decide ((r:Int)≥128)=false:=by rw[bO];omega
    have q:=GL (x:=r) (by omega);have HN:=Jn.sw j;generalize UInt8.ofNat r=c at *;have s:¬(128:Int)<=r:=by omega
    go_wp2_with (at_builtin;refine jo rfl (.tmp 19) (.tmp 22) 31 rfl a 5 i0 underlying31 Hi kY.o kT.o kZ.o (l:=p) (l2:=[c]) rfl b.len (b.own.alloc _) rfl rfl (gN.one _ _ _ _) (by omega) (by rw[fG];have:=b.below.size;omega) ?_;intro G H w3 d f;have L:=H9 d;have N:=H9 f;clear d f)
    go_ret;have h1:=b.below.alloc (by have:=b.below.size;omega) (.cells #[I .u8 (c.toNat:Int)] 5);have i:=b.all;have t:=T k r p i b.len;rw[HN] at i t;refine⟨G,H,by rw[<-t];rfl,by rw[<-i];exact L.o,h1.trans (uw (b.own.alloc _) N.o (by have:=h1.size;omega))⟩
  . have t0:decide ((r:Int)≥128)=true:=by rw[bP];omega
    have q:=GL (x:=r % 128+128) (by omega);have e1:(((r % 128+128:Nat)):Int)=(r:Int) % 128+128:=by omega
    rw[e1] at q;have HM:=@GN.more w a p r gJ u k done wr b hb j _ rfl;generalize UInt8.ofNat (r % 128+128)=c at *;have s:(128:Int)<=r:=by omega
    have W:((r / 128:Nat):Int)=(r:Int) / 128:=by omega
    go_wp2_with (at_builtin;refine jo rfl (.tmp 10) (.tmp 15) 31 rfl a 5 i0 underlying31 Hi kY.o kT.o kZ.o (l:=p) (l2:=[c]) rfl b.len (b.own.alloc _) rfl rfl (gN.one _ _ _ _) (by omega) (by rw[fG];have:=b.below.size;omega) ?_;intro G H w3 d f;have L:=H9 d;have N:=H9 f;clear d f)
    go_roundw
    case rel=>exact⟨r / 128,k+1,p++[c],G,H,by omega,rfl,by rw[W],HM _ _ _ _ L.o N.o⟩
    case measure=>simp[intOf];omega
theorem Xg (g:Nat)(a:ak)(cap:Nat)(c:UInt8)(w:X)(b:w.cell? ⟨g,0,U⟩=M (Z a 0 cap)):
 Calls prog 312 #[.pointer (M ⟨g,0,U⟩),I J 0,I .u8 c.toNat] w fun e w'=>e=Y (I J 0)∧w'=w:=by
 go_enter func312,ntmps312;go_wp2;go_loop [1] (fun t=>t=I J 0) (fun _=>0)
 case atStart=>rfl
 case round =>
  subst hrel;go_wp2;go_ret;exact⟨rfl,rfl⟩
theorem QD (m:av)(n:Nat)(c:UInt8)(g s u cap:Nat)(w:X)(v:n<m.length)(L:m.length<=140737488355328)
 (N:w.cell? ⟨g,0,U⟩=M (Z (M ⟨s,0,U⟩) m.length cap))
 (S:w.cell? ⟨g,1,U⟩=M (Z (M ⟨u,0,U⟩) m.length m.length))
 (x:∀j (T:j<m.length),w.cell? ⟨s,j,U⟩=M (I .u8 (m[j].toNat:Int)))
 (y:∀j,0<j->j<=n->w.cell? ⟨u,j,U⟩=M (I J (Sk.bk m j))) :
 Calls prog 312 #[.pointer (M ⟨g,0,U⟩),I J n,I .u8 c.toNat] w fun e w'=>e=Y (I J (Sk.fit m n c))∧w'=w:=by
 have z:=H9 x;have B:=H9 y;go_enter func312,ntmps312;go_wp2;go_loop [1] (fun t=>∃k:Nat,Sk.Rb m n c k∧t=I J k) (fun t=>(intOf t).toNat)
 case atStart=>exact⟨n,Sk.MQ m n c,rfl⟩
 case round =>
  obtain⟨k,f,rfl⟩:=hrel;have l:=f.1;have a:k<m.length:=by omega
  have C:=z.o k a;have p:=H9 f;by_cases d:m[k]=c
  . have q:=Qe d;have r:((m[k].toNat:Int)==c.toNat)=true:=by rw[d];simp
    have i:Hid (Sk.fit m n c=k+1):=(Sk.Vl p.o v a d).best;by_cases b:0<k
    . go_wp2;go_ret;exact⟨lH (by rw[i.o];omega),rfl⟩
    . obtain rfl:k=0:=by omega
      go_wp2;go_ret;exact⟨lH (by rw[i.o];omega),rfl⟩
  . have q:=Qd d;have r:=mU d;by_cases b:0<k
    . have D:=B.o k b l;have G:=Sk.Rc p.o a b d;have H:=Sk.Vn m k b;go_wp2;go_round
      case rel=>exact⟨Sk.bk m k,G,rfl⟩
      case measure=>simp[intOf];omega
    . obtain rfl:k=0:=by omega
      have i:Hid (Sk.fit m n c=0):=(Sk.YP p.o v a d).best;go_wp2;go_ret;exact⟨lH (by rw[i.o];rfl),rfl⟩
theorem GQ (l:av)(ao:ak)(cap:Nat)(w:X)(h:gN w ao cap l)(m:l.length<=140737488355328):
 Calls prog 311 #[Z ao l.length cap] w fun e w'=>∃gJ b,e=Y (Z gJ l.length b)∧iA w' w.heap.size 5 gJ b l∧Below w.heap.size w w':=by
 have z:∀(w:X) (a:ak) (n c d f:Nat),(binOp .eql 31 (Z a n c) (Z U d f)).run prog w=.ok (.bool a.isNone) w:=fun w a n c d f=>Lib.run_eql_slice_nil w _ _ a n c d f underlying31;obtain⟨p,q,g,i,j⟩:=info_parts jJ;cases ao with
 | none =>
   obtain⟨rfl,rfl⟩:=h.sH;go_enter func311,ntmps311;go_wp2;go_ret;exact⟨U,0,rfl,iA.nil _ _ _,eY _ _⟩
 | some a =>
   have r:=q;have s:=H9 g;have t:=H9 i;have u:=H9 j
   have v:iA (w.alloc (.cells #[] 5)) w.heap.size 5 (M ⟨w.heap.size,0,U⟩) 0 []:=World.ownsRow_made w #[] 0 (aM _) (by decide) rfl;go_enter func311,ntmps311;go_wp2_with (at_builtin;refine jo rfl (.tmp 5) (.tmp 6) 31 rfl w.heap.size 5 p underlying31 r s.o t.o u.o (l:=[]) (l2:=l) rfl rfl v rfl rfl (h.alloc _) (by simpa using m) (by simp) ?_;intro gJ b B x y)
   go_ret;refine⟨gJ,b,?_,x,?_⟩
   . simp
   . exact((eY _ _).alloc (aM _) _).grown y (by simp) (fun k e=>by cases e;exact aM _)
theorem QE (l:av)(n:Nat)(ao:ak)(cap:Nat)(w:X)(b:l.length=n)(h:gN w ao cap l)(c:n<=140737488355328):
 Calls prog 311 #[Z ao n cap] w fun e w'=>∃gJ a,e=Y (Z gJ n a)∧iA w' w.heap.size 5 gJ a l∧Below w.heap.size w w':=by
 subst b;exact GQ l ao cap w h c
theorem Px (a b:av):((⟨a.toArray⟩:ay).toList==(⟨b.toArray⟩:ay).toList)=decide (a=b):=by
 rw[Lib.toList_data,Lib.toList_data,aH];simp
theorem FE (w:X)(g i:ak)(j a k l:Nat)(b l2:av)(c:b.length=k)(d:l2.length=l)(m:gN w g j b)(n:gN w i a l2):
 Calls prog 17 #[Z g k j,Z i l a] w fun e w'=>e=Y (.bool (decide (b=l2)))∧w'=w:=by
 subst c;subst d;have p:=m.str (P:=prog) 31 9 5 underlying31 underlying5 underlying9;have q:=n.str (P:=prog) 31 9 5 underlying31 underlying5 underlying9;have f:=H9 (Px b l2);generalize (⟨b.toArray⟩:ay)=r at p f;generalize (⟨l2.toArray⟩:ay)=s at q f;go_enter func17,ntmps17;go_wp2;go_ret;exact⟨iN f.o,rfl⟩
end Go.Proofs.YthhklgjjnaeaoaaGreatDoor