/- Small texts, one behind the other: BtInfo, MemS, MemBS, FdInfo, StPair, LwGreat, LwAsk, SlCloneF, RfPrm, JrA, SeekA, BtClone, RfSame, FbTz. -/
import Derived.Test.YtjmndjmhjleabaaGreatDoorProg
import Derived.Test.YtjmndjmhjleabaaGreatDoorBase
import Derived.Test.YtjmndjmhjleabaaGreatDoorPk1
import Derived.Test.YtjmndjmhjleabaaGreatDoorPk9
open Go.Value renaming int->I,string->V,slice->Z
open Go.IntKind renaming i64->J
open Go.Ending renaming returned->Y
open Option renaming none->U,some->M
open Go renaming World->X
set_option maxHeartbeats 1000000
open Go.Proofs.Tryz
namespace Go.Proofs.YtjmndjmhjleabaaGreatDoor
open Go.RowKit
theorem jN:(prog.info? 5).map (fun i=>(i.zero,i.size,i.bytes))=M (M (I .u8 0),1,1):=by kernel_rfl
theorem KW:(prog.info? 3).map (fun i=>(i.zero,i.size,i.bytes))=M (M (I J 0),1,8):=by kernel_rfl
theorem kD {w w':X}{b t:Nat}{ao:aj}{cap:Nat}{l:au}(c:iD w b t ao cap l)(d:w.grownBy w' (gK ao))(f:b<=w.heap.size):Below b w w' :=
 ⟨d.os, d.tape, d.output, d.size, fun k g => d.block k (by omega) (fun e => by
  cases ao with
  | none=>cases e
  | some a=>injection e with e;have:=(c.block a rfl).1;omega)⟩
section
end
theorem rT:(prog.info? 111).map (fun i=>(i.zero,i.size,i.bytes))=M (M (.agg #[V ⟨#[]⟩,V ⟨#[]⟩]),2,32):=by kernel_rfl
theorem zW (l:ak)(fo:aj)(gL n:Nat)(w:X)(k:jm w fo gL n (gT l))(m:l.length=n)(O:n*32<=140737488355328):
 Calls prog 146 #[Z fo n gL] w fun e w'=>∃ao cap,e=Y (Z ao n cap)∧gU w' w.heap.size 111 2 ao cap n (gT l)∧Below w.heap.size w w':=by
 have P:∀(w:X) (a:aj) (n c p r:Nat),(binOp .eql 66 (Z a n c) (Z U p r)).run prog w=.ok (.bool a.isNone) w:=fun w a n c p r=>Lib.run_eql_slice_nil w _ _ a n c p r underlying66;cases fo with
 | none =>
   have S:=k.2.1 rfl;have s:n=0:=by have:=k.1;omega
   subst s;obtain rfl:l=[]:=dn m;go_enter func146,ntmps146;go_wp2;go_ret;exact⟨U,0,rfl,gU.nil _ _ _ _,fI _ _⟩
 | some a =>
   have u:=H9 k;have t:=mV l;obtain⟨v,b,d,f,g⟩:=info_parts rT;have x:=H9 b;have y:=H9 d;have z:=H9 f;have B:=H9 g
   have C:Hid ((gT l).length=n*2):=by rw[m] at t;exact t
   clear b d f g k t m;go_enter func146,ntmps146;go_wp2_with (at_builtin;refine gQ rfl (.tmp 5) (.tmp 6) 66 rfl w.heap.size 111 v (.agg #[V ⟨#[]⟩,V ⟨#[]⟩]) 2 32 underlying66 x.o y.o z.o B.o rfl (by decide) (n:=0) (xs:=[]) rfl (gD _ #[] 0 (by simp) (by decide) rfl) rfl (u.o.alloc _) C.o (Gu l) (by omega) (by omega) (by simp) ?_;intro D G T i j H;have L:=H9 i;have N:=H9 j;clear i j H)
   go_ret;refine⟨D,G,by simp,?_,?_⟩
   . have:=L.o;rw[dx,aZ] at this;exact this
   . exact((fI _ _).alloc (aL _) _).grown N.o (by simp) (fun q e=>by simp[gK] at e;omega)
theorem CG (l:ak)(fo:aj)(gL n:Nat)(w:X)(a:jm w fo gL n (gT l))(b:l.length=n)(c:n<=1000000):
 Calls prog 146 #[Z fo n gL] w fun e w'=>∃ao cap,e=Y (Z ao n cap)∧gU w' w.heap.size 111 2 ao cap n (gT l)∧Below w.heap.size w w':=zW l fo gL n w a b (by omega)
def lg (name:av):ak->Option av
 | []=>U
 | p::t=>if p.1.data.toList=name.data.toList then M p.2 else lg name t
theorem LV {a:av}{l:ak}(h:∀p∈l,p.1.data.toList≠a.data.toList):lg a l=U:=by
 induction l with
 | nil=>rfl
 | cons p t b =>
   unfold lg;rw[if_neg (h p (cB ..))];exact b (fun q c=>h q (cK _ c))
theorem SN {a:av}{l:ak}{k:Nat}(b:k<l.length)(h:∀p∈l.take k,p.1.data.toList≠a.data.toList)(c:l[k].1.data.toList=a.data.toList):lg a l=M l[k].2:=by
 induction l generalizing k with
 | nil=>simp at b
 | cons p t d =>
   cases k with
   | zero=>unfold lg;rw[if_pos (show p.1.data.toList=a.data.toList from c)];rfl
   | succ k =>
     unfold lg;rw[if_neg (h p (by simp))];have:=d (k:=k) (by simpa using b) (fun q e=>h q (by simp[e])) (by simpa using c);simpa using this
theorem Iy {x:Nat}(h:x<256):IntKind.u8.wrap (x:Int)=((UInt8.ofNat x).toNat:Int):=by
 rw[IntKind.wrap_u8,Jn.Ve h];omega
structure Iz (w:X)(base:Nat)(p:au)(r:Nat)(ao:aj)(cap k:Nat)(done:au)(wr:X):Prop where
 own:iD wr base 5 ao cap p
 len:p.length=k
 below:Below base w wr
 all:p++Jn.num r=done
theorem Iz.more {w:X}{a:Nat}{p:au}{r:Nat}{ao:aj}{cap k:Nat}{done:au}{wr:X}(h:Iz w a p r ao cap k done wr)(j:a<=w.heap.size)(e:¬r<128){c:UInt8}(f:UInt8.ofNat (r % 128+128)=c)(o:Obj)(gV:aj)(b:Nat)(w':X)(g:iD w' a 5 gV b (p++[c]))(i:(wr.alloc o).grownBy w' (gK ao)):Iz w a (p++[c]) (r / 128) gV b (k+1) done w':=by
 have d:=h.below.alloc (by have:=h.below.size;omega) o;refine⟨g,by rw[aV,h.len];rfl,d.trans (kD (h.own.alloc o) i (by have:=d.size;omega)),?_⟩;have:=h.all;rw[Jn.GN e,f] at this;rw[<-this];simp
theorem ng (x:Nat)(hx:x<=1000000000000)(a:Nat)(ao:aj)(cap n:Nat)(l:au)(w:X)(W:iD w a 5 ao cap l)(G:l.length=n)(hN:n<=1000000000)(hb:a<=w.heap.size)(v:Int)(hv:v+1=x):
 Calls prog 239 #[Z ao n cap,I J v] w fun e w'=>∃gV g,e=Y (Z gV (n+(Jn.num x).length) g)∧iD w' a 5 gV g (l++Jn.num x)∧Below a w w':=by
 have H0:Hid (Iz w a l x ao cap n (l++Jn.num x) w):=⟨W,G,fI _ _,rfl⟩;have HL:Hid (∀k r p,p++Jn.num r=l++Jn.num x->p.length=k->k+(Jn.num r).length=n+(Jn.num x).length):=fun k r p e e2=>by
  have:=bD List.length e;rw[aV,aV,G] at this;omega
 have H:(Jn.num x).length<=6:=Jn.CV 5 x (by omega);have hw:IntKind.i64.wrap (v+1)=x:=by rw[hv];exact lY (by omega) (by omega)
 obtain⟨i0,j,q,s,t⟩:=info_parts jN;have Hi:=H9 j;have kJ:=H9 q;have kG:=H9 s;have kK:=H9 t
 clear W G j q s t hv;generalize hd:l++Jn.num x=done at *;generalize hq:n+(Jn.num x).length=m at *;clear hd;have hm:m<=1000000006:=by omega
 clear hq H;go_enter func239,ntmps239;go_wp2;go_loopw [0,5] (fun va L wr=>∃(r k:Nat) (p:au) (gV:aj) (C:Nat),r<=x∧va=Z gV k C∧L=I J r∧Iz w a p r gV C k done wr) (fun _ L _=>(intOf L).toNat)
 case atStart=>exact⟨x,n,l,ao,cap,aL _,rfl,by first | rfl | rw[hw],H0.o⟩
 case round =>
  obtain⟨r,k,p,gV,C,hr,rfl,rfl,D⟩:=hrel;have b:=H9 D;have hk:=HL.o k r p D.all D.len;have N:=Jn.I6 r;have hkm:k<=1000000006:=by omega
  clear D N hk;by_cases u:r<128
  . have t0:decide ((r:Int)≥128)=false:=by rw[bP];omega
    have y:=Iy (x:=r) (by omega);have HN:=H9 (Jn.Aw u);generalize UInt8.ofNat r=c at *;have z:¬(128:Int)<=r:=by omega
    go_wp2_with (at_builtin;refine iX rfl (.tmp 19) (.tmp 22) 31 rfl a 5 i0 underlying31 Hi.o kJ.o kG.o kK.o (l:=p) (l2:=[c]) rfl b.o.len (b.o.own.alloc _) rfl rfl (iG.one _ _ _ _) (by omega) (by rw[fV];have:=b.o.below.size;omega) ?_;intro O P w3 d f;have S:=H9 d;have T:=H9 f;clear d f)
    go_ret;have h1:=b.o.below.alloc (by have:=b.o.below.size;omega) (.cells #[I .u8 (c.toNat:Int)] 5);have i:=b.o.all;have B:=HL.o k r p i b.o.len;rw[HN.o] at i B;refine⟨O,P,by rw[<-B];rfl,by rw[<-i];exact S.o,h1.trans (kD (b.o.own.alloc _) T.o (by have:=h1.size;omega))⟩
  . have t0:decide ((r:Int)≥128)=true:=by rw[bQ];omega
    have y:=Iy (x:=r % 128+128) (by omega);have e1:(((r % 128+128:Nat)):Int)=(r:Int) % 128+128:=by omega
    rw[e1] at y;have HM:=H9 (@Iz.more w a p r gV C k done wr b.o hb u _ rfl);generalize UInt8.ofNat (r % 128+128)=c at *;have z:(128:Int)<=r:=by omega
    have e2:((r / 128:Nat):Int)=(r:Int) / 128:=by omega
    clear e1;go_wp2_with (at_builtin;refine iX rfl (.tmp 10) (.tmp 15) 31 rfl a 5 i0 underlying31 Hi.o kJ.o kG.o kK.o (l:=p) (l2:=[c]) rfl b.o.len (b.o.own.alloc _) rfl rfl (iG.one _ _ _ _) (by omega) (by rw[fV];have:=b.o.below.size;omega) ?_;intro O P w3 d f;have S:=H9 d;have T:=H9 f;clear d f)
    go_roundw
    case rel=>exact⟨r / 128,k+1,p++[c],O,P,by omega,rfl,by rw[e2],HM.o _ _ _ _ S.o T.o⟩
    case measure=>simp[intOf];omega
theorem Xf (g:Nat)(a:aj)(cap:Nat)(c:UInt8)(w:X)(b:w.cell? ⟨g,0,U⟩=M (Z a 0 cap)):
 Calls prog 266 #[.pointer (M ⟨g,0,U⟩),I J 0,I .u8 c.toNat] w fun e w'=>e=Y (I J 0)∧w'=w:=by
 go_enter func266,ntmps266;go_wp2;go_loop [1] (fun t=>t=I J 0) (fun _=>0)
 case atStart=>rfl
 case round =>
  subst hrel;go_wp2;go_ret;exact⟨rfl,rfl⟩
theorem QL (m:au)(n:Nat)(c:UInt8)(g s u cap:Nat)(w:X)(v:n<m.length)(L:m.length<=140737488355328)
 (N:w.cell? ⟨g,0,U⟩=M (Z (M ⟨s,0,U⟩) m.length cap))
 (O:w.cell? ⟨g,1,U⟩=M (Z (M ⟨u,0,U⟩) m.length m.length))
 (x:∀j (P:j<m.length),w.cell? ⟨s,j,U⟩=M (I .u8 (m[j].toNat:Int)))
 (y:∀j,0<j->j<=n->w.cell? ⟨u,j,U⟩=M (I J (Sk.bk m j))) :
 Calls prog 266 #[.pointer (M ⟨g,0,U⟩),I J n,I .u8 c.toNat] w fun e w'=>e=Y (I J (Sk.fit m n c))∧w'=w:=by
 have z:=H9 x;have B:=H9 y;clear x y;go_enter func266,ntmps266;go_wp2;go_loop [1] (fun t=>∃k:Nat,Sk.Rn m n c k∧t=I J k) (fun t=>(intOf t).toNat)
 case atStart=>exact⟨n,Sk.Np m n c,rfl⟩
 case round =>
  obtain⟨k,f,rfl⟩:=hrel;have l:=f.1;have b:k<m.length:=by omega
  have C:=z.o k b;have p:=H9 f;clear f;by_cases a:m[k]=c
  . have q:=Qp a;have r:((m[k].toNat:Int)==c.toNat)=true:=by rw[a];simp
    have i:Hid (Sk.fit m n c=k+1):=(Sk.Vu p.o v b a).best;clear a;by_cases d:0<k
    . go_wp2;go_ret;exact⟨uM (by rw[i.o];omega),rfl⟩
    . obtain rfl:k=0:=by omega
      go_wp2;go_ret;exact⟨uM (by rw[i.o];omega),rfl⟩
  . have q:=CZ a;have r:=kY a;by_cases d:0<k
    . have D:=B.o k d l;have G:=H9 (Sk.Ro p.o b d a);have H:=Sk.Vw m k d;clear a;go_wp2;go_round
      case rel=>exact⟨Sk.bk m k,G.o,rfl⟩
      case measure=>simp[intOf];omega
    . obtain rfl:k=0:=by omega
      have i:Hid (Sk.fit m n c=0):=(Sk.YR p.o v b a).best;clear a;go_wp2;go_ret;exact⟨uM (by rw[i.o];rfl),rfl⟩
theorem IE (l:au)(ao:aj)(cap:Nat)(w:X)(h:iG w ao cap l)(p:l.length<=140737488355328):
 Calls prog 265 #[Z ao l.length cap] w fun e w'=>∃gV b,e=Y (Z gV l.length b)∧iD w' w.heap.size 5 gV b l∧Below w.heap.size w w':=by
 have z:∀(w:X) (a:aj) (n c i j:Nat),(binOp .eql 31 (Z a n c) (Z U i j)).run prog w=.ok (.bool a.isNone) w:=fun w a n c i j=>Lib.run_eql_slice_nil w _ _ a n c i j underlying31;obtain⟨q,m,d,f,g⟩:=info_parts jN;cases ao with
 | none =>
   obtain⟨rfl,rfl⟩:=h.ru;clear h;go_enter func265,ntmps265;go_wp2;go_ret;exact⟨U,0,rfl,iD.nil _ _ _,fI _ _⟩
 | some a =>
   have H:=H9 h;have r:=H9 m;have s:=H9 d;have t:=H9 f;have u:=H9 g
   clear h m d f g;have v:Hid (iD (w.alloc (.cells #[] 5)) w.heap.size 5 (M ⟨w.heap.size,0,U⟩) 0 []):=World.ownsRow_made w #[] 0 (aL _) (by decide) rfl;go_enter func265,ntmps265;go_wp2_with (at_builtin;refine iX rfl (.tmp 5) (.tmp 6) 31 rfl w.heap.size 5 q underlying31 r.o s.o t.o u.o (l:=[]) (l2:=l) rfl rfl v.o rfl rfl (H.o.alloc _) (by simpa using p) (by simp) ?_;intro gV b B x y)
   go_ret;refine⟨gV,b,?_,x,?_⟩
   . simp
   . exact((fI _ _).alloc (aL _) _).grown y (by simp) (fun k e=>by cases e;exact aL _)
theorem QM (l:au)(n:Nat)(ao:aj)(cap:Nat)(w:X)(b:l.length=n)(h:iG w ao cap l)(c:n<=140737488355328):
 Calls prog 265 #[Z ao n cap] w fun e w'=>∃gV a,e=Y (Z gV n a)∧iD w' w.heap.size 5 gV a l∧Below w.heap.size w w':=by
 subst b;exact IE l ao cap w h c
theorem PL (a b:au):((⟨a.toArray⟩:av).toList==(⟨b.toArray⟩:av).toList)=decide (a=b):=by
 rw[Lib.toList_data,Lib.toList_data,aG];simp
theorem yH (w:X)(g i:aj)(j a k l:Nat)(b l2:au)(c:b.length=k)(d:l2.length=l)(m:iG w g j b)(n:iG w i a l2):
 Calls prog 15 #[Z g k j,Z i l a] w fun e w'=>e=Y (.bool (decide (b=l2)))∧w'=w:=by
 subst c;subst d;have p:=m.str (P:=prog) 31 9 5 underlying31 underlying5 underlying9;have q:=n.str (P:=prog) 31 9 5 underlying31 underlying5 underlying9;have f:=H9 (PL b l2);generalize (⟨b.toArray⟩:av)=r at p f;generalize (⟨l2.toArray⟩:av)=s at q f;clear m n;go_enter func15,ntmps15;go_wp2;go_ret;exact⟨iA f.o,rfl⟩
end Go.Proofs.YtjmndjmhjleabaaGreatDoor