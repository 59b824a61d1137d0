/- Small texts, one behind the other: BtInfo, MemS, MemBS, FdInfo, StPair, LwGreat, LwAsk, SlCloneF, RfPrm, JrA, SeekA, BtClone, RfSame, FbTz. -/
import Derived.Test.YtjmndjmhjleabaaGreatDoorAl
import Derived.Test.YtjmndjmhjleabaaGreatDoorAm
import Derived.Test.YtjmndjmhjleabaaGreatDoorProg
import Derived.Test.YtjmndjmhjleabaaGreatDoorBase
import Derived.Test.YtjmndjmhjleabaaGreatDoorPk1
import Derived.Lib.AppendStr
import Derived.Laws.StructEq
import Derived.BigQuiet
import Derived.Lib.SliceRun
import Derived.Test.YtjmndjmhjleabaaGreatDoorPk9
set_option maxHeartbeats 1000000
open Go.Proofs.Tryz
namespace Go.Proofs.YtjmndjmhjleabaaGreatDoor
open Go.RowKit
theorem jO:(prog.info? 5).map (fun i=>(i.zero,i.size,i.bytes))=some (some (.int .u8 0),1,1):=by kernel_rfl
theorem KX:(prog.info? 3).map (fun i=>(i.zero,i.size,i.bytes))=some (some (.int .i64 0),1,8):=by kernel_rfl
theorem kE {w w':World}{base t:Nat}{ao:ak}{cap:Nat}{l:av}(hown:iF w base t ao cap l)(hg:w.grownBy w' (gL ao))(hb:base<=w.heap.size):Below base w w' :=
 ⟨hg.os, hg.tape, hg.output, hg.size, fun k hk => hg.block k (by omega) (fun e => by
  cases ao with
  | none=>cases e
  | some a=>injection e with e;have:=(hown.block a rfl).1;omega)⟩
section
end
theorem rU:(prog.info? 111).map (fun i=>(i.zero,i.size,i.bytes))=some (some (.agg #[.string ⟨#[]⟩,.string ⟨#[]⟩]),2,32):=by kernel_rfl
theorem zX (l:au)(fo:ak)(gM n:Nat)(w:World)(hl:jo w fo gM n (gU l))(hn:l.length=n)(hN:n*32<=140737488355328):
 Calls prog 146 #[.slice fo n gM] w fun e w'=>∃ao cap,e=.returned (.slice ao n cap)∧gV w' w.heap.size 111 2 ao cap n (gU l)∧aj w w':=by
 have qT:∀(w:World) (a:ak) (n c n' c':Nat),(binOp .eql 66 (.slice a n c) (.slice none n' c')).run prog w=.ok (.bool a.isNone) w:=fun w a n c n' c'=>Lib.run_eql_slice_nil w _ _ a n c n' c' underlying66;cases fo with
 | none =>
   have hc:=hl.2.1 rfl;have hn0:n=0:=by have:=hl.1;omega
   subst hn0;obtain rfl:l=[]:=dw hn;go_enter func146,ntmps146;go_wp2;go_ret;exact⟨none,0,rfl,gV.nil _ _ _ _,fJ _ _⟩
 | some a =>
   have HL:=H9 hl;have hp:=mW l;obtain⟨i0,hi0,hz0,hz1,hz2⟩:=info_parts rU;have Hi:=H9 hi0;have kK:=H9 hz0;have kH:=H9 hz1;have kL:=H9 hz2
   have HP:Hid ((gU l).length=n*2):=by rw[hn] at hp;exact hp
   clear hi0 hz0 hz1 hz2 hl hp hn;go_enter func146,ntmps146;go_wp2_with (at_builtin;refine gT rfl (.tmp 5) (.tmp 6) 66 rfl w.heap.size 111 i0 (.agg #[.string ⟨#[]⟩,.string ⟨#[]⟩]) 2 32 underlying66 Hi.o kK.o kH.o kL.o rfl (by decide) (n:=0) (xs:=[]) rfl (gF _ #[] 0 (by simp) (by decide) rfl) rfl (HL.o.alloc _) HP.o (Gv l) (by omega) (by omega) (by simp) ?_;intro jQ gX w3 hO3 hG3 kC;have oD:=H9 hO3;have sG:=H9 hG3;clear hO3 hG3 kC)
   go_ret;refine⟨jQ,gX,by simp,?_,?_⟩
   . have:=oD.o;rw[dz,bq] at this;exact this
   . exact((fJ _ _).alloc (aM _) _).grown sG.o (by simp) (fun q e=>by simp[gL] at e;omega)
theorem CJ (l:au)(fo:ak)(gM n:Nat)(w:World)(hl:jo w fo gM n (gU l))(hn:l.length=n)(hN:n<=1000000):
 Calls prog 146 #[.slice fo n gM] w fun e w'=>∃ao cap,e=.returned (.slice ao n cap)∧gV w' w.heap.size 111 2 ao cap n (gU l)∧aj w w':=zX l fo gM n w hl hn (by omega)
def lq (name:ay):au->Option ay
 | []=>none
 | p::t=>if p.1.data.toList=name.data.toList then some p.2 else lq name t
theorem LW {name:ay}{l:au}(h:∀p∈l,p.1.data.toList≠name.data.toList):lq name l=none:=by
 induction l with
 | nil=>rfl
 | cons p t ih =>
   unfold lq;rw[if_neg (h p (cK ..))];exact ih (fun q hq=>h q (cO _ hq))
theorem SQ {name:ay}{l:au}{k:Nat}(hk:k<l.length)(h:∀p∈l.take k,p.1.data.toList≠name.data.toList)(he:l[k].1.data.toList=name.data.toList):lq name l=some l[k].2:=by
 induction l generalizing k with
 | nil=>simp at hk
 | cons p t ih =>
   cases k with
   | zero=>unfold lq;rw[if_pos (show p.1.data.toList=name.data.toList from he)];rfl
   | succ k =>
     unfold lq;rw[if_neg (h p (by simp))];have:=ih (k:=k) (by simpa using hk) (fun q hq=>h q (by simp[hq])) (by simpa using he);simpa using this
theorem Iz {x:Nat}(h:x<256):IntKind.u8.wrap (x:Int)=((UInt8.ofNat x).toNat:Int):=by
 rw[IntKind.wrap_u8,Jn.Vf h];omega
structure IB (w:World)(base:Nat)(p:av)(r:Nat)(ao:ak)(cap k:Nat)(done:av)(wr:World):Prop where
 own:iF wr base 5 ao cap p
 len:p.length=k
 below:Below base w wr
 all:p++Jn.num r=done
theorem IB.more {w:World}{base:Nat}{p:av}{r:Nat}{ao:ak}{cap k:Nat}{done:av}{wr:World}(h:IB w base p r ao cap k done wr)(hb:base<=w.heap.size)(hr:¬r<128){c:UInt8}(hc:UInt8.ofNat (r % 128+128)=c)(o:Obj)(gW:ak)(cap':Nat)(w':World)(hO:iF w' base 5 gW cap' (p++[c]))(hG:(wr.alloc o).grownBy w' (gL ao)):IB w base (p++[c]) (r / 128) gW cap' (k+1) done w':=by
 have h1:=h.below.alloc (by have:=h.below.size;omega) o;refine⟨hO,by rw[aW,h.len];rfl,h1.trans (kE (h.own.alloc o) hG (by have:=h1.size;omega)),?_⟩;have:=h.all;rw[Jn.GQ hr,hc] at this;rw[<-this];simp
theorem nk (x:Nat)(hx:x<=1000000000000)(base:Nat)(ao:ak)(cap n:Nat)(l:av)(w:World)(hO:iF w base 5 ao cap l)(hn:l.length=n)(hN:n<=1000000000)(hb:base<=w.heap.size)(v:Int)(hv:v+1=x):
 Calls prog 239 #[.slice ao n cap,.int .i64 v] w fun e w'=>∃gW cap',e=.returned (.slice gW (n+(Jn.num x).length) cap')∧iF w' base 5 gW cap' (l++Jn.num x)∧Below base w w':=by
 have H0:Hid (IB w base l x ao cap n (l++Jn.num x) w):=⟨hO,hn,fJ _ _,rfl⟩;have HL:Hid (∀k r p,p++Jn.num r=l++Jn.num x->p.length=k->k+(Jn.num r).length=n+(Jn.num x).length):=fun k r p e e2=>by
  have:=bE List.length e;rw[aW,aW,hn] at this;omega
 have hlx:(Jn.num x).length<=6:=Jn.CW 5 x (by omega);have hw:IntKind.i64.wrap (v+1)=x:=by rw[hv];exact lZ (by omega) (by omega)
 obtain⟨i0,hi0,hz0,hz1,hz2⟩:=info_parts jO;have Hi:=H9 hi0;have kK:=H9 hz0;have kH:=H9 hz1;have kL:=H9 hz2
 clear hO hn hi0 hz0 hz1 hz2 hv;generalize hd:l++Jn.num x=done at *;generalize hq:n+(Jn.num x).length=m at *;clear hd;have hm:m<=1000000006:=by omega
 clear hq hlx;go_enter func239,ntmps239;go_wp2;go_loopw [0,5] (fun va vr wr=>∃(r k:Nat) (p:av) (gW:ak) (ca:Nat),r<=x∧va=.slice gW k ca∧vr=.int .i64 r∧IB w base p r gW ca k done wr) (fun _ vr _=>(intOf vr).toNat)
 case atStart=>exact⟨x,n,l,ao,cap,aM _,rfl,by first | rfl | rw[hw],H0.o⟩
 case round =>
  obtain⟨r,k,p,gW,ca,hr,rfl,rfl,hR⟩:=hrel;have HR:=H9 hR;have hk:=HL.o k r p hR.all hR.len;have hpo:=Jn.I7 r;have hkm:k<=1000000006:=by omega
  clear hR hpo hk;by_cases hlt:r<128
  . have t0:decide ((r:Int)≥128)=false:=by rw[bQ];omega
    have hwb:=Iz (x:=r) (by omega);have HN:=H9 (Jn.Ay hlt);generalize UInt8.ofNat r=c at *;have hlt':¬(128:Int)<=r:=by omega
    go_wp2_with (at_builtin;refine iY rfl (.tmp 19) (.tmp 22) 31 rfl base 5 i0 underlying31 Hi.o kK.o kH.o kL.o (l:=p) (l2:=[c]) rfl HR.o.len (HR.o.own.alloc _) rfl rfl (iH.one _ _ _ _) (by omega) (by rw[fZ];have:=HR.o.below.size;omega) ?_;intro jQ gX w3 hO3 hG3;have oD:=H9 hO3;have sG:=H9 hG3;clear hO3 hG3)
    go_ret;have h1:=HR.o.below.alloc (by have:=HR.o.below.size;omega) (.cells #[.int .u8 (c.toNat:Int)] 5);have hal:=HR.o.all;have hl2:=HL.o k r p hal HR.o.len;rw[HN.o] at hal hl2;refine⟨jQ,gX,by rw[<-hl2];rfl,by rw[<-hal];exact oD.o,h1.trans (kE (HR.o.own.alloc _) sG.o (by have:=h1.size;omega))⟩
  . have t0:decide ((r:Int)≥128)=true:=by rw[bR];omega
    have hwb:=Iz (x:=r % 128+128) (by omega);have e1:(((r % 128+128:Nat)):Int)=(r:Int) % 128+128:=by omega
    rw[e1] at hwb;have HM:=H9 (@IB.more w base p r gW ca k done wr HR.o hb hlt _ rfl);generalize UInt8.ofNat (r % 128+128)=c at *;have hlt':(128:Int)<=r:=by omega
    have e2:((r / 128:Nat):Int)=(r:Int) / 128:=by omega
    clear e1;go_wp2_with (at_builtin;refine iY rfl (.tmp 10) (.tmp 15) 31 rfl base 5 i0 underlying31 Hi.o kK.o kH.o kL.o (l:=p) (l2:=[c]) rfl HR.o.len (HR.o.own.alloc _) rfl rfl (iH.one _ _ _ _) (by omega) (by rw[fZ];have:=HR.o.below.size;omega) ?_;intro jQ gX w3 hO3 hG3;have oD:=H9 hO3;have sG:=H9 hG3;clear hO3 hG3)
    go_roundw
    case rel=>exact⟨r / 128,k+1,p++[c],jQ,gX,by omega,rfl,by rw[e2],HM.o _ _ _ _ oD.o sG.o⟩
    case measure=>simp[intOf];omega
theorem Xg (g:Nat)(mo:ak)(cap:Nat)(c:UInt8)(w:World)(h0:w.cell? ⟨g,0,none⟩=some (.slice mo 0 cap)):
 Calls prog 266 #[.pointer (some ⟨g,0,none⟩),.int .i64 0,.int .u8 c.toNat] w fun e w'=>e=.returned (.int .i64 0)∧w'=w:=by
 go_enter func266,ntmps266;go_wp2;go_loop [1] (fun t=>t=.int .i64 0) (fun _=>0)
 case atStart=>rfl
 case round =>
  subst hrel;go_wp2;go_ret;exact⟨rfl,rfl⟩
theorem QM (m:av)(n:Nat)(c:UInt8)(g gm gb cap:Nat)(w:World)(hn:n<m.length)(hL:m.length<=140737488355328)
 (h0:w.cell? ⟨g,0,none⟩=some (.slice (some ⟨gm,0,none⟩) m.length cap))
 (h1:w.cell? ⟨g,1,none⟩=some (.slice (some ⟨gb,0,none⟩) m.length m.length))
 (hm:∀j (hj:j<m.length),w.cell? ⟨gm,j,none⟩=some (.int .u8 (m[j].toNat:Int)))
 (hb:∀j,0<j->j<=n->w.cell? ⟨gb,j,none⟩=some (.int .i64 (Sk.bk m j))) :
 Calls prog 266 #[.pointer (some ⟨g,0,none⟩),.int .i64 n,.int .u8 c.toNat] w fun e w'=>e=.returned (.int .i64 (Sk.fit m n c))∧w'=w:=by
 have HM:=H9 hm;have HB:=H9 hb;clear hm hb;go_enter func266,ntmps266;go_wp2;go_loop [1] (fun t=>∃k:Nat,Sk.Ro m n c k∧t=.int .i64 k) (fun t=>(intOf t).toNat)
 case atStart=>exact⟨n,Sk.Nq m n c,rfl⟩
 case round =>
  obtain⟨k,hbk,rfl⟩:=hrel;have hkn:=hbk.1;have hkl:k<m.length:=by omega
  have hcm:=HM.o k hkl;have HK:=H9 hbk;clear hbk;by_cases hc:m[k]=c
  . have hc1:=Qq hc;have hc2:((m[k].toNat:Int)==c.toNat)=true:=by rw[hc];simp
    have HF:Hid (Sk.fit m n c=k+1):=(Sk.Vv HK.o hn hkl hc).best;clear hc;by_cases hk0:0<k
    . go_wp2;go_ret;exact⟨uN (by rw[HF.o];omega),rfl⟩
    . obtain rfl:k=0:=by omega
      go_wp2;go_ret;exact⟨uN (by rw[HF.o];omega),rfl⟩
  . have hc1:=C8 hc;have hc2:=kZ hc;by_cases hk0:0<k
    . have hcb:=HB.o k hk0 hkn;have HS:=H9 (Sk.Rs HK.o hkl hk0 hc);have hlt:=Sk.Vx m k hk0;clear hc;go_wp2;go_round
      case rel=>exact⟨Sk.bk m k,HS.o,rfl⟩
      case measure=>simp[intOf];omega
    . obtain rfl:k=0:=by omega
      have HF:Hid (Sk.fit m n c=0):=(Sk.YS HK.o hn hkl hc).best;clear hc;go_wp2;go_ret;exact⟨uN (by rw[HF.o];rfl),rfl⟩
theorem IG (l:av)(ao:ak)(cap:Nat)(w:World)(h:iH w ao cap l)(hl:l.length<=140737488355328):
 Calls prog 265 #[.slice ao l.length cap] w fun e w'=>∃gW cap',e=.returned (.slice gW l.length cap')∧iF w' w.heap.size 5 gW cap' l∧aj w w':=by
 have hq:∀(w:World) (a:ak) (n c n' c':Nat),(binOp .eql 31 (.slice a n c) (.slice none n' c')).run prog w=.ok (.bool a.isNone) w:=fun w a n c n' c'=>Lib.run_eql_slice_nil w _ _ a n c n' c' underlying31;obtain⟨i0,hi,hz0,hz1,hz2⟩:=info_parts jO;cases ao with
 | none =>
   obtain⟨rfl,rfl⟩:=h.rz;clear h;go_enter func265,ntmps265;go_wp2;go_ret;exact⟨none,0,rfl,iF.nil _ _ _,fJ _ _⟩
 | some a =>
   have H:=H9 h;have Hi:=H9 hi;have kK:=H9 hz0;have kH:=H9 hz1;have kL:=H9 hz2
   clear h hi hz0 hz1 hz2;have HO:Hid (iF (w.alloc (.cells #[] 5)) w.heap.size 5 (some ⟨w.heap.size,0,none⟩) 0 []):=World.ownsRow_made w #[] 0 (aM _) (by decide) rfl;go_enter func265,ntmps265;go_wp2_with (at_builtin;refine iY rfl (.tmp 5) (.tmp 6) 31 rfl w.heap.size 5 i0 underlying31 Hi.o kK.o kH.o kL.o (l:=[]) (l2:=l) rfl rfl HO.o rfl rfl (H.o.alloc _) (by simpa using hl) (by simp) ?_;intro gW cap' w1 hO hG)
   go_ret;refine⟨gW,cap',?_,hO,?_⟩
   . simp
   . exact((fJ _ _).alloc (aM _) _).grown hG (by simp) (fun k e=>by cases e;exact aM _)
theorem QN (l:av)(n:Nat)(ao:ak)(cap:Nat)(w:World)(hn:l.length=n)(h:iH w ao cap l)(hl:n<=140737488355328):
 Calls prog 265 #[.slice ao n cap] w fun e w'=>∃gW cap',e=.returned (.slice gW n cap')∧iF w' w.heap.size 5 gW cap' l∧aj w w':=by
 subst hn;exact IG l ao cap w h hl
theorem PN (a b:av):((⟨a.toArray⟩:ay).toList==(⟨b.toArray⟩:ay).toList)=decide (a=b):=by
 rw[Lib.toList_data,Lib.toList_data,aH];simp
theorem yI (w:World)(zU jy:ak)(ow cap2 n1 n2:Nat)(l1 l2:av)(hn1:l1.length=n1)(hn2:l2.length=n2)(h1:iH w zU ow l1)(h2:iH w jy cap2 l2):
 Calls prog 15 #[.slice zU n1 ow,.slice jy n2 cap2] w fun e w'=>e=.returned (.bool (decide (l1=l2)))∧w'=w:=by
 subst hn1;subst hn2;have q1:=h1.str (P:=prog) 31 9 5 underlying31 underlying5 underlying9;have q2:=h2.str (P:=prog) 31 9 5 underlying31 underlying5 underlying9;have HS:=H9 (PN l1 l2);generalize (⟨l1.toArray⟩:ay)=s1 at q1 HS;generalize (⟨l2.toArray⟩:ay)=s2 at q2 HS;clear h1 h2;go_enter func15,ntmps15;go_wp2;go_ret;exact⟨iB HS.o,rfl⟩
end Go.Proofs.YtjmndjmhjleabaaGreatDoor