/- Small texts, one behind the other: BtInfo, MemS, MemBS, FdInfo, StPair, LwGreat, LwAsk, SlCloneF, RfPrm, JrA, SeekA, BtClone, RfSame, FbTz. -/
import Derived.Test.YtjmndjmhjleabaaGreatDoorProg
import Derived.Test.YtjmndjmhjleabaaGreatDoorBase
import Derived.Test.YtjmndjmhjleabaaGreatDoorPk1
import Derived.Lib.AppendStr
import Derived.Laws.StructEq
import Derived.BigQuiet
import Derived.Lib.SliceRun
import Derived.Test.YtjmndjmhjleabaaGreatDoorPk9
set_option maxHeartbeats 1000000
open Go.Proofs.Tryz
namespace Go.Proofs.YtjmndjmhjleabaaGreatDoor
open Go.RowKit
theorem dQ:(prog.info? 5).map (fun i=>(i.zero,i.size,i.bytes))=some (some (.int .u8 0),1,1):=by kernel_rfl
theorem DY:(prog.info? 3).map (fun i=>(i.zero,i.size,i.bytes))=some (some (.int .i64 0),1,8):=by kernel_rfl
theorem nk {w w':World}{base t:Nat}{ao:Option Addr}{cap:Nat}{l:List UInt8}(hown:aT w base t ao cap l)(hg:w.grownBy w' (au ao))(hb:base<=w.heap.size):Below base w w' :=
 ⟨hg.os, hg.tape, hg.output, hg.size, fun k hk => hg.block k (by omega) (fun e => by
  cases ao with
  | none=>cases e
  | some a=>injection e with e;have:=(hown.block a rfl).1;omega)⟩
section
end
theorem l9:(prog.info? 111).map (fun i=>(i.zero,i.size,i.bytes))=some (some (.agg #[.string ⟨#[]⟩,.string ⟨#[]⟩]),2,32):=by kernel_rfl
theorem sG (l:List (ByteArray×ByteArray))(fo:Option Addr)(ak n:Nat)(w:World)(hl:cu w fo ak n (aB l))(hn:l.length=n)(hN:n*32<=140737488355328):
 Calls prog 146 #[.slice fo n ak] w fun e w'=>∃ao cap,e=.returned (.slice ao n cap)∧aC w' w.heap.size 111 2 ao cap n (aB l)∧Below w.heap.size w w':=by
 have qT:∀(w:World) (a:Option Addr) (n c n' c':Nat),(binOp .eql 66 (.slice a n c) (.slice none n' c')).run prog w=.ok (.bool a.isNone) w:=fun w a n c n' c'=>Lib.run_eql_slice_nil w _ _ a n c n' c' underlying66;cases fo with
 | none =>
   have hc:=hl.2.1 rfl;have hn0:n=0:=by have:=hl.1;omega
   subst hn0;obtain rfl:l=[]:=List.eq_nil_of_length_eq_zero hn;go_enter func146,ntmps146;go_wp2;go_ret;exact⟨none,0,rfl,aC.nil _ _ _ _,Below.refl _ _⟩
 | some a =>
   have HL:=H9 hl;have hp:=iI l;obtain⟨i0,hi0,hz0,hz1,hz2⟩:=info_parts l9;have Hi:=H9 hi0;have gQ:=H9 hz0;have gK:=H9 hz1;have gT:=H9 hz2
   have HP:Hid ((aB l).length=n*2):=by rw[hn] at hp;exact hp
   clear hi0 hz0 hz1 hz2 hl hp hn;go_enter func146,ntmps146;go_wp2_with (at_builtin;refine aK rfl (.tmp 5) (.tmp 6) 66 rfl w.heap.size 111 i0 (.agg #[.string ⟨#[]⟩,.string ⟨#[]⟩]) 2 32 underlying66 Hi.o gQ.o gK.o gT.o rfl (by decide) (n:=0) (xs:=[]) rfl (World.ownsRow_lit _ #[] 0 (by simp) (by decide) rfl) rfl (HL.o.alloc _) HP.o (Ad l) (by omega) (by omega) (by simp) ?_;intro fu aI w3 hO3 hG3 dJ;have mF:=H9 hO3;have tZ:=H9 hG3;clear hO3 hG3 dJ)
   go_ret;refine⟨fu,aI,by simp,?_,?_⟩
   . have:=mF.o;rw[List.nil_append,Nat.zero_add] at this;exact this
   . exact((Below.refl _ _).alloc (Nat.le_refl _) _).grown tZ.o (by simp) (fun q e=>by simp[au] at e;omega)
theorem vY (l:List (ByteArray×ByteArray))(fo:Option Addr)(ak n:Nat)(w:World)(hl:cu w fo ak n (aB l))(hn:l.length=n)(hN:n<=1000000):
 Calls prog 146 #[.slice fo n ak] w fun e w'=>∃ao cap,e=.returned (.slice ao n cap)∧aC w' w.heap.size 111 2 ao cap n (aB l)∧Below w.heap.size w w':=sG l fo ak n w hl hn (by omega)
def eG (name:ByteArray):List (ByteArray×ByteArray)->Option ByteArray
 | []=>none
 | p::t=>if p.1.data.toList=name.data.toList then some p.2 else eG name t
theorem EO {name:ByteArray}{l:List (ByteArray×ByteArray)}(h:∀p∈l,p.1.data.toList≠name.data.toList):eG name l=none:=by
 induction l with
 | nil=>rfl
 | cons p t ih =>
   unfold eG;rw[if_neg (h p (List.mem_cons_self ..))];exact ih (fun q hq=>h q (List.mem_cons_of_mem _ hq))
theorem Lr {name:ByteArray}{l:List (ByteArray×ByteArray)}{k:Nat}(hk:k<l.length)(h:∀p∈l.take k,p.1.data.toList≠name.data.toList)(he:l[k].1.data.toList=name.data.toList):eG name l=some l[k].2:=by
 induction l generalizing k with
 | nil=>simp at hk
 | cons p t ih =>
   cases k with
   | zero=>unfold eG;rw[if_pos (show p.1.data.toList=name.data.toList from he)];rfl
   | succ k =>
     unfold eG;rw[if_neg (h p (by simp))];have:=ih (k:=k) (by simpa using hk) (fun q hq=>h q (by simp[hq])) (by simpa using he);simpa using this
theorem Bh {x:Nat}(h:x<256):IntKind.u8.wrap (x:Int)=((UInt8.ofNat x).toNat:Int):=by
 rw[IntKind.wrap_u8,Jn.Ny h];omega
structure Bj (w:World)(base:Nat)(p:List UInt8)(r:Nat)(ao:Option Addr)(cap k:Nat)(done:List UInt8)(wr:World):Prop where
 own:aT wr base 5 ao cap p
 len:p.length=k
 below:Below base w wr
 all:p++Jn.num r=done
theorem Bj.more {w:World}{base:Nat}{p:List UInt8}{r:Nat}{ao:Option Addr}{cap k:Nat}{done:List UInt8}{wr:World}(h:Bj w base p r ao cap k done wr)(hb:base<=w.heap.size)(hr:¬r<128){c:UInt8}(hc:UInt8.ofNat (r % 128+128)=c)(o:Obj)(aD:Option Addr)(cap':Nat)(w':World)(hO:aT w' base 5 aD cap' (p++[c]))(hG:(wr.alloc o).grownBy w' (au ao)):Bj w base (p++[c]) (r / 128) aD cap' (k+1) done w':=by
 have h1:=h.below.alloc (by have:=h.below.size;omega) o;refine⟨hO,by rw[List.length_append,h.len];rfl,h1.trans (nk (h.own.alloc o) hG (by have:=h1.size;omega)),?_⟩;have:=h.all;rw[Jn.Ak hr,hc] at this;rw[<-this];simp
theorem gN (x:Nat)(hx:x<=1000000000000)(base:Nat)(ao:Option Addr)(cap n:Nat)(l:List UInt8)(w:World)(hO:aT w base 5 ao cap l)(hn:l.length=n)(hN:n<=1000000000)(hb:base<=w.heap.size)(v:Int)(hv:v+1=x):
 Calls prog 239 #[.slice ao n cap,.int .i64 v] w fun e w'=>∃aD cap',e=.returned (.slice aD (n+(Jn.num x).length) cap')∧aT w' base 5 aD cap' (l++Jn.num x)∧Below base w w':=by
 have H0:Hid (Bj w base l x ao cap n (l++Jn.num x) w):=⟨hO,hn,Below.refl _ _,rfl⟩;have HL:Hid (∀k r p,p++Jn.num r=l++Jn.num x->p.length=k->k+(Jn.num r).length=n+(Jn.num x).length):=fun k r p e e2=>by
  have:=congrArg List.length e;rw[List.length_append,List.length_append,hn] at this;omega
 have hlx:(Jn.num x).length<=6:=Jn.wE 5 x (by omega);have hw:IntKind.i64.wrap (v+1)=x:=by rw[hv];exact gL (by omega) (by omega)
 obtain⟨i0,hi0,hz0,hz1,hz2⟩:=info_parts dQ;have Hi:=H9 hi0;have gQ:=H9 hz0;have gK:=H9 hz1;have gT:=H9 hz2
 clear hO hn hi0 hz0 hz1 hz2 hv;generalize hd:l++Jn.num x=done at *;generalize hq:n+(Jn.num x).length=m at *;clear hd;have hm:m<=1000000006:=by omega
 clear hq hlx;go_enter func239,ntmps239;go_wp2;go_loopw [0,5] (fun va vr wr=>∃(r k:Nat) (p:List UInt8) (aD:Option Addr) (ca:Nat),r<=x∧va=.slice aD k ca∧vr=.int .i64 r∧Bj w base p r aD ca k done wr) (fun _ vr _=>(intOf vr).toNat)
 case atStart=>exact⟨x,n,l,ao,cap,Nat.le_refl _,rfl,by first | rfl | rw[hw],H0.o⟩
 case round =>
  obtain⟨r,k,p,aD,ca,hr,rfl,rfl,hR⟩:=hrel;have HR:=H9 hR;have hk:=HL.o k r p hR.all hR.len;have hpo:=Jn.BD r;have hkm:k<=1000000006:=by omega
  clear hR hpo hk;by_cases hlt:r<128
  . have t0:decide ((r:Int)≥128)=false:=by rw[decide_eq_false_iff_not];omega
    have hwb:=Bh (x:=r) (by omega);have HN:=H9 (Jn.tJ hlt);generalize UInt8.ofNat r=c at *;have hlt':¬(128:Int)<=r:=by omega
    go_wp2_with (at_builtin;refine bW rfl (.tmp 19) (.tmp 22) 31 rfl base 5 i0 underlying31 Hi.o gQ.o gK.o gT.o (l:=p) (l2:=[c]) rfl HR.o.len (HR.o.own.alloc _) rfl rfl (aU.one _ _ _ _) (by omega) (by rw[World.size_alloc];have:=HR.o.below.size;omega) ?_;intro fu aI w3 hO3 hG3;have mF:=H9 hO3;have tZ:=H9 hG3;clear hO3 hG3)
    go_ret;have h1:=HR.o.below.alloc (by have:=HR.o.below.size;omega) (.cells #[.int .u8 (c.toNat:Int)] 5);have hal:=HR.o.all;have hl2:=HL.o k r p hal HR.o.len;rw[HN.o] at hal hl2;refine⟨fu,aI,by rw[<-hl2];rfl,by rw[<-hal];exact mF.o,h1.trans (nk (HR.o.own.alloc _) tZ.o (by have:=h1.size;omega))⟩
  . have t0:decide ((r:Int)≥128)=true:=by rw[decide_eq_true_eq];omega
    have hwb:=Bh (x:=r % 128+128) (by omega);have e1:(((r % 128+128:Nat)):Int)=(r:Int) % 128+128:=by omega
    rw[e1] at hwb;have HM:=H9 (@Bj.more w base p r aD ca k done wr HR.o hb hlt _ rfl);generalize UInt8.ofNat (r % 128+128)=c at *;have hlt':(128:Int)<=r:=by omega
    have e2:((r / 128:Nat):Int)=(r:Int) / 128:=by omega
    clear e1;go_wp2_with (at_builtin;refine bW rfl (.tmp 10) (.tmp 15) 31 rfl base 5 i0 underlying31 Hi.o gQ.o gK.o gT.o (l:=p) (l2:=[c]) rfl HR.o.len (HR.o.own.alloc _) rfl rfl (aU.one _ _ _ _) (by omega) (by rw[World.size_alloc];have:=HR.o.below.size;omega) ?_;intro fu aI w3 hO3 hG3;have mF:=H9 hO3;have tZ:=H9 hG3;clear hO3 hG3)
    go_roundw
    case rel=>exact⟨r / 128,k+1,p++[c],fu,aI,by omega,rfl,by rw[e2],HM.o _ _ _ _ mF.o tZ.o⟩
    case measure=>simp[intOf];omega
theorem PL (g:Nat)(mo:Option Addr)(cap:Nat)(c:UInt8)(w:World)(h0:w.cell? ⟨g,0,none⟩=some (.slice mo 0 cap)):
 Calls prog 266 #[.pointer (some ⟨g,0,none⟩),.int .i64 0,.int .u8 c.toNat] w fun e w'=>e=.returned (.int .i64 0)∧w'=w:=by
 go_enter func266,ntmps266;go_wp2;go_loop [1] (fun t=>t=.int .i64 0) (fun _=>0)
 case atStart=>rfl
 case round =>
  subst hrel;go_wp2;go_ret;exact⟨rfl,rfl⟩
theorem JR (m:List UInt8)(n:Nat)(c:UInt8)(g gm gb cap:Nat)(w:World)(hn:n<m.length)(hL:m.length<=140737488355328)
 (h0:w.cell? ⟨g,0,none⟩=some (.slice (some ⟨gm,0,none⟩) m.length cap))
 (h1:w.cell? ⟨g,1,none⟩=some (.slice (some ⟨gb,0,none⟩) m.length m.length))
 (hm:∀j (hj:j<m.length),w.cell? ⟨gm,j,none⟩=some (.int .u8 (m[j].toNat:Int)))
 (hb:∀j,0<j->j<=n->w.cell? ⟨gb,j,none⟩=some (.int .i64 (Sk.bk m j))) :
 Calls prog 266 #[.pointer (some ⟨g,0,none⟩),.int .i64 n,.int .u8 c.toNat] w fun e w'=>e=.returned (.int .i64 (Sk.fit m n c))∧w'=w:=by
 have HM:=H9 hm;have HB:=H9 hb;clear hm hb;go_enter func266,ntmps266;go_wp2;go_loop [1] (fun t=>∃k:Nat,Sk.Kj m n c k∧t=.int .i64 k) (fun t=>(intOf t).toNat)
 case atStart=>exact⟨n,Sk.F5 m n c,rfl⟩
 case round =>
  obtain⟨k,hbk,rfl⟩:=hrel;have hkn:=hbk.1;have hkl:k<m.length:=by omega
  have hcm:=HM.o k hkl;have HK:=H9 hbk;clear hbk;by_cases hc:m[k]=c
  . have hc1:=Jt hc;have hc2:((m[k].toNat:Int)==c.toNat)=true:=by rw[hc];simp
    have HF:Hid (Sk.fit m n c=k+1):=(Sk.NR HK.o hn hkl hc).best;clear hc;by_cases hk0:0<k
    . go_wp2;go_ret;exact⟨rJ (by rw[HF.o];omega),rfl⟩
    . obtain rfl:k=0:=by omega
      go_wp2;go_ret;exact⟨rJ (by rw[HF.o];omega),rfl⟩
  . have hc1:=Js hc;have hc2:=gX hc;by_cases hk0:0<k
    . have hcb:=HB.o k hk0 hkn;have HS:=H9 (Sk.Kk HK.o hkl hk0 hc);have hlt:=Sk.NT m k hk0;clear hc;go_wp2;go_round
      case rel=>exact⟨Sk.bk m k,HS.o,rfl⟩
      case measure=>simp[intOf];omega
    . obtain rfl:k=0:=by omega
      have HF:Hid (Sk.fit m n c=0):=(Sk.Rk HK.o hn hkl hc).best;clear hc;go_wp2;go_ret;exact⟨rJ (by rw[HF.o];rfl),rfl⟩
theorem Bo (l:List UInt8)(ao:Option Addr)(cap:Nat)(w:World)(h:aU w ao cap l)(hl:l.length<=140737488355328):
 Calls prog 265 #[.slice ao l.length cap] w fun e w'=>∃aD cap',e=.returned (.slice aD l.length cap')∧aT w' w.heap.size 5 aD cap' l∧Below w.heap.size w w':=by
 have hq:∀(w:World) (a:Option Addr) (n c n' c':Nat),(binOp .eql 31 (.slice a n c) (.slice none n' c')).run prog w=.ok (.bool a.isNone) w:=fun w a n c n' c'=>Lib.run_eql_slice_nil w _ _ a n c n' c' underlying31;obtain⟨i0,hi,hz0,hz1,hz2⟩:=info_parts dQ;cases ao with
 | none =>
   obtain⟨rfl,rfl⟩:=h.kE;clear h;go_enter func265,ntmps265;go_wp2;go_ret;exact⟨none,0,rfl,aT.nil _ _ _,Below.refl _ _⟩
 | some a =>
   have H:=H9 h;have Hi:=H9 hi;have gQ:=H9 hz0;have gK:=H9 hz1;have gT:=H9 hz2
   clear h hi hz0 hz1 hz2;have HO:Hid (aT (w.alloc (.cells #[] 5)) w.heap.size 5 (some ⟨w.heap.size,0,none⟩) 0 []):=World.ownsRow_made w #[] 0 (Nat.le_refl _) (by decide) rfl;go_enter func265,ntmps265;go_wp2_with (at_builtin;refine bW rfl (.tmp 5) (.tmp 6) 31 rfl w.heap.size 5 i0 underlying31 Hi.o gQ.o gK.o gT.o (l:=[]) (l2:=l) rfl rfl HO.o rfl rfl (H.o.alloc _) (by simpa using hl) (by simp) ?_;intro aD cap' w1 hO hG)
   go_ret;refine⟨aD,cap',?_,hO,?_⟩
   . simp
   . exact((Below.refl _ _).alloc (Nat.le_refl _) _).grown hG (by simp) (fun k e=>by cases e;exact Nat.le_refl _)
theorem JU (l:List UInt8)(n:Nat)(ao:Option Addr)(cap:Nat)(w:World)(hn:l.length=n)(h:aU w ao cap l)(hl:n<=140737488355328):
 Calls prog 265 #[.slice ao n cap] w fun e w'=>∃aD cap',e=.returned (.slice aD n cap')∧aT w' w.heap.size 5 aD cap' l∧Below w.heap.size w w':=by
 subst hn;exact Bo l ao cap w h hl
theorem I9 (a b:List UInt8):((⟨a.toArray⟩:ByteArray).toList==(⟨b.toArray⟩:ByteArray).toList)=decide (a=b):=by
 rw[Lib.toList_data,Lib.toList_data,Bool.eq_iff_iff];simp
theorem qF (w:World)(JF dN:Option Addr)(sw cap2 n1 n2:Nat)(l1 l2:List UInt8)(hn1:l1.length=n1)(hn2:l2.length=n2)(h1:aU w JF sw l1)(h2:aU w dN cap2 l2):
 Calls prog 15 #[.slice JF n1 sw,.slice dN n2 cap2] w fun e w'=>e=.returned (.bool (decide (l1=l2)))∧w'=w:=by
 subst hn1;subst hn2;have q1:=h1.str (P:=prog) 31 9 5 underlying31 underlying5 underlying9;have q2:=h2.str (P:=prog) 31 9 5 underlying31 underlying5 underlying9;have HS:=H9 (I9 l1 l2);generalize (⟨l1.toArray⟩:ByteArray)=s1 at q1 HS;generalize (⟨l2.toArray⟩:ByteArray)=s2 at q2 HS;clear h1 h2;go_enter func15,ntmps15;go_wp2;go_ret;exact⟨bA HS.o,rfl⟩
end Go.Proofs.YtjmndjmhjleabaaGreatDoor