/- Small texts, one behind the other: GaQ, GaR, GaT, GaU. -/
import Derived.Test.YtjmndjmhjleabaaGreatDoorPk51
import Derived.Lib.SlBytesConst
import Derived.Test.YtjmndjmhjleabaaGreatDoorPk12
import Derived.Test.YtjmndjmhjleabaaGreatDoorPk27
import Derived.Test.YtjmndjmhjleabaaGreatDoorPk10
import Derived.Test.YtjmndjmhjleabaaGreatDoorPk18
import Derived.Test.YtjmndjmhjleabaaGreatDoorRfReqs
set_option maxHeartbeats 8000000
set_option maxRecDepth 100000
open Go.Proofs.Tryz
namespace Go.Proofs.YtjmndjmhjleabaaGreatDoor
open Go.RowKit
def XG:List UInt8:=[71,69,84,32,47,32,72,84,84,80,47,49,46,49,13,10,72,111,115,116,58,32,97,13,10,13,10]
def gbT:List UInt8:=[72,84,84,80,47,49,46,49,32,52,48,52,32,78,111,116,32,70,111,117,110,100,13,10,67,111,110,116,101,110,116,45,76,101,110,103,116,104,58,32,48,13,10,13,10]
theorem XH:Rq.outs Rq.start XG=[.head ⟨[71,69,84],[47],1,[([72,111,115,116],[97])],0⟩,.fin]:=by rfl
theorem XI:Gt.textOf (404,[],[])=gbT:=by decide +kernel
theorem XJ:Gt.feed Tu.aS Sr.new Gt.lg XG=(Sr.new,⟨Rq.fold Rq.start XG,Rq.hd0,[]⟩,gbT):=by
 unfold Gt.feed Gt.Ab;rw [show Gt.lg.rq=Rq.start from rfl,XH];rw [←XI];rfl
theorem XK:Rq.busy (Rq.fold Rq.start XG)=false:=by rfl
theorem aav (W:World):aT (W.alloc (.cells #[.int .u8 71,.int .u8 69,.int .u8 84,.int .u8 32,.int .u8 47,.int .u8 32,.int .u8 72,.int .u8 84,.int .u8 84,.int .u8 80,.int .u8 47,.int .u8 49,.int .u8 46,.int .u8 49,.int .u8 13,.int .u8 10,.int .u8 72,.int .u8 111,.int .u8 115,.int .u8 116,.int .u8 58,.int .u8 32,.int .u8 97,.int .u8 13,.int .u8 10,.int .u8 13,.int .u8 10] 5 (27,28))) (some ⟨W.heap.size,0,none⟩) 27 XG:=by
 have h:=bS.made W #[.int .u8 71,.int .u8 69,.int .u8 84,.int .u8 32,.int .u8 47,.int .u8 32,.int .u8 72,.int .u8 84,.int .u8 84,.int .u8 80,.int .u8 47,.int .u8 49,.int .u8 46,.int .u8 49,.int .u8 13,.int .u8 10,.int .u8 72,.int .u8 111,.int .u8 115,.int .u8 116,.int .u8 58,.int .u8 32,.int .u8 97,.int .u8 13,.int .u8 10,.int .u8 13,.int .u8 10] 27 5 (27,28);refine ⟨Nat.le_refl _,(fun e=>by cases e),fun j hj=>⟨_,rfl,?_⟩⟩;refine h.cell ?_;exact gG XG j hj
theorem CV (w:World) (hP:iO w) :
 Calls prog 6 #[] w fun e w'=>e=.returned (.bool true)∧Below w.heap.size w w':=by
 have HP:=H9 hP;have kc:=fun (w:World) (C:Array Value) (n c:Nat)=>Lib.run_convert_bytes_const (P:=prog) w 31 5 C n c underlying31 underlying5;clear hP;go_enter func6,ntmps6;go_wp2_with fail
 refine (wX w).mono ?_;rintro e w1 ⟨gs,rfl,hS1,hb1⟩;have HN:=H9 (BQ hS1);have HB1:=H9 hb1;clear hS1 hb1;go_wp2_with fail
 refine HN.o.mono ?_;rintro e w2 ⟨rfl,hG2,dL⟩;have hz1:=HB1.o.size;have hb2:Below w.heap.size w w2:=HB1.o.trans (dL.below (fun k e=>e) hz1);have ac2:cu w2 (fun k=>w.heap.size≤k∧k<w2.heap.size) w1.heap.size gs Sr.new (fun _=>Gt.lg):=hG2.mono (fun k hk e=>⟨by
  rcases e with e | e
  · exact e
  · omega,hk⟩)
 have bT:=(Below.refl _ w2).alloc (Nat.le_refl _) (.cells #[.int .u8 71,.int .u8 69,.int .u8 84,.int .u8 32,.int .u8 47,.int .u8 32,.int .u8 72,.int .u8 84,.int .u8 84,.int .u8 80,.int .u8 47,.int .u8 49,.int .u8 46,.int .u8 49,.int .u8 13,.int .u8 10,.int .u8 72,.int .u8 111,.int .u8 115,.int .u8 116,.int .u8 58,.int .u8 32,.int .u8 97,.int .u8 13,.int .u8 10,.int .u8 13,.int .u8 10] 5 (27,28));have HFe:Hid (Calls prog 13 #[.pointer (some ⟨w1.heap.size,0,none⟩),.int .i64 0,.slice (some ⟨w2.heap.size,0,none⟩) 27 27] (w2.alloc (.cells #[.int .u8 71,.int .u8 69,.int .u8 84,.int .u8 32,.int .u8 47,.int .u8 32,.int .u8 72,.int .u8 84,.int .u8 84,.int .u8 80,.int .u8 47,.int .u8 49,.int .u8 46,.int .u8 49,.int .u8 13,.int .u8 10,.int .u8 72,.int .u8 111,.int .u8 115,.int .u8 116,.int .u8 58,.int .u8 32,.int .u8 97,.int .u8 13,.int .u8 10,.int .u8 13,.int .u8 10] 5 (27,28))) fun e w'=>NN (fun k=>w.heap.size≤k∧k<w2.heap.size) (w2.alloc (.cells #[.int .u8 71,.int .u8 69,.int .u8 84,.int .u8 32,.int .u8 47,.int .u8 32,.int .u8 72,.int .u8 84,.int .u8 84,.int .u8 80,.int .u8 47,.int .u8 49,.int .u8 46,.int .u8 49,.int .u8 13,.int .u8 10,.int .u8 72,.int .u8 111,.int .u8 115,.int .u8 116,.int .u8 58,.int .u8 32,.int .u8 97,.int .u8 13,.int .u8 10,.int .u8 13,.int .u8 10] 5 (27,28))) w1.heap.size gs (fun _=>Gt.lg) 0 (Sr.new,⟨Rq.fold Rq.start XG,Rq.hd0,[]⟩,gbT) 0 e w'):=by
  have:=xB (w:=w2.alloc (.cells #[.int .u8 71,.int .u8 69,.int .u8 84,.int .u8 32,.int .u8 47,.int .u8 32,.int .u8 72,.int .u8 84,.int .u8 84,.int .u8 80,.int .u8 47,.int .u8 49,.int .u8 46,.int .u8 49,.int .u8 13,.int .u8 10,.int .u8 72,.int .u8 111,.int .u8 115,.int .u8 116,.int .u8 58,.int .u8 32,.int .u8 97,.int .u8 13,.int .u8 10,.int .u8 13,.int .u8 10] 5 (27,28))) HP.o (then_ hb2 bT) (fun i e=>e.1) (ac2.stay bT) Sr.Ok.new 0 (by decide) Gt.sH.new XG (aav w2) (fun _ a e=>by injection e with e;subst e;exact fun x=>absurd x.2 (Nat.lt_irrefl _)) rfl (by decide);rw [XJ] at this;exact this
 have HB3:=H9 (then_ hb2 bT);have hz2:w.heap.size≤w2.heap.size:=hb2.size;have HZ2:=H9 hz2;clear hG2 dL hb2 ac2 bT HN hz1 hz2;go_wp2_with fail
 refine HFe.o.mono ?_;rintro e w3 ⟨⟨ao,cap,n,rfl,hn,hI⟩,hG3,j5⟩;have hn45:n=45:=hn;subst hn45;obtain ⟨bb,oo,rfl,_⟩:=hI.lit (by decide);have hcp:=hI.1;have alC:(45:Nat)≤cap:=hcp;have hb3:Below w.heap.size w w3:=HB3.o.trans (j5.below (fun k e=>e.1) HB3.o.size);have hcut:=hI.cut (aF:=some ⟨bb,oo+9,none⟩) 9 12 (by decide) (by decide) (fun _=>rfl);have hcv:=hcut.str (P:=prog) 31 9 5 underlying31 underlying5 underlying9;replace hcv:(convert 31 9 (.slice (some ⟨bb,oo+9,none⟩) 3 (cap - 9))).run prog w3=.ok (.string ⟨#[52,48,52]⟩) w3:=hcv;have HRa:=H9 (fun W=>Jy (g:=w1.heap.size) 4 (Or.inr (by decide)) none 0 0 W);have HBu:Hid (Calls prog 20 #[.pointer (some ⟨w1.heap.size,0,none⟩),.int .i64 0] w3 fun e w'=>e=.returned (.bool false)∧w'=w3):=by
  have:=QL hG3 0 (by decide);rw [bA,show (Rq.busy (Gt.Cn.rq ⟨Rq.fold Rq.start XG,Rq.hd0,[]⟩))=false from XK] at this;exact this
 have Yu:Hid (Calls prog 11 #[.pointer (some ⟨w1.heap.size,0,none⟩),.int .i64 0] w3 fun e w'=>e=.returned (.int .i64 0)∧Below w.heap.size w w'):=by
  refine (Mr hG3 0 (by decide) (by rw [bA]) (by rw [bA];decide)).mono (fun e w' ⟨h1,h2⟩=>⟨h1,hb3.trans (h2.below (fun k e=>?_) hb3.size)⟩);rcases e with e | e
  · exact e.1
  · exact Nat.le_trans HB3.o.size e
 have ai5:(12:Int)≤(cap:Int):=by omega
 clear hI hG3 j5 hb3 hcut hcp hn;go_wp2_with fail
 refine (HRa.o _).mono ?_;rintro e w4 ⟨rfl,hw⟩;rw [hw];clear hw;go_wp2_with fail
 refine HBu.o.mono ?_;rintro e w4 ⟨rfl,hw⟩;rw [hw];clear hw;go_wp2_with fail
 refine Yu.o.mono ?_;rintro e w5 ⟨rfl,hb5⟩;have lX:=H9 hb5;clear hb5;go_wp2;go_ret;exact ⟨rfl,lX.o⟩
section
variable {w6 wr w':World} {P1 P2:Nat→Prop} {g gs:Nat} {s:Sr.Sh} {c:Nat→Gt.Cn} {ao:Option Addr} {cap:Nat} {out:List UInt8}
structure vS (P1:Nat→Prop) (w6:World) (g gs:Nat) (s:Sr.Sh) (c:Nat→Gt.Cn) (ao:Option Addr) (cap:Nat) (out:List UInt8) (wr:World):Prop where
 two:∃ A L,cu wr A g gs s c∧aI wr L 5 ao cap out∧(∀ k,A k→¬ L k)∧(∀ k,A k→P1 k∨w6.heap.size≤k)∧∀ k,L k→w6.heap.size≤k
 turns:Turns P1 w6 wr
theorem vS.start (h:cu w6 P1 g gs s c):vS P1 w6 g gs s c none 0 [] w6:=⟨⟨P1,fun _=>False,h,aI.nil _ _ _,fun _ _ e=>e,fun _ e=>Or.inl e,fun _ e=>e.elim⟩,Turns.refl _ _⟩
theorem vS.feed {w0:World} (h:vS P1 w6 g gs s c ao cap out wr) (hP:iO w0) (hW:Below w0.heap.size w0 w6) (hF:∀ i,P1 i→w0.heap.size≤i) (ok:Sr.Ok s) (k:Nat) (hk:k<4) (hc:Gt.sH (c k)) (l:List UInt8) {bo:Option Addr} {aj n:Nat} (hB:aT w6 bo aj l) (l8:l≠[]→∀ a,bo=some a→¬ P1 a.block) (hn:l.length=n) (hl:(c k).body.length+n≤20000) :
 Calls prog 13 #[.pointer (some ⟨g,0,none⟩),.int .i64 (k:Int),.slice bo n aj] wr fun e w'=>∃ (yP:Option Addr) (cap5 n5:Nat) (L:Nat→Prop),e=.returned (.tuple #[.slice yP n5 cap5,.int .i64 (if (c k).rq.ph=4 then 18 else 0)])∧n5=(Gt.feed Tu.aS s (c k) l).2.2.length∧aT w' yP cap5 (Gt.feed Tu.aS s (c k) l).2.2∧aI w' L 5 ao cap out∧vS P1 w6 g gs (Gt.feed Tu.aS s (c k) l).1 (upd c k (Gt.feed Tu.aS s (c k) l).2.1) ao cap out w' ∧
  ∀ Jw cap6 w'',aI w'' (fun i=>dB out ao=some i∨w'.heap.size≤i) 5 Jw cap6 (out++(Gt.feed Tu.aS s (c k) l).2.2)→Turns (fun i=>dB out ao=some i) w' w''→vS P1 w6 g gs (Gt.feed Tu.aS s (c k) l).1 (upd c k (Gt.feed Tu.aS s (c k) l).2.1) Jw cap6 (out++(Gt.feed Tu.aS s (c k) l).2.2) w'':=by
 obtain ⟨⟨A,L,h1,h2,h3,h4,h5⟩,hT⟩:=h;have hz:=hT.size;have hlt:l≠[]→∀ a,bo=some a→a.block<w6.heap.size:=fun hne a e=>by
  subst e;have hp:0<l.length:=List.length_pos_iff.2 hne;have:=World.block_lt_of_cell? w6 _ (hB.cell 0 hp);rwa [add_block] at this
 have hBr:aT wr bo aj l:=by
  by_cases hne:l=[]
  · subst hne;exact aT.empty wr hB
  · exact hB.turns hT (fun a e=>l8 hne a e)
 refine (xB hP (hW.trans (hT.below hF hW.size)) (S:=fun k=>A k∧k<wr.heap.size) (fun i e=>?_) (h1.mono (fun k hk e=>⟨e,hk⟩)) ok k hk hc l hBr (fun hne a e e2=>?_) hn hl).mono ?_
 · rcases h4 i e.1 with e | e
   · exact hF i e
   · exact Nat.le_trans hW.size e
 · rcases h4 _ e2.1 with e3 | e3
   · exact l8 hne a e e3
   · have:=hlt hne a e;omega
 · rintro e w5 ⟨⟨yP,cap5,n5,he,Ro,wT⟩,Iw,rV⟩;have hz5:=rV.size;have hL5:aI w5 (fun k=>L k∧k<wr.heap.size) 5 ao cap out:=(h2.mono (fun k hk e=>⟨e,hk⟩)).turns rV (fun k e e2=>h3 k e2.1 e.1);have lY:Turns P1 w6 w5:=hT.trans rV (fun k e hk=>by
    rcases h4 k e.1 with e | e
    · exact e
    · omega)
   have hA:∀ k,av (fun k=>A k∧k<wr.heap.size) wr k→P1 k∨w6.heap.size≤k:=fun k e=>by
    rcases e with e | e
    · exact h4 k e.1
    · exact Or.inr (by omega)
   have hd:∀ k,av (fun k=>A k∧k<wr.heap.size) wr k→¬ (L k∧k<wr.heap.size):=fun k e e2=>by
    rcases e with e | e
    · exact h3 k e.1 e2.1
    · have:=e2.2;omega
   have hin:∀ i,dB out ao=some i→L i∧i<wr.heap.size:=fun i e=>by
    unfold dB at e;split at e
    · cases e
    · rename_i hne;rcases hL5 with ⟨_,_,q⟩ | ⟨q,_⟩
      · cases l8:ao with
        | none=>rw [l8] at e;cases e
        | some a=>rw [l8] at e;injection e with e;rw [←e];exact q a l8
      · exact absurd q hne
   refine ⟨yP,cap5,n5,_,he,Ro,wT,hL5,⟨⟨_,_,Iw,hL5,hd,hA,fun k e=>h5 k e.1⟩,lY⟩,fun Jw cap6 w7 Xp yu=>⟨⟨fun k=>av (fun k=>A k∧k<wr.heap.size) wr k∧k<w5.heap.size,_,(Iw.mono (fun k hk e=>⟨e,hk⟩)).turns yu (fun k e e2=>hd k e.1 (hin k e2)),Xp,fun k e e2=>?_,fun k e=>hA k e.1,fun k e=>?_⟩,lY.trans yu (fun k e hk=>?_)⟩⟩
   · rcases e2 with e2 | e2
     · exact hd k e.1 (hin k e2)
     · have:=e.2;omega
   · rcases e with e | e
     · exact h5 k (hin k e).1
     · omega
   · have:=h5 k (hin k e).1;omega
theorem vS.aside (h:vS P1 w6 g gs s c ao cap out wr) {T:Nat→Prop} (ht:Turns T wr w') (hT:∀ k,T k→k<w6.heap.size∧¬ P1 k):∃ A,cu w' A g gs s c∧aT w' ao cap out:=by
 obtain ⟨⟨A,L,h1,h2,h3,h4,h5⟩,_⟩:=h;refine ⟨A,h1.turns ht (fun k e e2=>?_),(h2.turns ht (fun k e e2=>?_)).q8⟩
 · rcases h4 k e with e3 | e3
   · exact (hT k e2).2 e3
   · have:=(hT k e2).1;omega
 · have:=h5 k e;have:=(hT k e2).1;omega
end
theorem sZ.cell_ {w:World} {bo:Option Addr} {l:List UInt8} {b o cap:Nat} {ps:List Pc} {w4 wr:World} {P:Nat→Prop} (h:sZ w bo l l.length (some ⟨b,o,none⟩) cap ps w4) (hT:Turns P w4 wr) (hP:∀ k,P k→k<w.heap.size) (i:Nat) (hi:i<ps.length):wr.cell? ⟨b,o+i,none⟩=some (.slice ps[i].ao ps[i].l.length ps[i].cap):=by
 have hv:=h.own.jg.turns hT (fun a e=>by
  have hb:=(h.own.block a e).1;intro k;have:=hP _ k;omega)
 have hc:=hv.cell (j:=i) (u:=ps[i].v) (by unfold XL;rw [List.getElem?_map,List.getElem?_eq_getElem hi];rfl);rw [Addr.add_lit] at hc;exact hc
/-! ### plain: pieces, one behind the other -/
theorem Gt.Mv (s:Sr.Sh) (c:Gt.Cn) (ps:List (List UInt8)) (i:Nat) (hi:i<ps.length):Gt.feeds Tu.aS s c (ps.take (i+1))=((Gt.feed Tu.aS (Gt.feeds Tu.aS s c (ps.take i)).1 (Gt.feeds Tu.aS s c (ps.take i)).2.1 ps[i]).1,(Gt.feed Tu.aS (Gt.feeds Tu.aS s c (ps.take i)).1 (Gt.feeds Tu.aS s c (ps.take i)).2.1 ps[i]).2.1,(Gt.feeds Tu.aS s c (ps.take i)).2.2++(Gt.feed Tu.aS (Gt.feeds Tu.aS s c (ps.take i)).1 (Gt.feeds Tu.aS s c (ps.take i)).2.1 ps[i]).2.2):=by
 rw [Gt.mG,Gt.mG,List.take_succ_eq_append_getElem hi,List.flatten_append,Gt.xS];simp
theorem Gt.Vd {s:Sr.Sh} (ok:Sr.Ok s) {c:Gt.Cn} (hc:Gt.sH c) (ps:List (List UInt8)):Sr.Ok (Gt.feeds Tu.aS s c ps).1∧Gt.sH (Gt.feeds Tu.aS s c ps).2.1∧(Gt.feeds Tu.aS s c ps).2.1.body.length≤c.body.length+ps.flatten.length∧(Gt.feeds Tu.aS s c ps).2.2.length≤6000*(2*ps.flatten.length):=by
 rw [Gt.mG];refine ⟨Gt.Wm Tu.aS YO ok c _,Gt.Nf Tu.aS hc s _,Gt.D9 Tu.aS s c _,?_⟩;have h1:=Gt.qH (Rq.outs c.rq ps.flatten) (g:=Gt.at_ s c) ok;have h2:=(Rq.iW ps.flatten c.rq).1;have h3:(Gt.at_ s c).out.length=0:=rfl;show (Gt.evs Tu.aS (Gt.at_ s c) (Rq.outs c.rq ps.flatten)).out.length≤_;omega
theorem ED (ps:List (List UInt8)) (i:Nat):(ps.take i).flatten.length≤ps.flatten.length:=by
 conv=>rhs;rw [←List.take_append_drop i ps,List.flatten_append,List.length_append]
 omega
theorem NP (ps:List (List UInt8)) (i:Nat) (hi:i<ps.length):(ps.take i).flatten.length+ps[i].length≤ps.flatten.length:=by
 have:=ED ps (i+1);rw [List.take_succ_eq_append_getElem hi,List.flatten_append,List.length_append] at this;simpa using this
theorem Gt.quiet_of (l:List UInt8) (h:∀ i (hi:i<(Rq.of l).1.length),(Rq.of l).1[i].d.kind≠3):Gt.Quiet (Rq.outs Rq.start l):=by
 refine Gt.oN _ ?_;rw [(Rq.of_run l).ev];intro e he heq;obtain ⟨i,hi,rfl⟩:=List.getElem_of_mem he;exact h i hi (by rw [heq];rfl)
theorem Gt.Vp (ys:List (List UInt8)) (h:Gt.Quiet (Rq.outs Rq.start ys.flatten)) (i:Nat) (hi:i<ys.length):Gt.Quiet (Rq.outs (Rq.fold Rq.start (ys.take i).flatten) ys[i]):=by
 have e:ys.flatten=(ys.take (i+1)).flatten++(ys.drop (i+1)).flatten:=by rw [←List.flatten_append,List.take_append_drop]
 rw [e,Rq.cO] at h;have h1:=h.left;rw [List.take_succ_eq_append_getElem hi,List.flatten_append,Rq.cO] at h1;have h2:=h1.right;simpa using h2
structure VJ (ys:List (List UInt8)) (i:Nat) (d:Gt.Cn):Prop where
 ok:Gt.sH d
 rq:d.rq=Rq.fold Rq.start (ys.take i).flatten
 few:d.body.length≤(ys.take i).flatten.length
theorem VJ.start (ys:List (List UInt8)):VJ ys 0 Gt.lg:=⟨Gt.sH.new,rfl,Nat.zero_le _⟩
theorem VJ.next {ys:List (List UInt8)} {i:Nat} {d:Gt.Cn} (h:VJ ys i d) (hi:i<ys.length) (s:Sr.Sh):VJ ys (i+1) (Gt.feed Tu.aS s d ys[i]).2.1:=by
 refine ⟨Gt.Nf Tu.aS h.ok s _,?_,?_⟩
 · rw [List.take_succ_eq_append_getElem hi,List.flatten_append,Rq.dA,←h.rq];show Rq.fold d.rq ys[i]=_;simp
 · rw [List.take_succ_eq_append_getElem hi,List.flatten_append,List.length_append];have h1:=Gt.D9 Tu.aS s d ys[i];have h2:=h.few;have h3:[ys[i]].flatten.length=ys[i].length:=by simp
   omega
theorem VJ.quiet {ys:List (List UInt8)} {i:Nat} {d:Gt.Cn} (h:VJ ys i d) (hi:i<ys.length) (hq:Gt.Quiet (Rq.outs Rq.start ys.flatten)) (s:Sr.Sh):(Gt.feed Tu.aS s d ys[i]).1=s :=
 Gt.Ko Tu.aS s d _ (by rw [h.rq];exact Gt.Vp ys hq i hi)
theorem cu.cell {w:World} {S:Nat→Prop} {g gs:Nat} {s:Sr.Sh} {c:Nat→Gt.Cn} (h:cu w S g gs s c):w.cell? ⟨g,0,none⟩=some (.pointer (some ⟨gs,0,none⟩)):=by
 obtain ⟨κ,x,hH,hS⟩:=h;exact (hH .row).1.store
theorem QX {α:Type} (f:Nat→α) (a b c:α):upd (upd (upd f 0 a) 1 b) 0 c=upd (upd f 0 c) 1 b:=by
 funext j;unfold upd;split
 · rename_i h;subst h;rfl
 · rfl
theorem aT.older {w:World} {bo:Option Addr} {cap:Nat} {l:List UInt8} (h:aT w bo cap l) (hne:l≠[]) (a:Addr) (e:bo=Option.some a):a.block<w.heap.size:=by
 have hp:0<l.length:=List.length_pos_iff.2 hne;rw [e] at h;have:=World.block_lt_of_cell? w _ (h.cell 0 hp);rwa [add_block] at this
theorem C9 (w:World) (hP:iO w) (l ol:List UInt8) (bo oo co:Option Addr) (aj n XZ m Ms nc:Nat) (cs:List Int) (hB:aT w bo aj l) (hn:l.length=n) (hO:aT w oo XZ ol) (hm:ol.length=m) (hs:n+m<9223372036854775808) (hC:bS w co Ms nc (cs.map fun c=>Value.int .i64 c)) (hnc:cs.length=nc) :
 Calls prog 5 #[.slice bo n aj,.slice oo m XZ,.slice co nc Ms] w fun e w'=>e=.returned (.bool true)∧Below w.heap.size w w':=by
 have HB:=H9 hB;have HC:=H9 hC;have HNc:=H9 hnc;have HN:=H9 hn;have HP:=H9 hP;have HO:=H9 hO;have HM0:=H9 hm
 have HBg:=H9 (CV w hP);clear hB hC hP hO;go_enter func5,ntmps5;go_wp2_with fail
 refine HBg.o.mono ?_;rintro e w1 ⟨rfl,h1⟩;have H1:=H9 h1;clear h1 hnc hn hm HBg;by_cases hbig:9000<n+m
 · have t:decide ((n:Int)+m > 9000)=true:=decide_eq_true (by omega);go_wp2;go_ret;exact ⟨rfl,H1.o⟩
 · have t:decide ((n:Int)+m > 9000)=false:=decide_eq_false (by omega);by_cases al6:40<nc
   · have t2:decide ((nc:Int) > 40)=true:=decide_eq_true (by omega);go_wp2;go_ret;exact ⟨rfl,H1.o⟩
   · have t2:decide ((nc:Int) > 40)=false:=decide_eq_false (by omega);have hOl:m≤20000:=by omega
     have XR:=H9 (F6 ol oo XZ w1 (HO.o.stay H1.o) (by rw [HM0.o];exact hOl));rw [HM0.o] at XR;go_wp2_with fail
     refine XR.o.mono ?_;rintro e w2 ⟨a2,c2,rfl,hE,hb2⟩;have HE:=H9 hE;have HB2:=H9 (then_ H1.o hb2)
     obtain ⟨es,hes⟩:∃ es,(Rq.of ol).1=es:=⟨_,rfl⟩;have HQ0:Hid ((∀ i (hi:i<es.length),es[i].d.kind≠3)→Gt.Quiet (Rq.outs Rq.start ol)):=by subst hes;exact Gt.quiet_of ol
     have hlen:es.length≤9223372036854775000:=by
      have h1:=(Rq.of_run ol).ev;have h2:=(Rq.iW ol Rq.start).1;have h3:=Rq.join_length (Rq.outs Rq.start ol);rw [h1,hes] at h3;rw [HM0.o] at h2;omega
     rw [hes] at HE;rw [hes];generalize (Rq.of ol).2=bsy;clear hE hb2 hes XR t t2 H1;go_wp2;go_loopw [9] (fun vi wr=>∃ i:Nat,i≤es.length∧vi=.int .i64 i∧wr=w2∧∀ j (hj:j<es.length),j<i→es[j].d.kind≠3) (fun vi _=>es.length - (intOf vi).toNat)
     case atStart=>exact ⟨0,Nat.zero_le _,rfl,rfl,fun j _ h=>absurd h (Nat.not_lt_zero _)⟩
     case round =>
      obtain ⟨i,hi,rfl,hw,hK⟩:=hrel;have HK:=H9 hK;subst hw;clear hK;by_cases hlt:i<es.length
      · obtain ⟨b,o,rfl,hcs⟩:=HE.o.lit (by rw [List.length_map];omega);obtain ⟨s,hev⟩:=hcs i (by rw [List.length_map];exact hlt);rw [List.getElem_map] at hev;have c0:wr.cell? ⟨b,o+i*12,none⟩=some (.int .i64 es[i].d.kind):=hev.at_ 0 _ rfl;have hcp:=HE.o.1;rw [List.length_map] at hcp;have hlt':(i:Int)<es.length:=by omega
        clear hcs hev;by_cases hk:es[i].d.kind=3
        · have tk:(es[i].d.kind==3)=true:=by rw [beq_iff_eq];exact hk
          generalize es[i].d.kind=kd at *;go_wp2;go_ret;exact ⟨rfl,HB2.o⟩
        · have tk:(es[i].d.kind==3)=false:=by rw [beq_eq_false_iff_ne];exact hk
          have Vx:Hid (∀ j (hj:j<es.length),j<i+1→es[j].d.kind≠3):=fun j hj h=>by
           rcases Nat.lt_or_ge j i with h1 | h1
           · exact HK.o j hj h1
           · obtain rfl:j=i:=by omega
             exact hk
          generalize es[i].d.kind=kd at *;go_wp2;go_roundw
          case rel=>exact ⟨i+1,by omega,by go_num,by first | rfl | trivial,Vx.o⟩
          case measure=>simp [intOf];omega
      · obtain rfl:i=es.length:=by omega
        have HQt:=H9 (HQ0.o (fun j hj=>HK.o j hj hj));have hlt':¬ ((es.length:Nat):Int)<(es.length:Nat):=by omega
        generalize wr=w2 at *;clear HK HQ0 HE hlen;go_wp2_with fail
        refine (wX w2).mono ?_;rintro e w3 ⟨gs1,rfl,hS1,hb3⟩;have WT:=H9 (BQ hS1);have HB3:=H9 hb3;clear hS1 hb3;go_wp2_with fail
        refine WT.o.mono ?_;rintro e w4 ⟨rfl,hG1,Bo⟩;have z3:=HB3.o.size;have z4:=Bo.size
        have aek:=hG1.mono (S':=fun i=>w2.heap.size≤i∧i<w4.heap.size) (fun i hi e=>⟨by
         rcases e with e | e
         · exact e
         · omega,hi⟩)
        have Rc:=H9 aek;have dx:=H9 (HB3.o.trans (Bo.below (B:=w2.heap.size) (fun i e=>e) z3));clear hG1 aek Bo WT;go_wp2_with fail
        refine (wX w4).mono ?_;rintro e w5 ⟨gs2,rfl,hS2,hb5⟩;have JK:=H9 (BQ hS2);have z5:=hb5.size;have ael:=H9 (Rc.o.stay hb5);have lX:=H9 hb5;clear hS2 hb5 Rc;go_wp2_with fail
        refine JK.o.mono ?_;rintro e w6 ⟨rfl,hG2,lY⟩;have z6:=lY.size;have Rc:=H9 (ael.o.turns lY (fun i e e2=>by omega));have HG2:=H9 (hG2.mono (S':=fun i=>w4.heap.size≤i∧i<w6.heap.size) (fun i hi e=>⟨by
         rcases e with e | e
         · exact e
         · omega,hi⟩))
        have hb6:Below w2.heap.size w2 w6:=dx.o.trans ((lX.o.trans (lY.below (B:=w4.heap.size) (fun i e=>e) z5)).mono (by omega));have X0:Below w.heap.size w w6:=then_ HB2.o hb6;have HPc:=H9 (BS w6 l bo co aj n Ms nc cs (HB.o.stay X0) HN.o (by omega) (HC.o.stay X0) HNc.o (by omega));have qc:=H9 X0;have HZ:Hid (w.heap.size≤w2.heap.size∧w2.heap.size≤w3.heap.size∧w3.heap.size≤w4.heap.size∧w4.heap.size≤w5.heap.size∧w5.heap.size≤w6.heap.size):=⟨HB2.o.size,z3,z4,z5,z6⟩;clear hb6 X0 hG2 lY JK HB3 dx lX ael z3 z4 z5 z6;go_wp2_with fail
        refine HPc.o.mono ?_;rintro e w7 ⟨ps,ao,cap,rfl,Yp,hpl⟩;have hp0:0<ps.length:=by omega
        have hps:ps.length≤41:=by omega
        have Xj:=H9 hpl;clear hpl;obtain ⟨rb,ro,rfl,_⟩:=Yp.own.jg.lit (by rw [BR];exact hp0);have Jf:=H9 Yp;have Ez:=H9 (then_ qc.o Yp.below);have HPd:=H9 (BS w7 ol oo co XZ m Ms nc cs (HO.o.stay Ez.o) HM0.o (by omega) (HC.o.stay Ez.o) HNc.o (by omega));clear Yp HPc;go_wp2_with fail
        refine HPd.o.mono ?_;rintro e w8 ⟨qs,bX,cap2,rfl,hQr,hql⟩;have Z5:qs.length=ps.length:=by rw [hql,Xj.o]
        clear hql;obtain ⟨qb,qo,rfl,_⟩:=hQr.own.jg.lit (by rw [BR,Z5];exact hp0);have hcap:=Jf.o.own.jg.1;have al9:=hQr.own.jg.1;have h78:=hQr.below;have h68:Below w6.heap.size w6 w8:=then_ Jf.o.below h78;have Yl:=H9 (vS.start (Rc.o.stay h68));have aen:=H9 (HG2.o.stay h68);have HQr:=H9 hQr;have HB8:=H9 (then_ Ez.o h78);have HZ8:Hid (w6.heap.size≤w7.heap.size∧w7.heap.size≤w8.heap.size):=⟨Jf.o.below.size,h78.size⟩;have Ew:Hid ((ps.map Pc.l).flatten=l):=by unfold Hid;rw [Jf.o.flat,List.take_length]
        have HFq:Hid ((qs.map Pc.l).flatten=ol):=by unfold Hid;rw [hQr.flat,List.take_length]
        have HQy:Hid (Gt.Quiet (Rq.outs Rq.start (qs.map Pc.l).flatten)):=by unfold Hid;rw [HFq.o];exact HQt.o
        have HFk:Hid (∀ i,Sr.Ok (Gt.feeds Tu.aS Sr.new Gt.lg ((ps.map Pc.l).take i)).1∧Gt.sH (Gt.feeds Tu.aS Sr.new Gt.lg ((ps.map Pc.l).take i)).2.1∧(Gt.feeds Tu.aS Sr.new Gt.lg ((ps.map Pc.l).take i)).2.1.body.length≤((ps.map Pc.l).take i).flatten.length∧(Gt.feeds Tu.aS Sr.new Gt.lg ((ps.map Pc.l).take i)).2.2.length≤6000*(2*((ps.map Pc.l).take i).flatten.length)):=fun i=>by
         have:=Gt.Vd Sr.Ok.new Gt.sH.new ((ps.map Pc.l).take i);refine ⟨this.1,this.2.1,?_,this.2.2.2⟩;have h2:=this.2.2.1;have h3:Gt.lg.body.length=0:=rfl;omega
        obtain ⟨j0,hj0,hy0,hy1,hy2⟩:=info_parts dD;have Hj:=H9 hj0;have JL:=H9 hy0;have JM:=H9 hy1;have JN:=H9 hy2
        have H68:=H9 h68;have H78:=H9 h78
        have HQp:=H9 Z5;clear hQr HPd hj0 hy0 hy1 hy2 Rc HG2 h68 h78 Z5;have vW:Hid (vS (fun i=>w2.heap.size≤i∧i<w4.heap.size) w8 w3.heap.size gs1 (Gt.feeds Tu.aS Sr.new Gt.lg ((ps.map Pc.l).take 0)).1 (upd (upd (fun _=>Gt.lg) 0 (Gt.feeds Tu.aS Sr.new Gt.lg ((ps.map Pc.l).take 0)).2.1) 1 Gt.lg) none 0 (Gt.feeds Tu.aS Sr.new Gt.lg ((ps.map Pc.l).take 0)).2.2 w8):=by
         have h0:=Yl.o;have e1:upd (fun _=>Gt.lg) 0 Gt.lg=fun _=>Gt.lg:=upd_same (fun _=>Gt.lg) 0;have e2:upd (fun _=>Gt.lg) 1 Gt.lg=fun _=>Gt.lg:=upd_same (fun _=>Gt.lg) 1;unfold Hid;rw [List.take_zero];show vS _ _ _ _ Sr.new (upd (upd (fun _=>Gt.lg) 0 Gt.lg) 1 Gt.lg) none 0 [] _;rw [e1,e2];exact h0
        clear Yl;go_wp2;go_loopw [14,15] (fun va vi wr=>∃ (i m:Nat) (aF:Option Addr) (cap':Nat) (d:Gt.Cn),i≤ps.length∧vi=.int .i64 i∧va=.slice aF m cap'∧m=(Gt.feeds Tu.aS Sr.new Gt.lg ((ps.map Pc.l).take i)).2.2.length∧vS (fun i=>w2.heap.size≤i∧i<w4.heap.size) w8 w3.heap.size gs1 (Gt.feeds Tu.aS Sr.new Gt.lg ((ps.map Pc.l).take i)).1 (upd (upd (fun _=>Gt.lg) 0 (Gt.feeds Tu.aS Sr.new Gt.lg ((ps.map Pc.l).take i)).2.1) 1 d) aF cap' (Gt.feeds Tu.aS Sr.new Gt.lg ((ps.map Pc.l).take i)).2.2 wr∧VJ (qs.map Pc.l) i d) (fun _ vi _=>ps.length - (intOf vi).toNat)
        case atStart=>exact ⟨0,0,none,0,Gt.lg,Nat.zero_le _,rfl,rfl,rfl,vW.o,VJ.start _⟩
        case round =>
         clear vW;obtain ⟨i,m',aF,cap',d,hi,rfl,rfl,hm,hR,hOt⟩:=hrel;have HR:=H9 hR;have HM:=H9 hm;have HOt:=H9 hOt
         clear hR hm hOt;by_cases hlt:i<ps.length
         · have hlt':(i:Int)<ps.length:=by omega
           have aaD:i<qs.length:=by rw [HQp.o];exact hlt
           have aj7:(i:Int)<qs.length:=by omega
           have ci:=Jf.o.cell_ ((Turns.of_below (S:=fun i=>w2.heap.size≤i∧i<w4.heap.size) H78.o).trans HR.o.turns (fun i e _=>e)) (fun j e=>by have:=HZ.o;omega) i hlt;have hpi:=Jf.o.all ps[i] (List.getElem_mem hlt);have hqi:=HQr.o.all qs[i] (List.getElem_mem aaD);have HQc:Hid (∀ W,Turns (fun i=>w2.heap.size≤i∧i<w4.heap.size) w8 W→W.cell? ⟨qb,qo+i,none⟩=some (.slice qs[i].ao qs[i].l.length qs[i].cap)):=fun W hW=>HQr.o.cell_ hW (fun j e=>by have:=HZ.o;have:=HZ8.o;omega) i aaD;have hlm:i<(ps.map Pc.l).length:=by rw [List.length_map];exact hlt
           have hlq:i<(qs.map Pc.l).length:=by rw [List.length_map];exact aaD
           have LG:=Gt.Mv Sr.new Gt.lg (ps.map Pc.l) i hlm;have hfa:=NP (ps.map Pc.l) i hlm;have YR:=NP (qs.map Pc.l) i hlq;have hfl:=congrArg List.length Ew.o;have aer:=congrArg List.length HFq.o;rw [HN.o] at hfl;rw [HM0.o] at aer;have hpl:(ps.map Pc.l)[i]=ps[i].l:=List.getElem_map ..;have hql:(qs.map Pc.l)[i]=qs[i].l:=List.getElem_map ..;rw [hpl] at LG hfa;rw [hql] at YR;obtain ⟨fk1,fk2,fk3,fk4⟩:=HFk.o i;have fk5:=(HFk.o (i+1)).2.2.2;have fk6:=(HFk.o (i+1)).1;have hft:=ED (ps.map Pc.l) (i+1);have hpb:aT w8 ps[i].ao ps[i].cap ps[i].l:=hpi.is.stay H68.o;have hqb:aT w8 qs[i].ao qs[i].cap qs[i].l:=hqi.is.stay H78.o;have hpk:ps[i].l≠[]→∀ a,ps[i].ao=some a→¬ (w2.heap.size≤a.block∧a.block<w4.heap.size):=fun hne a e=>by
            obtain ⟨a0,e0,e1⟩:=hpi.blk hne a e;have hl0:l≠[]:=fun h0=>by
             have hn0:n=0:=by rw [←HN.o,h0];rfl
             have:ps[i].l.length=0:=by omega
             exact hne (List.length_eq_zero_iff.1 this)
            have:=HB.o.older hl0 a0 e0;have:=HZ.o;rw [e1];omega
           have hqk:qs[i].l≠[]→∀ a,qs[i].ao=some a→¬ (w2.heap.size≤a.block∧a.block<w4.heap.size):=fun hne a e=>by
            obtain ⟨a0,e0,e1⟩:=hqi.blk hne a e;have hl0:ol≠[]:=fun h0=>by
             have hn0:m=0:=by rw [←HM0.o,h0];rfl
             have:qs[i].l.length=0:=by omega
             exact hne (List.length_eq_zero_iff.1 this)
            have:=HO.o.older hl0 a0 e0;have:=HZ.o;rw [e1];omega
           have HOn:=H9 (fun s=>HOt.o.next hlq s);have HOq:=H9 (fun s=>HOt.o.quiet hlq HQy.o s);rw [hql] at HOn HOq;have hdb:=HOt.o.few;have hdo:=HOt.o.ok;generalize ps[i]=p at *;generalize qs[i]=q at *;obtain ⟨np,hnp⟩:∃ np,p.l.length=np:=⟨_,rfl⟩;obtain ⟨nq,hnq⟩:∃ nq,q.l.length=nq:=⟨_,rfl⟩;rw [hnp] at hfa ci;rw [hnq] at YR HQc;have jW:=H9 (HR.o.feed (w0:=w) HP.o HB8.o (fun j e=>by have:=HZ.o;omega) fk1 0 (by decide) (by rw [upd_ne _ _ (by decide),bA];exact fk2) p.l hpb hpk hnp (by rw [upd_ne _ _ (by decide),bA];omega));rw [upd_ne _ _ (by decide),bA,QX] at jW;generalize Gt.feeds Tu.aS Sr.new Gt.lg ((ps.map Pc.l).take i)=F at *;obtain ⟨Fs,Fc,Fo⟩:=F;simp only at jW LG HR HM fk4;rw [LG] at fk5 fk6;generalize hFp:Gt.feed Tu.aS Fs Fc p.l=Fp at *;obtain ⟨Gs,Gc,Go_⟩:=Fp;simp only at jW LG fk5 fk6;have nO:=H9 LG;have hsum:Fo.length+Go_.length≤200000000:=by rw [List.length_append] at fk5;omega
           obtain ⟨cd,hcd⟩:∃ cd:Int,(if Fc.rq.ph=4 then (18:Int) else 0)=cd:=⟨_,rfl⟩;rw [hcd] at jW;have HFe:Hid (∀ (Jw:Option Addr) (cap6:Nat) (out:List UInt8) (W:World),vS (fun i=>w2.heap.size≤i∧i<w4.heap.size) w8 w3.heap.size gs1 Gs (upd (upd (fun _=>Gt.lg) 0 Gc) 1 d) Jw cap6 out W→Calls prog 13 #[.pointer (some ⟨w3.heap.size,0,none⟩),.int .i64 1,.slice q.ao nq q.cap] W fun e w'=>∃ (v:Value) (d2:Gt.Cn),e=.returned v∧vS (fun i=>w2.heap.size≤i∧i<w4.heap.size) w8 w3.heap.size gs1 Gs (upd (upd (fun _=>Gt.lg) 0 Gc) 1 d2) Jw cap6 out w'∧VJ (qs.map Pc.l) (i+1) d2):=by
            intro Jw cap6 out W hW;have:=hW.feed (w0:=w) HP.o HB8.o (fun j e=>by have:=HZ.o;omega) fk6 1 (by decide) (by rw [bA];exact hdo) q.l hqb hqk hnq (by rw [bA];omega);rw [bA,lD,HOq.o Gs] at this;refine this.mono ?_;rintro e w' ⟨x1,x2,x3,x4,he,_,_,_,h5,_⟩;exact ⟨_,_,he,h5,HOn.o Gs⟩
           clear hpi hqi LG hfa YR hfl aer hpl hql fk1 fk2 fk3 fk4 fk5 fk6 hft hpb hqb hpk hqk hFp hcd hlm hlq hnp hnq HOn HOq hdb hdo HR HOt;go_wp2_with fail
           refine jW.o.mono ?_;rintro e w9 ⟨yP,cap5,n5,L5,rfl,Ro,wT,hL5,_,hfin⟩;have HN5:=H9 Ro.symm;have HB9:=H9 wT;have HL5:=H9 hL5;have KY:=H9 hfin;have Rm:=H9 HM.o.symm
           have hml:m'+n5≤200000000:=by rw [Ro,HM.o];exact hsum
           clear Ro wT hL5 hfin jW hsum;go_wp2_with (at_builtin;refine iR rfl (.tmp 75) (.tmp 76) 31 rfl 5 j0 underlying31 Hj.o JL.o JM.o JN.o rfl rfl HL5.o Rm.o HB9.o HN5.o (by omega) ?_;intro Jw cap6 WO pU lY;have HF6:=H9 (KY.o Jw cap6 WO pU lY);have cq:=HQc.o WO HF6.o.turns;clear pU lY)
           refine (HFe.o _ _ _ _ HF6.o).mono ?_;rintro e w11 ⟨vf,d2,rfl,hR2,hO2⟩;have HR2:=H9 hR2;have xX:=H9 hO2
           clear hR2 hO2;go_wp2;go_roundw
           case rel=>exact ⟨i+1,m'+n5,Jw,cap6,d2,by omega,by go_num,rfl,by rw [nO.o];show _=(Fo++Go_).length;rw [List.length_append,HM.o,HN5.o],by rw [nO.o];exact HR2.o,xX.o⟩
           case measure=>simp [intOf];omega
         · obtain rfl:i=ps.length:=by omega
           have hlt2:¬ ((ps.length:Nat):Int)<(ps.length:Nat):=by omega
           have hfull:(ps.map Pc.l).take ps.length=ps.map Pc.l:=by rw [List.take_of_length_le (by rw [List.length_map];exact Nat.le_refl _)]
           have hR:=HR.o;have hm:=HM.o;obtain ⟨fk1,fk2,fk3,fk4⟩:=HFk.o ps.length;rw [hfull,Gt.mG,Ew.o] at hR hm fk1;have lY:=hR.turns;have aes:=aen.o.turns lY (fun i e e2=>by have:=HZ.o;omega);have hbr:Below w.heap.size w wr:=HB8.o.trans (lY.below (fun i e=>by have:=HZ.o;omega) HB8.o.size);have hBr:aT wr bo aj l:=by
            by_cases hne:l=[]
            · have:=HB.o;rw [hne] at this ⊢;exact aT.empty wr this
            · refine (HB.o.stay HB8.o).turns lY (fun a e=>?_);have:=HB.o.older hne a e;have:=HZ.o;omega
           have jW:=H9 (xB (w0:=w) HP.o hbr (fun i e=>by have:=HZ.o;omega) aes Sr.Ok.new 0 (by decide) Gt.sH.new l hBr (fun hne a e e2=>by
            have:=HB.o.older hne a e;have:=HZ.o;omega) HN.o (by show 0+n≤20000;omega))
           have HBr:=H9 hbr;have HR2:=H9 hR;have Rm:=H9 hm;have kV:=H9 fk1
           clear hR hm fk1 fk2 fk3 fk4 aes hBr lY hfull HFk HM HR aen hbr HOt;generalize hFp:Gt.feed Tu.aS Sr.new Gt.lg l=F at *;obtain ⟨Fs,Fc,Fo⟩:=F;simp only at jW HR2 Rm kV;rw [show (if Gt.lg.rq.ph=4 then (18:Int) else 0)=0 from rfl] at jW;go_wp2_with fail
           refine jW.o.mono ?_;rintro e w9 ⟨⟨ao7,Fu,n7,rfl,hn7,hB7⟩,Xp,yu⟩;obtain ⟨A1,hG1,hB1⟩:=HR2.o.aside yu (fun i e=>by have:=HZ.o;have:=HZ8.o;omega);have UL:Below w.heap.size w w9:=HBr.o.trans (yu.below (fun i e=>by have:=HZ.o;omega) HBr.o.size);have HSB:=H9 (fun (W:World) (hW:Below w9.heap.size w9 W)=>tq W aF ao7 cap' Fu m' n7 Fo Fo Rm.o.symm hn7.symm (hB1.stay hW) (hB7.stay hW));rw [decide_eq_true (rfl:Fo=Fo)] at HSB;have y2:=hG1.cell;have z2:=Xp.cell;have yl:=hG1.lt;have zl:=Xp.lt;obtain ⟨ks,kl,kao,kca,P1,hst⟩:=hG1.dI;obtain ⟨kt,jl,jao,jca,P2,hss⟩:=Xp.dI;obtain ⟨⟨y0,_⟩,_⟩:=kR hst.row;obtain ⟨⟨z0,_⟩,_⟩:=kR hss.row;have pX:Hid (∀ W,Below w9.heap.size w9 W→Calls prog 18 #[.pointer (some ⟨ks,0,none⟩)] W fun e w'=>∃ al,e=.returned (.slice al Fs.h.l.length Fs.h.l.length)∧kH w' al Fs.h.l.length Fs.h.l∧Below W.heap.size W w'∧Below w9.heap.size w9 w'):=fun W hW=>(En _ P1 _ W (hst.qF.stay hW) kV.o.h.small).mono fun e w' ⟨al,h1,h2,h3⟩=>⟨al,h1,h2.uV,h3,then_ hW h3⟩;have HL2:Hid (∀ W,Below w9.heap.size w9 W→Calls prog 18 #[.pointer (some ⟨kt,0,none⟩)] W fun e w'=>∃ al,e=.returned (.slice al Fs.h.l.length Fs.h.l.length)∧kH w' al Fs.h.l.length Fs.h.l∧Below W.heap.size W w'∧Below w9.heap.size w9 w'):=fun W hW=>(En _ P2 _ W (hss.qF.stay hW) kV.o.h.small).mono fun e w' ⟨al,h1,h2,h3⟩=>⟨al,h1,h2.uV,h3,then_ hW h3⟩;have HSU:Hid (∀ W al al2,kH W al Fs.h.l.length Fs.h.l→kH W al2 Fs.h.l.length Fs.h.l→Below w9.heap.size w9 W→Calls prog 17 #[.slice al Fs.h.l.length Fs.h.l.length,.slice al2 Fs.h.l.length Fs.h.l.length] W fun e w'=>e=.returned (.bool true)∧Below w9.heap.size w9 w'):=fun W al al2 h1 h2 hW=>(JA _ al al2 _ _ W h1 h2 (by have:=kV.o.h.few;omega)).mono fun e w' ⟨g1,q,g2⟩=>⟨g1,by rw [g2];exact then_ hW (gD W q)⟩;have Yv:Hid (∀ W,Below w9.heap.size w9 W→(W.cell? ⟨w3.heap.size,0,none⟩=some (.pointer (some ⟨gs1,0,none⟩))∧W.cell? ⟨w5.heap.size,0,none⟩=some (.pointer (some ⟨gs2,0,none⟩)))∧W.cell? ⟨gs1,0,none⟩=some (.pointer (some ⟨ks,0,none⟩))∧W.cell? ⟨gs2,0,none⟩=some (.pointer (some ⟨kt,0,none⟩))):=fun W hW=>⟨⟨(hW.cell (p:=⟨w3.heap.size,0,none⟩) yl).trans y2,(hW.cell (p:=⟨w5.heap.size,0,none⟩) zl).trans z2⟩,(hW.cell (p:=⟨gs1,0,none⟩) hst.lt).trans y0,(hW.cell (p:=⟨gs2,0,none⟩) hss.lt).trans z0⟩;have HB9:=H9 UL;have Vq:Hid (Below w9.heap.size w9 w9.drew):=aA _ _;clear hn7 hB7 Xp yu hG1 hB1 UL hst hss jW hFp yl zl;generalize Fs.h.l.length=un at *;go_upto_region 21 with fail
           go_region_held3 (fun W=>(W.cell? ⟨w3.heap.size,0,none⟩=some (.pointer (some ⟨gs1,0,none⟩))∧W.cell? ⟨w5.heap.size,0,none⟩=some (.pointer (some ⟨gs2,0,none⟩)))∧W.cell? ⟨gs1,0,none⟩=some (.pointer (some ⟨ks,0,none⟩))∧W.cell? ⟨gs2,0,none⟩=some (.pointer (some ⟨kt,0,none⟩))) (go_keep) (first
            | (go_at_call 15;refine (HSB.o _ Vq.o).mono ?_;rintro e v0 ⟨rfl,hw⟩;rw [hw];clear hw)
            | (go_at_call_of 18 ks;refine (pX.o _ Vq.o).mono ?_;rintro e v1 ⟨al,rfl,hu1,hp1,hb1⟩;(try (have aev:=H9 (Zl.o.stay hp1);clear Zl;have Zl:=H9 aev.o;clear aev));have HUa:=H9 hu1;obtain ⟨⟨d2,d3⟩,d0,d1⟩:=Yv.o v1 hb1;clear Vq;have Vq:=H9 hb1;clear hu1 hp1 hb1)
            | (go_at_call_of 18 kt;refine (HL2.o _ Vq.o).mono ?_;rintro e v2 ⟨al2,rfl,hu2,hp2,hb2⟩;(try (have aew:=H9 (HUa.o.stay hp2);clear HUa;have HUa:=H9 aew.o;clear aew));have Zl:=H9 hu2;obtain ⟨⟨d2,d3⟩,d0,d1⟩:=Yv.o v2 hb2;clear Vq;have Vq:=H9 hb2;clear hu2 hp2 hb2)
            | (go_at_call 17;refine (HSU.o _ _ _ HUa.o Zl.o Vq.o).mono ?_;rintro e v3 ⟨rfl,hb3⟩;obtain ⟨⟨d2,d3⟩,d0,d1⟩:=Yv.o v3 hb3;clear Vq;have Vq:=H9 hb3;clear hb3))
           all_goals
            go_wp2;go_ret;exact ⟨by simp,then_ HB9.o Vq.o⟩
end Go.Proofs.YtjmndjmhjleabaaGreatDoor